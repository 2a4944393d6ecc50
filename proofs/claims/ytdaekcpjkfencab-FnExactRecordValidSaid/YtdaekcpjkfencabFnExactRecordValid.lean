/- For all records, RecordValid answers as the model does, and leaves what it was given as it was. -/
import Derived.Test.YtdaekcpjkfencabRows
import Derived.Test.YtdaekcpjkfencabGa
namespace Go.Proofs.Ytdaekcpjkfencab.fnExactRecordValid
open Go.ChangeShapes Go.WideShapes Go.ChangeAt Go.RowKit
set_option linter.unusedVariables false

theorem own : ownKnob Try.prog.godebug = none := by kernel_rfl
theorem laidOut : laidOutB Try.prog = true := by kernel_rfl

set_option maxRecDepth 100000 in
set_option maxHeartbeats 16000000 in
theorem walk (v0 : Value) (w : World) (i0 : RecIn w v0) :
    Calls Try.prog 3 #[v0] w fun e w' => e = .returned (.bool true) ∧ Below w.heap.size w w' := by
  obtain ⟨aN, aT, aK, aA, aL, aC, aG, aX, rfl, m1, m2, m3, m4, m5, aZ, hra⟩ := i0
  have hx0 := Held.box w [.string aN, .int .i64 aT, .int .i64 aK, .slice aA aL aC, .string aG, .string aX] 24
  obtain ⟨v, hv⟩ : ∃ v, Z.recValid (⟨lst aN, aT, aK, aZ, lst aG, lst aX⟩ : Z.Rec) = v := ⟨_, rfl⟩
  have HV := hid hv
  clear hv
  go_enter Try.func3, Try.ntmps3
  go_wp2_with fail
  refine (szRecord_any _ _ _ _ _ _ _ _ [] 0 1048576 _ m1 (by omega) m2 m3 (by omega) (by omega)).mono ?_
  rintro e w1 ⟨k1, rfl, hk1, hb1⟩
  have hx1 := hx0.next hb1
  obtain ⟨p0, p1, p2, p3, p4, p5⟩ := hx1.cells6
  by_cases hk1n : k1 < 0
  · go_wp2
    go_ret
    exact ⟨rfl, hx1.1⟩
  · obtain ⟨g1, g2⟩ := hk1.out
    have g3 := g2 (by omega)
    clear g2 hk1 m1 m2 m3 m4
    have la : aL ≤ 1048576 := by omega
    have la6 : aL ≤ 67108864 := by omega
    have s1 : aN.size ≤ 67108864 := by omega
    have s2 : aG.size ≤ 67108864 := by omega
    have s3 : aX.size ≤ 67108864 := by omega
    go_wp2_with fail
    refine (toRecord_law hra hx1 la).mono ?_
    rintro e w2 ⟨A0, c0, rfl, hr0, hb2⟩
    have hx2 := hx1.next hb2
    go_wp2_with fail
    refine (RecordValid_eq _ _ _ _ _ _ _ _ aZ _ _ hr0 (Nat.le_refl _) la6 s1 s2 s3 v HV.out).mono ?_
    rintro e w3 ⟨rfl, hb3⟩
    have hx3 := hx2.next hb3
    clear p0 p1 p2 p3 p4 p5 hx0 hx1 hx2 hb1 hb2 hb3 hr0
    obtain ⟨p0, p1, p2, p3, p4, p5⟩ := hx3.cells6
    go_wp2_with fail
    refine (toRecord_law hra hx3 la).mono ?_
    rintro e w11 ⟨A1, c1, rfl, hr1, hb11⟩
    have hx4 := hx3.next hb11
    clear p0 p1 p2 p3 p4 p5
    obtain ⟨p0, p1, p2, p3, p4, p5⟩ := hx4.cells6
    have lx4 := hx4.2.2.1
    clear hx3 hb11
    go_wp2_with fail
    have hx5 := hx4.alloc (.cells [.string aN, .int .i64 aT, .int .i64 aK, .slice A1 aL c1, .string aG, .string aX].toArray 27)
    have hz5 := hx4.again (cs' := [.string aN, .int .i64 aT, .int .i64 aK, .slice A1 aL c1, .string aG, .string aX]) 27 w11.heap.size rfl
    have hr5 := readsAlloc hr1 (.cells [.string aN, .int .i64 aT, .int .i64 aK, .slice A1 aL c1, .string aG, .string aX].toArray 27)
    refine (iRecordValid_eq _ _ _ _ _ _ _ _ aZ _ _ hr5 (Nat.le_refl _) la6 s1 s2 s3 v HV.out).mono ?_
    rintro e w13 ⟨rfl, hb13⟩
    have hx8 := hx5.next hb13
    have hz8 := hz5.next hb13
    have hr8 := readsNow hr5 hb13
    clear hx4 hx5 hz5 hr1 hr5 hb13 lx4 p0 p1 p2 p3 p4 p5
    go_wp2_with fail
    go_region_held3 (fun w' => Held w w' w.heap.size [.string aN, .int .i64 aT, .int .i64 aK, .slice aA aL aC, .string aG, .string aX] ∧ Held w w' w11.heap.size [.string aN, .int .i64 aT, .int .i64 aK, .slice A1 aL c1, .string aG, .string aX] ∧ Held w w' w.heap.size [.string aN, .int .i64 aT, .int .i64 aK, .slice aA aL aC, .string aG, .string aX] ∧ Held w w' w11.heap.size [.string aN, .int .i64 aT, .int .i64 aK, .slice A1 aL c1, .string aG, .string aX] ∧ Reads w' w'.heap.size A1 aL (aZ.map iv) ∧ Reads w' w'.heap.size A1 aL (aZ.map iv) ∧ w'.cell? ⟨w.heap.size, 0, none⟩ = some (.string aN) ∧ w'.cell? ⟨w.heap.size, 1, none⟩ = some (.int .i64 aT) ∧ w'.cell? ⟨w.heap.size, 2, none⟩ = some (.int .i64 aK) ∧ w'.cell? ⟨w.heap.size, 3, none⟩ = some (.slice aA aL aC) ∧ w'.cell? ⟨w.heap.size, 4, none⟩ = some (.string aG) ∧ w'.cell? ⟨w.heap.size, 5, none⟩ = some (.string aX) ∧ w'.cell? ⟨w11.heap.size, 0, none⟩ = some (.string aN) ∧ w'.cell? ⟨w11.heap.size, 1, none⟩ = some (.int .i64 aT) ∧ w'.cell? ⟨w11.heap.size, 2, none⟩ = some (.int .i64 aK) ∧ w'.cell? ⟨w11.heap.size, 3, none⟩ = some (.slice A1 aL c1) ∧ w'.cell? ⟨w11.heap.size, 4, none⟩ = some (.string aG) ∧ w'.cell? ⟨w11.heap.size, 5, none⟩ = some (.string aX))
      (first | exact cells12b (by assumption) (by assumption) (by assumption) (by assumption) (by assumption) (by assumption) | exact cells12b (Held.drewN (by assumption) 1) (Held.drewN (by assumption) 1) (Held.drewN (by assumption) 1) (Held.drewN (by assumption) 1) (Reads.drew (by assumption)) (Reads.drew (by assumption)) | (go_split_ands; exact cells12b (Held.next (by assumption) hb9) (Held.next (by assumption) hb9) (Held.next (by assumption) hb9) (Held.next (by assumption) hb9) (readsNow (by assumption) hb9) (readsNow (by assumption) hb9)))
      (first
        | (go_at_call 9; go_split_ands; refine (toRecord_law (by assumption) (by assumption) (by assumption)).mono ?_; rintro e w9 ⟨A9, c9, rfl, hr9, hb9⟩)
        | (go_at_call 11; go_split_ands; refine (eqRecord_law (by first | assumption | exact readsNow (by assumption) (by assumption)) (by first | assumption | exact readsNow (by assumption) (by assumption)) (by assumption)).mono ?_; rintro e w14 ⟨rfl, hb9⟩))
    all_goals go_split_ands
    have hx9 : Held w w14 w.heap.size [.string aN, .int .i64 aT, .int .i64 aK, .slice aA aL aC, .string aG, .string aX] := by assumption
    clear hx8 hz8 hr8
    go_wp2
    go_ret
    exact ⟨rfl, hx9.1⟩

set_option maxRecDepth 100000 in
theorem lifted (os : Os) (started : os.Started) (H : Type) (enc : TypeId × Value → H) :
    ReturnsInHanded {} Try.checked os 3 .any (Rows.fnExactRecordValidSpec.pre6 enc Try.prog Try.f3 Rows.fnExactRecordValidRow.domain false) (Rows.fnExactRecordValidSpec.post enc Try.prog Try.f3 false true false false) := by
  refine returnsInHanded_of_change (C := Try.checked) own started (by kernel_rfl) Try.func3
    (ChangeSpec.witness6 (enc := enc) (C := Try.checked) false ⟨#[], #[.agg #[.string ByteArray.empty, .int .i64 0, .int .i64 0, .slice none 0 0, .string ByteArray.empty, .string ByteArray.empty]], []⟩ 8 (by kernel_rfl) (by kernel_rfl) (by kernel_rfl) (by kernel_rfl)) ?_
  intro W base args ds gs before hval0 hW hcnd _
  have hval : ∀ (j : Nat) t v, Try.f3.params[j]? = some t → args[j]? = some v → Value.okWide Try.prog W .any base t v := hval0
  have hW' := hW
  obtain ⟨p, q, hA0, hV, rfl, hfz, hnd⟩ := hW
  have hA : DataW.TrodAll enc Try.prog W 0 (fun _ => true) true Try.f3.params.toList args.toList ds p := hA0
  rw [Try.params3] at hA hval
  obtain ⟨v0, vs0, d0, ds0, p0, q0, hargs, rfl, rfl, h0, r0⟩ := trodAll_cons hA
  obtain ⟨rfl, rfl, rfl⟩ := trodAll_nil r0
  obtain rfl : args = #[v0] := by cases args; simp_all
  obtain ⟨rfl, rfl⟩ := trodVars_none hV
  have ok0 := hval 0 24 v0 rfl rfl
  have lt0 : ∀ x ∈ p0, x.block < W.heap.size := by obtain ⟨m, hm⟩ := h0; exact DataW.trod_lt m _ _ _ hm
  have i0 := open_rec ok0 h0
  clear hA0 hval0
  refine (walk v0 W i0).mono fun e W' ⟨he, bel⟩ => ?_
  subst he
  exact ⟨_, rfl, _, _, _, [], _, [], hW', trodAll_mk1 (shut_bool Try.underlying4 _), (trodAll_cons_mk (Below.trod laidOut (by kernel_rfl) (of_decide_eq_true (by kernel_rfl)) h0 bel lt0) trodAll_mk0), rfl, bel.frame _, fun h => by cases h⟩

theorem over : Rows.fnExactRecordValidRow.holds Try.pinned (OpenSpec.ofChange Rows.fnExactRecordValidSpec) :=
  OpenClaim.holds_of_wide 3 Try.f3 rfl rfl rfl rfl rfl rfl rfl ⟨rfl, rfl, rfl, rfl, rfl⟩ rfl rfl rfl rfl rfl (by kernel_rfl) Try.func3 (by kernel_rfl)
    (of_decide_eq_true (by kernel_rfl)) (by unfold Func.isWrapper; first | (rw [if_pos (by decide +kernel)]; kernel_rfl) | (rw [if_neg (by decide +kernel)]; exact ⟨rfl, rfl⟩))
    (fun os started H enc _ => lifted os started H enc)

theorem proved : Rows.FnExactRecordValidSaid := over
end Go.Proofs.Ytdaekcpjkfencab.fnExactRecordValid

/- For all pairs of records, RecordBefore answers as the model does, and leaves what it was given as it was. -/
import Derived.Test.YtdaekcpjkfencabRows
import Derived.Test.YtdaekcpjkfencabGa
namespace Go.Proofs.Ytdaekcpjkfencab.fnExactRecordBefore
open Go.ChangeShapes Go.WideShapes Go.ChangeAt Go.RowKit
set_option linter.unusedVariables false

theorem own : ownKnob Try.prog.godebug = none := by kernel_rfl
theorem laidOut : laidOutB Try.prog = true := by kernel_rfl

set_option maxRecDepth 100000 in
set_option maxHeartbeats 16000000 in
theorem walk (v0 v1 : Value) (w : World) (i0 : RecIn w v0) (i1 : RecIn w v1) :
    Calls Try.prog 5 #[v0, v1] w fun e w' => e = .returned (.bool true) ∧ Below w.heap.size w w' := by
  obtain ⟨aN, aT, aK, aA, aL, aC, aG, aX, rfl, m1, m2, m3, m4, m5, aZ, hra⟩ := i0
  obtain ⟨bN, bT, bK, bA, bL, bC, bG, bX, rfl, n1, n2, n3, n4, n5, bZ, hrb⟩ := i1
  have hx0 := (Held.box w [.string aN, .int .i64 aT, .int .i64 aK, .slice aA aL aC, .string aG, .string aX] 24).alloc (.cells [.string bN, .int .i64 bT, .int .i64 bK, .slice bA bL bC, .string bG, .string bX].toArray 24)
  have hy0 := (Held.box w [.string aN, .int .i64 aT, .int .i64 aK, .slice aA aL aC, .string aG, .string aX] 24).again (cs' := [.string bN, .int .i64 bT, .int .i64 bK, .slice bA bL bC, .string bG, .string bX]) 24 (w.heap.size + 1) (by simp)
  obtain ⟨v, hv⟩ : ∃ v, Z.recBefore (⟨lst aN, aT, aK, aZ, lst aG, lst aX⟩ : Z.Rec) ⟨lst bN, bT, bK, bZ, lst bG, lst bX⟩ = v := ⟨_, rfl⟩
  have HV := hid hv
  clear hv
  go_enter Try.func5, Try.ntmps5
  go_wp2_with fail
  refine (szRecord_any _ _ _ _ _ _ _ _ [] 0 1048576 _ m1 (by omega) m2 m3 (by omega) (by omega)).mono ?_
  rintro e w1 ⟨k1, rfl, hk1, hb1⟩
  have hx1 := hx0.next hb1
  have hy1 := hy0.next hb1
  obtain ⟨p0, p1, p2, p3, p4, p5⟩ := hx1.cells6
  obtain ⟨q0, q1, q2, q3, q4, q5⟩ := hy1.cells6
  by_cases hk1n : k1 < 0
  · go_wp2
    go_ret
    exact ⟨rfl, hx1.1⟩
  · obtain ⟨g1, g2⟩ := hk1.out
    have g3 := g2 (by omega)
    clear g2 hk1
    go_wp2_with fail
    refine (szRecord_any _ _ _ _ _ _ _ _ [] 0 _ _ n1 (by omega) n2 n3 (by omega) (by omega)).mono ?_
    rintro e w2 ⟨k2, rfl, hk2, hb2⟩
    have hx2 := hx1.next hb2
    have hy2 := hy1.next hb2
    clear p0 p1 p2 p3 p4 p5 q0 q1 q2 q3 q4 q5
    by_cases hk2n : k2 < 0
    · go_wp2
      go_ret
      exact ⟨rfl, hx2.1⟩
    · obtain ⟨g4, g5⟩ := hk2.out
      have g6 := g5 (by omega)
      clear g5 hk2 m1 m2 m3 m4 n1 n2 n3 n4
      have la : aL ≤ 1048576 := by omega
      have lb : bL ≤ 1048576 := by omega
      have la6 : aL ≤ 67108864 := by omega
      have lb6 : bL ≤ 67108864 := by omega
      have s1 : aN.size ≤ 67108864 := by omega
      have s2 : aG.size ≤ 67108864 := by omega
      have s3 : aX.size ≤ 67108864 := by omega
      have s4 : bN.size ≤ 67108864 := by omega
      have s5 : bG.size ≤ 67108864 := by omega
      have s6 : bX.size ≤ 67108864 := by omega
      clear hx0 hy0 hx1 hy1 hb1 hb2
      go_wp2_with fail
      go_region_held3 (fun w' => Held w w' w.heap.size [.string aN, .int .i64 aT, .int .i64 aK, .slice aA aL aC, .string aG, .string aX] ∧ Held w w' (w.heap.size + 1) [.string bN, .int .i64 bT, .int .i64 bK, .slice bA bL bC, .string bG, .string bX] ∧ w'.cell? ⟨w.heap.size, 0, none⟩ = some (.string aN) ∧ w'.cell? ⟨w.heap.size, 1, none⟩ = some (.int .i64 aT) ∧ w'.cell? ⟨w.heap.size, 2, none⟩ = some (.int .i64 aK) ∧ w'.cell? ⟨w.heap.size, 3, none⟩ = some (.slice aA aL aC) ∧ w'.cell? ⟨w.heap.size, 4, none⟩ = some (.string aG) ∧ w'.cell? ⟨w.heap.size, 5, none⟩ = some (.string aX) ∧ w'.cell? ⟨w.heap.size + 1, 0, none⟩ = some (.string bN) ∧ w'.cell? ⟨w.heap.size + 1, 1, none⟩ = some (.int .i64 bT) ∧ w'.cell? ⟨w.heap.size + 1, 2, none⟩ = some (.int .i64 bK) ∧ w'.cell? ⟨w.heap.size + 1, 3, none⟩ = some (.slice bA bL bC) ∧ w'.cell? ⟨w.heap.size + 1, 4, none⟩ = some (.string bG) ∧ w'.cell? ⟨w.heap.size + 1, 5, none⟩ = some (.string bX))
        (first | exact cells12 (by assumption) (by assumption) | exact cells12 (Held.drewN (by assumption) 1) (Held.drewN (by assumption) 1) | (go_split_ands; exact cells12 (Held.next (by assumption) hb9) (Held.next (by assumption) hb9)))
        (first
          | (go_at_call 9; go_split_ands; refine (toRecord_law (by assumption) (by assumption) (by assumption)).mono ?_; rintro e w9 ⟨A9, c9, rfl, hr9, hb9⟩)
          | (go_at_call 14; go_split_ands; refine (RecordBefore_eq _ _ _ _ _ _ _ _ aZ _ _ _ _ _ _ _ _ _ bZ _ _ (by first | assumption | exact readsNow (by assumption) (by assumption)) (Nat.le_refl _) (by assumption) (by first | assumption | exact readsNow (by assumption) (by assumption)) (Nat.le_refl _) (by assumption) (by assumption) (by assumption) (by assumption) (by assumption) (by assumption) (by assumption) v HV.out).mono ?_; rintro e w10 ⟨rfl, hb9⟩))
      all_goals go_split_ands
      all_goals have hx3 : Held w w10 w.heap.size [.string aN, .int .i64 aT, .int .i64 aK, .slice aA aL aC, .string aG, .string aX] := by assumption
      all_goals have hy3 : Held w w10 (w.heap.size + 1) [.string bN, .int .i64 bT, .int .i64 bK, .slice bA bL bC, .string bG, .string bX] := by assumption
      all_goals clear hx2 hy2
      go_wp2_with fail
      refine (toRecord_law hra hx3 la).mono ?_
      rintro e w11 ⟨A1, c1, rfl, hr1, hb11⟩
      have hx4 := hx3.next hb11
      have hy4 := hy3.next hb11
      obtain ⟨p0, p1, p2, p3, p4, p5⟩ := hx4.cells6
      obtain ⟨q0, q1, q2, q3, q4, q5⟩ := hy4.cells6
      have lx4 := hx4.2.2.1
      have ly4 := hy4.2.2.1
      clear hx3 hy3 hb11
      go_wp2_with fail
      have hx5 := hx4.alloc (.cells [.string aN, .int .i64 aT, .int .i64 aK, .slice A1 aL c1, .string aG, .string aX].toArray 27)
      have hy5 := hy4.alloc (.cells [.string aN, .int .i64 aT, .int .i64 aK, .slice A1 aL c1, .string aG, .string aX].toArray 27)
      have hz5 := hx4.again (cs' := [.string aN, .int .i64 aT, .int .i64 aK, .slice A1 aL c1, .string aG, .string aX]) 27 w11.heap.size rfl
      have hr5 := readsAlloc hr1 (.cells [.string aN, .int .i64 aT, .int .i64 aK, .slice A1 aL c1, .string aG, .string aX].toArray 27)
      refine (toRecord_law hrb hx5 lb).mono ?_
      rintro e w12 ⟨A2, c2, rfl, hr2, hb12⟩
      have hx6 := hx5.next hb12
      have hy6 := hy5.next hb12
      have hz6 := hz5.next hb12
      have hr6 := readsNow hr5 hb12
      obtain ⟨t0, t1, t2, t3, t4, t5⟩ := hz6.cells6
      obtain ⟨p0, p1, p2, p3, p4, p5⟩ := hx6.cells6
      obtain ⟨q0, q1, q2, q3, q4, q5⟩ := hy6.cells6
      have lx6 := hx6.2.2.1
      have ly6 := hy6.2.2.1
      have lz6 := hz6.2.2.1
      clear hx4 hy4 hx5 hy5 hz5 hr5 hr1 hb12 lx4 ly4
      go_wp2_with fail
      have hx7 := hx6.alloc (.cells [.string bN, .int .i64 bT, .int .i64 bK, .slice A2 bL c2, .string bG, .string bX].toArray 27)
      have hy7 := hy6.alloc (.cells [.string bN, .int .i64 bT, .int .i64 bK, .slice A2 bL c2, .string bG, .string bX].toArray 27)
      have hz7 := hz6.alloc (.cells [.string bN, .int .i64 bT, .int .i64 bK, .slice A2 bL c2, .string bG, .string bX].toArray 27)
      have hu7 := hx6.again (cs' := [.string bN, .int .i64 bT, .int .i64 bK, .slice A2 bL c2, .string bG, .string bX]) 27 w12.heap.size rfl
      have hr7 := readsAlloc hr6 (.cells [.string bN, .int .i64 bT, .int .i64 bK, .slice A2 bL c2, .string bG, .string bX].toArray 27)
      have hs7 := readsAlloc hr2 (.cells [.string bN, .int .i64 bT, .int .i64 bK, .slice A2 bL c2, .string bG, .string bX].toArray 27)
      refine (iRecordBefore_eq _ _ _ _ _ _ _ _ aZ _ _ _ _ _ _ _ _ _ bZ _ _ hr7 (Nat.le_refl _) la6 hs7 (Nat.le_refl _) lb6 s1 s2 s3 s4 s5 s6 v HV.out).mono ?_
      rintro e w13 ⟨rfl, hb13⟩
      have hx8 := hx7.next hb13
      have hy8 := hy7.next hb13
      have hz8 := hz7.next hb13
      have hu8 := hu7.next hb13
      have hr8 := readsNow hr7 hb13
      have hs8 := readsNow hs7 hb13
      clear lx6 ly6 lz6 hx6 hy6 hz6 hx7 hy7 hz7 hu7 hr6 hr2 hr7 hs7 hb13 t0 t1 t2 t3 t4 t5 p0 p1 p2 p3 p4 p5 q0 q1 q2 q3 q4 q5
      go_wp2_with fail
      go_region_held3 (fun w' => Held w w' w.heap.size [.string aN, .int .i64 aT, .int .i64 aK, .slice aA aL aC, .string aG, .string aX] ∧ Held w w' w11.heap.size [.string aN, .int .i64 aT, .int .i64 aK, .slice A1 aL c1, .string aG, .string aX] ∧ Held w w' (w.heap.size + 1) [.string bN, .int .i64 bT, .int .i64 bK, .slice bA bL bC, .string bG, .string bX] ∧ Held w w' w12.heap.size [.string bN, .int .i64 bT, .int .i64 bK, .slice A2 bL c2, .string bG, .string bX] ∧ Reads w' w'.heap.size A1 aL (aZ.map iv) ∧ Reads w' w'.heap.size A2 bL (bZ.map iv) ∧ w'.cell? ⟨w.heap.size, 0, none⟩ = some (.string aN) ∧ w'.cell? ⟨w.heap.size, 1, none⟩ = some (.int .i64 aT) ∧ w'.cell? ⟨w.heap.size, 2, none⟩ = some (.int .i64 aK) ∧ w'.cell? ⟨w.heap.size, 3, none⟩ = some (.slice aA aL aC) ∧ w'.cell? ⟨w.heap.size, 4, none⟩ = some (.string aG) ∧ w'.cell? ⟨w.heap.size, 5, none⟩ = some (.string aX) ∧ w'.cell? ⟨w11.heap.size, 0, none⟩ = some (.string aN) ∧ w'.cell? ⟨w11.heap.size, 1, none⟩ = some (.int .i64 aT) ∧ w'.cell? ⟨w11.heap.size, 2, none⟩ = some (.int .i64 aK) ∧ w'.cell? ⟨w11.heap.size, 3, none⟩ = some (.slice A1 aL c1) ∧ w'.cell? ⟨w11.heap.size, 4, none⟩ = some (.string aG) ∧ w'.cell? ⟨w11.heap.size, 5, none⟩ = some (.string aX))
        (first | exact cells12b (by assumption) (by assumption) (by assumption) (by assumption) (by assumption) (by assumption) | exact cells12b (Held.drewN (by assumption) 1) (Held.drewN (by assumption) 1) (Held.drewN (by assumption) 1) (Held.drewN (by assumption) 1) (Reads.drew (by assumption)) (Reads.drew (by assumption)) | (go_split_ands; exact cells12b (Held.next (by assumption) hb9) (Held.next (by assumption) hb9) (Held.next (by assumption) hb9) (Held.next (by assumption) hb9) (readsNow (by assumption) hb9) (readsNow (by assumption) hb9)))
        (first
          | (go_at_call 9; go_split_ands; refine (toRecord_law (by assumption) (by assumption) (by assumption)).mono ?_; rintro e w9 ⟨A9, c9, rfl, hr9, hb9⟩)
          | (go_at_call 11; go_split_ands; refine (eqRecord_law (by first | assumption | exact readsNow (by assumption) (by assumption)) (by first | assumption | exact readsNow (by assumption) (by assumption)) (by assumption)).mono ?_; rintro e w14 ⟨rfl, hb9⟩))
      all_goals go_split_ands
      have hy9 : Held w w14 (w.heap.size + 1) [.string bN, .int .i64 bT, .int .i64 bK, .slice bA bL bC, .string bG, .string bX] := by assumption
      have hu9 : Held w w14 w12.heap.size [.string bN, .int .i64 bT, .int .i64 bK, .slice A2 bL c2, .string bG, .string bX] := by assumption
      have hs9 : Reads w14 w14.heap.size A2 bL (bZ.map iv) := by assumption
      clear hx8 hy8 hz8 hu8 hr8 hs8
      go_wp2_with fail
      go_region_held3 (fun w' => Held w w' (w.heap.size + 1) [.string bN, .int .i64 bT, .int .i64 bK, .slice bA bL bC, .string bG, .string bX] ∧ Held w w' w12.heap.size [.string bN, .int .i64 bT, .int .i64 bK, .slice A2 bL c2, .string bG, .string bX] ∧ Held w w' (w.heap.size + 1) [.string bN, .int .i64 bT, .int .i64 bK, .slice bA bL bC, .string bG, .string bX] ∧ Held w w' w12.heap.size [.string bN, .int .i64 bT, .int .i64 bK, .slice A2 bL c2, .string bG, .string bX] ∧ Reads w' w'.heap.size A2 bL (bZ.map iv) ∧ Reads w' w'.heap.size A2 bL (bZ.map iv) ∧ w'.cell? ⟨(w.heap.size + 1), 0, none⟩ = some (.string bN) ∧ w'.cell? ⟨(w.heap.size + 1), 1, none⟩ = some (.int .i64 bT) ∧ w'.cell? ⟨(w.heap.size + 1), 2, none⟩ = some (.int .i64 bK) ∧ w'.cell? ⟨(w.heap.size + 1), 3, none⟩ = some (.slice bA bL bC) ∧ w'.cell? ⟨(w.heap.size + 1), 4, none⟩ = some (.string bG) ∧ w'.cell? ⟨(w.heap.size + 1), 5, none⟩ = some (.string bX) ∧ w'.cell? ⟨w12.heap.size, 0, none⟩ = some (.string bN) ∧ w'.cell? ⟨w12.heap.size, 1, none⟩ = some (.int .i64 bT) ∧ w'.cell? ⟨w12.heap.size, 2, none⟩ = some (.int .i64 bK) ∧ w'.cell? ⟨w12.heap.size, 3, none⟩ = some (.slice A2 bL c2) ∧ w'.cell? ⟨w12.heap.size, 4, none⟩ = some (.string bG) ∧ w'.cell? ⟨w12.heap.size, 5, none⟩ = some (.string bX))
        (first | exact cells12b (by assumption) (by assumption) (by assumption) (by assumption) (by assumption) (by assumption) | exact cells12b (Held.drewN (by assumption) 1) (Held.drewN (by assumption) 1) (Held.drewN (by assumption) 1) (Held.drewN (by assumption) 1) (Reads.drew (by assumption)) (Reads.drew (by assumption)) | (go_split_ands; exact cells12b (Held.next (by assumption) hb9) (Held.next (by assumption) hb9) (Held.next (by assumption) hb9) (Held.next (by assumption) hb9) (readsNow (by assumption) hb9) (readsNow (by assumption) hb9)))
        (first
          | (go_at_call 9; go_split_ands; refine (toRecord_law (by assumption) (by assumption) (by assumption)).mono ?_; rintro e w9 ⟨A9, c9, rfl, hr9, hb9⟩)
          | (go_at_call 11; go_split_ands; refine (eqRecord_law (by first | assumption | exact readsNow (by assumption) (by assumption)) (by first | assumption | exact readsNow (by assumption) (by assumption)) (by assumption)).mono ?_; rintro e w15 ⟨rfl, hb9⟩))
      all_goals go_split_ands
      have hy10 : Held w w15 (w.heap.size + 1) [.string bN, .int .i64 bT, .int .i64 bK, .slice bA bL bC, .string bG, .string bX] := by assumption
      go_wp2
      go_ret
      exact ⟨rfl, hy10.1⟩

set_option maxRecDepth 100000 in
theorem lifted (os : Os) (started : os.Started) (H : Type) (enc : TypeId × Value → H) :
    ReturnsInHanded {} Try.checked os 5 .any (Rows.fnExactRecordBeforeSpec.pre6 enc Try.prog Try.f5 Rows.fnExactRecordBeforeRow.domain false) (Rows.fnExactRecordBeforeSpec.post enc Try.prog Try.f5 false true false false) := by
  refine returnsInHanded_of_change (C := Try.checked) own started (by kernel_rfl) Try.func5
    (ChangeSpec.witness6 (enc := enc) (C := Try.checked) false ⟨#[], #[.agg #[.string ByteArray.empty, .int .i64 0, .int .i64 0, .slice none 0 0, .string ByteArray.empty, .string ByteArray.empty], .agg #[.string ByteArray.empty, .int .i64 0, .int .i64 0, .slice none 0 0, .string ByteArray.empty, .string ByteArray.empty]], []⟩ 8 (by kernel_rfl) (by kernel_rfl) (by kernel_rfl) (by kernel_rfl)) ?_
  intro W base args ds gs before hval0 hW hcnd _
  have hval : ∀ (j : Nat) t v, Try.f5.params[j]? = some t → args[j]? = some v → Value.okWide Try.prog W .any base t v := hval0
  have hW' := hW
  obtain ⟨p, q, hA0, hV, rfl, hfz, hnd⟩ := hW
  have hA : DataW.TrodAll enc Try.prog W 0 (fun _ => true) true Try.f5.params.toList args.toList ds p := hA0
  rw [Try.params5] at hA hval
  obtain ⟨v0, vs0, d0, ds0, p0, q0, hargs, rfl, rfl, h0, r0⟩ := trodAll_cons hA
  obtain ⟨v1, vs1, d1, ds1, p1, q1, rfl, rfl, rfl, h1, r1⟩ := trodAll_cons r0
  obtain ⟨rfl, rfl, rfl⟩ := trodAll_nil r1
  obtain rfl : args = #[v0, v1] := by cases args; simp_all
  obtain ⟨rfl, rfl⟩ := trodVars_none hV
  have ok0 := hval 0 24 v0 rfl rfl
  have ok1 := hval 1 24 v1 rfl rfl
  have lt0 : ∀ x ∈ p0, x.block < W.heap.size := by obtain ⟨m, hm⟩ := h0; exact DataW.trod_lt m _ _ _ hm
  have lt1 : ∀ x ∈ p1, x.block < W.heap.size := by obtain ⟨m, hm⟩ := h1; exact DataW.trod_lt m _ _ _ hm
  have i0 := open_rec ok0 h0
  have i1 := open_rec ok1 h1
  clear hA0 hval0
  refine (walk v0 v1 W i0 i1).mono fun e W' ⟨he, bel⟩ => ?_
  subst he
  exact ⟨_, rfl, _, _, _, [], _, [], hW', trodAll_mk1 (shut_bool Try.underlying4 _), (trodAll_cons_mk (Below.trod laidOut (by kernel_rfl) (of_decide_eq_true (by kernel_rfl)) h0 bel lt0) (trodAll_cons_mk (Below.trod laidOut (by kernel_rfl) (of_decide_eq_true (by kernel_rfl)) h1 bel lt1) trodAll_mk0)), rfl, bel.frame _, fun h => by cases h⟩

theorem over : Rows.fnExactRecordBeforeRow.holds Try.pinned (OpenSpec.ofChange Rows.fnExactRecordBeforeSpec) :=
  OpenClaim.holds_of_wide 5 Try.f5 rfl rfl rfl rfl rfl rfl rfl ⟨rfl, rfl, rfl, rfl, rfl⟩ rfl rfl rfl rfl rfl (by kernel_rfl) Try.func5 (by kernel_rfl)
    (of_decide_eq_true (by kernel_rfl)) (by unfold Func.isWrapper; first | (rw [if_pos (by decide +kernel)]; kernel_rfl) | (rw [if_neg (by decide +kernel)]; exact ⟨rfl, rfl⟩))
    (fun os started H enc _ => lifted os started H enc)

theorem proved : Rows.FnExactRecordBeforeSaid := over
end Go.Proofs.Ytdaekcpjkfencab.fnExactRecordBefore

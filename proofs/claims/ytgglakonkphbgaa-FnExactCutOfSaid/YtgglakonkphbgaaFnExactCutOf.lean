/- For all zones and all names, CutOf answers as the model does, and leaves what it was given as it was. -/
import Derived.Test.YtgglakonkphbgaaRows
import Derived.Test.YtgglakonkphbgaaZs
import Derived.Deep.RegionHeld3
namespace Go.Proofs.Ytgglakonkphbgaa.fnExactCutOf
open Go.ChangeShapes Go.WideShapes Go.ChangeAt Go.RowKit
open Go.ChangeMaps (open_string shut_string)
set_option linter.unusedVariables false

theorem own : ownKnob Try.prog.godebug = none := by kernel_rfl
theorem laidOut : laidOutB Try.prog = true := by kernel_rfl

set_option maxRecDepth 100000 in
set_option maxHeartbeats 16000000 in
theorem walk (v0 : Value) (nm : ByteArray) (w : World) (i0 : ZoneIn w v0) (mx : nm.size ≤ maxLen) :
    Calls Try.prog 5 #[v0, .string nm] w fun e w' => e = .returned (.bool true) ∧ Below w.heap.size w w' := by
  obtain ⟨aO, aA, aL, aC, rs, rfl, m1, m2, m3, hra, hfa⟩ := i0
  have hx0 := Held.box w [.string aO, .slice aA aL aC] 24
  obtain ⟨x, ok, hv⟩ : ∃ x ok, IsCut (lst aO) (rs.map RV.z) (lst nm) x ok := isCut_ex _ _ _
  have HV := hid hv
  have HFA := hid hfa
  clear hv hfa
  unfold maxLen at mx
  by_cases ms : nm.size ≤ 1048576
  · go_enter Try.func5, Try.ntmps5
    go_wp2_with fail
    refine (szZone_any 1048576 (Nat.le_refl _) aO rs w.heap.size aA aL aC _ m1 (hra.below hx0.1 (Nat.le_refl _)) (hx0.up (Nat.le_refl _)) (by omega) HFA).mono ?_
    rintro e w1 ⟨k1, rfl, hk1, hb1⟩
    have hx1 := hx0.next hb1
    clear hx0 hb1
    obtain ⟨p0, p1⟩ := hx1.cells2
    by_cases hk1n : k1 < 0
    · go_wp2
      go_ret
      exact ⟨rfl, hx1.1⟩
    · have hk3 : 0 ≤ k1 ∧ k1 ≤ 1048576 ∧ aO.size ≤ 1048576 ∧ aL ≤ 1048576 ∧ ∀ r ∈ rs, r.small := by
        rcases hk1.out with h | h
        · exact absurd h hk1n
        · exact h
      obtain ⟨g1, g2, oa, la, hsa0⟩ := hk3
      have hsa := hid hsa0
      clear hsa0 hk1 m1 m2 m3
      go_wp2_with fail
      refine (toZone_law hra hx1 hsa la).mono ?_
      rintro e w2 ⟨A0, rfl, hr0, hb2⟩
      have hx2 := hx1.next hb2
      clear hx1 hb2 p0 p1
      go_wp2_with fail
      refine (CutOf_law hra hr0 hsa la oa ms x ok HV).mono ?_
      rintro e w3 ⟨rfl, hb3⟩
      have hx3 := hx2.next hb3
      clear hx2 hb3 hr0
      obtain ⟨p0, p1⟩ := hx3.cells2
      go_wp2_with fail
      refine (toZone_law hra hx3 hsa la).mono ?_
      rintro e w11 ⟨A1, rfl, hr1, hb11⟩
      have hx4 := hx3.next hb11
      clear p0 p1 hx3 hb11
      obtain ⟨p0, p1⟩ := hx4.cells2
      have lx4 := hx4.2.2.1
      go_wp2_with fail
      have hx5 := hx4.alloc (.cells [.string aO, .slice A1 aL aL].toArray 30)
      have hz5 := hx4.again (cs' := [.string aO, .slice A1 aL aL]) 30 w11.heap.size rfl
      have hr5 := hr1.alloc (.cells [.string aO, .slice A1 aL aL].toArray 30)
      refine (iCutOf_law hra hr5 hsa la oa ms (Nat.le_refl _) x ok HV).mono ?_
      rintro e w13 ⟨rfl, hb13⟩
      have hx8 := hx5.next hb13
      have hz8 := hz5.next hb13
      have hr8 := hr5.next hb13
      clear lx4 hx4 hx5 hz5 hr1 hr5 hb13 p0 p1
      go_wp2_with fail
      go_region_held3 (fun w' => Held w w' w.heap.size [.string aO, .slice aA aL aC] ∧ Held w w' w11.heap.size [.string aO, .slice A1 aL aL] ∧ Held w w' w.heap.size [.string aO, .slice aA aL aC] ∧ Held w w' w11.heap.size [.string aO, .slice A1 aL aL] ∧ Copy w' rs A1 aL ∧ Copy w' rs A1 aL ∧ w'.cell? ⟨w.heap.size, 0, none⟩ = some (.string aO) ∧ w'.cell? ⟨w.heap.size, 1, none⟩ = some (.slice aA aL aC) ∧ w'.cell? ⟨w11.heap.size, 0, none⟩ = some (.string aO) ∧ w'.cell? ⟨w11.heap.size, 1, none⟩ = some (.slice A1 aL aL))
        (first | exact cells4b (by assumption) (by assumption) (by assumption) (by assumption) (by assumption) (by assumption) | exact cells4b (Held.drewN (by assumption) 1) (Held.drewN (by assumption) 1) (Held.drewN (by assumption) 1) (Held.drewN (by assumption) 1) (Copy.drew (by assumption)) (Copy.drew (by assumption)) | (go_split_ands; exact cells4b (Held.next (by assumption) hb9) (Held.next (by assumption) hb9) (Held.next (by assumption) hb9) (Held.next (by assumption) hb9) (Copy.next (by assumption) hb9) (Copy.next (by assumption) hb9)))
        (first
          | (go_at_call 10; go_split_ands; refine (toZone_law (by assumption) (by assumption) (by assumption) (by assumption)).mono ?_; rintro e w9 ⟨A9, rfl, hr9, hb9⟩)
          | (go_at_call 13; go_split_ands; refine (eqZone_law hra (by first | assumption | exact Copy.next (by assumption) (by assumption)) (by first | assumption | exact Copy.next (by assumption) (by assumption)) hsa la).mono ?_; rintro e w14 ⟨rfl, hb9⟩))
      all_goals go_split_ands
      have hx9 : Held w w14 w.heap.size [.string aO, .slice aA aL aC] := by assumption
      go_wp2
      go_ret
      exact ⟨rfl, hx9.1⟩
  · go_enter Try.func5, Try.ntmps5
    go_wp2_with fail
    go_ret
    exact ⟨rfl, hx0.1⟩

set_option maxRecDepth 100000 in
theorem lifted (os : Os) (started : os.Started) (H : Type) (enc : TypeId × Value → H) :
    ReturnsInHanded {} Try.checked os 5 .any (Rows.fnExactCutOfSpec.pre6 enc Try.prog Try.f5 Rows.fnExactCutOfRow.domain false) (Rows.fnExactCutOfSpec.post enc Try.prog Try.f5 false true false false) := by
  refine returnsInHanded_of_change (C := Try.checked) own started (by kernel_rfl) Try.func5
    (ChangeSpec.witness6 (enc := enc) (C := Try.checked) false ⟨#[], #[.agg #[.string ByteArray.empty, .slice none 0 0], .string ByteArray.empty], []⟩ 8 (by kernel_rfl) (by kernel_rfl) (by kernel_rfl) (by kernel_rfl)) ?_
  intro W base args ds gs before hval0 hW hcnd _
  have hval : ∀ (j : Nat) t v, Try.f5.params[j]? = some t → args[j]? = some v → Value.okWide Try.prog W .any base t v := hval0
  have hW' := hW
  obtain ⟨p, q, hA0, hV, rfl, hfz, hnd⟩ := hW
  have hA : DataW.TrodAll enc Try.prog W 0 (fun _ => true) true Try.f5.params.toList args.toList ds p := hA0
  rw [Try.params5] at hA hval
  obtain ⟨v0, vs0, d0, ds0, p0, q0, hargs, rfl, rfl, h0, r0⟩ := trodAll_cons hA
  obtain ⟨v1, vs1, d1, ds1, p1, q1, rfl, rfl, rfl, h1, r1⟩ := trodAll_cons r0
  obtain ⟨rfl, rfl, rfl⟩ := trodAll_nil r1
  obtain rfl : args = #[v0, v1] := by cases args; simp_all
  obtain ⟨rfl, rfl⟩ := trodVars_none hV
  have k0 := h0
  have lt0 : ∀ x ∈ p0, x.block < W.heap.size := by obtain ⟨m, hm⟩ := k0; exact DataW.trod_lt m _ _ _ hm
  have i0 := open_zone (hval 0 24 v0 rfl rfl) h0
  have k1 := h1
  have lt1 : ∀ x ∈ p1, x.block < W.heap.size := by obtain ⟨m, hm⟩ := k1; exact DataW.trod_lt m _ _ _ hm
  obtain ⟨a1, rfl, e1, e1', w1⟩ := open_string Try.underlying9 (hval 1 9 v1 rfl rfl) h1
  clear hA0 hval0
  refine (walk v0 a1 W i0 w1).mono fun e W' ⟨he, bel⟩ => ?_
  subst he
  exact ⟨_, rfl, _, _, _, [], _, [], hW', trodAll_mk1 (shut_bool Try.underlying4 _), (trodAll_cons_mk (Below.trod laidOut (by kernel_rfl) (of_decide_eq_true (by kernel_rfl)) k0 bel lt0) (trodAll_cons_mk (Below.trod laidOut (by kernel_rfl) (of_decide_eq_true (by kernel_rfl)) k1 bel lt1) trodAll_mk0)), rfl, bel.frame _, fun h => by cases h⟩

theorem over : Rows.fnExactCutOfRow.holds Try.pinned (OpenSpec.ofChange Rows.fnExactCutOfSpec) :=
  OpenClaim.holds_of_wide 5 Try.f5 rfl rfl rfl rfl rfl rfl rfl ⟨rfl, rfl, rfl, rfl, rfl⟩ rfl rfl rfl rfl rfl (by kernel_rfl) Try.func5 (by kernel_rfl)
    (of_decide_eq_true (by kernel_rfl)) (by unfold Func.isWrapper; first | (rw [if_pos (by decide +kernel)]; kernel_rfl) | (rw [if_neg (by decide +kernel)]; exact ⟨rfl, rfl⟩))
    (fun os started H enc _ => lifted os started H enc)

theorem proved : Rows.FnExactCutOfSaid := over
end Go.Proofs.Ytgglakonkphbgaa.fnExactCutOf

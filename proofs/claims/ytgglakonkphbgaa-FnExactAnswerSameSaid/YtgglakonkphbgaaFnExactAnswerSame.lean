/- For all pairs of answers, AnswerSame answers as the model does, and leaves what it was given as it was. -/
import Derived.Test.YtgglakonkphbgaaRows
import Derived.Test.YtgglakonkphbgaaZk
import Derived.Deep.RegionHeld3
namespace Go.Proofs.Ytgglakonkphbgaa.fnExactAnswerSame
open Go.ChangeShapes Go.WideShapes Go.ChangeAt Go.RowKit
open Go.ChangeMaps (open_string shut_string)
set_option linter.unusedVariables false

theorem own : ownKnob Try.prog.godebug = none := by kernel_rfl
theorem laidOut : laidOutB Try.prog = true := by kernel_rfl

set_option maxRecDepth 100000 in
set_option maxHeartbeats 16000000 in
theorem walk (v0 v1 : Value) (w : World) (i0 : AnswerIn w v0) (i1 : AnswerIn w v1) :
    Calls Try.prog 7 #[v0, v1] w fun e w' => e = .returned (.bool true) ∧ Below w.heap.size w w' := by
  obtain ⟨aQ, aO, aA, aL, aC, rs, rfl, m1, m2, m3, hra, hfa⟩ := i0
  obtain ⟨bQ, bO, bA, bL, bC, ss, rfl, n1, n2, n3, hrb, hfb⟩ := i1
  have hx0 := (Held.box w [.int .i64 aQ, .string aO, .slice aA aL aC] 42).alloc (.cells [.int .i64 bQ, .string bO, .slice bA bL bC].toArray 42)
  have hy0 := (Held.box w [.int .i64 aQ, .string aO, .slice aA aL aC] 42).again (cs' := [.int .i64 bQ, .string bO, .slice bA bL bC]) 42 (w.heap.size + 1) (by simp)
  obtain ⟨v, hv⟩ : ∃ v, sameA aQ bQ aO bO rs ss = v := ⟨_, rfl⟩
  have HV := hid hv
  have HFA := hid hfa
  have HFB := hid hfb
  clear hv hfa hfb
  go_enter Try.func7, Try.ntmps7
  go_wp2_with fail
  refine (szAnswer_any 1048576 (Nat.le_refl _) aQ aO rs w.heap.size aA aL aC _ m1 (hra.below hx0.1 (Nat.le_refl _)) (by simp; omega) (by omega) HFA).mono ?_
  rintro e w1 ⟨k1, rfl, hk1, hb1⟩
  have hx1 := hx0.next hb1
  have hy1 := hy0.next hb1
  clear hx0 hy0 hb1
  obtain ⟨p0, p1, p2⟩ := hx1.cells3
  obtain ⟨q0, q1, q2⟩ := hy1.cells3
  by_cases hk1n : k1 < 0
  · go_wp2
    go_ret
    exact ⟨rfl, hx1.1⟩
  · have hk3 : 0 ≤ k1 ∧ k1 ≤ 1048576 ∧ aO.size ≤ 1048576 ∧ aL ≤ 1048576 ∧ ∀ r ∈ rs, r.small := by
      rcases hk1.out with h | h
      · exact absurd h hk1n
      · exact h
    obtain ⟨g1, g2, oa, la, hsa0⟩ := hk3
    have hsa := hid hsa0
    obtain ⟨k2, rfl⟩ : ∃ k2 : Nat, k1 = k2 := ⟨k1.toNat, by omega⟩
    clear hsa0 hk1
    go_wp2_with fail
    refine (szAnswer_any k2 (by omega) bQ bO ss w.heap.size bA bL bC _ n1 (hrb.below hx1.1 (Nat.le_refl _)) (hx1.up (Nat.le_refl _)) (by omega) HFB).mono ?_
    rintro e w2 ⟨k3, rfl, hk3, hb2⟩
    have hx2 := hx1.next hb2
    have hy2 := hy1.next hb2
    clear p0 p1 p2 q0 q1 q2 hx1 hy1 hb2
    by_cases hk2n : k3 < 0
    · go_wp2
      go_ret
      exact ⟨rfl, hx2.1⟩
    · have hk4 : bL ≤ 1048576 ∧ ∀ r ∈ ss, r.small := by
        rcases hk3.out with h | h
        · exact absurd h hk2n
        · exact h.2.2.2
      obtain ⟨lb, hsb0⟩ := hk4
      have hsb := hid hsb0
      clear hsb0 hk3 m1 m2 m3 n1 n2 n3
      go_wp2_with fail
      go_region_held3 (fun w' => Held w w' w.heap.size [.int .i64 aQ, .string aO, .slice aA aL aC] ∧ Held w w' (w.heap.size + 1) [.int .i64 bQ, .string bO, .slice bA bL bC] ∧ w'.cell? ⟨w.heap.size, 0, none⟩ = some (.int .i64 aQ) ∧ w'.cell? ⟨w.heap.size, 1, none⟩ = some (.string aO) ∧ w'.cell? ⟨w.heap.size, 2, none⟩ = some (.slice aA aL aC) ∧ w'.cell? ⟨w.heap.size + 1, 0, none⟩ = some (.int .i64 bQ) ∧ w'.cell? ⟨w.heap.size + 1, 1, none⟩ = some (.string bO) ∧ w'.cell? ⟨w.heap.size + 1, 2, none⟩ = some (.slice bA bL bC))
        (first | exact cells6a (by assumption) (by assumption) | exact cells6a (Held.drewN (by assumption) 1) (Held.drewN (by assumption) 1) | (go_split_ands; exact cells6a (Held.next (by assumption) hb9) (Held.next (by assumption) hb9)))
        (first
          | (go_at_call 25; go_split_ands; refine (toAnswer_law (by assumption) (by assumption) (by assumption) (by assumption)).mono ?_; rintro e w9 ⟨A9, rfl, hr9, hb9⟩)
          | (go_at_call 24; go_split_ands; refine (AnswerSame_law hra hrb (by first | assumption | exact Copy.next (by assumption) (by assumption)) (by first | assumption | exact Copy.next (by assumption) (by assumption)) hsa hsb la lb v HV).mono ?_; rintro e w10 ⟨rfl, hb9⟩))
      all_goals go_split_ands
      all_goals have hx3 : Held w w10 w.heap.size [.int .i64 aQ, .string aO, .slice aA aL aC] := by assumption
      all_goals have hy3 : Held w w10 (w.heap.size + 1) [.int .i64 bQ, .string bO, .slice bA bL bC] := by assumption
      all_goals clear hx2 hy2
      go_wp2_with fail
      refine (toAnswer_law hra hx3 hsa la).mono ?_
      rintro e w11 ⟨A1, rfl, hr1, hb11⟩
      have hx4 := hx3.next hb11
      have hy4 := hy3.next hb11
      obtain ⟨p0, p1, p2⟩ := hx4.cells3
      obtain ⟨q0, q1, q2⟩ := hy4.cells3
      have lx4 := hx4.2.2.1
      have ly4 := hy4.2.2.1
      clear hx3 hy3 hb11
      go_wp2_with fail
      have hx5 := hx4.alloc (.cells [.int .i64 aQ, .string aO, .slice A1 aL aL].toArray 46)
      have hy5 := hy4.alloc (.cells [.int .i64 aQ, .string aO, .slice A1 aL aL].toArray 46)
      have hz5 := hx4.again (cs' := [.int .i64 aQ, .string aO, .slice A1 aL aL]) 46 w11.heap.size rfl
      have hr5 := hr1.alloc (.cells [.int .i64 aQ, .string aO, .slice A1 aL aL].toArray 46)
      refine (toAnswer_law hrb hx5 hsb lb).mono ?_
      rintro e w12 ⟨A2, rfl, hr2, hb12⟩
      have hx6 := hx5.next hb12
      have hy6 := hy5.next hb12
      have hz6 := hz5.next hb12
      have hr6 := hr5.next hb12
      obtain ⟨t0, t1, t2⟩ := hz6.cells3
      obtain ⟨p0, p1, p2⟩ := hx6.cells3
      obtain ⟨q0, q1, q2⟩ := hy6.cells3
      have lx6 := hx6.2.2.1
      have ly6 := hy6.2.2.1
      have lz6 := hz6.2.2.1
      clear hx4 hy4 hx5 hy5 hz5 hr5 hr1 hb12 lx4 ly4
      go_wp2_with fail
      have hx7 := hx6.alloc (.cells [.int .i64 bQ, .string bO, .slice A2 bL bL].toArray 46)
      have hy7 := hy6.alloc (.cells [.int .i64 bQ, .string bO, .slice A2 bL bL].toArray 46)
      have hz7 := hz6.alloc (.cells [.int .i64 bQ, .string bO, .slice A2 bL bL].toArray 46)
      have hu7 := hx6.again (cs' := [.int .i64 bQ, .string bO, .slice A2 bL bL]) 46 w12.heap.size rfl
      have hr7 := hr6.alloc (.cells [.int .i64 bQ, .string bO, .slice A2 bL bL].toArray 46)
      have hs7 := hr2.alloc (.cells [.int .i64 bQ, .string bO, .slice A2 bL bL].toArray 46)
      refine (iAnswerSame_law hra hrb hr7 hs7 hsa hsb la lb v HV).mono ?_
      rintro e w13 ⟨rfl, hb13⟩
      have hx8 := hx7.next hb13
      have hy8 := hy7.next hb13
      have hz8 := hz7.next hb13
      have hu8 := hu7.next hb13
      have hr8 := hr7.next hb13
      have hs8 := hs7.next hb13
      clear lx6 ly6 lz6 hx6 hy6 hz6 hx7 hy7 hz7 hu7 hr6 hr2 hr7 hs7 hb13 t0 t1 t2 p0 p1 p2 q0 q1 q2
      go_wp2_with fail
      go_region_held3 (fun w' => Held w w' w.heap.size [.int .i64 aQ, .string aO, .slice aA aL aC] ∧ Held w w' w11.heap.size [.int .i64 aQ, .string aO, .slice A1 aL aL] ∧ Held w w' (w.heap.size + 1) [.int .i64 bQ, .string bO, .slice bA bL bC] ∧ Held w w' w12.heap.size [.int .i64 bQ, .string bO, .slice A2 bL bL] ∧ Copy w' rs A1 aL ∧ Copy w' ss A2 bL ∧ w'.cell? ⟨w.heap.size, 0, none⟩ = some (.int .i64 aQ) ∧ w'.cell? ⟨w.heap.size, 1, none⟩ = some (.string aO) ∧ w'.cell? ⟨w.heap.size, 2, none⟩ = some (.slice aA aL aC) ∧ w'.cell? ⟨w11.heap.size, 0, none⟩ = some (.int .i64 aQ) ∧ w'.cell? ⟨w11.heap.size, 1, none⟩ = some (.string aO) ∧ w'.cell? ⟨w11.heap.size, 2, none⟩ = some (.slice A1 aL aL))
        (first | exact cells6b (by assumption) (by assumption) (by assumption) (by assumption) (by assumption) (by assumption) | exact cells6b (Held.drewN (by assumption) 1) (Held.drewN (by assumption) 1) (Held.drewN (by assumption) 1) (Held.drewN (by assumption) 1) (Copy.drew (by assumption)) (Copy.drew (by assumption)) | (go_split_ands; exact cells6b (Held.next (by assumption) hb9) (Held.next (by assumption) hb9) (Held.next (by assumption) hb9) (Held.next (by assumption) hb9) (Copy.next (by assumption) hb9) (Copy.next (by assumption) hb9)))
        (first
          | (go_at_call 25; go_split_ands; refine (toAnswer_law (by assumption) (by assumption) (by assumption) (by assumption)).mono ?_; rintro e w9 ⟨A9, rfl, hr9, hb9⟩)
          | (go_at_call 27; go_split_ands; refine (eqAnswer_law hra (by first | assumption | exact Copy.next (by assumption) (by assumption)) (by first | assumption | exact Copy.next (by assumption) (by assumption)) hsa la).mono ?_; rintro e w14 ⟨rfl, hb9⟩))
      all_goals go_split_ands
      have hy9 : Held w w14 (w.heap.size + 1) [.int .i64 bQ, .string bO, .slice bA bL bC] := by assumption
      have hu9 : Held w w14 w12.heap.size [.int .i64 bQ, .string bO, .slice A2 bL bL] := by assumption
      have hs9 : Copy w14 ss A2 bL := by assumption
      clear hx8 hy8 hz8 hu8 hr8 hs8
      go_wp2_with fail
      go_region_held3 (fun w' => Held w w' (w.heap.size + 1) [.int .i64 bQ, .string bO, .slice bA bL bC] ∧ Held w w' w12.heap.size [.int .i64 bQ, .string bO, .slice A2 bL bL] ∧ Held w w' (w.heap.size + 1) [.int .i64 bQ, .string bO, .slice bA bL bC] ∧ Held w w' w12.heap.size [.int .i64 bQ, .string bO, .slice A2 bL bL] ∧ Copy w' ss A2 bL ∧ Copy w' ss A2 bL ∧ w'.cell? ⟨(w.heap.size + 1), 0, none⟩ = some (.int .i64 bQ) ∧ w'.cell? ⟨(w.heap.size + 1), 1, none⟩ = some (.string bO) ∧ w'.cell? ⟨(w.heap.size + 1), 2, none⟩ = some (.slice bA bL bC) ∧ w'.cell? ⟨w12.heap.size, 0, none⟩ = some (.int .i64 bQ) ∧ w'.cell? ⟨w12.heap.size, 1, none⟩ = some (.string bO) ∧ w'.cell? ⟨w12.heap.size, 2, none⟩ = some (.slice A2 bL bL))
        (first | exact cells6b (by assumption) (by assumption) (by assumption) (by assumption) (by assumption) (by assumption) | exact cells6b (Held.drewN (by assumption) 1) (Held.drewN (by assumption) 1) (Held.drewN (by assumption) 1) (Held.drewN (by assumption) 1) (Copy.drew (by assumption)) (Copy.drew (by assumption)) | (go_split_ands; exact cells6b (Held.next (by assumption) hb9) (Held.next (by assumption) hb9) (Held.next (by assumption) hb9) (Held.next (by assumption) hb9) (Copy.next (by assumption) hb9) (Copy.next (by assumption) hb9)))
        (first
          | (go_at_call 25; go_split_ands; refine (toAnswer_law (by assumption) (by assumption) (by assumption) (by assumption)).mono ?_; rintro e w9 ⟨A9, rfl, hr9, hb9⟩)
          | (go_at_call 27; go_split_ands; refine (eqAnswer_law hrb (by first | assumption | exact Copy.next (by assumption) (by assumption)) (by first | assumption | exact Copy.next (by assumption) (by assumption)) hsb lb).mono ?_; rintro e w15 ⟨rfl, hb9⟩))
      all_goals go_split_ands
      have hy10 : Held w w15 (w.heap.size + 1) [.int .i64 bQ, .string bO, .slice bA bL bC] := by assumption
      go_wp2
      go_ret
      exact ⟨rfl, hy10.1⟩

set_option maxRecDepth 100000 in
theorem lifted (os : Os) (started : os.Started) (H : Type) (enc : TypeId × Value → H) :
    ReturnsInHanded {} Try.checked os 7 .any (Rows.fnExactAnswerSameSpec.pre6 enc Try.prog Try.f7 Rows.fnExactAnswerSameRow.domain false) (Rows.fnExactAnswerSameSpec.post enc Try.prog Try.f7 false true false false) := by
  refine returnsInHanded_of_change (C := Try.checked) own started (by kernel_rfl) Try.func7
    (ChangeSpec.witness6 (enc := enc) (C := Try.checked) false ⟨#[], #[.agg #[.int .i64 0, .string ByteArray.empty, .slice none 0 0], .agg #[.int .i64 0, .string ByteArray.empty, .slice none 0 0]], []⟩ 8 (by kernel_rfl) (by kernel_rfl) (by kernel_rfl) (by kernel_rfl)) ?_
  intro W base args ds gs before hval0 hW hcnd _
  have hval : ∀ (j : Nat) t v, Try.f7.params[j]? = some t → args[j]? = some v → Value.okWide Try.prog W .any base t v := hval0
  have hW' := hW
  obtain ⟨p, q, hA0, hV, rfl, hfz, hnd⟩ := hW
  have hA : DataW.TrodAll enc Try.prog W 0 (fun _ => true) true Try.f7.params.toList args.toList ds p := hA0
  rw [Try.params7] at hA hval
  obtain ⟨v0, vs0, d0, ds0, p0, q0, hargs, rfl, rfl, h0, r0⟩ := trodAll_cons hA
  obtain ⟨v1, vs1, d1, ds1, p1, q1, rfl, rfl, rfl, h1, r1⟩ := trodAll_cons r0
  obtain ⟨rfl, rfl, rfl⟩ := trodAll_nil r1
  obtain rfl : args = #[v0, v1] := by cases args; simp_all
  obtain ⟨rfl, rfl⟩ := trodVars_none hV
  have k0 := h0
  have lt0 : ∀ x ∈ p0, x.block < W.heap.size := by obtain ⟨m, hm⟩ := k0; exact DataW.trod_lt m _ _ _ hm
  have i0 := open_answer (hval 0 42 v0 rfl rfl) h0
  have k1 := h1
  have lt1 : ∀ x ∈ p1, x.block < W.heap.size := by obtain ⟨m, hm⟩ := k1; exact DataW.trod_lt m _ _ _ hm
  have i1 := open_answer (hval 1 42 v1 rfl rfl) h1
  clear hA0 hval0
  refine (walk v0 v1 W i0 i1).mono fun e W' ⟨he, bel⟩ => ?_
  subst he
  exact ⟨_, rfl, _, _, _, [], _, [], hW', trodAll_mk1 (shut_bool Try.underlying4 _), (trodAll_cons_mk (Below.trod laidOut (by kernel_rfl) (of_decide_eq_true (by kernel_rfl)) k0 bel lt0) (trodAll_cons_mk (Below.trod laidOut (by kernel_rfl) (of_decide_eq_true (by kernel_rfl)) k1 bel lt1) trodAll_mk0)), rfl, bel.frame _, fun h => by cases h⟩

theorem over : Rows.fnExactAnswerSameRow.holds Try.pinned (OpenSpec.ofChange Rows.fnExactAnswerSameSpec) :=
  OpenClaim.holds_of_wide 7 Try.f7 rfl rfl rfl rfl rfl rfl rfl ⟨rfl, rfl, rfl, rfl, rfl⟩ rfl rfl rfl rfl rfl (by kernel_rfl) Try.func7 (by kernel_rfl)
    (of_decide_eq_true (by kernel_rfl)) (by unfold Func.isWrapper; first | (rw [if_pos (by decide +kernel)]; kernel_rfl) | (rw [if_neg (by decide +kernel)]; exact ⟨rfl, rfl⟩))
    (fun os started H enc _ => lifted os started H enc)

theorem proved : Rows.FnExactAnswerSameSaid := over
end Go.Proofs.Ytgglakonkphbgaa.fnExactAnswerSame

/- For all pairs of differences, DiffSame answers as the model does, and leaves what it was given as it was. -/
import Derived.Test.YtbbldgpoegkokaaRows
import Derived.Test.YtbbldgpoegkokaaZi
import Derived.Deep.RegionHeld3
namespace Go.Proofs.Ytbbldgpoegkokaa.fnExactDiffSame
open Go.ChangeShapes Go.WideShapes Go.ChangeAt Go.RowKit
open Go.ChangeMaps (open_string shut_string)
set_option linter.unusedVariables false

theorem own : ownKnob Try.prog.godebug = none := by kernel_rfl
theorem laidOut : laidOutB Try.prog = true := by kernel_rfl

set_option maxRecDepth 100000 in
set_option maxHeartbeats 16000000 in
theorem walk (v0 v1 : Value) (w : World) (i0 : DiffIn w v0) (i1 : DiffIn w v1) :
    Calls Try.prog 10 #[v0, v1] w fun e w' => e = .returned (.bool true) ∧ Below w.heap.size w w' := by
  obtain ⟨f, t, aA, aL, aC, bA, bL, bC, rs, ss, rfl, m1, m2, m3, m4, h1, hf1, h2, hf2⟩ := i0
  obtain ⟨f', t', cA, cL, cC, dA, dL, dC, xs, ys, rfl, n1, n2, n3, n4, h3, hf3, h4, hf4⟩ := i1
  have hx0 := (Held.box w [.int .i64 f, .int .i64 t, .slice aA aL aC, .slice bA bL bC] 54).alloc (.cells [.int .i64 f', .int .i64 t', .slice cA cL cC, .slice dA dL dC].toArray 54)
  have hy0 := (Held.box w [.int .i64 f, .int .i64 t, .slice aA aL aC, .slice bA bL bC] 54).again (cs' := [.int .i64 f', .int .i64 t', .slice cA cL cC, .slice dA dL dC]) 54 (w.heap.size + 1) (by simp)
  obtain ⟨v, hv⟩ : ∃ v, sameD f t f' t' rs ss xs ys = v := ⟨_, rfl⟩
  have HV := hid hv
  have HF1 := hid hf1
  have HF2 := hid hf2
  have HF3 := hid hf3
  have HF4 := hid hf4
  clear hv hf1 hf2 hf3 hf4
  go_enter Try.func10, Try.ntmps10
  go_wp2_with fail
  refine (szDiff_any 1048576 (Nat.le_refl _) f t rs ss w.heap.size aA bA aL aC bL bC _ (h1.below hx0.1 (Nat.le_refl _)) (h2.below hx0.1 (Nat.le_refl _)) (hx0.up (Nat.le_refl _)) (by omega) (by omega) HF1 HF2).mono ?_
  rintro e w1 ⟨k1, rfl, hk1, hb1⟩
  have hx1 := hx0.next hb1
  have hy1 := hy0.next hb1
  clear hx0 hy0 hb1
  obtain ⟨p0, p1, p2, p3⟩ := hx1.cells4
  obtain ⟨q0, q1, q2, q3⟩ := hy1.cells4
  by_cases hk1n : k1 < 0
  · go_wp2
    go_ret
    exact ⟨rfl, hx1.1⟩
  · have hk3 : 0 ≤ k1 ∧ k1 ≤ 1048576 ∧ aL ≤ 1048576 ∧ bL ≤ 1048576 ∧ (∀ r ∈ rs, r.small) ∧ ∀ r ∈ ss, r.small := by
      rcases hk1.out with h | h
      · exact absurd h hk1n
      · exact h
    obtain ⟨g1, g2, la, lb, hsa0, hsb0⟩ := hk3
    have hsa := hid hsa0
    have hsb := hid hsb0
    obtain ⟨k2, rfl⟩ : ∃ k2 : Nat, k1 = k2 := ⟨k1.toNat, by omega⟩
    clear hsa0 hsb0 hk1
    go_wp2_with fail
    refine (szDiff_any k2 (by omega) f' t' xs ys w.heap.size cA dA cL cC dL dC _ (h3.below hx1.1 (Nat.le_refl _)) (h4.below hx1.1 (Nat.le_refl _)) (hx1.up (Nat.le_refl _)) (by omega) (by omega) HF3 HF4).mono ?_
    rintro e w2 ⟨k3, rfl, hk3, hb2⟩
    have hx2 := hx1.next hb2
    have hy2 := hy1.next hb2
    clear p0 p1 p2 p3 q0 q1 q2 q3 hx1 hy1 hb2
    by_cases hk2n : k3 < 0
    · go_wp2
      go_ret
      exact ⟨rfl, hx2.1⟩
    · have hk4 : cL ≤ 1048576 ∧ dL ≤ 1048576 ∧ (∀ r ∈ xs, r.small) ∧ ∀ r ∈ ys, r.small := by
        rcases hk3.out with h | h
        · exact absurd h hk2n
        · exact h.2.2
      obtain ⟨lc, ld, hsc0, hsd0⟩ := hk4
      have hsc := hid hsc0
      have hsd := hid hsd0
      clear hsc0 hsd0 hk3 m1 m2 m3 m4 n1 n2 n3 n4
      go_wp2_with fail
      go_region_held3 (fun w' => Held w w' w.heap.size [.int .i64 f, .int .i64 t, .slice aA aL aC, .slice bA bL bC] ∧ Held w w' (w.heap.size + 1) [.int .i64 f', .int .i64 t', .slice cA cL cC, .slice dA dL dC] ∧ w'.cell? ⟨w.heap.size, 0, none⟩ = some (.int .i64 f) ∧ w'.cell? ⟨w.heap.size, 1, none⟩ = some (.int .i64 t) ∧ w'.cell? ⟨w.heap.size, 2, none⟩ = some (.slice aA aL aC) ∧ w'.cell? ⟨w.heap.size, 3, none⟩ = some (.slice bA bL bC) ∧ w'.cell? ⟨w.heap.size + 1, 0, none⟩ = some (.int .i64 f') ∧ w'.cell? ⟨w.heap.size + 1, 1, none⟩ = some (.int .i64 t') ∧ w'.cell? ⟨w.heap.size + 1, 2, none⟩ = some (.slice cA cL cC) ∧ w'.cell? ⟨w.heap.size + 1, 3, none⟩ = some (.slice dA dL dC))
        (first | exact cells8 (by assumption) (by assumption) | exact cells8 (Held.drewN (by assumption) 1) (Held.drewN (by assumption) 1) | (go_split_ands; exact cells8 (Held.next (by assumption) hb9) (Held.next (by assumption) hb9)))
        (first
          | (go_at_call 37; go_split_ands; refine (toDiff_law (by assumption) (by assumption) (by assumption) (by assumption) (by assumption) (by assumption) (by assumption)).mono ?_; rintro e w9 ⟨A9, A9', rfl, hr9, hs9, hb9⟩)
          | (go_at_call 40; go_split_ands; refine (DiffSame_law h1 h2 h3 h4 (by first | assumption | exact Copy.next (by assumption) (by assumption)) (by first | assumption | exact Copy.next (by assumption) (by assumption)) (by first | assumption | exact Copy.next (by assumption) (by assumption)) (by first | assumption | exact Copy.next (by assumption) (by assumption)) hsa hsb hsc hsd la lb lc ld v HV).mono ?_; rintro e w10 ⟨rfl, hb9⟩))
      all_goals go_split_ands
      all_goals have hx3 : Held w w10 w.heap.size [.int .i64 f, .int .i64 t, .slice aA aL aC, .slice bA bL bC] := by assumption
      all_goals have hy3 : Held w w10 (w.heap.size + 1) [.int .i64 f', .int .i64 t', .slice cA cL cC, .slice dA dL dC] := by assumption
      all_goals clear hx2 hy2
      go_wp2_with fail
      refine (toDiff_law h1 h2 hx3 hsa hsb la lb).mono ?_
      rintro e w11 ⟨A1, A1', rfl, hr1, hr1', hb11⟩
      have hx4 := hx3.next hb11
      have hy4 := hy3.next hb11
      obtain ⟨p0, p1, p2, p3⟩ := hx4.cells4
      obtain ⟨q0, q1, q2, q3⟩ := hy4.cells4
      have lx4 := hx4.2.2.1
      have ly4 := hy4.2.2.1
      clear hx3 hy3 hb11
      go_wp2_with fail
      have hx5 := hx4.alloc (.cells [.int .i64 f, .int .i64 t, .slice A1 aL aL, .slice A1' bL bL].toArray 58)
      have hy5 := hy4.alloc (.cells [.int .i64 f, .int .i64 t, .slice A1 aL aL, .slice A1' bL bL].toArray 58)
      have hz5 := hx4.again (cs' := [.int .i64 f, .int .i64 t, .slice A1 aL aL, .slice A1' bL bL]) 58 w11.heap.size rfl
      have hr5 := hr1.alloc (.cells [.int .i64 f, .int .i64 t, .slice A1 aL aL, .slice A1' bL bL].toArray 58)
      have hr5' := hr1'.alloc (.cells [.int .i64 f, .int .i64 t, .slice A1 aL aL, .slice A1' bL bL].toArray 58)
      refine (toDiff_law h3 h4 hx5 hsc hsd lc ld).mono ?_
      rintro e w12 ⟨A2, A2', rfl, hr2, hr2', hb12⟩
      have hx6 := hx5.next hb12
      have hy6 := hy5.next hb12
      have hz6 := hz5.next hb12
      have hr6 := hr5.next hb12
      have hr6' := hr5'.next hb12
      obtain ⟨t0, t1, t2, t3⟩ := hz6.cells4
      obtain ⟨p0, p1, p2, p3⟩ := hx6.cells4
      obtain ⟨q0, q1, q2, q3⟩ := hy6.cells4
      have lx6 := hx6.2.2.1
      have ly6 := hy6.2.2.1
      have lz6 := hz6.2.2.1
      clear hx4 hy4 hx5 hy5 hz5 hr5 hr5' hr1 hr1' hb12 lx4 ly4
      go_wp2_with fail
      have hx7 := hx6.alloc (.cells [.int .i64 f', .int .i64 t', .slice A2 cL cL, .slice A2' dL dL].toArray 58)
      have hy7 := hy6.alloc (.cells [.int .i64 f', .int .i64 t', .slice A2 cL cL, .slice A2' dL dL].toArray 58)
      have hz7 := hz6.alloc (.cells [.int .i64 f', .int .i64 t', .slice A2 cL cL, .slice A2' dL dL].toArray 58)
      have hu7 := hx6.again (cs' := [.int .i64 f', .int .i64 t', .slice A2 cL cL, .slice A2' dL dL]) 58 w12.heap.size rfl
      have hr7 := hr6.alloc (.cells [.int .i64 f', .int .i64 t', .slice A2 cL cL, .slice A2' dL dL].toArray 58)
      have hr7' := hr6'.alloc (.cells [.int .i64 f', .int .i64 t', .slice A2 cL cL, .slice A2' dL dL].toArray 58)
      have hs7 := hr2.alloc (.cells [.int .i64 f', .int .i64 t', .slice A2 cL cL, .slice A2' dL dL].toArray 58)
      have hs7' := hr2'.alloc (.cells [.int .i64 f', .int .i64 t', .slice A2 cL cL, .slice A2' dL dL].toArray 58)
      refine (iDiffSame_law h1 h2 h3 h4 hr7 hr7' hs7 hs7' hsa hsb hsc hsd la lb lc ld v HV).mono ?_
      rintro e w13 ⟨rfl, hb13⟩
      have hx8 := hx7.next hb13
      have hy8 := hy7.next hb13
      have hz8 := hz7.next hb13
      have hu8 := hu7.next hb13
      have hr8 := hr7.next hb13
      have hr8' := hr7'.next hb13
      have hs8 := hs7.next hb13
      have hs8' := hs7'.next hb13
      clear lx6 ly6 lz6 hx6 hy6 hz6 hx7 hy7 hz7 hu7 hr6 hr6' hr2 hr2' hr7 hr7' hs7 hs7' hb13 t0 t1 t2 t3 p0 p1 p2 p3 q0 q1 q2 q3
      go_wp2_with fail
      go_region_held3 (fun w' => Held w w' w.heap.size [.int .i64 f, .int .i64 t, .slice aA aL aC, .slice bA bL bC] ∧ Held w w' w11.heap.size [.int .i64 f, .int .i64 t, .slice A1 aL aL, .slice A1' bL bL] ∧ Held w w' (w.heap.size + 1) [.int .i64 f', .int .i64 t', .slice cA cL cC, .slice dA dL dC] ∧ Held w w' w12.heap.size [.int .i64 f', .int .i64 t', .slice A2 cL cL, .slice A2' dL dL] ∧ Copy w' rs A1 aL ∧ Copy w' ss A1' bL ∧ Copy w' xs A2 cL ∧ Copy w' ys A2' dL ∧ w'.cell? ⟨w.heap.size, 0, none⟩ = some (.int .i64 f) ∧ w'.cell? ⟨w.heap.size, 1, none⟩ = some (.int .i64 t) ∧ w'.cell? ⟨w.heap.size, 2, none⟩ = some (.slice aA aL aC) ∧ w'.cell? ⟨w.heap.size, 3, none⟩ = some (.slice bA bL bC) ∧ w'.cell? ⟨w11.heap.size, 0, none⟩ = some (.int .i64 f) ∧ w'.cell? ⟨w11.heap.size, 1, none⟩ = some (.int .i64 t) ∧ w'.cell? ⟨w11.heap.size, 2, none⟩ = some (.slice A1 aL aL) ∧ w'.cell? ⟨w11.heap.size, 3, none⟩ = some (.slice A1' bL bL))
        (first | exact cells8b (by assumption) (by assumption) (by assumption) (by assumption) (by assumption) (by assumption) (by assumption) (by assumption) | exact cells8b (Held.drewN (by assumption) 1) (Held.drewN (by assumption) 1) (Held.drewN (by assumption) 1) (Held.drewN (by assumption) 1) (Copy.drew (by assumption)) (Copy.drew (by assumption)) (Copy.drew (by assumption)) (Copy.drew (by assumption)) | (go_split_ands; exact cells8b (Held.next (by assumption) hb9) (Held.next (by assumption) hb9) (Held.next (by assumption) hb9) (Held.next (by assumption) hb9) (Copy.next (by assumption) hb9) (Copy.next (by assumption) hb9) (Copy.next (by assumption) hb9) (Copy.next (by assumption) hb9)))
        (first
          | (go_at_call 37; go_split_ands; refine (toDiff_law (by assumption) (by assumption) (by assumption) (by assumption) (by assumption) (by assumption) (by assumption)).mono ?_; rintro e w9 ⟨A9, A9', rfl, hr9, hs9, hb9⟩)
          | (go_at_call 39; go_split_ands; refine (eqDiff_law h1 h2 (by first | assumption | exact Copy.next (by assumption) (by assumption)) (by first | assumption | exact Copy.next (by assumption) (by assumption)) (by first | assumption | exact Copy.next (by assumption) (by assumption)) (by first | assumption | exact Copy.next (by assumption) (by assumption)) hsa hsb la lb).mono ?_; rintro e w14 ⟨rfl, hb9⟩))
      all_goals go_split_ands
      have hy9 : Held w w14 (w.heap.size + 1) [.int .i64 f', .int .i64 t', .slice cA cL cC, .slice dA dL dC] := by assumption
      have hu9 : Held w w14 w12.heap.size [.int .i64 f', .int .i64 t', .slice A2 cL cL, .slice A2' dL dL] := by assumption
      have hs9 : Copy w14 xs A2 cL := by assumption
      have hs9' : Copy w14 ys A2' dL := by assumption
      clear hx8 hy8 hz8 hu8 hr8 hr8' hs8 hs8'
      go_wp2_with fail
      go_region_held3 (fun w' => Held w w' (w.heap.size + 1) [.int .i64 f', .int .i64 t', .slice cA cL cC, .slice dA dL dC] ∧ Held w w' w12.heap.size [.int .i64 f', .int .i64 t', .slice A2 cL cL, .slice A2' dL dL] ∧ Held w w' (w.heap.size + 1) [.int .i64 f', .int .i64 t', .slice cA cL cC, .slice dA dL dC] ∧ Held w w' w12.heap.size [.int .i64 f', .int .i64 t', .slice A2 cL cL, .slice A2' dL dL] ∧ Copy w' xs A2 cL ∧ Copy w' ys A2' dL ∧ Copy w' xs A2 cL ∧ Copy w' ys A2' dL ∧ w'.cell? ⟨(w.heap.size + 1), 0, none⟩ = some (.int .i64 f') ∧ w'.cell? ⟨(w.heap.size + 1), 1, none⟩ = some (.int .i64 t') ∧ w'.cell? ⟨(w.heap.size + 1), 2, none⟩ = some (.slice cA cL cC) ∧ w'.cell? ⟨(w.heap.size + 1), 3, none⟩ = some (.slice dA dL dC) ∧ w'.cell? ⟨w12.heap.size, 0, none⟩ = some (.int .i64 f') ∧ w'.cell? ⟨w12.heap.size, 1, none⟩ = some (.int .i64 t') ∧ w'.cell? ⟨w12.heap.size, 2, none⟩ = some (.slice A2 cL cL) ∧ w'.cell? ⟨w12.heap.size, 3, none⟩ = some (.slice A2' dL dL))
        (first | exact cells8b (by assumption) (by assumption) (by assumption) (by assumption) (by assumption) (by assumption) (by assumption) (by assumption) | exact cells8b (Held.drewN (by assumption) 1) (Held.drewN (by assumption) 1) (Held.drewN (by assumption) 1) (Held.drewN (by assumption) 1) (Copy.drew (by assumption)) (Copy.drew (by assumption)) (Copy.drew (by assumption)) (Copy.drew (by assumption)) | (go_split_ands; exact cells8b (Held.next (by assumption) hb9) (Held.next (by assumption) hb9) (Held.next (by assumption) hb9) (Held.next (by assumption) hb9) (Copy.next (by assumption) hb9) (Copy.next (by assumption) hb9) (Copy.next (by assumption) hb9) (Copy.next (by assumption) hb9)))
        (first
          | (go_at_call 37; go_split_ands; refine (toDiff_law (by assumption) (by assumption) (by assumption) (by assumption) (by assumption) (by assumption) (by assumption)).mono ?_; rintro e w9 ⟨A9, A9', rfl, hr9, hs9, hb9⟩)
          | (go_at_call 39; go_split_ands; refine (eqDiff_law h3 h4 (by first | assumption | exact Copy.next (by assumption) (by assumption)) (by first | assumption | exact Copy.next (by assumption) (by assumption)) (by first | assumption | exact Copy.next (by assumption) (by assumption)) (by first | assumption | exact Copy.next (by assumption) (by assumption)) hsc hsd lc ld).mono ?_; rintro e w15 ⟨rfl, hb9⟩))
      all_goals go_split_ands
      have hy10 : Held w w15 (w.heap.size + 1) [.int .i64 f', .int .i64 t', .slice cA cL cC, .slice dA dL dC] := by assumption
      go_wp2
      go_ret
      exact ⟨rfl, hy10.1⟩

set_option maxRecDepth 100000 in
theorem lifted (os : Os) (started : os.Started) (H : Type) (enc : TypeId × Value → H) :
    ReturnsInHanded {} Try.checked os 10 .any (Rows.fnExactDiffSameSpec.pre6 enc Try.prog Try.f10 Rows.fnExactDiffSameRow.domain false) (Rows.fnExactDiffSameSpec.post enc Try.prog Try.f10 false true false false) := by
  refine returnsInHanded_of_change (C := Try.checked) own started (by kernel_rfl) Try.func10
    (ChangeSpec.witness6 (enc := enc) (C := Try.checked) false ⟨#[], #[.agg #[.int .i64 0, .int .i64 0, .slice none 0 0, .slice none 0 0], .agg #[.int .i64 0, .int .i64 0, .slice none 0 0, .slice none 0 0]], []⟩ 8 (by kernel_rfl) (by kernel_rfl) (by kernel_rfl) (by kernel_rfl)) ?_
  intro W base args ds gs before hval0 hW hcnd _
  have hval : ∀ (j : Nat) t v, Try.f10.params[j]? = some t → args[j]? = some v → Value.okWide Try.prog W .any base t v := hval0
  have hW' := hW
  obtain ⟨p, q, hA0, hV, rfl, hfz, hnd⟩ := hW
  have hA : DataW.TrodAll enc Try.prog W 0 (fun _ => true) true Try.f10.params.toList args.toList ds p := hA0
  rw [Try.params10] at hA hval
  obtain ⟨v0, vs0, d0, ds0, p0, q0, hargs, rfl, rfl, h0, r0⟩ := trodAll_cons hA
  obtain ⟨v1, vs1, d1, ds1, p1, q1, rfl, rfl, rfl, h1, r1⟩ := trodAll_cons r0
  obtain ⟨rfl, rfl, rfl⟩ := trodAll_nil r1
  obtain rfl : args = #[v0, v1] := by cases args; simp_all
  obtain ⟨rfl, rfl⟩ := trodVars_none hV
  have k0 := h0
  have lt0 : ∀ x ∈ p0, x.block < W.heap.size := by obtain ⟨m, hm⟩ := k0; exact DataW.trod_lt m _ _ _ hm
  have i0 := open_diff (hval 0 54 v0 rfl rfl) h0
  have k1 := h1
  have lt1 : ∀ x ∈ p1, x.block < W.heap.size := by obtain ⟨m, hm⟩ := k1; exact DataW.trod_lt m _ _ _ hm
  have i1 := open_diff (hval 1 54 v1 rfl rfl) h1
  clear hA0 hval0
  refine (walk v0 v1 W i0 i1).mono fun e W' ⟨he, bel⟩ => ?_
  subst he
  exact ⟨_, rfl, _, _, _, [], _, [], hW', trodAll_mk1 (shut_bool Try.underlying4 _), (trodAll_cons_mk (Below.trod laidOut (by kernel_rfl) (of_decide_eq_true (by kernel_rfl)) k0 bel lt0) (trodAll_cons_mk (Below.trod laidOut (by kernel_rfl) (of_decide_eq_true (by kernel_rfl)) k1 bel lt1) trodAll_mk0)), rfl, bel.frame _, fun h => by cases h⟩

theorem over : Rows.fnExactDiffSameRow.holds Try.pinned (OpenSpec.ofChange Rows.fnExactDiffSameSpec) :=
  OpenClaim.holds_of_wide 10 Try.f10 rfl rfl rfl rfl rfl rfl rfl ⟨rfl, rfl, rfl, rfl, rfl⟩ rfl rfl rfl rfl rfl (by kernel_rfl) Try.func10 (by kernel_rfl)
    (of_decide_eq_true (by kernel_rfl)) (by unfold Func.isWrapper; first | (rw [if_pos (by decide +kernel)]; kernel_rfl) | (rw [if_neg (by decide +kernel)]; exact ⟨rfl, rfl⟩))
    (fun os started H enc _ => lifted os started H enc)

theorem proved : Rows.FnExactDiffSameSaid := over
end Go.Proofs.Ytbbldgpoegkokaa.fnExactDiffSame

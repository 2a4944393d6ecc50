/- For all texts, LabelsOf answers as the model does; its answer is memory of its own, which no later call writes into. -/
import Derived.Test.YtgieklfpdlkmjabRows
import Derived.Test.YtgieklfpdlkmjabN
import Derived.WalkKit
import Derived.ProofKit
import Derived.OpenShut
import Derived.ShutString
namespace Go.Proofs.Ytgieklfpdlkmjab.fnExactLabelsOf
open Go.ChangeShapes Go.WideShapes Go.ChangeAt Go.RowKit
open Go.ChangeMaps (open_string shut_string)
set_option linter.unusedVariables false      -- a walk need not use every 'w<i>' (that an integer argument fits its kind)

theorem own : ownKnob Try.prog.godebug = none := by kernel_rfl

set_option maxHeartbeats 2000000 in
theorem walk (a0 : ByteArray) (w0 : a0.size ≤ maxLen) (w : World) :
    Calls Try.prog 6 #[.string a0] w fun e w' => e = .returned (.bool true) ∧ Below w.heap.size w w' := by
  unfold maxLen at w0
  by_cases hb0 : a0.size ≤ 1048576
  · have hs1 : Since w.heap.size w w := Since.start w
    go_enter Try.func6, Try.ntmps6
    have hcl := labels_count a0
    go_wp2_with fail
    refine (s_LabelsOf a0 (by omega) hs1).mono ?_
    rintro e v1 ⟨A1, c1, rfl, hown1, hs2, hb1⟩
    go_wp2_with fail
    refine (i_LabelsOf a0 (by omega) hs2).mono ?_
    rintro e v2 ⟨A2, c2, rfl, hown2, hs3, hb2⟩
    have hr1 := (Reads.of_own hown1).below hb2 (Nat.le_refl _)
    have hr2 := Reads.of_own hown2
    have hv1 := hb2.size
    go_wp2_with fail
    refine (eqStringS_any _ _ _ A2 A1 _ _ c2 c1 v2 hr2 (hr1.more hb2.size) (by omega) (by omega)).mono ?_
    rintro e v3 ⟨rfl, q1, rfl⟩
    go_wp2_with fail
    refine (markStringS_any _ v1.heap.size A2 _ c2 1 (v2.drewN q1) hown2 (by omega) (by omega)).mono ?_
    rintro e v4 ⟨rfl, hown4, hb4⟩
    have hs4 : Below w.heap.size w v4 := (below_drewN hs3.1 q1).trans (hb4.mono hs2.2)
    have hr1b := (Reads.of_own hown1).below (hb2.trans (below_drewN (Below.refl v1.heap.size v2) q1) |>.trans hb4) (Nat.le_refl _)
    have hv4 : v1.heap.size ≤ v4.heap.size := by have := hb4.size; simp at this; omega
    have hw4 : w.heap.size ≤ v4.heap.size := by have := hs2.2; omega
    clear hown2 hr1 hr2
    go_wp2_with fail
    refine (heldStringS_any v1.heap.size A2 _ c2 1 v4 hown4 (by omega) (by omega)).mono ?_
    rintro e v5 ⟨rfl, hb5⟩
    have hs5 : Since w.heap.size w v5 := ⟨below2' hs4 hb5 hw4, by have := hb5.size; omega⟩
    have hr1c := hr1b.below hb5 hv4
    have hown5 := own_below hown4 hb5
    have hv5 := hb5.size
    clear hown4 hr1b
    go_wp2_with fail
    refine (i_LabelsOf a0 (by omega) hs5).mono ?_
    rintro e v6 ⟨A6, c6, rfl, hown6, hs6, hb6⟩
    have hr6 := Reads.of_own hown6
    have hr1d := hr1c.below hb6 (by omega)
    have hown7 := own_below hown5 hb6
    have hv6 := hb6.size
    clear hown5 hr1c
    go_wp2_with fail
    refine (eqStringS_any _ _ _ A6 A1 _ _ c6 c1 v6 hr6 (hr1d.more (by omega)) (by omega) (by omega)).mono ?_
    rintro e v7 ⟨rfl, q2, rfl⟩
    go_wp2_with fail
    refine (heldStringS_any v1.heap.size A2 _ c2 1 (v6.drewN q2) hown7 (by omega) (by omega)).mono ?_
    rintro e v8 ⟨rfl, hb8⟩
    have hs8 := (hs6.drewN q2).next hb8
    go_wp2_with fail
    all_goals go_ret
    all_goals exact ⟨rfl, And.left (by assumption)⟩
  · go_enter Try.func6, Try.ntmps6
    go_wp2_with fail
    go_ret
    exact ⟨rfl, Below.refl _ _⟩

set_option maxRecDepth 100000 in
theorem lifted (os : Os) (started : os.Started) (H : Type) (enc : TypeId × Value → H) :
    ReturnsInHanded {} Try.checked os 6 .any (Rows.fnExactLabelsOfSpec.pre6 enc Try.prog Try.f6 Rows.fnExactLabelsOfRow.domain false) (Rows.fnExactLabelsOfSpec.post enc Try.prog Try.f6 false true false false) := by
  refine returnsInHanded_of_change (C := Try.checked) own started (by kernel_rfl) Try.func6
    (ChangeSpec.witness6 (enc := enc) (C := Try.checked) false ⟨#[], #[.string ByteArray.empty], []⟩ 8 (by kernel_rfl) (by kernel_rfl) (by kernel_rfl) (by kernel_rfl)) ?_
  intro W base args ds gs before hval0 hW hcnd _
  have hval : ∀ (j : Nat) t v, Try.f6.params[j]? = some t → args[j]? = some v → Value.okWide Try.prog W .any base t v := hval0
  have hW' := hW
  obtain ⟨p, q, hA0, hV, rfl, hfz, hnd⟩ := hW
  have hA : DataW.TrodAll enc Try.prog W 0 (fun _ => true) true Try.f6.params.toList args.toList ds p := hA0
  rw [Try.params6] at hA hval
  obtain ⟨v0, vs0, d0, ds0, p0, q0, hargs, rfl, rfl, h0, r0⟩ := trodAll_cons hA
  obtain ⟨rfl, rfl, rfl⟩ := trodAll_nil r0
  obtain rfl : args = #[v0] := by cases args; simp_all
  obtain ⟨rfl, rfl⟩ := trodVars_none hV
  obtain ⟨a0, rfl, rfl, rfl, w0⟩ := open_string Try.underlying9 (hval 0 9 v0 rfl rfl) h0
  clear hA0 hval0
  simp only [List.append_nil] at hW'
  refine (walk a0 w0 W).mono fun e W' ⟨he, hg⟩ => ?_
  subst he
  exact ⟨_, rfl, _, _, _, [], [], [], hW', (trodAll_cons_mk (shut_bool Try.underlying4 _) trodAll_mk0), (trodAll_cons_mk (shut_string Try.underlying9 w0) trodAll_mk0), rfl, hg.frame _, fun h => by cases h⟩

theorem over : Rows.fnExactLabelsOfRow.holds Try.pinned (OpenSpec.ofChange Rows.fnExactLabelsOfSpec) :=
  OpenClaim.holds_of_wide 6 Try.f6 rfl rfl rfl rfl rfl rfl rfl ⟨rfl, rfl, rfl, rfl, rfl⟩ rfl rfl rfl rfl rfl (by kernel_rfl) Try.func6 (by kernel_rfl)
    (of_decide_eq_true (by kernel_rfl)) (by unfold Func.isWrapper; first | (rw [if_pos (by decide +kernel)]; kernel_rfl) | (rw [if_neg (by decide +kernel)]; exact ⟨rfl, rfl⟩))
    (fun os started H enc _ => lifted os started H enc)

theorem proved : Rows.FnExactLabelsOfSaid :=
  over
end Go.Proofs.Ytgieklfpdlkmjab.fnExactLabelsOf

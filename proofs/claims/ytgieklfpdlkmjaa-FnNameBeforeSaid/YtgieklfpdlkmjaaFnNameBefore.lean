/- For every input, of two different names that are drawn from it one is in front of the other, a name is in front of the others below it, and the order is the model's. -/
import Derived.Test.YtgieklfpdlkmjaaRows
import Derived.Test.YtgieklfpdlkmjaaZ
import Derived.WalkKit
import Derived.ProofKit
import Derived.OpenShut
import Derived.ShutString
import Derived.ChangeOld
import Derived.Below
namespace Go.Proofs.Ytgieklfpdlkmjaa.fnNameBefore
open Go.ChangeShapes Go.WideShapes Go.ChangeAt Go.RowKit
open Go.ChangeMaps (open_string shut_string)
set_option linter.unusedVariables false

theorem own : ownKnob Try.prog.godebug = none := by kernel_rfl
theorem laidOut : laidOutB Try.prog = true := by kernel_rfl

set_option maxHeartbeats 2000000 in
theorem walk (a0 : Option Addr) (len0 cap0 : Nat) (z0 : List Int) (w : World) (w0 : IsRow .u8 w a0 len0 cap0 z0) :
    Calls Try.prog 6 #[.slice a0 len0 cap0] w fun e w' => e = .returned (.bool true) ∧ Below w.heap.size w w' := by
  have hc0 := row_cap w0
  unfold maxLen at hc0
  by_cases hb0 : len0 ≤ 1048576
  · obtain ⟨zs0, rfl, hcode0⟩ := code_of_row w0 hb0
    clear w0
    go_enter Try.func6, Try.ntmps6
    go_wp2_with fail
    refine (DrawNameBefore_any _ _ zs0 w hcode0).mono ?_
    rintro e v1 ⟨a, b, rfl, ha, hb, hbv1⟩
    have hs1 : Since w.heap.size w v1 := (Since.start w).next hbv1
    have HS := hid (@Z.before_asymm (lst a) (lst b))
    have HS2 := hid (@Z.before_asymm (lst b) (lst a))
    have HV := hid (@Z.before_iff (lst a) (lst b))
    have HV2 := hid (@Z.before_iff (lst b) (lst a))
    have HT := hid (@Z.before_total (lst a) (lst b))
    have HB := hid (@Z.not_before_of_below (lst a) (lst b))
    have HI := hid (Z.before_irrefl (lst a))
    have HQ := hid (eq_toList a b)
    cases h1 : Z.before (lst a) (lst b) with
    | false =>
      cases h2 : Z.before (lst b) (lst a) with
      | false =>
        cases hv : Z.valid (lst a) with
        | false =>
          go_wp2_with (first | (go_at_call 31; refine (i_NameBefore _ _ (by omega) (by omega) (by assumption)).mono ?_; rintro e w2 ⟨rfl, hs⟩) | (go_at_call 32; refine (s_NameBefore _ _ (by omega) (by omega) (by assumption)).mono ?_; rintro e w2 ⟨rfl, hs⟩) | (go_at_call 19; refine (i_NameValid _ (by omega) (by assumption)).mono ?_; rintro e w2 ⟨rfl, hs⟩) | (go_at_call 33; refine (i_IsBelow _ _ (by omega) (by omega) (by assumption)).mono ?_; rintro e w2 ⟨rfl, hs⟩))
          all_goals go_ret
          all_goals exact ⟨rfl, And.left (by assumption)⟩
        | true =>
          cases hv2 : Z.valid (lst b) with
          | false =>
            go_wp2_with (first | (go_at_call 31; refine (i_NameBefore _ _ (by omega) (by omega) (by assumption)).mono ?_; rintro e w2 ⟨rfl, hs⟩) | (go_at_call 32; refine (s_NameBefore _ _ (by omega) (by omega) (by assumption)).mono ?_; rintro e w2 ⟨rfl, hs⟩) | (go_at_call 19; refine (i_NameValid _ (by omega) (by assumption)).mono ?_; rintro e w2 ⟨rfl, hs⟩) | (go_at_call 33; refine (i_IsBelow _ _ (by omega) (by omega) (by assumption)).mono ?_; rintro e w2 ⟨rfl, hs⟩))
            all_goals go_ret
            all_goals exact ⟨rfl, And.left (by assumption)⟩
          | true =>
            have hab : lst a = lst b := by
              by_cases h : lst a = lst b
              · exact h
              · rcases HT.out hv hv2 h with h4 | h4
                · rw [h1] at h4; cases h4
                · rw [h2] at h4; cases h4
            have hq : (a.toList == b.toList) = true := by rw [HQ.out]; simpa using hab
            clear hab
            cases h3 : Z.below (lst a) (lst b) with
            | false =>
              go_wp2_with (first | (go_at_call 31; refine (i_NameBefore _ _ (by omega) (by omega) (by assumption)).mono ?_; rintro e w2 ⟨rfl, hs⟩) | (go_at_call 32; refine (s_NameBefore _ _ (by omega) (by omega) (by assumption)).mono ?_; rintro e w2 ⟨rfl, hs⟩) | (go_at_call 19; refine (i_NameValid _ (by omega) (by assumption)).mono ?_; rintro e w2 ⟨rfl, hs⟩) | (go_at_call 33; refine (i_IsBelow _ _ (by omega) (by omega) (by assumption)).mono ?_; rintro e w2 ⟨rfl, hs⟩))
              all_goals go_ret
              all_goals exact ⟨rfl, And.left (by assumption)⟩
            | true =>
              go_wp2_with (first | (go_at_call 31; refine (i_NameBefore _ _ (by omega) (by omega) (by assumption)).mono ?_; rintro e w2 ⟨rfl, hs⟩) | (go_at_call 32; refine (s_NameBefore _ _ (by omega) (by omega) (by assumption)).mono ?_; rintro e w2 ⟨rfl, hs⟩) | (go_at_call 19; refine (i_NameValid _ (by omega) (by assumption)).mono ?_; rintro e w2 ⟨rfl, hs⟩) | (go_at_call 33; refine (i_IsBelow _ _ (by omega) (by omega) (by assumption)).mono ?_; rintro e w2 ⟨rfl, hs⟩))
              all_goals go_ret
              all_goals exact ⟨rfl, And.left (by assumption)⟩
      | true =>
        have hv := (HV2.out.1 h2).2.1
        have hv2 := (HV2.out.1 h2).1
        have hne : lst a ≠ lst b := fun e => by rw [← e, HI.out] at h2; cases h2
        have hq : (a.toList == b.toList) = false := by rw [HQ.out]; simpa using hne
        clear hne
        cases h3 : Z.below (lst a) (lst b) with
        | false =>
          go_wp2_with (first | (go_at_call 31; refine (i_NameBefore _ _ (by omega) (by omega) (by assumption)).mono ?_; rintro e w2 ⟨rfl, hs⟩) | (go_at_call 32; refine (s_NameBefore _ _ (by omega) (by omega) (by assumption)).mono ?_; rintro e w2 ⟨rfl, hs⟩) | (go_at_call 19; refine (i_NameValid _ (by omega) (by assumption)).mono ?_; rintro e w2 ⟨rfl, hs⟩) | (go_at_call 33; refine (i_IsBelow _ _ (by omega) (by omega) (by assumption)).mono ?_; rintro e w2 ⟨rfl, hs⟩))
          all_goals go_ret
          all_goals exact ⟨rfl, And.left (by assumption)⟩
        | true =>
          go_wp2_with (first | (go_at_call 31; refine (i_NameBefore _ _ (by omega) (by omega) (by assumption)).mono ?_; rintro e w2 ⟨rfl, hs⟩) | (go_at_call 32; refine (s_NameBefore _ _ (by omega) (by omega) (by assumption)).mono ?_; rintro e w2 ⟨rfl, hs⟩) | (go_at_call 19; refine (i_NameValid _ (by omega) (by assumption)).mono ?_; rintro e w2 ⟨rfl, hs⟩) | (go_at_call 33; refine (i_IsBelow _ _ (by omega) (by omega) (by assumption)).mono ?_; rintro e w2 ⟨rfl, hs⟩))
          all_goals go_ret
          all_goals exact ⟨rfl, And.left (by assumption)⟩
    | true =>
      have hv := (HV.out.1 h1).1
      have hv2 := (HV.out.1 h1).2.1
      have h2 := HS.out h1
      have h3 : Z.below (lst a) (lst b) = false := by
        cases h : Z.below (lst a) (lst b) with
        | false => rfl
        | true => rw [HB.out h] at h1; cases h1
      have hne : lst a ≠ lst b := fun e => by rw [← e, HI.out] at h1; cases h1
      have hq : (a.toList == b.toList) = false := by rw [HQ.out]; simpa using hne
      clear hne
      go_wp2_with (first | (go_at_call 31; refine (i_NameBefore _ _ (by omega) (by omega) (by assumption)).mono ?_; rintro e w2 ⟨rfl, hs⟩) | (go_at_call 32; refine (s_NameBefore _ _ (by omega) (by omega) (by assumption)).mono ?_; rintro e w2 ⟨rfl, hs⟩) | (go_at_call 19; refine (i_NameValid _ (by omega) (by assumption)).mono ?_; rintro e w2 ⟨rfl, hs⟩) | (go_at_call 33; refine (i_IsBelow _ _ (by omega) (by omega) (by assumption)).mono ?_; rintro e w2 ⟨rfl, hs⟩))
      all_goals go_ret
      all_goals exact ⟨rfl, And.left (by assumption)⟩
  · go_enter Try.func6, Try.ntmps6
    go_wp2_with fail
    go_ret
    exact ⟨rfl, Below.refl _ _⟩

set_option maxRecDepth 100000 in
theorem lifted (os : Os) (started : os.Started) (H : Type) (enc : TypeId × Value → H) :
    ReturnsInHanded {} Try.checked os 6 .any (Rows.fnNameBeforeSpec.pre6 enc Try.prog Try.f6 Rows.fnNameBeforeRow.domain false) (Rows.fnNameBeforeSpec.post enc Try.prog Try.f6 false true false false) := by
  refine returnsInHanded_of_change (C := Try.checked) own started (by kernel_rfl) Try.func6
    (ChangeSpec.witness6 (enc := enc) (C := Try.checked) false ⟨#[], #[.slice none 0 0], []⟩ 8 (by kernel_rfl) (by kernel_rfl) (by kernel_rfl) (by kernel_rfl)) ?_
  intro W base args ds gs before hval0 hW hcnd _
  have hval : ∀ (j : Nat) t v, Try.f6.params[j]? = some t → args[j]? = some v → Value.okWide Try.prog W .any base t v := hval0
  have hW' := hW
  obtain ⟨p, q, hA0, hV, rfl, hfz, hnd⟩ := hW
  have hA : DataW.TrodAll enc Try.prog W 0 (fun _ => true) true Try.f6.params.toList args.toList ds p := hA0
  rw [Try.params6] at hA hval
  obtain ⟨v0, vs0, d0, ds0, p0, q0, hargs, rfl, rfl, h0, r0⟩ := trodAll_cons hA
  obtain ⟨rfl, rfl, rfl⟩ := trodAll_nil r0
  obtain rfl : args = #[v0] := by cases args; simp_all
  obtain ⟨rfl, rfl⟩ := trodVars_none hV
  obtain ⟨a0, len0, cap0, rfl⟩ := okWide_slice Try.underlying22 (hval 0 22 v0 rfl rfl)
  have k0 := h0
  have lt0 : ∀ x ∈ p0, x.block < W.heap.size := by obtain ⟨m, hm⟩ := k0; exact DataW.trod_lt m _ _ _ hm
  obtain ⟨z0, w0⟩ : ∃ zs, IsRow .u8 W a0 len0 cap0 zs := by
    obtain ⟨fuel, hf⟩ := h0
    rcases open_ints Try.underlying22 Try.underlying5 (by kernel_rfl) hf with ⟨hcs, _⟩ | ⟨x, l, c, zs, hcs, _, hl, hm, hz, _, hcell, hwz⟩
    · simp [Value.cells] at hcs
      obtain ⟨rfl, rfl, rfl⟩ := hcs
      exact ⟨[], .inl ⟨rfl, rfl, rfl, rfl⟩⟩
    · simp [Value.cells] at hcs
      obtain ⟨rfl, rfl, rfl⟩ := hcs
      exact ⟨zs, .inr ⟨_, rfl, hl, hm, by simpa using hz, hcell, hwz⟩⟩
  clear hA0 hval0
  refine (walk a0 len0 cap0 z0 W w0).mono fun e W' ⟨he, bel⟩ => ?_
  subst he
  exact ⟨_, rfl, _, _, _, [], _, [], hW', trodAll_mk1 (shut_bool Try.underlying4 _), (trodAll_cons_mk (Below.trod laidOut (by kernel_rfl) (of_decide_eq_true (by kernel_rfl)) k0 bel lt0) trodAll_mk0), rfl, bel.frame _, fun h => by cases h⟩

theorem over : Rows.fnNameBeforeRow.holds Try.pinned (OpenSpec.ofChange Rows.fnNameBeforeSpec) :=
  OpenClaim.holds_of_wide 6 Try.f6 rfl rfl rfl rfl rfl rfl rfl ⟨rfl, rfl, rfl, rfl, rfl⟩ rfl rfl rfl rfl rfl (by kernel_rfl) Try.func6 (by kernel_rfl)
    (of_decide_eq_true (by kernel_rfl)) (by unfold Func.isWrapper; first | (rw [if_pos (by decide +kernel)]; kernel_rfl) | (rw [if_neg (by decide +kernel)]; exact ⟨rfl, rfl⟩))
    (fun os started H enc _ => lifted os started H enc)

theorem proved : Rows.FnNameBeforeSaid := over
end Go.Proofs.Ytgieklfpdlkmjaa.fnNameBefore

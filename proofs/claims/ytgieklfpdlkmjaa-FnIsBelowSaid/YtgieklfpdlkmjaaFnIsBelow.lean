/- For every input, a name that is drawn from it is below another one exactly if it is that one or its parent is below it, and each name is below the root. -/
import Derived.Test.YtgieklfpdlkmjaaRows
import Derived.Test.YtgieklfpdlkmjaaZ
import Derived.WalkKit
import Derived.ProofKit
import Derived.OpenShut
import Derived.ShutString
import Derived.ChangeOld
import Derived.Below
namespace Go.Proofs.Ytgieklfpdlkmjaa.fnIsBelow
open Go.ChangeShapes Go.WideShapes Go.ChangeAt Go.RowKit
open Go.ChangeMaps (open_string shut_string)
set_option linter.unusedVariables false

theorem own : ownKnob Try.prog.godebug = none := by kernel_rfl
theorem laidOut : laidOutB Try.prog = true := by kernel_rfl

set_option maxHeartbeats 2000000 in
theorem walk (a0 : Option Addr) (len0 cap0 : Nat) (z0 : List Int) (w : World) (w0 : IsRow .u8 w a0 len0 cap0 z0) :
    Calls Try.prog 7 #[.slice a0 len0 cap0] w fun e w' => e = .returned (.bool true) ∧ Below w.heap.size w w' := by
  have hc0 := row_cap w0
  unfold maxLen at hc0
  by_cases hb0 : len0 ≤ 1048576
  · obtain ⟨zs0, rfl, hcode0⟩ := code_of_row w0 hb0
    clear w0
    go_enter Try.func7, Try.ntmps7
    go_wp2_with fail
    refine (DrawIsBelow_any _ _ zs0 w hcode0).mono ?_
    rintro e v1 ⟨a, b, rfl, ha, hb, hbv1⟩
    have hs1 : Since w.heap.size w v1 := (Since.start w).next hbv1
    have HQ := hid (eq_toList a b)
    have hdz : (⟨#[46]⟩ : ByteArray).size ≤ 67108864 := by decide
    cases hv : Z.valid (lst a) with
    | false =>
      have h1 : Z.below (lst a) (lst b) = false := by
        cases h : Z.below (lst a) (lst b) with
        | false => rfl
        | true => rw [(Z.below_iff.1 h).1] at hv; cases hv
      go_wp2_with (first | (go_at_call 33; refine (i_IsBelow _ _ (by omega) (by omega) (by assumption)).mono ?_; rintro e w2 ⟨rfl, hs⟩) | (go_at_call 35; refine (s_IsBelow _ _ (by omega) (by omega) (by assumption)).mono ?_; rintro e w2 ⟨rfl, hs⟩) | (go_at_call 19; refine (i_NameValid _ (by omega) (by assumption)).mono ?_; rintro e w2 ⟨rfl, hs⟩) | (go_at_call 36; first | (refine (i_ParentOf_some _ (by omega) (by assumption) (by assumption)).mono ?_; rintro e w2 ⟨rfl, hs⟩) | (refine (i_ParentOf_none _ (by omega) (by assumption) (by assumption)).mono ?_; rintro e w2 ⟨rfl, hs⟩)))
      all_goals go_ret
      all_goals exact ⟨rfl, And.left (by assumption)⟩
    | true =>
      cases hv2 : Z.valid (lst b) with
      | false =>
        have h1 : Z.below (lst a) (lst b) = false := by
          cases h : Z.below (lst a) (lst b) with
          | false => rfl
          | true => rw [(Z.below_iff.1 h).2.1] at hv2; cases hv2
        go_wp2_with (first | (go_at_call 33; refine (i_IsBelow _ _ (by omega) (by omega) (by assumption)).mono ?_; rintro e w2 ⟨rfl, hs⟩) | (go_at_call 35; refine (s_IsBelow _ _ (by omega) (by omega) (by assumption)).mono ?_; rintro e w2 ⟨rfl, hs⟩) | (go_at_call 19; refine (i_NameValid _ (by omega) (by assumption)).mono ?_; rintro e w2 ⟨rfl, hs⟩) | (go_at_call 36; first | (refine (i_ParentOf_some _ (by omega) (by assumption) (by assumption)).mono ?_; rintro e w2 ⟨rfl, hs⟩) | (refine (i_ParentOf_none _ (by omega) (by assumption) (by assumption)).mono ?_; rintro e w2 ⟨rfl, hs⟩)))
        all_goals go_ret
        all_goals exact ⟨rfl, And.left (by assumption)⟩
      | true =>
        have hroot : Z.below (lst a) (lst ⟨#[46]⟩) = true := Z.below_root hv
        rcases opt_text (L := 60) (o := Z.parentOf (lst a)) (fun x hx => parentOf_len hx) with p0 | ⟨p, p0, p1⟩
        · have har : lst a = [46] := Z.parentOf_none p0 hv
          have hbe : Z.below (lst a) (lst b) = decide (lst a = lst b) := by
            cases h : Z.below (lst a) (lst b) with
            | true =>
              obtain ⟨_, h5, h6⟩ := Z.below_iff.1 h
              rw [har, Z.labs_root] at h6
              have h7 : Z.labs (lst b) = [] := List.suffix_nil.1 h6
              have h8 := (Z.labs_nil h5).1 h7
              rw [har, h8]; rfl
            | false =>
              by_cases e : lst a = lst b
              · rw [← e, Z.below_self hv] at h; cases h
              · simp [e]
          have hq : (a.toList == b.toList) = Z.below (lst a) (lst b) := by rw [HQ.out, hbe]
          clear hbe har
          have Hq := hid hq
          clear hq
          cases h1 : Z.below (lst a) (lst b) with
          | false =>
            have hq : (a.toList == b.toList) = false := Hq.out.trans h1
            go_wp2_with (first | (go_at_call 33; refine (i_IsBelow _ _ (by omega) (by omega) (by assumption)).mono ?_; rintro e w2 ⟨rfl, hs⟩) | (go_at_call 35; refine (s_IsBelow _ _ (by omega) (by omega) (by assumption)).mono ?_; rintro e w2 ⟨rfl, hs⟩) | (go_at_call 19; refine (i_NameValid _ (by omega) (by assumption)).mono ?_; rintro e w2 ⟨rfl, hs⟩) | (go_at_call 36; first | (refine (i_ParentOf_some _ (by omega) (by assumption) (by assumption)).mono ?_; rintro e w2 ⟨rfl, hs⟩) | (refine (i_ParentOf_none _ (by omega) (by assumption) (by assumption)).mono ?_; rintro e w2 ⟨rfl, hs⟩)))
            all_goals go_ret
            all_goals exact ⟨rfl, And.left (by assumption)⟩
          | true =>
            have hq : (a.toList == b.toList) = true := Hq.out.trans h1
            go_wp2_with (first | (go_at_call 33; refine (i_IsBelow _ _ (by omega) (by omega) (by assumption)).mono ?_; rintro e w2 ⟨rfl, hs⟩) | (go_at_call 35; refine (s_IsBelow _ _ (by omega) (by omega) (by assumption)).mono ?_; rintro e w2 ⟨rfl, hs⟩) | (go_at_call 19; refine (i_NameValid _ (by omega) (by assumption)).mono ?_; rintro e w2 ⟨rfl, hs⟩) | (go_at_call 36; first | (refine (i_ParentOf_some _ (by omega) (by assumption) (by assumption)).mono ?_; rintro e w2 ⟨rfl, hs⟩) | (refine (i_ParentOf_none _ (by omega) (by assumption) (by assumption)).mono ?_; rintro e w2 ⟨rfl, hs⟩)))
            all_goals go_ret
            all_goals exact ⟨rfl, And.left (by assumption)⟩
        · have hbe := hid ((Z.below_parent p0 hv2).trans (by rw [← HQ.out]))
          cases hq : (a.toList == b.toList) with
          | false =>
            cases h2 : Z.below (lst p) (lst b) with
            | false =>
              have h1 : Z.below (lst a) (lst b) = false := by rw [hbe.out, hq, h2]; rfl
              go_wp2_with (first | (go_at_call 33; refine (i_IsBelow _ _ (by omega) (by omega) (by assumption)).mono ?_; rintro e w2 ⟨rfl, hs⟩) | (go_at_call 35; refine (s_IsBelow _ _ (by omega) (by omega) (by assumption)).mono ?_; rintro e w2 ⟨rfl, hs⟩) | (go_at_call 19; refine (i_NameValid _ (by omega) (by assumption)).mono ?_; rintro e w2 ⟨rfl, hs⟩) | (go_at_call 36; first | (refine (i_ParentOf_some _ (by omega) (by assumption) (by assumption)).mono ?_; rintro e w2 ⟨rfl, hs⟩) | (refine (i_ParentOf_none _ (by omega) (by assumption) (by assumption)).mono ?_; rintro e w2 ⟨rfl, hs⟩)))
              all_goals go_ret
              all_goals exact ⟨rfl, And.left (by assumption)⟩
            | true =>
              have h1 : Z.below (lst a) (lst b) = true := by rw [hbe.out, hq, h2]; rfl
              go_wp2_with (first | (go_at_call 33; refine (i_IsBelow _ _ (by omega) (by omega) (by assumption)).mono ?_; rintro e w2 ⟨rfl, hs⟩) | (go_at_call 35; refine (s_IsBelow _ _ (by omega) (by omega) (by assumption)).mono ?_; rintro e w2 ⟨rfl, hs⟩) | (go_at_call 19; refine (i_NameValid _ (by omega) (by assumption)).mono ?_; rintro e w2 ⟨rfl, hs⟩) | (go_at_call 36; first | (refine (i_ParentOf_some _ (by omega) (by assumption) (by assumption)).mono ?_; rintro e w2 ⟨rfl, hs⟩) | (refine (i_ParentOf_none _ (by omega) (by assumption) (by assumption)).mono ?_; rintro e w2 ⟨rfl, hs⟩)))
              all_goals go_ret
              all_goals exact ⟨rfl, And.left (by assumption)⟩
          | true =>
            have h1 : Z.below (lst a) (lst b) = true := by rw [hbe.out, hq]; rfl
            cases h2 : Z.below (lst p) (lst b) with
            | false =>
              go_wp2_with (first | (go_at_call 33; refine (i_IsBelow _ _ (by omega) (by omega) (by assumption)).mono ?_; rintro e w2 ⟨rfl, hs⟩) | (go_at_call 35; refine (s_IsBelow _ _ (by omega) (by omega) (by assumption)).mono ?_; rintro e w2 ⟨rfl, hs⟩) | (go_at_call 19; refine (i_NameValid _ (by omega) (by assumption)).mono ?_; rintro e w2 ⟨rfl, hs⟩) | (go_at_call 36; first | (refine (i_ParentOf_some _ (by omega) (by assumption) (by assumption)).mono ?_; rintro e w2 ⟨rfl, hs⟩) | (refine (i_ParentOf_none _ (by omega) (by assumption) (by assumption)).mono ?_; rintro e w2 ⟨rfl, hs⟩)))
              all_goals go_ret
              all_goals exact ⟨rfl, And.left (by assumption)⟩
            | true =>
              go_wp2_with (first | (go_at_call 33; refine (i_IsBelow _ _ (by omega) (by omega) (by assumption)).mono ?_; rintro e w2 ⟨rfl, hs⟩) | (go_at_call 35; refine (s_IsBelow _ _ (by omega) (by omega) (by assumption)).mono ?_; rintro e w2 ⟨rfl, hs⟩) | (go_at_call 19; refine (i_NameValid _ (by omega) (by assumption)).mono ?_; rintro e w2 ⟨rfl, hs⟩) | (go_at_call 36; first | (refine (i_ParentOf_some _ (by omega) (by assumption) (by assumption)).mono ?_; rintro e w2 ⟨rfl, hs⟩) | (refine (i_ParentOf_none _ (by omega) (by assumption) (by assumption)).mono ?_; rintro e w2 ⟨rfl, hs⟩)))
              all_goals go_ret
              all_goals exact ⟨rfl, And.left (by assumption)⟩
  · go_enter Try.func7, Try.ntmps7
    go_wp2_with fail
    go_ret
    exact ⟨rfl, Below.refl _ _⟩

set_option maxRecDepth 100000 in
theorem lifted (os : Os) (started : os.Started) (H : Type) (enc : TypeId × Value → H) :
    ReturnsInHanded {} Try.checked os 7 .any (Rows.fnIsBelowSpec.pre6 enc Try.prog Try.f7 Rows.fnIsBelowRow.domain false) (Rows.fnIsBelowSpec.post enc Try.prog Try.f7 false true false false) := by
  refine returnsInHanded_of_change (C := Try.checked) own started (by kernel_rfl) Try.func7
    (ChangeSpec.witness6 (enc := enc) (C := Try.checked) false ⟨#[], #[.slice none 0 0], []⟩ 8 (by kernel_rfl) (by kernel_rfl) (by kernel_rfl) (by kernel_rfl)) ?_
  intro W base args ds gs before hval0 hW hcnd _
  have hval : ∀ (j : Nat) t v, Try.f7.params[j]? = some t → args[j]? = some v → Value.okWide Try.prog W .any base t v := hval0
  have hW' := hW
  obtain ⟨p, q, hA0, hV, rfl, hfz, hnd⟩ := hW
  have hA : DataW.TrodAll enc Try.prog W 0 (fun _ => true) true Try.f7.params.toList args.toList ds p := hA0
  rw [Try.params7] at hA hval
  obtain ⟨v0, vs0, d0, ds0, p0, q0, hargs, rfl, rfl, h0, r0⟩ := trodAll_cons hA
  obtain ⟨rfl, rfl, rfl⟩ := trodAll_nil r0
  obtain rfl : args = #[v0] := by cases args; simp_all
  obtain ⟨rfl, rfl⟩ := trodVars_none hV
  obtain ⟨a0, len0, cap0, rfl⟩ := okWide_slice Try.underlying22 (hval 0 22 v0 rfl rfl)
  have k0 := h0
  have lt0 : ∀ x ∈ p0, x.block < W.heap.size := by obtain ⟨m, hm⟩ := k0; exact DataW.trod_lt m _ _ _ hm
  obtain ⟨z0, w0⟩ : ∃ zs, IsRow .u8 W a0 len0 cap0 zs := by
    obtain ⟨fuel, hf⟩ := h0
    rcases open_ints Try.underlying22 Try.underlying5 (by kernel_rfl) hf with ⟨hcs, _⟩ | ⟨x, l, c, zs, hcs, _, hl, hm, hz, _, hcell, hwz⟩
    · simp [Value.cells] at hcs
      obtain ⟨rfl, rfl, rfl⟩ := hcs
      exact ⟨[], .inl ⟨rfl, rfl, rfl, rfl⟩⟩
    · simp [Value.cells] at hcs
      obtain ⟨rfl, rfl, rfl⟩ := hcs
      exact ⟨zs, .inr ⟨_, rfl, hl, hm, by simpa using hz, hcell, hwz⟩⟩
  clear hA0 hval0
  refine (walk a0 len0 cap0 z0 W w0).mono fun e W' ⟨he, bel⟩ => ?_
  subst he
  exact ⟨_, rfl, _, _, _, [], _, [], hW', trodAll_mk1 (shut_bool Try.underlying4 _), (trodAll_cons_mk (Below.trod laidOut (by kernel_rfl) (of_decide_eq_true (by kernel_rfl)) k0 bel lt0) trodAll_mk0), rfl, bel.frame _, fun h => by cases h⟩

theorem over : Rows.fnIsBelowRow.holds Try.pinned (OpenSpec.ofChange Rows.fnIsBelowSpec) :=
  OpenClaim.holds_of_wide 7 Try.f7 rfl rfl rfl rfl rfl rfl rfl ⟨rfl, rfl, rfl, rfl, rfl⟩ rfl rfl rfl rfl rfl (by kernel_rfl) Try.func7 (by kernel_rfl)
    (of_decide_eq_true (by kernel_rfl)) (by unfold Func.isWrapper; first | (rw [if_pos (by decide +kernel)]; kernel_rfl) | (rw [if_neg (by decide +kernel)]; exact ⟨rfl, rfl⟩))
    (fun os started H enc _ => lifted os started H enc)

theorem proved : Rows.FnIsBelowSaid := over
end Go.Proofs.Ytgieklfpdlkmjaa.fnIsBelow

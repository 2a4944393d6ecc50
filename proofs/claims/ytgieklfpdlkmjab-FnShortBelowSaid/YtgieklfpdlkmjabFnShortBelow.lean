/- For every input, a name below an origin that is not the root has a short text without a dot at its end. -/
import Derived.Test.YtgieklfpdlkmjabRows
import Derived.Test.YtgieklfpdlkmjabZ
import Derived.WalkKit
import Derived.ProofKit
import Derived.OpenShut
import Derived.ShutString
import Derived.ChangeOld
import Derived.Below
namespace Go.Proofs.Ytgieklfpdlkmjab.fnShortBelow
open Go.ChangeShapes Go.WideShapes Go.ChangeAt Go.RowKit
open Go.ChangeMaps (open_string shut_string)
set_option linter.unusedVariables false

theorem own : ownKnob Try.prog.godebug = none := by kernel_rfl
theorem laidOut : laidOutB Try.prog = true := by kernel_rfl

set_option maxHeartbeats 2000000 in
theorem walk (a0 : Option Addr) (len0 cap0 : Nat) (z0 : List Int) (w : World) (w0 : IsRow .u8 w a0 len0 cap0 z0) :
    Calls Try.prog 4 #[.slice a0 len0 cap0] w fun e w' => e = .returned (.bool true) ∧ Below w.heap.size w w' := by
  have hc0 := row_cap w0
  unfold maxLen at hc0
  by_cases hb0 : len0 ≤ 1048576
  · obtain ⟨zs0, rfl, hcode0⟩ := code_of_row w0 hb0
    clear w0
    go_enter Try.func4, Try.ntmps4
    go_wp2_with fail
    refine (DrawShortName_any _ _ zs0 w hcode0).mono ?_
    rintro e v1 ⟨a, b, rfl, ha, hb, hbv1⟩
    have hs1 : Since w.heap.size w v1 := (Since.start w).next hbv1
    have HQ := hid (eq_toList a b)
    rcases opt_text (L := 60) (o := Z.shortName (lst a) (lst b)) (fun x hx => shortName_len hx) with x0 | ⟨x, x0, x1⟩
    · go_wp2_with (first | (go_at_call 21; first | (refine (i_ShortName_some _ _ (by omega) (by omega) (by assumption) (by assumption)).mono ?_; rintro e w2 ⟨rfl, hs⟩) | (refine (i_ShortName_none _ _ (by omega) (by omega) (by assumption) (by assumption)).mono ?_; rintro e w2 ⟨rfl, hs⟩)) | (go_at_call 22; first | (refine (s_ShortName_some _ _ (by omega) (by omega) (by assumption) (by assumption)).mono ?_; rintro e w2 ⟨rfl, hs⟩) | (refine (s_ShortName_none _ _ (by omega) (by omega) (by assumption) (by assumption)).mono ?_; rintro e w2 ⟨rfl, hs⟩)) | (go_at_call 23; refine (i_IsBelow _ _ (by omega) (by omega) (by assumption)).mono ?_; rintro e w2 ⟨rfl, hs⟩))
      all_goals go_ret
      all_goals exact ⟨rfl, And.left (by assumption)⟩
    · obtain ⟨v1, v2⟩ := Z.shortName_some x0
      obtain ⟨z, z1, z2, z3, z4, z5, z6⟩ := Z.readName_short (v1) (v2)
      rw [x0] at z1
      injection z1 with z1
      subst z1
      rw [lst_length, lst_length] at z3
      have hxz : 1 ≤ x.size := by
        rw [← lst_length]; exact List.length_pos_iff.2 z5
      have hlast := last_iff x hxz
      have hdot : ((x[x.size - 1].toNat : Int) == 46) = ((lst x).getLast? == some 46) := by
        rw [hlast, Bool.eq_iff_iff, beq_iff_eq, decide_eq_true_eq, ← UInt8.toNat_inj]
        simp; omega
      have Z6 : Hid ((lst x).getLast? = some 46 ↔ ¬ ((Z.below (lst a) (lst b) = true ∧ lst b ≠ [46]) ∨ lst a = lst b)) := hid z6
      have HR := hid (root_iff b)
      have HD := hid hdot
      clear z4 z5 z6 hlast hdot
      cases h1 : Z.below (lst a) (lst b) with
      | false =>
        cases h2 : (b.toList == [46]) with
        | false =>
          cases hq : (a.toList == b.toList) with
          | false =>
            have e1 : ¬ lst b = [46] ∧ True := ⟨by rw [HR.out] at h2; simpa using h2, trivial⟩
            have e2 : ¬ lst a = lst b := by rw [HQ.out] at hq; simpa using hq
            have hl : ((x[x.size - 1].toNat : Int) == 46) = true := by
              rw [HD.out]
              rw [beq_iff_eq, Z6.out]; rintro (⟨h5, h6⟩ | h5)
              · rw [h1] at h5; cases h5
              · exact e2 h5
            clear e1 e2
            go_wp2_with (first | (go_at_call 21; first | (refine (i_ShortName_some _ _ (by omega) (by omega) (by assumption) (by assumption)).mono ?_; rintro e w2 ⟨rfl, hs⟩) | (refine (i_ShortName_none _ _ (by omega) (by omega) (by assumption) (by assumption)).mono ?_; rintro e w2 ⟨rfl, hs⟩)) | (go_at_call 22; first | (refine (s_ShortName_some _ _ (by omega) (by omega) (by assumption) (by assumption)).mono ?_; rintro e w2 ⟨rfl, hs⟩) | (refine (s_ShortName_none _ _ (by omega) (by omega) (by assumption) (by assumption)).mono ?_; rintro e w2 ⟨rfl, hs⟩)) | (go_at_call 23; refine (i_IsBelow _ _ (by omega) (by omega) (by assumption)).mono ?_; rintro e w2 ⟨rfl, hs⟩))
            all_goals go_ret
            all_goals exact ⟨rfl, And.left (by assumption)⟩
          | true =>
            have e1 : ¬ lst b = [46] ∧ True := ⟨by rw [HR.out] at h2; simpa using h2, trivial⟩
            have e2 : lst a = lst b := by rw [HQ.out] at hq; simpa using hq
            have hl : ((x[x.size - 1].toNat : Int) == 46) = false := by
              rw [HD.out]
              rw [beq_eq_false_iff_ne, ne_eq, Z6.out, Classical.not_not]
              exact Or.inr e2
            clear e1 e2
            go_wp2_with (first | (go_at_call 21; first | (refine (i_ShortName_some _ _ (by omega) (by omega) (by assumption) (by assumption)).mono ?_; rintro e w2 ⟨rfl, hs⟩) | (refine (i_ShortName_none _ _ (by omega) (by omega) (by assumption) (by assumption)).mono ?_; rintro e w2 ⟨rfl, hs⟩)) | (go_at_call 22; first | (refine (s_ShortName_some _ _ (by omega) (by omega) (by assumption) (by assumption)).mono ?_; rintro e w2 ⟨rfl, hs⟩) | (refine (s_ShortName_none _ _ (by omega) (by omega) (by assumption) (by assumption)).mono ?_; rintro e w2 ⟨rfl, hs⟩)) | (go_at_call 23; refine (i_IsBelow _ _ (by omega) (by omega) (by assumption)).mono ?_; rintro e w2 ⟨rfl, hs⟩))
            all_goals go_ret
            all_goals exact ⟨rfl, And.left (by assumption)⟩
        | true =>
          cases hq : (a.toList == b.toList) with
          | false =>
            have e1 : lst b = [46] := by rw [HR.out] at h2; simpa using h2
            have e2 : ¬ lst a = lst b := by rw [HQ.out] at hq; simpa using hq
            have hl : ((x[x.size - 1].toNat : Int) == 46) = true := by
              rw [HD.out]
              rw [beq_iff_eq, Z6.out]; rintro (⟨h5, h6⟩ | h5)
              · rw [h1] at h5; cases h5
              · exact e2 h5
            clear e1 e2
            go_wp2_with (first | (go_at_call 21; first | (refine (i_ShortName_some _ _ (by omega) (by omega) (by assumption) (by assumption)).mono ?_; rintro e w2 ⟨rfl, hs⟩) | (refine (i_ShortName_none _ _ (by omega) (by omega) (by assumption) (by assumption)).mono ?_; rintro e w2 ⟨rfl, hs⟩)) | (go_at_call 22; first | (refine (s_ShortName_some _ _ (by omega) (by omega) (by assumption) (by assumption)).mono ?_; rintro e w2 ⟨rfl, hs⟩) | (refine (s_ShortName_none _ _ (by omega) (by omega) (by assumption) (by assumption)).mono ?_; rintro e w2 ⟨rfl, hs⟩)) | (go_at_call 23; refine (i_IsBelow _ _ (by omega) (by omega) (by assumption)).mono ?_; rintro e w2 ⟨rfl, hs⟩))
            all_goals go_ret
            all_goals exact ⟨rfl, And.left (by assumption)⟩
          | true =>
            have e1 : lst b = [46] := by rw [HR.out] at h2; simpa using h2
            have e2 : lst a = lst b := by rw [HQ.out] at hq; simpa using hq
            have hl : ((x[x.size - 1].toNat : Int) == 46) = false := by
              rw [HD.out]
              rw [beq_eq_false_iff_ne, ne_eq, Z6.out, Classical.not_not]
              exact Or.inr e2
            clear e1 e2
            go_wp2_with (first | (go_at_call 21; first | (refine (i_ShortName_some _ _ (by omega) (by omega) (by assumption) (by assumption)).mono ?_; rintro e w2 ⟨rfl, hs⟩) | (refine (i_ShortName_none _ _ (by omega) (by omega) (by assumption) (by assumption)).mono ?_; rintro e w2 ⟨rfl, hs⟩)) | (go_at_call 22; first | (refine (s_ShortName_some _ _ (by omega) (by omega) (by assumption) (by assumption)).mono ?_; rintro e w2 ⟨rfl, hs⟩) | (refine (s_ShortName_none _ _ (by omega) (by omega) (by assumption) (by assumption)).mono ?_; rintro e w2 ⟨rfl, hs⟩)) | (go_at_call 23; refine (i_IsBelow _ _ (by omega) (by omega) (by assumption)).mono ?_; rintro e w2 ⟨rfl, hs⟩))
            all_goals go_ret
            all_goals exact ⟨rfl, And.left (by assumption)⟩
      | true =>
        cases h2 : (b.toList == [46]) with
        | false =>
          cases hq : (a.toList == b.toList) with
          | false =>
            have e1 : ¬ lst b = [46] ∧ True := ⟨by rw [HR.out] at h2; simpa using h2, trivial⟩
            have e2 : ¬ lst a = lst b := by rw [HQ.out] at hq; simpa using hq
            have hl : ((x[x.size - 1].toNat : Int) == 46) = false := by
              rw [HD.out]
              rw [beq_eq_false_iff_ne, ne_eq, Z6.out, Classical.not_not]
              exact Or.inl ⟨h1, e1.1⟩
            clear e1 e2
            go_wp2_with (first | (go_at_call 21; first | (refine (i_ShortName_some _ _ (by omega) (by omega) (by assumption) (by assumption)).mono ?_; rintro e w2 ⟨rfl, hs⟩) | (refine (i_ShortName_none _ _ (by omega) (by omega) (by assumption) (by assumption)).mono ?_; rintro e w2 ⟨rfl, hs⟩)) | (go_at_call 22; first | (refine (s_ShortName_some _ _ (by omega) (by omega) (by assumption) (by assumption)).mono ?_; rintro e w2 ⟨rfl, hs⟩) | (refine (s_ShortName_none _ _ (by omega) (by omega) (by assumption) (by assumption)).mono ?_; rintro e w2 ⟨rfl, hs⟩)) | (go_at_call 23; refine (i_IsBelow _ _ (by omega) (by omega) (by assumption)).mono ?_; rintro e w2 ⟨rfl, hs⟩))
            all_goals go_ret
            all_goals exact ⟨rfl, And.left (by assumption)⟩
          | true =>
            have e1 : ¬ lst b = [46] ∧ True := ⟨by rw [HR.out] at h2; simpa using h2, trivial⟩
            have e2 : lst a = lst b := by rw [HQ.out] at hq; simpa using hq
            have hl : ((x[x.size - 1].toNat : Int) == 46) = false := by
              rw [HD.out]
              rw [beq_eq_false_iff_ne, ne_eq, Z6.out, Classical.not_not]
              exact Or.inr e2
            clear e1 e2
            go_wp2_with (first | (go_at_call 21; first | (refine (i_ShortName_some _ _ (by omega) (by omega) (by assumption) (by assumption)).mono ?_; rintro e w2 ⟨rfl, hs⟩) | (refine (i_ShortName_none _ _ (by omega) (by omega) (by assumption) (by assumption)).mono ?_; rintro e w2 ⟨rfl, hs⟩)) | (go_at_call 22; first | (refine (s_ShortName_some _ _ (by omega) (by omega) (by assumption) (by assumption)).mono ?_; rintro e w2 ⟨rfl, hs⟩) | (refine (s_ShortName_none _ _ (by omega) (by omega) (by assumption) (by assumption)).mono ?_; rintro e w2 ⟨rfl, hs⟩)) | (go_at_call 23; refine (i_IsBelow _ _ (by omega) (by omega) (by assumption)).mono ?_; rintro e w2 ⟨rfl, hs⟩))
            all_goals go_ret
            all_goals exact ⟨rfl, And.left (by assumption)⟩
        | true =>
          cases hq : (a.toList == b.toList) with
          | false =>
            have e1 : lst b = [46] := by rw [HR.out] at h2; simpa using h2
            have e2 : ¬ lst a = lst b := by rw [HQ.out] at hq; simpa using hq
            have hl : ((x[x.size - 1].toNat : Int) == 46) = true := by
              rw [HD.out]
              rw [beq_iff_eq, Z6.out]; rintro (⟨h5, h6⟩ | h5)
              · exact h6 e1
              · exact e2 h5
            clear e1 e2
            go_wp2_with (first | (go_at_call 21; first | (refine (i_ShortName_some _ _ (by omega) (by omega) (by assumption) (by assumption)).mono ?_; rintro e w2 ⟨rfl, hs⟩) | (refine (i_ShortName_none _ _ (by omega) (by omega) (by assumption) (by assumption)).mono ?_; rintro e w2 ⟨rfl, hs⟩)) | (go_at_call 22; first | (refine (s_ShortName_some _ _ (by omega) (by omega) (by assumption) (by assumption)).mono ?_; rintro e w2 ⟨rfl, hs⟩) | (refine (s_ShortName_none _ _ (by omega) (by omega) (by assumption) (by assumption)).mono ?_; rintro e w2 ⟨rfl, hs⟩)) | (go_at_call 23; refine (i_IsBelow _ _ (by omega) (by omega) (by assumption)).mono ?_; rintro e w2 ⟨rfl, hs⟩))
            all_goals go_ret
            all_goals exact ⟨rfl, And.left (by assumption)⟩
          | true =>
            have e1 : lst b = [46] := by rw [HR.out] at h2; simpa using h2
            have e2 : lst a = lst b := by rw [HQ.out] at hq; simpa using hq
            have hl : ((x[x.size - 1].toNat : Int) == 46) = false := by
              rw [HD.out]
              rw [beq_eq_false_iff_ne, ne_eq, Z6.out, Classical.not_not]
              exact Or.inr e2
            clear e1 e2
            go_wp2_with (first | (go_at_call 21; first | (refine (i_ShortName_some _ _ (by omega) (by omega) (by assumption) (by assumption)).mono ?_; rintro e w2 ⟨rfl, hs⟩) | (refine (i_ShortName_none _ _ (by omega) (by omega) (by assumption) (by assumption)).mono ?_; rintro e w2 ⟨rfl, hs⟩)) | (go_at_call 22; first | (refine (s_ShortName_some _ _ (by omega) (by omega) (by assumption) (by assumption)).mono ?_; rintro e w2 ⟨rfl, hs⟩) | (refine (s_ShortName_none _ _ (by omega) (by omega) (by assumption) (by assumption)).mono ?_; rintro e w2 ⟨rfl, hs⟩)) | (go_at_call 23; refine (i_IsBelow _ _ (by omega) (by omega) (by assumption)).mono ?_; rintro e w2 ⟨rfl, hs⟩))
            all_goals go_ret
            all_goals exact ⟨rfl, And.left (by assumption)⟩
  · go_enter Try.func4, Try.ntmps4
    go_wp2_with fail
    go_ret
    exact ⟨rfl, Below.refl _ _⟩

set_option maxRecDepth 100000 in
theorem lifted (os : Os) (started : os.Started) (H : Type) (enc : TypeId × Value → H) :
    ReturnsInHanded {} Try.checked os 4 .any (Rows.fnShortBelowSpec.pre6 enc Try.prog Try.f4 Rows.fnShortBelowRow.domain false) (Rows.fnShortBelowSpec.post enc Try.prog Try.f4 false true false false) := by
  refine returnsInHanded_of_change (C := Try.checked) own started (by kernel_rfl) Try.func4
    (ChangeSpec.witness6 (enc := enc) (C := Try.checked) false ⟨#[], #[.slice none 0 0], []⟩ 8 (by kernel_rfl) (by kernel_rfl) (by kernel_rfl) (by kernel_rfl)) ?_
  intro W base args ds gs before hval0 hW hcnd _
  have hval : ∀ (j : Nat) t v, Try.f4.params[j]? = some t → args[j]? = some v → Value.okWide Try.prog W .any base t v := hval0
  have hW' := hW
  obtain ⟨p, q, hA0, hV, rfl, hfz, hnd⟩ := hW
  have hA : DataW.TrodAll enc Try.prog W 0 (fun _ => true) true Try.f4.params.toList args.toList ds p := hA0
  rw [Try.params4] at hA hval
  obtain ⟨v0, vs0, d0, ds0, p0, q0, hargs, rfl, rfl, h0, r0⟩ := trodAll_cons hA
  obtain ⟨rfl, rfl, rfl⟩ := trodAll_nil r0
  obtain rfl : args = #[v0] := by cases args; simp_all
  obtain ⟨rfl, rfl⟩ := trodVars_none hV
  obtain ⟨a0, len0, cap0, rfl⟩ := okWide_slice Try.underlying22 (hval 0 22 v0 rfl rfl)
  have k0 := h0
  have lt0 : ∀ x ∈ p0, x.block < W.heap.size := by obtain ⟨m, hm⟩ := k0; exact DataW.trod_lt m _ _ _ hm
  obtain ⟨z0, w0⟩ : ∃ zs, IsRow .u8 W a0 len0 cap0 zs := by
    obtain ⟨fuel, hf⟩ := h0
    rcases open_ints Try.underlying22 Try.underlying5 (by kernel_rfl) hf with ⟨hcs, _⟩ | ⟨x, l, c, zs, hcs, _, hl, hm, hz, _, hcell, hwz⟩
    · simp [Value.cells] at hcs
      obtain ⟨rfl, rfl, rfl⟩ := hcs
      exact ⟨[], .inl ⟨rfl, rfl, rfl, rfl⟩⟩
    · simp [Value.cells] at hcs
      obtain ⟨rfl, rfl, rfl⟩ := hcs
      exact ⟨zs, .inr ⟨_, rfl, hl, hm, by simpa using hz, hcell, hwz⟩⟩
  clear hA0 hval0
  refine (walk a0 len0 cap0 z0 W w0).mono fun e W' ⟨he, bel⟩ => ?_
  subst he
  exact ⟨_, rfl, _, _, _, [], _, [], hW', trodAll_mk1 (shut_bool Try.underlying4 _), (trodAll_cons_mk (Below.trod laidOut (by kernel_rfl) (of_decide_eq_true (by kernel_rfl)) k0 bel lt0) trodAll_mk0), rfl, bel.frame _, fun h => by cases h⟩

theorem over : Rows.fnShortBelowRow.holds Try.pinned (OpenSpec.ofChange Rows.fnShortBelowSpec) :=
  OpenClaim.holds_of_wide 4 Try.f4 rfl rfl rfl rfl rfl rfl rfl ⟨rfl, rfl, rfl, rfl, rfl⟩ rfl rfl rfl rfl rfl (by kernel_rfl) Try.func4 (by kernel_rfl)
    (of_decide_eq_true (by kernel_rfl)) (by unfold Func.isWrapper; first | (rw [if_pos (by decide +kernel)]; kernel_rfl) | (rw [if_neg (by decide +kernel)]; exact ⟨rfl, rfl⟩))
    (fun os started H enc _ => lifted os started H enc)

theorem proved : Rows.FnShortBelowSaid := over
end Go.Proofs.Ytgieklfpdlkmjab.fnShortBelow

/- For every input, two names that are drawn from it have the same wildcard exactly if they have the same parent, and their common top is the model's. -/
import Derived.Test.YtgieklfpdlkmjabRows
import Derived.Test.YtgieklfpdlkmjabZ
import Derived.WalkKit
import Derived.ProofKit
import Derived.OpenShut
import Derived.ShutString
import Derived.ChangeOld
import Derived.Below
namespace Go.Proofs.Ytgieklfpdlkmjab.fnTopStar
open Go.ChangeShapes Go.WideShapes Go.ChangeAt Go.RowKit
open Go.ChangeMaps (open_string shut_string)
set_option linter.unusedVariables false

theorem own : ownKnob Try.prog.godebug = none := by kernel_rfl
theorem laidOut : laidOutB Try.prog = true := by kernel_rfl

set_option maxHeartbeats 2000000 in
theorem walk (a0 : Option Addr) (len0 cap0 : Nat) (z0 : List Int) (w : World) (w0 : IsRow .u8 w a0 len0 cap0 z0) :
    Calls Try.prog 3 #[.slice a0 len0 cap0] w fun e w' => e = .returned (.bool true) ∧ Below w.heap.size w w' := by
  have hc0 := row_cap w0
  unfold maxLen at hc0
  by_cases hb0 : len0 ≤ 1048576
  · obtain ⟨zs0, rfl, hcode0⟩ := code_of_row w0 hb0
    clear w0
    go_enter Try.func3, Try.ntmps3
    go_wp2_with fail
    refine (DrawCommonTop_any _ _ zs0 w hcode0).mono ?_
    rintro e v1 ⟨a, b, rfl, ha, hb, hbv1⟩
    have hs1 : Since w.heap.size w v1 := (Since.start w).next hbv1
    rcases opt_text (L := 60) (o := Z.commonTop (lst a) (lst b)) (fun x hx => commonTop_len hx) with c0 | ⟨c, c0, c1⟩
    · go_wp2_with (first | (go_at_call 16; first | (refine (i_CommonTop_some _ _ (by omega) (by omega) (by assumption) (by assumption)).mono ?_; rintro e w2 ⟨rfl, hs⟩) | (refine (i_CommonTop_none _ _ (by omega) (by omega) (by assumption) (by assumption)).mono ?_; rintro e w2 ⟨rfl, hs⟩)) | (go_at_call 17; first | (refine (s_CommonTop_some _ _ (by omega) (by omega) (by assumption) (by assumption)).mono ?_; rintro e w2 ⟨rfl, hs⟩) | (refine (s_CommonTop_none _ _ (by omega) (by omega) (by assumption) (by assumption)).mono ?_; rintro e w2 ⟨rfl, hs⟩)) | (go_at_call 18; first | (refine (i_StarOf_some _ (by omega) (by assumption) (by assumption)).mono ?_; rintro e w2 ⟨rfl, hs⟩) | (refine (i_StarOf_none _ (by omega) (by assumption) (by assumption)).mono ?_; rintro e w2 ⟨rfl, hs⟩)) | (go_at_call 19; first | (refine (i_ParentOf_some _ (by omega) (by assumption) (by assumption)).mono ?_; rintro e w2 ⟨rfl, hs⟩) | (refine (i_ParentOf_none _ (by omega) (by assumption) (by assumption)).mono ?_; rintro e w2 ⟨rfl, hs⟩)))
      all_goals go_ret
      all_goals exact ⟨rfl, And.left (by assumption)⟩
    · obtain ⟨v1, v2, _, _, _⟩ := Z.commonTop_some c0
      rcases opt_text (L := 60) (o := Z.parentOf (lst a)) (fun x hx => parentOf_len hx) with p0 | ⟨p, p0, p1⟩
      · have s0 : Z.starOf (lst a) = none := by rw [Z.starOf_eq, p0]; rfl
        have r0 : (a.toList == [46]) = true := by rw [root_iff]; simpa using Z.parentOf_none p0 v1
        rcases opt_text (L := 60) (o := Z.parentOf (lst b)) (fun x hx => parentOf_len hx) with q0 | ⟨q, q0, q1⟩
        · have t0 : Z.starOf (lst b) = none := by rw [Z.starOf_eq, q0]; rfl
          have u0 : (b.toList == [46]) = true := by rw [root_iff]; simpa using Z.parentOf_none q0 v2
          go_wp2_with (first | (go_at_call 16; first | (refine (i_CommonTop_some _ _ (by omega) (by omega) (by assumption) (by assumption)).mono ?_; rintro e w2 ⟨rfl, hs⟩) | (refine (i_CommonTop_none _ _ (by omega) (by omega) (by assumption) (by assumption)).mono ?_; rintro e w2 ⟨rfl, hs⟩)) | (go_at_call 17; first | (refine (s_CommonTop_some _ _ (by omega) (by omega) (by assumption) (by assumption)).mono ?_; rintro e w2 ⟨rfl, hs⟩) | (refine (s_CommonTop_none _ _ (by omega) (by omega) (by assumption) (by assumption)).mono ?_; rintro e w2 ⟨rfl, hs⟩)) | (go_at_call 18; first | (refine (i_StarOf_some _ (by omega) (by assumption) (by assumption)).mono ?_; rintro e w2 ⟨rfl, hs⟩) | (refine (i_StarOf_none _ (by omega) (by assumption) (by assumption)).mono ?_; rintro e w2 ⟨rfl, hs⟩)) | (go_at_call 19; first | (refine (i_ParentOf_some _ (by omega) (by assumption) (by assumption)).mono ?_; rintro e w2 ⟨rfl, hs⟩) | (refine (i_ParentOf_none _ (by omega) (by assumption) (by assumption)).mono ?_; rintro e w2 ⟨rfl, hs⟩)))
          all_goals go_ret
          all_goals exact ⟨rfl, And.left (by assumption)⟩
        · obtain ⟨xq, sq⟩ : ∃ y : ByteArray, Z.starOf (lst b) = some (lst y) := by rw [Z.starOf_eq, q0]; exact ⟨bs _, by rw [lst_bs]; rfl⟩
          have lq := starOf_len sq
          rw [lst_length] at lq
          go_wp2_with (first | (go_at_call 16; first | (refine (i_CommonTop_some _ _ (by omega) (by omega) (by assumption) (by assumption)).mono ?_; rintro e w2 ⟨rfl, hs⟩) | (refine (i_CommonTop_none _ _ (by omega) (by omega) (by assumption) (by assumption)).mono ?_; rintro e w2 ⟨rfl, hs⟩)) | (go_at_call 17; first | (refine (s_CommonTop_some _ _ (by omega) (by omega) (by assumption) (by assumption)).mono ?_; rintro e w2 ⟨rfl, hs⟩) | (refine (s_CommonTop_none _ _ (by omega) (by omega) (by assumption) (by assumption)).mono ?_; rintro e w2 ⟨rfl, hs⟩)) | (go_at_call 18; first | (refine (i_StarOf_some _ (by omega) (by assumption) (by assumption)).mono ?_; rintro e w2 ⟨rfl, hs⟩) | (refine (i_StarOf_none _ (by omega) (by assumption) (by assumption)).mono ?_; rintro e w2 ⟨rfl, hs⟩)) | (go_at_call 19; first | (refine (i_ParentOf_some _ (by omega) (by assumption) (by assumption)).mono ?_; rintro e w2 ⟨rfl, hs⟩) | (refine (i_ParentOf_none _ (by omega) (by assumption) (by assumption)).mono ?_; rintro e w2 ⟨rfl, hs⟩)))
          all_goals go_ret
          all_goals exact ⟨rfl, And.left (by assumption)⟩
      · obtain ⟨xp, sp⟩ : ∃ y : ByteArray, Z.starOf (lst a) = some (lst y) := by rw [Z.starOf_eq, p0]; exact ⟨bs _, by rw [lst_bs]; rfl⟩
        have lp := starOf_len sp
        rw [lst_length] at lp
        rcases opt_text (L := 60) (o := Z.parentOf (lst b)) (fun x hx => parentOf_len hx) with q0 | ⟨q, q0, q1⟩
        · have s0 : Z.starOf (lst b) = none := by rw [Z.starOf_eq, q0]; rfl
          have r0 : (b.toList == [46]) = true := by rw [root_iff]; simpa using Z.parentOf_none q0 v2
          cases u0 : (a.toList == [46])
          · go_wp2_with (first | (go_at_call 16; first | (refine (i_CommonTop_some _ _ (by omega) (by omega) (by assumption) (by assumption)).mono ?_; rintro e w2 ⟨rfl, hs⟩) | (refine (i_CommonTop_none _ _ (by omega) (by omega) (by assumption) (by assumption)).mono ?_; rintro e w2 ⟨rfl, hs⟩)) | (go_at_call 17; first | (refine (s_CommonTop_some _ _ (by omega) (by omega) (by assumption) (by assumption)).mono ?_; rintro e w2 ⟨rfl, hs⟩) | (refine (s_CommonTop_none _ _ (by omega) (by omega) (by assumption) (by assumption)).mono ?_; rintro e w2 ⟨rfl, hs⟩)) | (go_at_call 18; first | (refine (i_StarOf_some _ (by omega) (by assumption) (by assumption)).mono ?_; rintro e w2 ⟨rfl, hs⟩) | (refine (i_StarOf_none _ (by omega) (by assumption) (by assumption)).mono ?_; rintro e w2 ⟨rfl, hs⟩)) | (go_at_call 19; first | (refine (i_ParentOf_some _ (by omega) (by assumption) (by assumption)).mono ?_; rintro e w2 ⟨rfl, hs⟩) | (refine (i_ParentOf_none _ (by omega) (by assumption) (by assumption)).mono ?_; rintro e w2 ⟨rfl, hs⟩)))
            all_goals go_ret
            all_goals exact ⟨rfl, And.left (by assumption)⟩
          · go_wp2_with (first | (go_at_call 16; first | (refine (i_CommonTop_some _ _ (by omega) (by omega) (by assumption) (by assumption)).mono ?_; rintro e w2 ⟨rfl, hs⟩) | (refine (i_CommonTop_none _ _ (by omega) (by omega) (by assumption) (by assumption)).mono ?_; rintro e w2 ⟨rfl, hs⟩)) | (go_at_call 17; first | (refine (s_CommonTop_some _ _ (by omega) (by omega) (by assumption) (by assumption)).mono ?_; rintro e w2 ⟨rfl, hs⟩) | (refine (s_CommonTop_none _ _ (by omega) (by omega) (by assumption) (by assumption)).mono ?_; rintro e w2 ⟨rfl, hs⟩)) | (go_at_call 18; first | (refine (i_StarOf_some _ (by omega) (by assumption) (by assumption)).mono ?_; rintro e w2 ⟨rfl, hs⟩) | (refine (i_StarOf_none _ (by omega) (by assumption) (by assumption)).mono ?_; rintro e w2 ⟨rfl, hs⟩)) | (go_at_call 19; first | (refine (i_ParentOf_some _ (by omega) (by assumption) (by assumption)).mono ?_; rintro e w2 ⟨rfl, hs⟩) | (refine (i_ParentOf_none _ (by omega) (by assumption) (by assumption)).mono ?_; rintro e w2 ⟨rfl, hs⟩)))
            all_goals go_ret
            all_goals exact ⟨rfl, And.left (by assumption)⟩
        · obtain ⟨xq, sq⟩ : ∃ y : ByteArray, Z.starOf (lst b) = some (lst y) := by rw [Z.starOf_eq, q0]; exact ⟨bs _, by rw [lst_bs]; rfl⟩
          have lq := starOf_len sq
          rw [lst_length] at lq
          have HQ := hid (eq_toList xp xq)
          have HQ2 := hid (eq_toList p q)
          have hsi := Z.star_inj (Z.parentOf_some p0).2.2.1 (Z.parentOf_some q0).2.2.1
          obtain ⟨p', hp1, hp2⟩ := Z.starOf_some sp
          obtain ⟨q', hq1, hq2⟩ := Z.starOf_some sq
          rw [p0] at hp1
          rw [q0] at hq1
          injection hp1 with hp1
          injection hq1 with hq1
          subst hp1 hq1
          rw [← hp2, ← hq2] at hsi
          have HS := hid hsi
          clear hsi hp2 hq2
          by_cases hq : (p.toList == q.toList) = true
          · have hq2 : (xp.toList == xq.toList) = true := by
              rw [HQ.out]; rw [HQ2.out] at hq
              simpa using HS.out.2 (by simpa using hq)
            go_wp2_with (first | (go_at_call 16; first | (refine (i_CommonTop_some _ _ (by omega) (by omega) (by assumption) (by assumption)).mono ?_; rintro e w2 ⟨rfl, hs⟩) | (refine (i_CommonTop_none _ _ (by omega) (by omega) (by assumption) (by assumption)).mono ?_; rintro e w2 ⟨rfl, hs⟩)) | (go_at_call 17; first | (refine (s_CommonTop_some _ _ (by omega) (by omega) (by assumption) (by assumption)).mono ?_; rintro e w2 ⟨rfl, hs⟩) | (refine (s_CommonTop_none _ _ (by omega) (by omega) (by assumption) (by assumption)).mono ?_; rintro e w2 ⟨rfl, hs⟩)) | (go_at_call 18; first | (refine (i_StarOf_some _ (by omega) (by assumption) (by assumption)).mono ?_; rintro e w2 ⟨rfl, hs⟩) | (refine (i_StarOf_none _ (by omega) (by assumption) (by assumption)).mono ?_; rintro e w2 ⟨rfl, hs⟩)) | (go_at_call 19; first | (refine (i_ParentOf_some _ (by omega) (by assumption) (by assumption)).mono ?_; rintro e w2 ⟨rfl, hs⟩) | (refine (i_ParentOf_none _ (by omega) (by assumption) (by assumption)).mono ?_; rintro e w2 ⟨rfl, hs⟩)))
            all_goals go_ret
            all_goals exact ⟨rfl, And.left (by assumption)⟩
          · have hq1 : (p.toList == q.toList) = false := by simpa using hq
            have hq2 : (xp.toList == xq.toList) = false := by
              rw [HQ.out]; rw [HQ2.out] at hq1
              have h3 : ¬ lst p = lst q := by simpa using hq1
              have h4 : ¬ lst xp = lst xq := fun e => h3 (HS.out.1 e)
              simpa using h4
            clear hq
            go_wp2_with (first | (go_at_call 16; first | (refine (i_CommonTop_some _ _ (by omega) (by omega) (by assumption) (by assumption)).mono ?_; rintro e w2 ⟨rfl, hs⟩) | (refine (i_CommonTop_none _ _ (by omega) (by omega) (by assumption) (by assumption)).mono ?_; rintro e w2 ⟨rfl, hs⟩)) | (go_at_call 17; first | (refine (s_CommonTop_some _ _ (by omega) (by omega) (by assumption) (by assumption)).mono ?_; rintro e w2 ⟨rfl, hs⟩) | (refine (s_CommonTop_none _ _ (by omega) (by omega) (by assumption) (by assumption)).mono ?_; rintro e w2 ⟨rfl, hs⟩)) | (go_at_call 18; first | (refine (i_StarOf_some _ (by omega) (by assumption) (by assumption)).mono ?_; rintro e w2 ⟨rfl, hs⟩) | (refine (i_StarOf_none _ (by omega) (by assumption) (by assumption)).mono ?_; rintro e w2 ⟨rfl, hs⟩)) | (go_at_call 19; first | (refine (i_ParentOf_some _ (by omega) (by assumption) (by assumption)).mono ?_; rintro e w2 ⟨rfl, hs⟩) | (refine (i_ParentOf_none _ (by omega) (by assumption) (by assumption)).mono ?_; rintro e w2 ⟨rfl, hs⟩)))
            all_goals go_ret
            all_goals exact ⟨rfl, And.left (by assumption)⟩
  · go_enter Try.func3, Try.ntmps3
    go_wp2_with fail
    go_ret
    exact ⟨rfl, Below.refl _ _⟩

set_option maxRecDepth 100000 in
theorem lifted (os : Os) (started : os.Started) (H : Type) (enc : TypeId × Value → H) :
    ReturnsInHanded {} Try.checked os 3 .any (Rows.fnTopStarSpec.pre6 enc Try.prog Try.f3 Rows.fnTopStarRow.domain false) (Rows.fnTopStarSpec.post enc Try.prog Try.f3 false true false false) := by
  refine returnsInHanded_of_change (C := Try.checked) own started (by kernel_rfl) Try.func3
    (ChangeSpec.witness6 (enc := enc) (C := Try.checked) false ⟨#[], #[.slice none 0 0], []⟩ 8 (by kernel_rfl) (by kernel_rfl) (by kernel_rfl) (by kernel_rfl)) ?_
  intro W base args ds gs before hval0 hW hcnd _
  have hval : ∀ (j : Nat) t v, Try.f3.params[j]? = some t → args[j]? = some v → Value.okWide Try.prog W .any base t v := hval0
  have hW' := hW
  obtain ⟨p, q, hA0, hV, rfl, hfz, hnd⟩ := hW
  have hA : DataW.TrodAll enc Try.prog W 0 (fun _ => true) true Try.f3.params.toList args.toList ds p := hA0
  rw [Try.params3] at hA hval
  obtain ⟨v0, vs0, d0, ds0, p0, q0, hargs, rfl, rfl, h0, r0⟩ := trodAll_cons hA
  obtain ⟨rfl, rfl, rfl⟩ := trodAll_nil r0
  obtain rfl : args = #[v0] := by cases args; simp_all
  obtain ⟨rfl, rfl⟩ := trodVars_none hV
  obtain ⟨a0, len0, cap0, rfl⟩ := okWide_slice Try.underlying22 (hval 0 22 v0 rfl rfl)
  have k0 := h0
  have lt0 : ∀ x ∈ p0, x.block < W.heap.size := by obtain ⟨m, hm⟩ := k0; exact DataW.trod_lt m _ _ _ hm
  obtain ⟨z0, w0⟩ : ∃ zs, IsRow .u8 W a0 len0 cap0 zs := by
    obtain ⟨fuel, hf⟩ := h0
    rcases open_ints Try.underlying22 Try.underlying5 (by kernel_rfl) hf with ⟨hcs, _⟩ | ⟨x, l, c, zs, hcs, _, hl, hm, hz, _, hcell, hwz⟩
    · simp [Value.cells] at hcs
      obtain ⟨rfl, rfl, rfl⟩ := hcs
      exact ⟨[], .inl ⟨rfl, rfl, rfl, rfl⟩⟩
    · simp [Value.cells] at hcs
      obtain ⟨rfl, rfl, rfl⟩ := hcs
      exact ⟨zs, .inr ⟨_, rfl, hl, hm, by simpa using hz, hcell, hwz⟩⟩
  clear hA0 hval0
  refine (walk a0 len0 cap0 z0 W w0).mono fun e W' ⟨he, bel⟩ => ?_
  subst he
  exact ⟨_, rfl, _, _, _, [], _, [], hW', trodAll_mk1 (shut_bool Try.underlying4 _), (trodAll_cons_mk (Below.trod laidOut (by kernel_rfl) (of_decide_eq_true (by kernel_rfl)) k0 bel lt0) trodAll_mk0), rfl, bel.frame _, fun h => by cases h⟩

theorem over : Rows.fnTopStarRow.holds Try.pinned (OpenSpec.ofChange Rows.fnTopStarSpec) :=
  OpenClaim.holds_of_wide 3 Try.f3 rfl rfl rfl rfl rfl rfl rfl ⟨rfl, rfl, rfl, rfl, rfl⟩ rfl rfl rfl rfl rfl (by kernel_rfl) Try.func3 (by kernel_rfl)
    (of_decide_eq_true (by kernel_rfl)) (by unfold Func.isWrapper; first | (rw [if_pos (by decide +kernel)]; kernel_rfl) | (rw [if_neg (by decide +kernel)]; exact ⟨rfl, rfl⟩))
    (fun os started H enc _ => lifted os started H enc)

theorem proved : Rows.FnTopStarSaid := over
end Go.Proofs.Ytgieklfpdlkmjab.fnTopStar

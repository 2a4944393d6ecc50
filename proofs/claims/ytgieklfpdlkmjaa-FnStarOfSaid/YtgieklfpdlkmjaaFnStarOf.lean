/- For every input, the wildcard of a name that is drawn from it has the parent of the name, begins with a star, and is its own wildcard. -/
import Derived.Test.YtgieklfpdlkmjaaRows
import Derived.Test.YtgieklfpdlkmjaaZ
import Derived.WalkKit
import Derived.ProofKit
import Derived.OpenShut
import Derived.ShutString
import Derived.ChangeOld
import Derived.Below
namespace Go.Proofs.Ytgieklfpdlkmjaa.fnStarOf
open Go.ChangeShapes Go.WideShapes Go.ChangeAt Go.RowKit
open Go.ChangeMaps (open_string shut_string)
set_option linter.unusedVariables false

theorem own : ownKnob Try.prog.godebug = none := by kernel_rfl
theorem laidOut : laidOutB Try.prog = true := by kernel_rfl

set_option maxHeartbeats 2000000 in
theorem walk (a0 : Option Addr) (len0 cap0 : Nat) (z0 : List Int) (w : World) (w0 : IsRow .u8 w a0 len0 cap0 z0) :
    Calls Try.prog 9 #[.slice a0 len0 cap0] w fun e w' => e = .returned (.bool true) ∧ Below w.heap.size w w' := by
  have hc0 := row_cap w0
  unfold maxLen at hc0
  by_cases hb0 : len0 ≤ 1048576
  · obtain ⟨zs0, rfl, hcode0⟩ := code_of_row w0 hb0
    clear w0
    go_enter Try.func9, Try.ntmps9
    go_wp2_with fail
    refine (DrawStarOf_any _ _ zs0 w hcode0).mono ?_
    rintro e v1 ⟨a, rfl, ha, hbv1⟩
    have hs1 : Since w.heap.size w v1 := (Since.start w).next hbv1
    rcases opt_text (L := 60) (o := Z.parentOf (lst a)) (fun x hx => parentOf_len hx) with p0 | ⟨p, p0, p1⟩
    · have s0 : Z.starOf (lst a) = none := by rw [Z.starOf_eq, p0]; rfl
      go_wp2_with (first | (go_at_call 41; first | (refine (i_StarOf_some _ (by omega) (by assumption) (by assumption)).mono ?_; rintro e w2 ⟨rfl, hs⟩) | (refine (i_StarOf_none _ (by omega) (by assumption) (by assumption)).mono ?_; rintro e w2 ⟨rfl, hs⟩)) | (go_at_call 42; first | (refine (s_StarOf_some _ (by omega) (by assumption) (by assumption)).mono ?_; rintro e w2 ⟨rfl, hs⟩) | (refine (s_StarOf_none _ (by omega) (by assumption) (by assumption)).mono ?_; rintro e w2 ⟨rfl, hs⟩)) | (go_at_call 36; first | (refine (i_ParentOf_some _ (by omega) (by assumption) (by assumption)).mono ?_; rintro e w2 ⟨rfl, hs⟩) | (refine (i_ParentOf_none _ (by omega) (by assumption) (by assumption)).mono ?_; rintro e w2 ⟨rfl, hs⟩)) | (go_at_call 43; first | (refine (s_ParentOf_some _ (by omega) (by assumption) (by assumption)).mono ?_; rintro e w2 ⟨rfl, hs⟩) | (refine (s_ParentOf_none _ (by omega) (by assumption) (by assumption)).mono ?_; rintro e w2 ⟨rfl, hs⟩)))
      all_goals go_ret
      all_goals exact ⟨rfl, And.left (by assumption)⟩
    · rcases opt_text (L := 62) (o := Z.starOf (lst a)) (fun x hx => starOf_len hx) with s0 | ⟨x, s0, s1⟩
      · rw [Z.starOf_eq, p0] at s0; cases s0
      · obtain ⟨q1, q2, q3⟩ := Z.star_star s0
        have q4 : Z.parentOf (lst x) = some (lst p) := q2.trans p0
        have hx1 : 1 ≤ x.size := by
          rw [← lst_length]
          cases h : lst x with
          | nil => rw [h] at q3; cases q3
          | cons => simp
        have hx2 : (x[0].toNat : Int) = 42 := by
          have h5 : (lst x)[0]? = some 42 := by rw [← List.head?_eq_getElem?]; exact q3
          have h6 : (lst x)[0]? = some x[0] := by rw [List.getElem?_eq_getElem (by rw [lst_length]; omega)]; rfl
          rw [h6] at h5
          injection h5 with h5
          rw [h5]; rfl
        have hx3 : ((x[0].toNat : Int) == 42) = true := by rw [beq_iff_eq]; exact hx2
        clear q2 q3 hx2
        go_wp2_with (first | (go_at_call 41; first | (refine (i_StarOf_some _ (by omega) (by assumption) (by assumption)).mono ?_; rintro e w2 ⟨rfl, hs⟩) | (refine (i_StarOf_none _ (by omega) (by assumption) (by assumption)).mono ?_; rintro e w2 ⟨rfl, hs⟩)) | (go_at_call 42; first | (refine (s_StarOf_some _ (by omega) (by assumption) (by assumption)).mono ?_; rintro e w2 ⟨rfl, hs⟩) | (refine (s_StarOf_none _ (by omega) (by assumption) (by assumption)).mono ?_; rintro e w2 ⟨rfl, hs⟩)) | (go_at_call 36; first | (refine (i_ParentOf_some _ (by omega) (by assumption) (by assumption)).mono ?_; rintro e w2 ⟨rfl, hs⟩) | (refine (i_ParentOf_none _ (by omega) (by assumption) (by assumption)).mono ?_; rintro e w2 ⟨rfl, hs⟩)) | (go_at_call 43; first | (refine (s_ParentOf_some _ (by omega) (by assumption) (by assumption)).mono ?_; rintro e w2 ⟨rfl, hs⟩) | (refine (s_ParentOf_none _ (by omega) (by assumption) (by assumption)).mono ?_; rintro e w2 ⟨rfl, hs⟩)))
        all_goals go_ret
        all_goals exact ⟨rfl, And.left (by assumption)⟩
  · go_enter Try.func9, Try.ntmps9
    go_wp2_with fail
    go_ret
    exact ⟨rfl, Below.refl _ _⟩

set_option maxRecDepth 100000 in
theorem lifted (os : Os) (started : os.Started) (H : Type) (enc : TypeId × Value → H) :
    ReturnsInHanded {} Try.checked os 9 .any (Rows.fnStarOfSpec.pre6 enc Try.prog Try.f9 Rows.fnStarOfRow.domain false) (Rows.fnStarOfSpec.post enc Try.prog Try.f9 false true false false) := by
  refine returnsInHanded_of_change (C := Try.checked) own started (by kernel_rfl) Try.func9
    (ChangeSpec.witness6 (enc := enc) (C := Try.checked) false ⟨#[], #[.slice none 0 0], []⟩ 8 (by kernel_rfl) (by kernel_rfl) (by kernel_rfl) (by kernel_rfl)) ?_
  intro W base args ds gs before hval0 hW hcnd _
  have hval : ∀ (j : Nat) t v, Try.f9.params[j]? = some t → args[j]? = some v → Value.okWide Try.prog W .any base t v := hval0
  have hW' := hW
  obtain ⟨p, q, hA0, hV, rfl, hfz, hnd⟩ := hW
  have hA : DataW.TrodAll enc Try.prog W 0 (fun _ => true) true Try.f9.params.toList args.toList ds p := hA0
  rw [Try.params9] at hA hval
  obtain ⟨v0, vs0, d0, ds0, p0, q0, hargs, rfl, rfl, h0, r0⟩ := trodAll_cons hA
  obtain ⟨rfl, rfl, rfl⟩ := trodAll_nil r0
  obtain rfl : args = #[v0] := by cases args; simp_all
  obtain ⟨rfl, rfl⟩ := trodVars_none hV
  obtain ⟨a0, len0, cap0, rfl⟩ := okWide_slice Try.underlying22 (hval 0 22 v0 rfl rfl)
  have k0 := h0
  have lt0 : ∀ x ∈ p0, x.block < W.heap.size := by obtain ⟨m, hm⟩ := k0; exact DataW.trod_lt m _ _ _ hm
  obtain ⟨z0, w0⟩ : ∃ zs, IsRow .u8 W a0 len0 cap0 zs := by
    obtain ⟨fuel, hf⟩ := h0
    rcases open_ints Try.underlying22 Try.underlying5 (by kernel_rfl) hf with ⟨hcs, _⟩ | ⟨x, l, c, zs, hcs, _, hl, hm, hz, _, hcell, hwz⟩
    · simp [Value.cells] at hcs
      obtain ⟨rfl, rfl, rfl⟩ := hcs
      exact ⟨[], .inl ⟨rfl, rfl, rfl, rfl⟩⟩
    · simp [Value.cells] at hcs
      obtain ⟨rfl, rfl, rfl⟩ := hcs
      exact ⟨zs, .inr ⟨_, rfl, hl, hm, by simpa using hz, hcell, hwz⟩⟩
  clear hA0 hval0
  refine (walk a0 len0 cap0 z0 W w0).mono fun e W' ⟨he, bel⟩ => ?_
  subst he
  exact ⟨_, rfl, _, _, _, [], _, [], hW', trodAll_mk1 (shut_bool Try.underlying4 _), (trodAll_cons_mk (Below.trod laidOut (by kernel_rfl) (of_decide_eq_true (by kernel_rfl)) k0 bel lt0) trodAll_mk0), rfl, bel.frame _, fun h => by cases h⟩

theorem over : Rows.fnStarOfRow.holds Try.pinned (OpenSpec.ofChange Rows.fnStarOfSpec) :=
  OpenClaim.holds_of_wide 9 Try.f9 rfl rfl rfl rfl rfl rfl rfl ⟨rfl, rfl, rfl, rfl, rfl⟩ rfl rfl rfl rfl rfl (by kernel_rfl) Try.func9 (by kernel_rfl)
    (of_decide_eq_true (by kernel_rfl)) (by unfold Func.isWrapper; first | (rw [if_pos (by decide +kernel)]; kernel_rfl) | (rw [if_neg (by decide +kernel)]; exact ⟨rfl, rfl⟩))
    (fun os started H enc _ => lifted os started H enc)

theorem proved : Rows.FnStarOfSaid := over
end Go.Proofs.Ytgieklfpdlkmjaa.fnStarOf

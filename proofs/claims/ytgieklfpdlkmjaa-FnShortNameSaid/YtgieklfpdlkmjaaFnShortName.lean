/- For every input, no short text of a name that is drawn from it is longer than it, it is read back, and it is an at sign for the origin only. -/
import Derived.Test.YtgieklfpdlkmjaaRows
import Derived.Test.YtgieklfpdlkmjaaZ
import Derived.WalkKit
import Derived.ProofKit
import Derived.OpenShut
import Derived.ShutString
import Derived.ChangeOld
import Derived.Below
namespace Go.Proofs.Ytgieklfpdlkmjaa.fnShortName
open Go.ChangeShapes Go.WideShapes Go.ChangeAt Go.RowKit
open Go.ChangeMaps (open_string shut_string)
set_option linter.unusedVariables false

theorem own : ownKnob Try.prog.godebug = none := by kernel_rfl
theorem laidOut : laidOutB Try.prog = true := by kernel_rfl

set_option maxHeartbeats 2000000 in
theorem walk (a0 : Option Addr) (len0 cap0 : Nat) (z0 : List Int) (w : World) (w0 : IsRow .u8 w a0 len0 cap0 z0) :
    Calls Try.prog 5 #[.slice a0 len0 cap0] w fun e w' => e = .returned (.bool true) ∧ Below w.heap.size w w' := by
  have hc0 := row_cap w0
  unfold maxLen at hc0
  by_cases hb0 : len0 ≤ 1048576
  · obtain ⟨zs0, rfl, hcode0⟩ := code_of_row w0 hb0
    clear w0
    go_enter Try.func5, Try.ntmps5
    go_wp2_with fail
    refine (DrawShortName_any _ _ zs0 w hcode0).mono ?_
    rintro e v1 ⟨a, b, rfl, ha, hb, hbv1⟩
    have hs1 : Since w.heap.size w v1 := (Since.start w).next hbv1
    have HQ := hid (eq_toList a b)
    rcases opt_text (L := 60) (o := Z.shortName (lst a) (lst b)) (fun x hx => shortName_len hx) with x0 | ⟨x, x0, x1⟩
    · go_wp2_with (first | (go_at_call 27; first | (refine (i_ShortName_some _ _ (by omega) (by omega) (by assumption) (by assumption)).mono ?_; rintro e w2 ⟨rfl, hs⟩) | (refine (i_ShortName_none _ _ (by omega) (by omega) (by assumption) (by assumption)).mono ?_; rintro e w2 ⟨rfl, hs⟩)) | (go_at_call 29; first | (refine (s_ShortName_some _ _ (by omega) (by omega) (by assumption) (by assumption)).mono ?_; rintro e w2 ⟨rfl, hs⟩) | (refine (s_ShortName_none _ _ (by omega) (by omega) (by assumption) (by assumption)).mono ?_; rintro e w2 ⟨rfl, hs⟩)) | (go_at_call 25; first | (refine (i_ReadName_some _ _ (by omega) (by omega) (by assumption) (by assumption)).mono ?_; rintro e w2 ⟨rfl, hs⟩) | (refine (i_ReadName_none _ _ (by omega) (by omega) (by assumption) (by assumption)).mono ?_; rintro e w2 ⟨rfl, hs⟩)))
      all_goals go_ret
      all_goals exact ⟨rfl, And.left (by assumption)⟩
    · obtain ⟨v1, v2⟩ := Z.shortName_some x0
      obtain ⟨z, z1, z2, z3, z4, z5, z6⟩ := Z.readName_short (v1) (v2)
      rw [x0] at z1
      injection z1 with z1
      subst z1
      rw [lst_length, lst_length] at z3
      have z4' : Hid (lst x = [64] ↔ lst a = lst b) := hid z4
      have hdz : (⟨#[64]⟩ : ByteArray).size ≤ 67108864 := by decide
      clear z4 z5 z6
      by_cases hq : (a.toList == b.toList) = true
      · have hq2 : (x.toList == [64]) = true := by
          rw [HQ.out] at hq
          have := z4'.out.2 (by simpa using hq)
          rw [toList_lst]; simpa using this
        go_wp2_with (first | (go_at_call 27; first | (refine (i_ShortName_some _ _ (by omega) (by omega) (by assumption) (by assumption)).mono ?_; rintro e w2 ⟨rfl, hs⟩) | (refine (i_ShortName_none _ _ (by omega) (by omega) (by assumption) (by assumption)).mono ?_; rintro e w2 ⟨rfl, hs⟩)) | (go_at_call 29; first | (refine (s_ShortName_some _ _ (by omega) (by omega) (by assumption) (by assumption)).mono ?_; rintro e w2 ⟨rfl, hs⟩) | (refine (s_ShortName_none _ _ (by omega) (by omega) (by assumption) (by assumption)).mono ?_; rintro e w2 ⟨rfl, hs⟩)) | (go_at_call 25; first | (refine (i_ReadName_some _ _ (by omega) (by omega) (by assumption) (by assumption)).mono ?_; rintro e w2 ⟨rfl, hs⟩) | (refine (i_ReadName_none _ _ (by omega) (by omega) (by assumption) (by assumption)).mono ?_; rintro e w2 ⟨rfl, hs⟩)))
        all_goals go_ret
        all_goals exact ⟨rfl, And.left (by assumption)⟩
      · have hq1 : (a.toList == b.toList) = false := by simpa using hq
        have hq2 : (x.toList == [64]) = false := by
          rw [toList_lst]
          rw [HQ.out] at hq1
          have h3 : ¬ lst a = lst b := by simpa using hq1
          have h4 : ¬ lst x = [64] := fun e => h3 (z4'.out.1 e)
          simpa using h4
        clear hq
        go_wp2_with (first | (go_at_call 27; first | (refine (i_ShortName_some _ _ (by omega) (by omega) (by assumption) (by assumption)).mono ?_; rintro e w2 ⟨rfl, hs⟩) | (refine (i_ShortName_none _ _ (by omega) (by omega) (by assumption) (by assumption)).mono ?_; rintro e w2 ⟨rfl, hs⟩)) | (go_at_call 29; first | (refine (s_ShortName_some _ _ (by omega) (by omega) (by assumption) (by assumption)).mono ?_; rintro e w2 ⟨rfl, hs⟩) | (refine (s_ShortName_none _ _ (by omega) (by omega) (by assumption) (by assumption)).mono ?_; rintro e w2 ⟨rfl, hs⟩)) | (go_at_call 25; first | (refine (i_ReadName_some _ _ (by omega) (by omega) (by assumption) (by assumption)).mono ?_; rintro e w2 ⟨rfl, hs⟩) | (refine (i_ReadName_none _ _ (by omega) (by omega) (by assumption) (by assumption)).mono ?_; rintro e w2 ⟨rfl, hs⟩)))
        all_goals go_ret
        all_goals exact ⟨rfl, And.left (by assumption)⟩
  · go_enter Try.func5, Try.ntmps5
    go_wp2_with fail
    go_ret
    exact ⟨rfl, Below.refl _ _⟩

set_option maxRecDepth 100000 in
theorem lifted (os : Os) (started : os.Started) (H : Type) (enc : TypeId × Value → H) :
    ReturnsInHanded {} Try.checked os 5 .any (Rows.fnShortNameSpec.pre6 enc Try.prog Try.f5 Rows.fnShortNameRow.domain false) (Rows.fnShortNameSpec.post enc Try.prog Try.f5 false true false false) := by
  refine returnsInHanded_of_change (C := Try.checked) own started (by kernel_rfl) Try.func5
    (ChangeSpec.witness6 (enc := enc) (C := Try.checked) false ⟨#[], #[.slice none 0 0], []⟩ 8 (by kernel_rfl) (by kernel_rfl) (by kernel_rfl) (by kernel_rfl)) ?_
  intro W base args ds gs before hval0 hW hcnd _
  have hval : ∀ (j : Nat) t v, Try.f5.params[j]? = some t → args[j]? = some v → Value.okWide Try.prog W .any base t v := hval0
  have hW' := hW
  obtain ⟨p, q, hA0, hV, rfl, hfz, hnd⟩ := hW
  have hA : DataW.TrodAll enc Try.prog W 0 (fun _ => true) true Try.f5.params.toList args.toList ds p := hA0
  rw [Try.params5] at hA hval
  obtain ⟨v0, vs0, d0, ds0, p0, q0, hargs, rfl, rfl, h0, r0⟩ := trodAll_cons hA
  obtain ⟨rfl, rfl, rfl⟩ := trodAll_nil r0
  obtain rfl : args = #[v0] := by cases args; simp_all
  obtain ⟨rfl, rfl⟩ := trodVars_none hV
  obtain ⟨a0, len0, cap0, rfl⟩ := okWide_slice Try.underlying22 (hval 0 22 v0 rfl rfl)
  have k0 := h0
  have lt0 : ∀ x ∈ p0, x.block < W.heap.size := by obtain ⟨m, hm⟩ := k0; exact DataW.trod_lt m _ _ _ hm
  obtain ⟨z0, w0⟩ : ∃ zs, IsRow .u8 W a0 len0 cap0 zs := by
    obtain ⟨fuel, hf⟩ := h0
    rcases open_ints Try.underlying22 Try.underlying5 (by kernel_rfl) hf with ⟨hcs, _⟩ | ⟨x, l, c, zs, hcs, _, hl, hm, hz, _, hcell, hwz⟩
    · simp [Value.cells] at hcs
      obtain ⟨rfl, rfl, rfl⟩ := hcs
      exact ⟨[], .inl ⟨rfl, rfl, rfl, rfl⟩⟩
    · simp [Value.cells] at hcs
      obtain ⟨rfl, rfl, rfl⟩ := hcs
      exact ⟨zs, .inr ⟨_, rfl, hl, hm, by simpa using hz, hcell, hwz⟩⟩
  clear hA0 hval0
  refine (walk a0 len0 cap0 z0 W w0).mono fun e W' ⟨he, bel⟩ => ?_
  subst he
  exact ⟨_, rfl, _, _, _, [], _, [], hW', trodAll_mk1 (shut_bool Try.underlying4 _), (trodAll_cons_mk (Below.trod laidOut (by kernel_rfl) (of_decide_eq_true (by kernel_rfl)) k0 bel lt0) trodAll_mk0), rfl, bel.frame _, fun h => by cases h⟩

theorem over : Rows.fnShortNameRow.holds Try.pinned (OpenSpec.ofChange Rows.fnShortNameSpec) :=
  OpenClaim.holds_of_wide 5 Try.f5 rfl rfl rfl rfl rfl rfl rfl ⟨rfl, rfl, rfl, rfl, rfl⟩ rfl rfl rfl rfl rfl (by kernel_rfl) Try.func5 (by kernel_rfl)
    (of_decide_eq_true (by kernel_rfl)) (by unfold Func.isWrapper; first | (rw [if_pos (by decide +kernel)]; kernel_rfl) | (rw [if_neg (by decide +kernel)]; exact ⟨rfl, rfl⟩))
    (fun os started H enc _ => lifted os started H enc)

theorem proved : Rows.FnShortNameSaid := over
end Go.Proofs.Ytgieklfpdlkmjaa.fnShortName

/- For every input, both names that are drawn from it are below their common top, and no longer name above the first one is. -/
import Derived.Test.YtgieklfpdlkmjaaRows
import Derived.Test.YtgieklfpdlkmjaaZ
import Derived.WalkKit
import Derived.ProofKit
import Derived.OpenShut
import Derived.ShutString
import Derived.ChangeOld
import Derived.Below
namespace Go.Proofs.Ytgieklfpdlkmjaa.fnCommonTop
open Go.ChangeShapes Go.WideShapes Go.ChangeAt Go.RowKit
open Go.ChangeMaps (open_string shut_string)
set_option linter.unusedVariables false

theorem own : ownKnob Try.prog.godebug = none := by kernel_rfl
theorem laidOut : laidOutB Try.prog = true := by kernel_rfl

/-- How many labels the name in a slot has. -/
def labsOf (v : Value) : Nat := match v with
  | .string s => (Z.labs (lst s)).length
  | _ => 0

set_option maxHeartbeats 2000000 in
theorem walk (a0 : Option Addr) (len0 cap0 : Nat) (z0 : List Int) (w : World) (w0 : IsRow .u8 w a0 len0 cap0 z0) :
    Calls Try.prog 8 #[.slice a0 len0 cap0] w fun e w' => e = .returned (.bool true) ∧ Below w.heap.size w w' := by
  have hc0 := row_cap w0
  unfold maxLen at hc0
  by_cases hb0 : len0 ≤ 1048576
  · obtain ⟨zs0, rfl, hcode0⟩ := code_of_row w0 hb0
    clear w0
    go_enter Try.func8, Try.ntmps8
    go_wp2_with fail
    refine (DrawCommonTop_any _ _ zs0 w hcode0).mono ?_
    rintro e v1 ⟨a, b, rfl, ha, hb, hbv1⟩
    have hs1 : Since w.heap.size w v1 := (Since.start w).next hbv1
    rcases opt_text (L := 60) (o := Z.commonTop (lst a) (lst b)) (fun x hx => commonTop_len hx) with c0 | ⟨c, c0, c1⟩
    · have d0 : Z.commonTop (lst b) (lst a) = none := by rw [Z.commonTop_comm]; exact c0
      go_wp2_with (first | (go_at_call 38; first | (refine (i_CommonTop_some _ _ (by omega) (by omega) (by assumption) (by assumption)).mono ?_; rintro e w2 ⟨rfl, hs⟩) | (refine (i_CommonTop_none _ _ (by omega) (by omega) (by assumption) (by assumption)).mono ?_; rintro e w2 ⟨rfl, hs⟩)) | (go_at_call 39; first | (refine (s_CommonTop_some _ _ (by omega) (by omega) (by assumption) (by assumption)).mono ?_; rintro e w2 ⟨rfl, hs⟩) | (refine (s_CommonTop_none _ _ (by omega) (by omega) (by assumption) (by assumption)).mono ?_; rintro e w2 ⟨rfl, hs⟩)))
      all_goals go_ret
      all_goals exact ⟨rfl, And.left (by assumption)⟩
    · have d0 : Z.commonTop (lst b) (lst a) = some (lst c) := by rw [Z.commonTop_comm]; exact c0
      obtain ⟨v1, v2, v3, v4, v5⟩ := Z.commonTop_some c0
      have V4 := hid v4
      have V5 := hid v5
      have C0 := hid c0
      obtain ⟨b1, b2⟩ := Z.commonTop_below c0
      clear v4 v5
      go_wp2_with (first | (go_at_call 38; first | (refine (i_CommonTop_some _ _ (by omega) (by omega) (by assumption) (by assumption)).mono ?_; rintro e w2 ⟨rfl, hs⟩) | (refine (i_CommonTop_none _ _ (by omega) (by omega) (by assumption) (by assumption)).mono ?_; rintro e w2 ⟨rfl, hs⟩)) | (go_at_call 39; first | (refine (s_CommonTop_some _ _ (by omega) (by omega) (by assumption) (by assumption)).mono ?_; rintro e w2 ⟨rfl, hs⟩) | (refine (s_CommonTop_none _ _ (by omega) (by omega) (by assumption) (by assumption)).mono ?_; rintro e w2 ⟨rfl, hs⟩)))
      have hsx := hs
      clear d0 c0
      go_loopw [11] (fun v wr => ∃ x : ByteArray, v = .string x ∧ x.size ≤ 100 ∧ Hid (Z.below (lst a) (lst x) = true) ∧ Since w.heap.size w wr) (fun v _ => labsOf v)
      case atStart => exact ⟨a, rfl, by omega, hid (Z.below_self v1), hsx⟩
      case round =>
        obtain ⟨x, rfl, hx, hbx, hsw⟩ := hrel
        have vx := (Z.below_iff.1 hbx.out).2.1
        have hlong := Z.commonTop_longest C0.out hbx.out
        rw [← labels_valid vx, ← labels_valid v3] at hlong
        have HLONG := hid hlong
        clear hlong
        cases h1 : Z.below (lst b) (lst x) with
        | false =>
          have hle : (Z.labels (lst c)).length < (Z.labels (lst x)).length := by
            have := HLONG.out
            rw [h1] at this
            have h2 := of_decide_eq_false this.symm
            omega
          rcases opt_text (L := 60) (o := Z.parentOf (lst x)) (fun x hx => parentOf_len hx) with p0 | ⟨p, p0, p1⟩
          · go_wp2_with (first | (go_at_call 33; refine (i_IsBelow _ _ (by omega) (by omega) (by assumption)).mono ?_; rintro e w2 ⟨rfl, hs⟩) | (go_at_call 16; refine (i_LabelsOf _ (by omega) (by assumption)).mono ?_; rintro e w2 ⟨A, c, rfl, hown, hs, hbl⟩) | (go_at_call 36; first | (refine (i_ParentOf_some _ (by omega) (by assumption) (by assumption)).mono ?_; rintro e w2 ⟨rfl, hs⟩) | (refine (i_ParentOf_none _ (by omega) (by assumption) (by assumption)).mono ?_; rintro e w2 ⟨rfl, hs⟩)))
            all_goals go_ret
            all_goals exact ⟨rfl, And.left (by assumption)⟩
          · have hbp := hid (Z.below_trans hbx.out (Z.before_parent p0).2)
            have hlp := hid (Z.parentOf_some p0)
            go_wp2_with (first | (go_at_call 33; refine (i_IsBelow _ _ (by omega) (by omega) (by assumption)).mono ?_; rintro e w2 ⟨rfl, hs⟩) | (go_at_call 16; refine (i_LabelsOf _ (by omega) (by assumption)).mono ?_; rintro e w2 ⟨A, c, rfl, hown, hs, hbl⟩) | (go_at_call 36; first | (refine (i_ParentOf_some _ (by omega) (by assumption) (by assumption)).mono ?_; rintro e w2 ⟨rfl, hs⟩) | (refine (i_ParentOf_none _ (by omega) (by assumption) (by assumption)).mono ?_; rintro e w2 ⟨rfl, hs⟩)))
            refine ⟨⟨p, rfl, by omega, hbp, by assumption⟩, ?_⟩
            show (Z.labs (lst p)).length < (Z.labs (lst x)).length
            rw [hlp.out.2.2.2.1]
            have := List.length_pos_iff.2 hlp.out.2.2.2.2
            simp
            omega
        | true =>
          have hle : (Z.labels (lst x)).length ≤ (Z.labels (lst c)).length := by
            have := HLONG.out
            rw [h1] at this
            exact of_decide_eq_true this.symm
          rcases opt_text (L := 60) (o := Z.parentOf (lst x)) (fun x hx => parentOf_len hx) with p0 | ⟨p, p0, p1⟩
          · go_wp2_with (first | (go_at_call 33; refine (i_IsBelow _ _ (by omega) (by omega) (by assumption)).mono ?_; rintro e w2 ⟨rfl, hs⟩) | (go_at_call 16; refine (i_LabelsOf _ (by omega) (by assumption)).mono ?_; rintro e w2 ⟨A, c, rfl, hown, hs, hbl⟩) | (go_at_call 36; first | (refine (i_ParentOf_some _ (by omega) (by assumption) (by assumption)).mono ?_; rintro e w2 ⟨rfl, hs⟩) | (refine (i_ParentOf_none _ (by omega) (by assumption) (by assumption)).mono ?_; rintro e w2 ⟨rfl, hs⟩)))
            all_goals go_ret
            all_goals exact ⟨rfl, And.left (by assumption)⟩
          · have hbp := hid (Z.below_trans hbx.out (Z.before_parent p0).2)
            have hlp := hid (Z.parentOf_some p0)
            go_wp2_with (first | (go_at_call 33; refine (i_IsBelow _ _ (by omega) (by omega) (by assumption)).mono ?_; rintro e w2 ⟨rfl, hs⟩) | (go_at_call 16; refine (i_LabelsOf _ (by omega) (by assumption)).mono ?_; rintro e w2 ⟨A, c, rfl, hown, hs, hbl⟩) | (go_at_call 36; first | (refine (i_ParentOf_some _ (by omega) (by assumption) (by assumption)).mono ?_; rintro e w2 ⟨rfl, hs⟩) | (refine (i_ParentOf_none _ (by omega) (by assumption) (by assumption)).mono ?_; rintro e w2 ⟨rfl, hs⟩)))
            refine ⟨⟨p, rfl, by omega, hbp, by assumption⟩, ?_⟩
            show (Z.labs (lst p)).length < (Z.labs (lst x)).length
            rw [hlp.out.2.2.2.1]
            have := List.length_pos_iff.2 hlp.out.2.2.2.2
            simp
            omega
  · go_enter Try.func8, Try.ntmps8
    go_wp2_with fail
    go_ret
    exact ⟨rfl, Below.refl _ _⟩

set_option maxRecDepth 100000 in
theorem lifted (os : Os) (started : os.Started) (H : Type) (enc : TypeId × Value → H) :
    ReturnsInHanded {} Try.checked os 8 .any (Rows.fnCommonTopSpec.pre6 enc Try.prog Try.f8 Rows.fnCommonTopRow.domain false) (Rows.fnCommonTopSpec.post enc Try.prog Try.f8 false true false false) := by
  refine returnsInHanded_of_change (C := Try.checked) own started (by kernel_rfl) Try.func8
    (ChangeSpec.witness6 (enc := enc) (C := Try.checked) false ⟨#[], #[.slice none 0 0], []⟩ 8 (by kernel_rfl) (by kernel_rfl) (by kernel_rfl) (by kernel_rfl)) ?_
  intro W base args ds gs before hval0 hW hcnd _
  have hval : ∀ (j : Nat) t v, Try.f8.params[j]? = some t → args[j]? = some v → Value.okWide Try.prog W .any base t v := hval0
  have hW' := hW
  obtain ⟨p, q, hA0, hV, rfl, hfz, hnd⟩ := hW
  have hA : DataW.TrodAll enc Try.prog W 0 (fun _ => true) true Try.f8.params.toList args.toList ds p := hA0
  rw [Try.params8] at hA hval
  obtain ⟨v0, vs0, d0, ds0, p0, q0, hargs, rfl, rfl, h0, r0⟩ := trodAll_cons hA
  obtain ⟨rfl, rfl, rfl⟩ := trodAll_nil r0
  obtain rfl : args = #[v0] := by cases args; simp_all
  obtain ⟨rfl, rfl⟩ := trodVars_none hV
  obtain ⟨a0, len0, cap0, rfl⟩ := okWide_slice Try.underlying22 (hval 0 22 v0 rfl rfl)
  have k0 := h0
  have lt0 : ∀ x ∈ p0, x.block < W.heap.size := by obtain ⟨m, hm⟩ := k0; exact DataW.trod_lt m _ _ _ hm
  obtain ⟨z0, w0⟩ : ∃ zs, IsRow .u8 W a0 len0 cap0 zs := by
    obtain ⟨fuel, hf⟩ := h0
    rcases open_ints Try.underlying22 Try.underlying5 (by kernel_rfl) hf with ⟨hcs, _⟩ | ⟨x, l, c, zs, hcs, _, hl, hm, hz, _, hcell, hwz⟩
    · simp [Value.cells] at hcs
      obtain ⟨rfl, rfl, rfl⟩ := hcs
      exact ⟨[], .inl ⟨rfl, rfl, rfl, rfl⟩⟩
    · simp [Value.cells] at hcs
      obtain ⟨rfl, rfl, rfl⟩ := hcs
      exact ⟨zs, .inr ⟨_, rfl, hl, hm, by simpa using hz, hcell, hwz⟩⟩
  clear hA0 hval0
  refine (walk a0 len0 cap0 z0 W w0).mono fun e W' ⟨he, bel⟩ => ?_
  subst he
  exact ⟨_, rfl, _, _, _, [], _, [], hW', trodAll_mk1 (shut_bool Try.underlying4 _), (trodAll_cons_mk (Below.trod laidOut (by kernel_rfl) (of_decide_eq_true (by kernel_rfl)) k0 bel lt0) trodAll_mk0), rfl, bel.frame _, fun h => by cases h⟩

theorem over : Rows.fnCommonTopRow.holds Try.pinned (OpenSpec.ofChange Rows.fnCommonTopSpec) :=
  OpenClaim.holds_of_wide 8 Try.f8 rfl rfl rfl rfl rfl rfl rfl ⟨rfl, rfl, rfl, rfl, rfl⟩ rfl rfl rfl rfl rfl (by kernel_rfl) Try.func8 (by kernel_rfl)
    (of_decide_eq_true (by kernel_rfl)) (by unfold Func.isWrapper; first | (rw [if_pos (by decide +kernel)]; kernel_rfl) | (rw [if_neg (by decide +kernel)]; exact ⟨rfl, rfl⟩))
    (fun os started H enc _ => lifted os started H enc)

theorem proved : Rows.FnCommonTopSaid := over
end Go.Proofs.Ytgieklfpdlkmjaa.fnCommonTop

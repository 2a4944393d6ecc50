/- For every two inputs, being below is transitive for the names that are drawn from them, both ways only for equal ones, and the same as the model's. -/
import Derived.Test.YtgieklfpdlkmjaaRows
import Derived.Test.YtgieklfpdlkmjaaZ
import Derived.WalkKit
import Derived.ProofKit
import Derived.OpenShut
import Derived.ShutString
import Derived.ChangeOld
import Derived.Below
namespace Go.Proofs.Ytgieklfpdlkmjaa.fnBelowTrans
open Go.ChangeShapes Go.WideShapes Go.ChangeAt Go.RowKit
open Go.ChangeMaps (open_string shut_string)
set_option linter.unusedVariables false

theorem own : ownKnob Try.prog.godebug = none := by kernel_rfl
theorem laidOut : laidOutB Try.prog = true := by kernel_rfl

set_option maxHeartbeats 2000000 in
theorem walk (a0 : Option Addr) (len0 cap0 : Nat) (z0 : List Int) (a1 : Option Addr) (len1 cap1 : Nat) (z1 : List Int) (w : World) (w0 : IsRow .u8 w a0 len0 cap0 z0) (w1 : IsRow .u8 w a1 len1 cap1 z1) :
    Calls Try.prog 12 #[.slice a0 len0 cap0, .slice a1 len1 cap1] w fun e w' => e = .returned (.bool true) ∧ Below w.heap.size w w' := by
  have hc0 := row_cap w0
  have hc1 := row_cap w1
  unfold maxLen at hc0 hc1
  by_cases hb0 : len0 ≤ 1048576
  · by_cases hb1 : len1 ≤ 1048576
    · obtain ⟨zs0, rfl, hcode0⟩ := code_of_row w0 hb0
      obtain ⟨zs1, rfl, hcode1⟩ := code_of_row w1 hb1
      clear w0 w1
      go_enter Try.func12, Try.ntmps12
      go_wp2_with fail
      refine (DrawIsBelow_any _ _ zs0 w hcode0).mono ?_
      rintro e v1 ⟨a, b, rfl, ha, hb, hbv1⟩
      have hs1 : Since w.heap.size w v1 := (Since.start w).next hbv1
      go_wp2_with fail
      refine (DrawIsBelow_any _ _ zs1 v1 (hcode1.since hs1)).mono ?_
      rintro e v2 ⟨c, d, rfl, hc, hd, hbv2⟩
      have hs2 : Since w.heap.size w v2 := hs1.next hbv2
      have HT := hid (@Z.below_trans (lst a) (lst b) (lst d))
      have HA := hid (@Z.below_antisymm (lst a) (lst b))
      have HQ := hid (eq_toList a b)
      cases h1 : Z.below (lst a) (lst b) with
      | false =>
        cases h2 : Z.below (lst b) (lst d) with
        | false =>
          go_wp2_with (first | (go_at_call 33; refine (i_IsBelow _ _ (by omega) (by omega) (by assumption)).mono ?_; rintro e w2 ⟨rfl, hs⟩) | (go_at_call 35; refine (s_IsBelow _ _ (by omega) (by omega) (by assumption)).mono ?_; rintro e w2 ⟨rfl, hs⟩))
          all_goals go_ret
          all_goals exact ⟨rfl, And.left (by assumption)⟩
        | true =>
          go_wp2_with (first | (go_at_call 33; refine (i_IsBelow _ _ (by omega) (by omega) (by assumption)).mono ?_; rintro e w2 ⟨rfl, hs⟩) | (go_at_call 35; refine (s_IsBelow _ _ (by omega) (by omega) (by assumption)).mono ?_; rintro e w2 ⟨rfl, hs⟩))
          all_goals go_ret
          all_goals exact ⟨rfl, And.left (by assumption)⟩
      | true =>
        cases h3 : Z.below (lst b) (lst a) with
        | false =>
          cases h2 : Z.below (lst b) (lst d) with
          | false =>
            go_wp2_with (first | (go_at_call 33; refine (i_IsBelow _ _ (by omega) (by omega) (by assumption)).mono ?_; rintro e w2 ⟨rfl, hs⟩) | (go_at_call 35; refine (s_IsBelow _ _ (by omega) (by omega) (by assumption)).mono ?_; rintro e w2 ⟨rfl, hs⟩))
            all_goals go_ret
            all_goals exact ⟨rfl, And.left (by assumption)⟩
          | true =>
            have h4 := HT.out h1 h2
            go_wp2_with (first | (go_at_call 33; refine (i_IsBelow _ _ (by omega) (by omega) (by assumption)).mono ?_; rintro e w2 ⟨rfl, hs⟩) | (go_at_call 35; refine (s_IsBelow _ _ (by omega) (by omega) (by assumption)).mono ?_; rintro e w2 ⟨rfl, hs⟩))
            all_goals go_ret
            all_goals exact ⟨rfl, And.left (by assumption)⟩
        | true =>
          have hab := HA.out h1 h3
          have hq : (a.toList == b.toList) = true := by rw [HQ.out]; simpa using hab
          clear hab
          cases h2 : Z.below (lst b) (lst d) with
          | false =>
            go_wp2_with (first | (go_at_call 33; refine (i_IsBelow _ _ (by omega) (by omega) (by assumption)).mono ?_; rintro e w2 ⟨rfl, hs⟩) | (go_at_call 35; refine (s_IsBelow _ _ (by omega) (by omega) (by assumption)).mono ?_; rintro e w2 ⟨rfl, hs⟩))
            all_goals go_ret
            all_goals exact ⟨rfl, And.left (by assumption)⟩
          | true =>
            have h4 := HT.out h1 h2
            go_wp2_with (first | (go_at_call 33; refine (i_IsBelow _ _ (by omega) (by omega) (by assumption)).mono ?_; rintro e w2 ⟨rfl, hs⟩) | (go_at_call 35; refine (s_IsBelow _ _ (by omega) (by omega) (by assumption)).mono ?_; rintro e w2 ⟨rfl, hs⟩))
            all_goals go_ret
            all_goals exact ⟨rfl, And.left (by assumption)⟩
    · go_enter Try.func12, Try.ntmps12
      go_wp2_with fail
      go_ret
      exact ⟨rfl, Below.refl _ _⟩
  · go_enter Try.func12, Try.ntmps12
    go_wp2_with fail
    go_ret
    exact ⟨rfl, Below.refl _ _⟩

set_option maxRecDepth 100000 in
theorem lifted (os : Os) (started : os.Started) (H : Type) (enc : TypeId × Value → H) :
    ReturnsInHanded {} Try.checked os 12 .any (Rows.fnBelowTransSpec.pre6 enc Try.prog Try.f12 Rows.fnBelowTransRow.domain false) (Rows.fnBelowTransSpec.post enc Try.prog Try.f12 false true false false) := by
  refine returnsInHanded_of_change (C := Try.checked) own started (by kernel_rfl) Try.func12
    (ChangeSpec.witness6 (enc := enc) (C := Try.checked) false ⟨#[], #[.slice none 0 0, .slice none 0 0], []⟩ 8 (by kernel_rfl) (by kernel_rfl) (by kernel_rfl) (by kernel_rfl)) ?_
  intro W base args ds gs before hval0 hW hcnd _
  have hval : ∀ (j : Nat) t v, Try.f12.params[j]? = some t → args[j]? = some v → Value.okWide Try.prog W .any base t v := hval0
  have hW' := hW
  obtain ⟨p, q, hA0, hV, rfl, hfz, hnd⟩ := hW
  have hA : DataW.TrodAll enc Try.prog W 0 (fun _ => true) true Try.f12.params.toList args.toList ds p := hA0
  rw [Try.params12] at hA hval
  obtain ⟨v0, vs0, d0, ds0, p0, q0, hargs, rfl, rfl, h0, r0⟩ := trodAll_cons hA
  obtain ⟨v1, vs1, d1, ds1, p1, q1, rfl, rfl, rfl, h1, r1⟩ := trodAll_cons r0
  obtain ⟨rfl, rfl, rfl⟩ := trodAll_nil r1
  obtain rfl : args = #[v0, v1] := by cases args; simp_all
  obtain ⟨rfl, rfl⟩ := trodVars_none hV
  obtain ⟨a0, len0, cap0, rfl⟩ := okWide_slice Try.underlying22 (hval 0 22 v0 rfl rfl)
  have k0 := h0
  have lt0 : ∀ x ∈ p0, x.block < W.heap.size := by obtain ⟨m, hm⟩ := k0; exact DataW.trod_lt m _ _ _ hm
  obtain ⟨z0, w0⟩ : ∃ zs, IsRow .u8 W a0 len0 cap0 zs := by
    obtain ⟨fuel, hf⟩ := h0
    rcases open_ints Try.underlying22 Try.underlying5 (by kernel_rfl) hf with ⟨hcs, _⟩ | ⟨x, l, c, zs, hcs, _, hl, hm, hz, _, hcell, hwz⟩
    · simp [Value.cells] at hcs
      obtain ⟨rfl, rfl, rfl⟩ := hcs
      exact ⟨[], .inl ⟨rfl, rfl, rfl, rfl⟩⟩
    · simp [Value.cells] at hcs
      obtain ⟨rfl, rfl, rfl⟩ := hcs
      exact ⟨zs, .inr ⟨_, rfl, hl, hm, by simpa using hz, hcell, hwz⟩⟩
  obtain ⟨a1, len1, cap1, rfl⟩ := okWide_slice Try.underlying22 (hval 1 22 v1 rfl rfl)
  have k1 := h1
  have lt1 : ∀ x ∈ p1, x.block < W.heap.size := by obtain ⟨m, hm⟩ := k1; exact DataW.trod_lt m _ _ _ hm
  obtain ⟨z1, w1⟩ : ∃ zs, IsRow .u8 W a1 len1 cap1 zs := by
    obtain ⟨fuel, hf⟩ := h1
    rcases open_ints Try.underlying22 Try.underlying5 (by kernel_rfl) hf with ⟨hcs, _⟩ | ⟨x, l, c, zs, hcs, _, hl, hm, hz, _, hcell, hwz⟩
    · simp [Value.cells] at hcs
      obtain ⟨rfl, rfl, rfl⟩ := hcs
      exact ⟨[], .inl ⟨rfl, rfl, rfl, rfl⟩⟩
    · simp [Value.cells] at hcs
      obtain ⟨rfl, rfl, rfl⟩ := hcs
      exact ⟨zs, .inr ⟨_, rfl, hl, hm, by simpa using hz, hcell, hwz⟩⟩
  clear hA0 hval0
  refine (walk a0 len0 cap0 z0 a1 len1 cap1 z1 W w0 w1).mono fun e W' ⟨he, bel⟩ => ?_
  subst he
  exact ⟨_, rfl, _, _, _, [], _, [], hW', trodAll_mk1 (shut_bool Try.underlying4 _), (trodAll_cons_mk (Below.trod laidOut (by kernel_rfl) (of_decide_eq_true (by kernel_rfl)) k0 bel lt0) (trodAll_cons_mk (Below.trod laidOut (by kernel_rfl) (of_decide_eq_true (by kernel_rfl)) k1 bel lt1) trodAll_mk0)), rfl, bel.frame _, fun h => by cases h⟩

theorem over : Rows.fnBelowTransRow.holds Try.pinned (OpenSpec.ofChange Rows.fnBelowTransSpec) :=
  OpenClaim.holds_of_wide 12 Try.f12 rfl rfl rfl rfl rfl rfl rfl ⟨rfl, rfl, rfl, rfl, rfl⟩ rfl rfl rfl rfl rfl (by kernel_rfl) Try.func12 (by kernel_rfl)
    (of_decide_eq_true (by kernel_rfl)) (by unfold Func.isWrapper; first | (rw [if_pos (by decide +kernel)]; kernel_rfl) | (rw [if_neg (by decide +kernel)]; exact ⟨rfl, rfl⟩))
    (fun os started H enc _ => lifted os started H enc)

theorem proved : Rows.FnBelowTransSaid := over
end Go.Proofs.Ytgieklfpdlkmjaa.fnBelowTrans

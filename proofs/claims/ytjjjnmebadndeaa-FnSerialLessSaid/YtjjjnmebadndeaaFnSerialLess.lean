/- For every input, of the two serials that are drawn from it at most one is earlier than the other, and none only if they are equal or half of all apart; the order is the model's. -/
import Derived.Test.YtjjjnmebadndeaaRows
import Derived.Test.YtjjjnmebadndeaaVb
import Derived.WalkKit
import Derived.ProofKit
import Derived.OpenShut
import Derived.ShutString
import Derived.ChangeOld
import Derived.Below
namespace Go.Proofs.Ytjjjnmebadndeaa.fnSerialLess
open Go.ChangeShapes Go.WideShapes Go.ChangeAt Go.RowKit
open Go.ChangeMaps (open_string shut_string)
set_option linter.unusedVariables false

theorem own : ownKnob Try.prog.godebug = none := by kernel_rfl
theorem laidOut : laidOutB Try.prog = true := by kernel_rfl

set_option maxHeartbeats 16000000 in
theorem walk (a0 : Option Addr) (len0 cap0 : Nat) (z0 : List Int) (w : World) (w0 : IsRow .u8 w a0 len0 cap0 z0) :
    Calls Try.prog 4 #[.slice a0 len0 cap0] w fun e w' => e = .returned (.bool true) ∧ Below w.heap.size w w' := by
  have hc0 := row_cap w0
  unfold maxLen at hc0
  by_cases hb0 : len0 ≤ 1048576
  · obtain ⟨zs0, rfl, hcode0⟩ := code_of_row w0 hb0
    clear w0
    go_enter Try.func4, Try.ntmps4
    go_wp2_with fail
    refine (DrawSerialLess_any _ _ zs0 w hcode0).mono ?_
    rintro e v1 ⟨a, s, rfl, ha0, ha1, hs0, hs1, hbv1⟩
    by_cases h : (0 ≤ a ∧ a ≤ 4294967295) ∧ (0 ≤ s ∧ s ≤ 4294967295)
    · obtain ⟨⟨p1, p2⟩, p3, p4⟩ := h
      have d1 : IntKind.i64.wrap (a - s) = a - s := IntWalk.i64_in _ (by omega)
      have d2 : IntKind.i64.wrap (s - a) = s - a := IntWalk.i64_in _ (by omega)
      by_cases he : a = s ∨ a - s = 2147483648 ∨ s - a = 2147483648
      · have X := hid (hid (show lessB a s = false by unfold lessB; rw [decide_eq_false_iff_not]; omega))
        have Y := hid (hid (show lessB s a = false by unfold lessB; rw [decide_eq_false_iff_not]; omega))
        have HE := hid he
        rcases he with he | he | he
        · subst he
          go_wp2_with fail
          refine (iSerialLess_v a a false X.out _).mono ?_
          rintro e w' ⟨rfl, rfl⟩
          go_wp2_with fail
          refine (iSerialLess_v a a false Y.out _).mono ?_
          rintro e w' ⟨rfl, rfl⟩
          go_wp2_with fail
          refine (SerialLess_v a a false X.out _).mono ?_
          rintro e w' ⟨rfl, rfl⟩
          go_wp2_with fail
          all_goals go_ret
          all_goals exact ⟨by first | rfl | exact ret_bool (by have h9 := HE.out; simp; omega), hbv1⟩
        · have hne : (a == s) = false := by rw [beq_eq_false_iff_ne]; omega
          have hz : (a - s == 2147483648) = true := by rw [beq_iff_eq]; exact he
          clear he
          go_wp2_with fail
          refine (iSerialLess_v a s false X.out _).mono ?_
          rintro e w' ⟨rfl, rfl⟩
          go_wp2_with fail
          refine (iSerialLess_v s a false Y.out _).mono ?_
          rintro e w' ⟨rfl, rfl⟩
          go_wp2_with fail
          refine (SerialLess_v a s false X.out _).mono ?_
          rintro e w' ⟨rfl, rfl⟩
          go_wp2_with fail
          all_goals go_ret
          all_goals exact ⟨by first | rfl | exact ret_bool (by have h9 := HE.out; simp; omega), hbv1⟩
        · have hne : (a == s) = false := by rw [beq_eq_false_iff_ne]; omega
          have hy : (a - s == 2147483648) = false := by rw [beq_eq_false_iff_ne]; omega
          have hz : (s - a == 2147483648) = true := by rw [beq_iff_eq]; exact he
          clear he
          go_wp2_with fail
          refine (iSerialLess_v a s false X.out _).mono ?_
          rintro e w' ⟨rfl, rfl⟩
          go_wp2_with fail
          refine (iSerialLess_v s a false Y.out _).mono ?_
          rintro e w' ⟨rfl, rfl⟩
          go_wp2_with fail
          refine (SerialLess_v a s false X.out _).mono ?_
          rintro e w' ⟨rfl, rfl⟩
          go_wp2_with fail
          all_goals go_ret
          all_goals exact ⟨by first | rfl | exact ret_bool (by have h9 := HE.out; simp; omega), hbv1⟩
      · have HE := hid he
        have hne : (a == s) = false := by rw [beq_eq_false_iff_ne]; omega
        have hy : (a - s == 2147483648) = false := by rw [beq_eq_false_iff_ne]; omega
        have hz : (s - a == 2147483648) = false := by rw [beq_eq_false_iff_ne]; omega
        by_cases hx : (s - a + 4294967296) % 4294967296 ≤ 2147483647
        · have X := hid (hid (show lessB a s = true by unfold lessB; rw [decide_eq_true_iff]; omega))
          have Y := hid (hid (show lessB s a = false by unfold lessB; rw [decide_eq_false_iff_not]; omega))
          clear hx he
          go_wp2_with fail
          refine (iSerialLess_v a s true X.out _).mono ?_
          rintro e w' ⟨rfl, rfl⟩
          go_wp2_with fail
          refine (iSerialLess_v s a false Y.out _).mono ?_
          rintro e w' ⟨rfl, rfl⟩
          go_wp2_with fail
          refine (SerialLess_v a s true X.out _).mono ?_
          rintro e w' ⟨rfl, rfl⟩
          go_wp2_with fail
          all_goals go_ret
          all_goals exact ⟨by first | rfl | exact ret_bool (by have h9 := HE.out; simp; omega), hbv1⟩
        · have X := hid (hid (show lessB a s = false by unfold lessB; rw [decide_eq_false_iff_not]; omega))
          have Y := hid (hid (show lessB s a = true by unfold lessB; rw [decide_eq_true_iff]; omega))
          clear hx he
          go_wp2_with fail
          refine (iSerialLess_v a s false X.out _).mono ?_
          rintro e w' ⟨rfl, rfl⟩
          go_wp2_with fail
          refine (iSerialLess_v s a true Y.out _).mono ?_
          rintro e w' ⟨rfl, rfl⟩
          go_wp2_with fail
          refine (SerialLess_v a s false X.out _).mono ?_
          rintro e w' ⟨rfl, rfl⟩
          go_wp2_with fail
          all_goals go_ret
          all_goals exact ⟨by first | rfl | exact ret_bool (by have h9 := HE.out; simp; omega), hbv1⟩
    · have X := hid (hid (lessB_no h))
      have Y := hid (hid (lessB_no (fun hh => h ⟨hh.2, hh.1⟩)))
      have h4 : a < 0 ∨ 0 ≤ a ∧ 4294967295 < a ∨ 0 ≤ a ∧ a ≤ 4294967295 ∧ s < 0 ∨ 0 ≤ a ∧ a ≤ 4294967295 ∧ 0 ≤ s ∧ 4294967295 < s := by omega
      clear h
      rcases h4 with h4 | ⟨h4, h5⟩ | ⟨h4, h5, h6⟩ | ⟨h4, h5, h6, h7⟩
      all_goals
        go_wp2_with fail
        refine (iSerialLess_v a s false X.out _).mono ?_
        rintro e w' ⟨rfl, rfl⟩
        go_wp2_with fail
        refine (iSerialLess_v s a false Y.out _).mono ?_
        rintro e w' ⟨rfl, rfl⟩
        go_wp2_with fail
        refine (SerialLess_v a s false X.out _).mono ?_
        rintro e w' ⟨rfl, rfl⟩
        go_wp2_with fail
        all_goals go_ret
        all_goals exact ⟨by first | rfl | exact ret_bool (by have h9 := HE.out; simp; omega), hbv1⟩
  · go_enter Try.func4, Try.ntmps4
    go_wp2_with fail
    go_ret
    exact ⟨rfl, Below.refl _ _⟩

set_option maxRecDepth 100000 in
theorem lifted (os : Os) (started : os.Started) (H : Type) (enc : TypeId × Value → H) :
    ReturnsInHanded {} Try.checked os 4 .any (Rows.fnSerialLessSpec.pre6 enc Try.prog Try.f4 Rows.fnSerialLessRow.domain false) (Rows.fnSerialLessSpec.post enc Try.prog Try.f4 false true false false) := by
  refine returnsInHanded_of_change (C := Try.checked) own started (by kernel_rfl) Try.func4
    (ChangeSpec.witness6 (enc := enc) (C := Try.checked) false ⟨#[], #[.slice none 0 0], []⟩ 8 (by kernel_rfl) (by kernel_rfl) (by kernel_rfl) (by kernel_rfl)) ?_
  intro W base args ds gs before hval0 hW hcnd _
  have hval : ∀ (j : Nat) t v, Try.f4.params[j]? = some t → args[j]? = some v → Value.okWide Try.prog W .any base t v := hval0
  have hW' := hW
  obtain ⟨p, q, hA0, hV, rfl, hfz, hnd⟩ := hW
  have hA : DataW.TrodAll enc Try.prog W 0 (fun _ => true) true Try.f4.params.toList args.toList ds p := hA0
  rw [Try.params4] at hA hval
  obtain ⟨v0, vs0, d0, ds0, p0, q0, hargs, rfl, rfl, h0, r0⟩ := trodAll_cons hA
  obtain ⟨rfl, rfl, rfl⟩ := trodAll_nil r0
  obtain rfl : args = #[v0] := by cases args; simp_all
  obtain ⟨rfl, rfl⟩ := trodVars_none hV
  obtain ⟨a0, len0, cap0, rfl⟩ := okWide_slice Try.underlying22 (hval 0 22 v0 rfl rfl)
  have k0 := h0
  have lt0 : ∀ x ∈ p0, x.block < W.heap.size := by obtain ⟨m, hm⟩ := k0; exact DataW.trod_lt m _ _ _ hm
  obtain ⟨z0, w0⟩ : ∃ zs, IsRow .u8 W a0 len0 cap0 zs := by
    obtain ⟨fuel, hf⟩ := h0
    rcases open_ints Try.underlying22 Try.underlying5 (by kernel_rfl) hf with ⟨hcs, _⟩ | ⟨x, l, c, zs, hcs, _, hl, hm, hz, _, hcell, hwz⟩
    · simp [Value.cells] at hcs
      obtain ⟨rfl, rfl, rfl⟩ := hcs
      exact ⟨[], .inl ⟨rfl, rfl, rfl, rfl⟩⟩
    · simp [Value.cells] at hcs
      obtain ⟨rfl, rfl, rfl⟩ := hcs
      exact ⟨zs, .inr ⟨_, rfl, hl, hm, by simpa using hz, hcell, hwz⟩⟩
  clear hA0 hval0
  refine (walk a0 len0 cap0 z0 W w0).mono fun e W' ⟨he, bel⟩ => ?_
  subst he
  exact ⟨_, rfl, _, _, _, [], _, [], hW', trodAll_mk1 (shut_bool Try.underlying4 _), (trodAll_cons_mk (Below.trod laidOut (by kernel_rfl) (of_decide_eq_true (by kernel_rfl)) k0 bel lt0) trodAll_mk0), rfl, bel.frame _, fun h => by cases h⟩

theorem over : Rows.fnSerialLessRow.holds Try.pinned (OpenSpec.ofChange Rows.fnSerialLessSpec) :=
  OpenClaim.holds_of_wide 4 Try.f4 rfl rfl rfl rfl rfl rfl rfl ⟨rfl, rfl, rfl, rfl, rfl⟩ rfl rfl rfl rfl rfl (by kernel_rfl) Try.func4 (by kernel_rfl)
    (of_decide_eq_true (by kernel_rfl)) (by unfold Func.isWrapper; first | (rw [if_pos (by decide +kernel)]; kernel_rfl) | (rw [if_neg (by decide +kernel)]; exact ⟨rfl, rfl⟩))
    (fun os started H enc _ => lifted os started H enc)

theorem proved : Rows.FnSerialLessSaid := over
end Go.Proofs.Ytjjjnmebadndeaa.fnSerialLess

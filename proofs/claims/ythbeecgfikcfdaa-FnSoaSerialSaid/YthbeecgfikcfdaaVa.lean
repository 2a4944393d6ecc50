/- What SerialAdd and SerialLess of program and model return, and what their draws return. -/
import Derived.Test.YthbeecgfikcfdaaIa
namespace Go.Proofs.Ythbeecgfikcfdaa
open Go.RowKit
set_option maxRecDepth 100000
set_option linter.unusedVariables false

/-- Is a number a serial? -/
def serB (n : Int) : Bool := decide (0 ≤ n ∧ n ≤ 4294967295)
/-- Is a serial earlier than another one? -/
def lessB (a b : Int) : Bool := decide ((0 ≤ a ∧ a ≤ 4294967295) ∧ (0 ≤ b ∧ b ≤ 4294967295) ∧ a ≠ b ∧ (b - a + 4294967296) % 4294967296 ≤ 2147483647)

set_option maxHeartbeats 400000 in
theorem isSerial_any (n : Int) (w : World) :
    Calls Try.prog 18 #[.int .i64 n] w fun e w' => e = .returned (.bool (serB n)) ∧ w = w' := by
  go_enter Try.func18, Try.ntmps18
  go_wp2_with (go_at_call 19; refine (isWithin_any _ _ _).mono ?_; rintro e w' ⟨rfl, rfl⟩)
  all_goals go_ret
  all_goals exact ⟨ret_bool (by unfold within serB; rw [Bool.eq_iff_iff]; simp), rfl⟩

set_option maxHeartbeats 400000 in
theorem l7Serial_any (n : Int) (w : World) :
    Calls Try.prog 20 #[.int .i64 n] w fun e w' => e = .returned (.bool (serB n)) ∧ w = w' := by
  go_enter Try.func20, Try.ntmps20
  go_wp2
  all_goals go_ret
  all_goals exact ⟨ret_bool (by unfold serB; rw [Bool.eq_iff_iff]; simp; try omega), rfl⟩

theorem serB_yes {n : Int} (h0 : 0 ≤ n) (h1 : n ≤ 4294967295) : serB n = true := by unfold serB; simp; omega
theorem serB_no {n : Int} (h : ¬ (0 ≤ n ∧ n ≤ 4294967295)) : serB n = false := by unfold serB; simpa using h
def addsB (a s : Int) : Bool := decide ((0 ≤ a ∧ a ≤ 4294967295) ∧ (0 ≤ s ∧ s ≤ 2147483647))

set_option maxHeartbeats 400000 in
theorem iSerialAdd_yes (a s : Int) (ha : 0 ≤ a) (ha' : a ≤ 4294967295) (hs : 0 ≤ s) (hs' : s ≤ 2147483647) (w : World) :
    Calls Try.prog 7 #[.int .i64 a, .int .i64 s] w fun e w' => e = .returned (.tuple #[.int .i64 ((a + s) % 4294967296), .bool true]) ∧ w = w' := by
  have h1 := serB_yes ha ha'
  have h2 : within s 2147483647 = true := by unfold within; simp; omega
  go_enter Try.func7, Try.ntmps7
  go_wp2_with (first | (go_at_call 18; refine (isSerial_any _ _).mono ?_; rintro e w' ⟨rfl, rfl⟩) | (go_at_call 19; refine (isWithin_any _ _ _).mono ?_; rintro e w' ⟨rfl, rfl⟩))
  all_goals go_ret2
  all_goals exact ⟨rfl, rfl⟩

set_option maxHeartbeats 400000 in
theorem iSerialAdd_no (a s : Int) (h : ¬ ((0 ≤ a ∧ a ≤ 4294967295) ∧ (0 ≤ s ∧ s ≤ 2147483647))) (w : World) :
    Calls Try.prog 7 #[.int .i64 a, .int .i64 s] w fun e w' => e = .returned (.tuple #[.int .i64 0, .bool false]) ∧ w = w' := by
  by_cases h0 : 0 ≤ a ∧ a ≤ 4294967295
  · have h1 := serB_yes h0.1 h0.2
    have h2 : within s 2147483647 = false := by unfold within; rw [Bool.eq_false_iff]; simp; omega
    clear h h0
    go_enter Try.func7, Try.ntmps7
    go_wp2_with (first | (go_at_call 18; refine (isSerial_any _ _).mono ?_; rintro e w' ⟨rfl, rfl⟩) | (go_at_call 19; refine (isWithin_any _ _ _).mono ?_; rintro e w' ⟨rfl, rfl⟩))
    all_goals go_ret2
    all_goals exact ⟨rfl, rfl⟩
  · have h1 := serB_no h0
    clear h h0
    go_enter Try.func7, Try.ntmps7
    go_wp2_with (first | (go_at_call 18; refine (isSerial_any _ _).mono ?_; rintro e w' ⟨rfl, rfl⟩) | (go_at_call 19; refine (isWithin_any _ _ _).mono ?_; rintro e w' ⟨rfl, rfl⟩))
    all_goals go_ret2
    all_goals exact ⟨rfl, rfl⟩

set_option maxHeartbeats 400000 in
theorem SerialAdd_yes (a s : Int) (ha : 0 ≤ a) (ha' : a ≤ 4294967295) (hs : 0 ≤ s) (hs' : s ≤ 2147483647) (w : World) :
    Calls Try.prog 8 #[.int .i64 a, .int .i64 s] w fun e w' => e = .returned (.tuple #[.int .i64 ((a + s) % 4294967296), .bool true]) ∧ w = w' := by
  have h1 := serB_yes ha ha'
  go_enter Try.func8, Try.ntmps8
  go_wp2_with (go_at_call 20; refine (l7Serial_any _ _).mono ?_; rintro e w' ⟨rfl, rfl⟩)
  all_goals go_ret2
  all_goals exact ⟨rfl, rfl⟩

set_option maxHeartbeats 400000 in
theorem SerialAdd_no (a s : Int) (h : ¬ ((0 ≤ a ∧ a ≤ 4294967295) ∧ (0 ≤ s ∧ s ≤ 2147483647))) (w : World) :
    Calls Try.prog 8 #[.int .i64 a, .int .i64 s] w fun e w' => e = .returned (.tuple #[.int .i64 0, .bool false]) ∧ w = w' := by
  by_cases h0 : 0 ≤ a ∧ a ≤ 4294967295
  · have h1 := serB_yes h0.1 h0.2
    have h2 : s < 0 ∨ 0 ≤ s ∧ 2147483647 < s := by omega
    clear h h0
    rcases h2 with h2 | ⟨h3, h2⟩
    all_goals
      go_enter Try.func8, Try.ntmps8
      go_wp2_with (go_at_call 20; refine (l7Serial_any _ _).mono ?_; rintro e w' ⟨rfl, rfl⟩)
      all_goals go_ret2
      all_goals exact ⟨rfl, rfl⟩
  · have h1 := serB_no h0
    clear h h0
    go_enter Try.func8, Try.ntmps8
    go_wp2_with (go_at_call 20; refine (l7Serial_any _ _).mono ?_; rintro e w' ⟨rfl, rfl⟩)
    all_goals go_ret2
    all_goals exact ⟨rfl, rfl⟩

theorem lessB_no {a b : Int} (h : ¬ ((0 ≤ a ∧ a ≤ 4294967295) ∧ (0 ≤ b ∧ b ≤ 4294967295))) : lessB a b = false := by
  unfold lessB
  rw [decide_eq_false_iff_not]
  exact fun ⟨h1, h2, _⟩ => h ⟨h1, h2⟩
theorem lessB_self (a : Int) : lessB a a = false := by
  unfold lessB
  rw [decide_eq_false_iff_not]
  exact fun ⟨_, _, h, _⟩ => h rfl

theorem iSerialAdd_n (a s n : Int) (hn : Hid (n = (a + s) % 4294967296)) (ha : 0 ≤ a) (ha' : a ≤ 4294967295) (hs : 0 ≤ s) (hs' : s ≤ 2147483647) (w : World) :
    Calls Try.prog 7 #[.int .i64 a, .int .i64 s] w fun e w' => e = .returned (.tuple #[.int .i64 n, .bool true]) ∧ w = w' := by
  rw [hn.out]; exact iSerialAdd_yes a s ha ha' hs hs' w
theorem SerialAdd_n (a s n : Int) (hn : Hid (n = (a + s) % 4294967296)) (ha : 0 ≤ a) (ha' : a ≤ 4294967295) (hs : 0 ≤ s) (hs' : s ≤ 2147483647) (w : World) :
    Calls Try.prog 8 #[.int .i64 a, .int .i64 s] w fun e w' => e = .returned (.tuple #[.int .i64 n, .bool true]) ∧ w = w' := by
  rw [hn.out]; exact SerialAdd_yes a s ha ha' hs hs' w
end Go.Proofs.Ythbeecgfikcfdaa

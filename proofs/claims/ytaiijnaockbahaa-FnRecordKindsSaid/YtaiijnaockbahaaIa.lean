/- What the small functions of the program's chapter 2 return: numbers within limits, lists of numbers. -/
import Derived.Test.YtaiijnaockbahaaX
import Derived.Test.YtaiijnaockbahaaMb
import Derived.Handy
import Derived.Deep.QuietTactic
namespace Go.Proofs.Ytaiijnaockbahaa
open Go.RowKit
set_option maxRecDepth 100000
set_option linter.unusedVariables false

def iv (z : Int) : Value := .int .i64 z
theorem reads_int {w : World} {B n k : Nat} {A : Option Addr} {zs : List Int} (h : Reads w B A n (zs.map iv)) (hk : k < n) :
    ∃ ad, A = some ad ∧ ad.block < B ∧ w.cell? (ad.add k) = some (.int .i64 (zs.getD k 0)) := by
  obtain ⟨ad, u, e, hb, hx, hc⟩ := h.at_ hk
  have hl : k < zs.length := by have := h.1; simp at this; omega
  rw [List.getElem?_map, List.getElem?_eq_getElem hl] at hx
  simp only [Option.map_some, Option.some.injEq] at hx
  subst hx
  exact ⟨ad, e, hb, by rw [hc]; simp [hl, iv]⟩
theorem reads_len {w : World} {B n : Nat} {A : Option Addr} {zs : List Int} (h : Reads w B A n (zs.map iv)) : zs.length = n := by simpa using h.1

def within (x m : Int) : Bool := decide (0 ≤ x) && decide (x ≤ m)
set_option maxHeartbeats 400000 in
theorem isWithin_any (x m : Int) (w : World) :
    Calls Try.prog 45 #[.int .i64 x, .int .i64 m] w fun e w' => e = .returned (.bool (within x m)) ∧ w = w' := by
  go_enter Try.func45, Try.ntmps45
  go_wp2
  all_goals go_ret
  all_goals exact ⟨ret_bool (by unfold within; rw [Bool.eq_iff_iff]; simp; try omega), rfl⟩

def allUpTo (zs : List Int) (m : Int) (k : Nat) : Prop := ∀ j, j < k → within (zs.getD j 0) m = true
theorem allUpTo_succ {zs : List Int} {m : Int} {k : Nat} (h : allUpTo zs m k) (hk : within (zs.getD k 0) m = true) : allUpTo zs m (k + 1) := fun j hj => by
  rcases Nat.lt_or_ge j k with h1 | h1
  · exact h j h1
  · have : j = k := by omega
    subst this; exact hk
theorem all_within {zs : List Int} {m : Int} (h : allUpTo zs m zs.length) : zs.all (within · m) = true := by
  rw [List.all_eq_true]
  intro x hx
  obtain ⟨j, hj, rfl⟩ := List.getElem_of_mem hx
  have := h j hj
  simpa [hj] using this
theorem not_all_within {zs : List Int} {m : Int} {k : Nat} (hk : k < zs.length) (h : within (zs.getD k 0) m = false) : zs.all (within · m) = false := by
  rw [Bool.eq_false_iff]
  intro ha
  rw [List.all_eq_true] at ha
  have := ha zs[k] (List.getElem_mem _)
  have e : zs.getD k 0 = zs[k] := by simp [hk]
  rw [e, this] at h
  cases h

set_option maxHeartbeats 400000 in
theorem allWithin_any (zs : List Int) (B : Nat) (A : Option Addr) (n c : Nat) (m : Int) (w : World) (hr : Reads w B A n (zs.map iv)) (hn : n ≤ 67108864) :
    Calls Try.prog 95 #[.slice A n c, .int .i64 m] w fun e w' => e = .returned (.bool (zs.all (within · m))) ∧ w = w' := by
  have hlen := hid (reads_len hr)
  go_enter Try.func95, Try.ntmps95
  go_wp2
  go_loop [9] (fun i => ∃ k : Nat, k ≤ n ∧ i = .int .i64 k ∧ Hid (allUpTo zs m k)) (fun i => n - (intOf i).toNat)
  case atStart => exact ⟨0, Nat.zero_le _, rfl, hid (fun j hj => absurd hj (by omega))⟩
  case round =>
    obtain ⟨k, hk, rfl, hok⟩ := hrel
    by_cases hlt : k < n
    · obtain ⟨ad, rfl, hab, hcell⟩ := reads_int hr hlt
      go_wp2_with (go_at_call 45; refine (isWithin_any _ _ _).mono ?_; rintro e w' ⟨rfl, rfl⟩)
      · have hb : (!within (zs.getD k 0) m) = true := by assumption
        go_ret
        exact ⟨ret_bool (not_all_within (by rw [hlen.out]; exact hlt) (by simpa using hb)).symm, rfl⟩
      · have hb : (!within (zs.getD k 0) m) = false := by assumption
        exact ⟨⟨k + 1, by omega, by go_num, hid (allUpTo_succ hok.out (by simpa using hb))⟩, by simp [intOf]; omega⟩
    · have hks : k = n := by omega
      have hall : Hid (zs.all (within · m) = true) := hid (all_within (by rw [hlen.out, ← hks]; exact hok.out))
      clear hks
      go_wp2
      go_ret
      exact ⟨ret_bool hall.out.symm, rfl⟩

def okC (x : Int) : Bool := decide (32 ≤ x) && decide (x ≤ 126) && !(x == 34) && !(x == 92)
theorem okC_byte (c : UInt8) : okC c.toNat = Z.okChar c := by
  unfold okC Z.okChar
  rw [Bool.eq_iff_iff]
  simp only [Bool.and_eq_true, decide_eq_true_eq, Bool.not_eq_true', beq_eq_false_iff_ne, bne_iff_ne, ne_eq, UInt8.le_iff_toNat_le, ← UInt8.toNat_inj]
  simp
  omega
set_option maxHeartbeats 400000 in
theorem isTextByte_any (x : Int) (w : World) :
    Calls Try.prog 104 #[.int .u8 x] w fun e w' => e = .returned (.bool (okC x)) ∧ w = w' := by
  go_enter Try.func104, Try.ntmps104
  go_wp2
  all_goals go_ret
  all_goals exact ⟨ret_bool (by unfold okC; rw [Bool.eq_iff_iff]; simp; try omega), rfl⟩

/-! ### lists of numbers -/

def sameTo (xs ys : List Int) (k : Nat) : Prop := ∀ j, j < k → xs.getD j 0 = ys.getD j 0
theorem sameTo_succ {xs ys : List Int} {k : Nat} (h : sameTo xs ys k) (hk : xs.getD k 0 = ys.getD k 0) : sameTo xs ys (k + 1) := fun j hj => by
  rcases Nat.lt_or_ge j k with h1 | h1
  · exact h j h1
  · have : j = k := by omega
    subst this; exact hk
theorem sameTo_eq {xs ys : List Int} (hl : xs.length = ys.length) (h : sameTo xs ys xs.length) : xs = ys := by
  apply List.ext_getElem hl
  intro j h1 h2
  have := h j h1
  simpa [h1, h2] using this
theorem ne_of_getD {xs ys : List Int} {k : Nat} (h : xs.getD k 0 ≠ ys.getD k 0) : xs ≠ ys := fun e => h (by rw [e])

set_option maxHeartbeats 400000 in
theorem slicesEqual_any (xs ys : List Int) (B B' : Nat) (A A' : Option Addr) (n c n' c' : Nat) (w : World) (hx : Reads w B A n (xs.map iv)) (hy : Reads w B' A' n' (ys.map iv))
    (hn : n ≤ 67108864) (hn' : n' ≤ 67108864) :
    Calls Try.prog 28 #[.slice A n c, .slice A' n' c'] w fun e w' => e = .returned (.bool (decide (xs = ys))) ∧ Below w.heap.size w w' := by
  have hl1 := hid (reads_len hx)
  have hl2 := hid (reads_len hy)
  by_cases hnn : n = n'
  · subst hnn
    go_enter Try.func28, Try.ntmps28
    go_wp2
    go_loopw [13] (fun i wr => ∃ (k nq : Nat), k ≤ n ∧ i = .int .i64 k ∧ wr = w.drewN nq ∧ Hid (sameTo xs ys k)) (fun i _ => n - (intOf i).toNat)
    case atStart => exact ⟨0, 0, Nat.zero_le _, rfl, rfl, hid (fun j hj => absurd hj (by omega))⟩
    case round =>
      obtain ⟨k, nq, hk, rfl, rfl, hok⟩ := hrel
      by_cases hlt : k < n
      · obtain ⟨ad2, rfl, hab2, hcell2⟩ := reads_int hy hlt
        obtain ⟨ad1, rfl, hab1, hcell1⟩ := reads_int hx hlt
        go_wp2_with fail
        go_quiet (fail)
        go_wp2
        · have hne : (!xs.getD k 0 == ys.getD k 0) = true := by assumption
          go_ret
          exact ⟨ret_bool (by rw [decide_eq_false (ne_of_getD (by simpa using hne))]), by repeat (first | exact Below.refl _ _ | refine below_drewN ?_ _)⟩
        · have heq : (!xs.getD k 0 == ys.getD k 0) = false := by assumption
          exact ⟨⟨k + 1, _, by omega, by go_num, rfl, hid (sameTo_succ hok.out (by simpa using heq))⟩, by simp [intOf]; omega⟩
      · have hks : k = n := by omega
        have hall : Hid (xs = ys) := hid (sameTo_eq (by rw [hl1.out, hl2.out]) (by rw [hl1.out, ← hks]; exact hok.out))
        clear hks
        go_wp2
        go_ret
        exact ⟨ret_bool (by rw [decide_eq_true hall.out]), by repeat (first | exact Below.refl _ _ | refine below_drewN ?_ _)⟩
  · have hne : Hid (¬ xs = ys) := hid (fun e => hnn (by rw [← hl1.out, ← hl2.out, e]))
    go_enter Try.func28, Try.ntmps28
    go_wp2
    go_ret
    exact ⟨ret_bool (by rw [decide_eq_false hne.out]), Below.refl _ _⟩
end Go.Proofs.Ytaiijnaockbahaa

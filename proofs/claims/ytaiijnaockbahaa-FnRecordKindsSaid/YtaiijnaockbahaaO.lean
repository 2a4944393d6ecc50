/- What the functions of the program's chapter 1 return: names that are read below an origin, and short names. -/
import Derived.Test.YtaiijnaockbahaaK
namespace Go.Proofs.Ytaiijnaockbahaa
open Go.RowKit
set_option maxRecDepth 100000

/-! ### the common ends of two lists -/

set_option maxHeartbeats 1000000 in
theorem commonEnd_any (xs ys : List Z.Str) (B : Nat) (A A2 : Option Addr) (n m c c2 : Nat) (w : World) (hr1 : Reads w B A n (xs.map sv)) (hr2 : Reads w B A2 m (ys.map sv)) (hx : xs.length ≤ 67108864) (hy : ys.length ≤ 67108864) :
    Calls Try.prog 27 #[.slice A n c, .slice A2 m c2] w fun e w' => e = .returned (.int .i64 (Z.sameEnds xs ys : Nat)) ∧ ∃ q, w' = w.drewN q := by
  obtain rfl : n = xs.length := by simpa using hr1.1.symm
  obtain rfl : m = ys.length := by simpa using hr2.1.symm
  go_enter Try.func27, Try.ntmps27
  go_wp2_with fail
  go_loopw [5] (fun i wr => ∃ (k nq : Nat), k ≤ xs.length ∧ k ≤ ys.length ∧ i = .int .i64 k ∧ wr = w.drewN nq ∧ Hid (ComSame xs ys k)) (fun i _ => ys.length - (intOf i).toNat)
  case atStart => exact ⟨0, 0, Nat.zero_le _, Nat.zero_le _, rfl, rfl, hid (comSame_start _ _)⟩
  case round =>
    obtain ⟨k, nq, hk1, hk2, rfl, rfl, hok⟩ := hrel
    by_cases hlt1 : k < xs.length
    · by_cases hlt2 : k < ys.length
      · obtain ⟨ad1, x, rfl, hab1, hx2, hcell1⟩ := reads_end hr1 hlt1
        obtain ⟨ad2, y, rfl, hab2, hy2, hcell2⟩ := reads_end hr2 hlt2
        have Hx := hid hx2
        have Hy := hid hy2
        clear hx2 hy2
        have p1 : 0 ≤ (xs.length : Int) - 1 - k := by omega
        have p2 : 0 ≤ (ys.length : Int) - 1 - k := by omega
        have q1 : (xs.length : Int) - 1 - k < xs.length := by omega
        have q2 : (ys.length : Int) - 1 - k < ys.length := by omega
        have e1 : IntKind.i64.wrap ((xs.length : Int) - 1) = (xs.length : Int) - 1 := IntWalk.i64_in _ (by omega)
        have e2 : IntKind.i64.wrap ((xs.length : Int) - 1 - k) = (xs.length : Int) - 1 - k := IntWalk.i64_in _ (by omega)
        have e3 : IntKind.i64.wrap ((ys.length : Int) - 1) = (ys.length : Int) - 1 := IntWalk.i64_in _ (by omega)
        have e4 : IntKind.i64.wrap ((ys.length : Int) - 1 - k) = (ys.length : Int) - 1 - k := IntWalk.i64_in _ (by omega)
        have f1 : ((xs.length : Int) - 1 - k).toNat = xs.length - (k + 1) := by omega
        have f2 : ((ys.length : Int) - 1 - k).toNat = ys.length - (k + 1) := by omega
        go_wp2_with fail
        go_quiet (fail)
        clear e1 e2 e3 e4 f1 f2 p1 p2 q1 q2
        go_wp2_with fail
        · have hq : (x.toList == y.toList) = true := by assumption
          rw [toList_lst, toList_lst] at hq
          exact ⟨⟨k + 1, _, by omega, by omega, by go_num, rfl, hid (comSame_next hok.out hlt1 hlt2 (by rw [← Hx.out, ← Hy.out]; simpa using hq))⟩, by simp [intOf]; omega⟩
        · have hq' : (x.toList == y.toList) = false := by assumption
          have hsame := hid (comSame_ne hok.out hlt1 hlt2 (by rw [← Hx.out, ← Hy.out]; rw [toList_lst, toList_lst] at hq'; simpa using hq'))
          go_ret
          exact ⟨ret_int (by rw [hsame.out]), ⟨_, World.drewN_drewN _ _ _⟩⟩
      · have hd2 : decide (k < ys.length) = false := by simpa using hlt2
        go_wp2_with fail
        have hsame := hid (comSame_end hok.out (Or.inr (by omega)))
        go_quiet (fail)
        go_wp2_with fail
        go_ret
        exact ⟨ret_int (by rw [hsame.out]), ⟨_, World.drewN_drewN _ _ _⟩⟩
    · have hd1 : decide (k < xs.length) = false := by simpa using hlt1
      go_wp2_with fail
      have hsame := hid (comSame_end hok.out (Or.inl (by omega)))
      go_quiet (fail)
      go_wp2_with fail
      go_ret
      exact ⟨ret_int (by rw [hsame.out]), ⟨_, World.drewN_drewN _ _ _⟩⟩
end Go.Proofs.Ytaiijnaockbahaa

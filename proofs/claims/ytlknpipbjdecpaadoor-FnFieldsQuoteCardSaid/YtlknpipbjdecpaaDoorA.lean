/- What the helpers of the laws return: marks in a list of texts, and equal lists. -/
import Derived.Test.YtlknpipbjdecpaaDoorZ
namespace Go.Proofs.YtlknpipbjdecpaaDoor
open Go.RowKit
set_option maxRecDepth 100000

set_option maxHeartbeats 1000000 in
theorem zfTexts_any (xs ys : List Z.Str) (B : Nat) (A A2 : Option Addr) (n m c c2 : Nat) (w : World) (hr1 : Reads w B A n (xs.map sv)) (hr2 : Reads w B A2 m (ys.map sv)) (hx : xs.length ≤ 67108864) (_hy : ys.length ≤ 67108864) :
    Calls Tryd.prog 13 #[.slice A n c, .slice A2 m c2] w fun e w' => e = .returned (.bool (decide (xs = ys))) ∧ ∃ q, w' = w.drewN q := by
  obtain rfl : n = xs.length := by simpa using hr1.1.symm
  obtain rfl : m = ys.length := by simpa using hr2.1.symm
  by_cases hl : xs.length = ys.length
  · have hlb : ((xs.length : Int) != (ys.length : Int)) = false := by rw [hl]; simp
    have HL := hid hl
    clear hl
    go_enter Tryd.func13, Tryd.ntmps13
    go_wp2_with fail
    go_loopw [5] (fun i wr => ∃ (k nq : Nat), k ≤ xs.length ∧ i = .int .i64 k ∧ wr = w.drewN nq ∧ Hid (∀ j, j < k → xs.getD j [] = ys.getD j [])) (fun i _ => xs.length - (intOf i).toNat)
    case atStart => exact ⟨0, 0, Nat.zero_le _, rfl, rfl, hid (fun j hj => absurd hj (by omega))⟩
    case round =>
      obtain ⟨k, nq, hk, rfl, rfl, hok⟩ := hrel
      by_cases hlt : k < xs.length
      · have hlt2 : k < ys.length := by have := HL.out; omega
        obtain ⟨ad1, x, rfl, hab1, hx2, hcell1⟩ := reads_str hr1 hlt
        obtain ⟨ad2, y, rfl, hab2, hy2, hcell2⟩ := reads_str hr2 hlt2
        have Hx := hid hx2
        have Hy := hid hy2
        clear hx2 hy2
        have p1 : 0 ≤ (k : Int) := by omega
        have q1 : (k : Int) < xs.length := by omega
        have q2 : (k : Int) < ys.length := by omega
        go_wp2_with fail
        go_quiet (fail)
        go_wp2_with fail
        · have hne : (!x.toList == y.toList) = true := by assumption
          go_ret
          refine ⟨ret_bool ?_, ⟨_, World.drewN_drewN _ _ _⟩⟩
          have h3 : xs ≠ ys := fun e => by
            rw [e, ← Hy.out] at Hx
            have := Hx.out
            rw [toList_lst, toList_lst, this] at hne
            simp at hne
          simp [h3]
        · have heq : (!x.toList == y.toList) = false := by assumption
          refine ⟨⟨k + 1, _, by omega, by go_num, rfl, hid fun j hj => ?_⟩, by simp [intOf]; omega⟩
          rcases Nat.lt_or_ge j k with h1 | h1
          · exact hok.out j h1
          · obtain rfl : j = k := by omega
            rw [← Hx.out, ← Hy.out]
            rw [toList_lst, toList_lst] at heq
            simpa using heq
      · have hfin : Hid (xs = ys) := hid (by
          apply List.ext_getElem HL.out
          intro j h1 h2
          have := hok.out j (by omega)
          simpa [h1, h2] using this)
        go_wp2_with fail
        go_ret
        exact ⟨ret_bool (by simp [hfin.out]), ⟨_, rfl⟩⟩
  · have hlb : ((xs.length : Int) != (ys.length : Int)) = true := by rw [bne_iff_ne]; omega
    have hne : Hid (xs ≠ ys) := hid (fun e => hl (by rw [e]))
    clear hl
    go_enter Tryd.func13, Tryd.ntmps13
    go_wp2_with fail
    go_ret
    exact ⟨ret_bool (by simp [hne.out]), ⟨0, rfl⟩⟩
end Go.Proofs.YtlknpipbjdecpaaDoor

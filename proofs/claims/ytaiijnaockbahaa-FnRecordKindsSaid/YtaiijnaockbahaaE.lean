/- What the draws of chapter 1 return: some texts of a bounded length. -/
import Derived.Test.YtaiijnaockbahaaD
namespace Go.Proofs.Ytaiijnaockbahaa
open Go.RowKit
set_option maxRecDepth 100000

/-- A new row reads as what was put into it. -/
theorem reads_alloc (w : World) (xs : List Value) (t : TypeId) : Reads (w.alloc (.cells xs.toArray t)) (w.heap.size + 1) (some ⟨w.heap.size, 0, none⟩) xs.length xs := by
  refine ⟨rfl, fun _ => ⟨_, rfl, by show w.heap.size < _; omega, fun j u hu => ?_⟩⟩
  have e2 : (⟨w.heap.size, 0, none⟩ : Addr).add j = ⟨w.heap.size, j, none⟩ := by unfold Addr.add; split <;> simp_all
  rw [e2]
  have : (w.alloc (.cells xs.toArray t)).heap[w.heap.size]? = some (.cells xs.toArray t) := by
    show (w.heap.push _)[w.heap.size]? = _
    simp
  rw [cell_of_row _ _ j _ t (0, 0) this]
  simpa using hu
theorem reads_list (w : World) (ls : List Z.Str) (t : TypeId) : Reads (w.alloc (.cells (ls.map sv).toArray t)) (w.heap.size + 1) (some ⟨w.heap.size, 0, none⟩) ls.length (ls.map sv) := by
  have := reads_alloc w (ls.map sv) t
  rwa [List.length_map] at this

set_option maxHeartbeats 1000000 in
theorem of_any (g p L B : Nat) (A : Option Addr) (n c : Nat) (ls : List Z.Str) (w : World) (hr : Rd w g p) (hp : p ≤ 1000000) (hrd : Reads w B A n (ls.map sv)) (hB : B ≤ w.heap.size) (hn1 : 1 ≤ n) (hn2 : n ≤ 1048576) (hA : ∀ ad, A = some ad → ad.block ≠ g) (hl : ∀ l ∈ ls, l.length ≤ L) :
    Calls Try.prog 53 #[.pointer (some ⟨g, 0, none⟩), .slice A n c] w fun e w' => ∃ s : ByteArray, e = .returned (.string s) ∧ s.size ≤ L ∧ Rd w' g (p + 1) ∧ But g w w' := by
  obtain rfl : n = ls.length := by simpa using hrd.1.symm
  have HL := hid hl
  have HA := hid hA
  clear hl hA
  go_enter Try.func53, Try.ntmps53
  go_wp2_with fail
  refine (pick_any g p _ w hr hp (by omega) (by omega)).mono ?_
  rintro e w1 ⟨i, rfl, hi0, hi1, hr1, hb1⟩
  obtain ⟨k, rfl⟩ := Int.eq_ofNat_of_zero_le hi0
  have hk : k < ls.length := by omega
  obtain ⟨ad, x, rfl, hab, hx, hcell⟩ := reads_str (hb1.reads hrd hB (fun _ => HA.out)) hk
  have hxl : x.size ≤ L := by
    rw [← lst_length, hx]
    exact HL.out _ (by simp [hk])
  clear hx
  go_wp2_with fail
  go_ret
  exact ⟨x, rfl, hxl, hr1, hb1⟩

def wordList : List Z.Str := [[98, 46], [97, 46, 98, 46], [119, 119, 119, 46, 97, 46, 98, 46], [42, 46, 97, 46, 98, 46], [110, 115, 46, 98, 46], [109, 97, 105, 108, 46, 97, 46, 98, 46], [46], [120, 46, 119, 119, 119, 46, 97, 46, 98, 46], [99, 46], [115, 117, 98, 46, 97, 46, 98, 46], [122, 46, 98, 46], [110, 115, 46, 115, 117, 98, 46, 97, 46, 98, 46]]
theorem wordList_len : wordList.length = 12 := rfl
theorem wordList_le : ∀ l ∈ wordList, l.length ≤ 12 := by decide

set_option maxHeartbeats 1000000 in
theorem l1Words_any (w : World) :
    Calls Try.prog 65 #[] w fun e w' => e = .returned (.slice (some ⟨w.heap.size, 0, none⟩) 12 12) ∧ w' = w.alloc (.cells (wordList.map sv).toArray 9) := by
  go_enter Try.func65, Try.ntmps65
  go_wp2
  go_ret
  exact ⟨rfl, rfl⟩

set_option maxHeartbeats 1000000 in
theorem l1Name_any (g p : Nat) (w : World) (hr : Rd w g p) (hp : p ≤ 1000000) :
    Calls Try.prog 56 #[.pointer (some ⟨g, 0, none⟩)] w fun e w' => ∃ s : ByteArray, e = .returned (.string s) ∧ s.size ≤ 12 ∧ Rd w' g (p + 1) ∧ But g w w' := by
  have hgl := hr.lt
  have hr2 := hr.but ((Below.refl _ _).alloc (Nat.le_refl _) (.cells (wordList.map sv).toArray 9))
  have hrd := reads_list w wordList 9
  have hb0 := (But.refl g w).alloc (.cells (wordList.map sv).toArray 9)
  obtain ⟨W, hW⟩ : ∃ W, W = w.alloc (.cells (wordList.map sv).toArray 9) := ⟨_, rfl⟩
  have hWs : w.heap.size + 1 ≤ W.heap.size := by rw [hW]; simp
  have HW := hid hW
  rw [← hW] at hr2 hrd hb0
  clear hW
  go_enter Try.func56, Try.ntmps56
  go_wp2_with fail
  refine (l1Words_any w).mono ?_
  rintro e w1 ⟨rfl, hw1⟩
  rw [← HW.out] at hw1
  subst hw1
  go_wp2_with fail
  refine (of_any g p 12 _ _ 12 12 wordList _ hr2 hp hrd hWs (by omega) (by omega) (fun ad e => by injection e with e; subst e; show w.heap.size ≠ g; omega) wordList_le).mono ?_
  rintro e w2 ⟨s, rfl, hs, hr3, hb3⟩
  go_wp2_with fail
  go_ret
  exact ⟨s, rfl, hs, hr3, hb0.trans hb3⟩
end Go.Proofs.Ytaiijnaockbahaa

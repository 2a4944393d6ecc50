/- What the draws of chapter 1 return: some texts of a bounded length. -/
import Derived.Test.YtaiijnaockbahaaE
namespace Go.Proofs.Ytaiijnaockbahaa
open Go.RowKit
set_option maxRecDepth 100000

theorem extract_le (s : ByteArray) (a b : Nat) : (s.extract a b).size ≤ s.size := by simp [ByteArray.size_extract]; omega
theorem bend_size (s x : ByteArray) (k j L : Nat) (hk : k ≤ s.size) (hj : k ≤ j) (hx : x.size ≤ L) : (s.extract 0 k ++ x ++ s.extract j s.size).size ≤ s.size + L := by
  simp [ByteArray.size_append, ByteArray.size_extract]; omega

/-- A new row as an argument: facts of the world with it, in one place. -/
theorem with_row {w : World} {g p : Nat} (hr : Rd w g p) (ls : List Z.Str) (t : TypeId) :
    Rd (w.alloc (.cells (ls.map sv).toArray t)) g p ∧ Reads (w.alloc (.cells (ls.map sv).toArray t)) (w.heap.size + 1) (some ⟨w.heap.size, 0, none⟩) ls.length (ls.map sv) ∧
      But g w (w.alloc (.cells (ls.map sv).toArray t)) ∧ w.heap.size + 1 ≤ (w.alloc (.cells (ls.map sv).toArray t)).heap.size ∧ ∀ ad : Addr, some (⟨w.heap.size, 0, none⟩ : Addr) = some ad → ad.block ≠ g := by
  have hgl := hr.lt
  refine ⟨hr.but ((Below.refl _ _).alloc (Nat.le_refl _) _), reads_list w ls t, (But.refl g w).alloc _, by simp, fun ad e => ?_⟩
  injection e with e
  subst e
  show w.heap.size ≠ g
  omega

set_option maxHeartbeats 1000000 in
theorem l13Open_any (A : Option Addr) (c : Nat) (zs : List UInt8) (w : World) (hz : zs.length ≤ 1048576) (hc : zs.length ≤ c) (hcm : c ≤ maxLen) (hrd : Reads w w.heap.size A zs.length (zs.map bv)) :
    Calls Try.prog 35 #[.slice A zs.length c] w fun e w' => e = .returned (.pointer (some ⟨w.heap.size, 0, none⟩)) ∧ Rd w' w.heap.size 0 ∧ Below w.heap.size w w' := by
  unfold maxLen at hcm
  by_cases h : zs.length ≤ 2000
  · go_enter Try.func35, Try.ntmps35
    go_wp2
    go_ret
    refine ⟨rfl, ⟨A, c, zs, h, ?_, hrd.keep fun q hq => World.cell?_alloc_lt w _ q (by omega)⟩, (Below.refl _ _).alloc (Nat.le_refl _) _⟩
    exact heap_alloc_new w _
  · have ht : (zs.take 2000).length = 2000 := by rw [List.length_take]; omega
    have hrt : Reads w w.heap.size A 2000 ((zs.take 2000).map bv) := by
      refine ⟨by simp; omega, fun _ => ?_⟩
      obtain ⟨ad, e, hb, hcell⟩ := hrd.2 (by omega)
      refine ⟨ad, e, hb, fun j u hu => hcell j u ?_⟩
      rw [List.map_take, List.getElem?_take] at hu
      split at hu
      · exact hu
      · cases hu
    have Ht := hid ht
    have Hrt := hid hrt
    clear ht hrt
    go_enter Try.func35, Try.ntmps35
    go_wp2
    go_ret
    refine ⟨rfl, ⟨A, c, zs.take 2000, by rw [Ht.out]; omega, ?_, ?_⟩, (Below.refl _ _).alloc (Nat.le_refl _) _⟩
    · rw [Ht.out]; exact heap_alloc_new w _
    · rw [Ht.out]; exact Hrt.out.keep fun q hq => World.cell?_alloc_lt w _ q (by omega)
end Go.Proofs.Ytaiijnaockbahaa

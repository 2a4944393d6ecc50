/- What the draws of chapter 1 return: some texts of a bounded length. -/
import Derived.Test.YtdaekcpjkfencaaDoorE
namespace Go.Proofs.YtdaekcpjkfencaaDoor
open Go.RowKit
set_option maxRecDepth 100000

theorem extract_le (s : ByteArray) (a b : Nat) : (s.extract a b).size ≤ s.size := by simp [ByteArray.size_extract]; omega
theorem bend_size (s x : ByteArray) (k j L : Nat) (hk : k ≤ s.size) (hj : k ≤ j) (hx : x.size ≤ L) : (s.extract 0 k ++ x ++ s.extract j s.size).size ≤ s.size + L := by
  simp [ByteArray.size_append, ByteArray.size_extract]; omega

set_option maxHeartbeats 2000000 in
theorem l1Bend_any (g p L B : Nat) (A : Option Addr) (n c : Nat) (ls : List Z.Str) (s : ByteArray) (w : World) (hr : Rd w g p) (hp : p + 4 ≤ 1000000) (hrd : Reads w B A n (ls.map sv)) (hB : B ≤ w.heap.size) (hn1 : 1 ≤ n) (hn2 : n ≤ 1048576)
    (hA : ∀ ad, A = some ad → ad.block ≠ g) (hl : ∀ l ∈ ls, l.length ≤ L) (hs : s.size ≤ 1000) (hL : L ≤ 1000) :
    Calls Tryd.prog 27 #[.pointer (some ⟨g, 0, none⟩), .string s, .slice A n c] w fun e w' => ∃ (x : ByteArray) (q : Nat), e = .returned (.string x) ∧ x.size ≤ s.size + L ∧ q ≤ p + 4 ∧ Rd w' g q ∧ But g w w' := by
  have HL := hid hl
  have HA := hid hA
  clear hl hA
  by_cases h0 : s.size = 0
  · have h1 : ((s.size : Int) == 0) = true := by simp [h0]
    go_enter Tryd.func27, Tryd.ntmps27
    go_wp2_with fail
    go_ret
    exact ⟨s, p, rfl, by omega, by omega, hr, But.refl _ _⟩
  · have h1 : ((s.size : Int) == 0) = false := by rw [beq_eq_false_iff_ne]; omega
    clear h0
    go_enter Tryd.func27, Tryd.ntmps27
    go_wp2_with fail
    refine (pick_any g p _ w hr (by omega) (by omega) (by omega)).mono ?_
    rintro e w1 ⟨i, rfl, hi0, hi1, hr1, hb1⟩
    have hrd1 := hb1.reads hrd hB (fun _ => HA.out)
    have hB1 : B ≤ w1.heap.size := by have := hb1.size; omega
    have hsz : 1 ≤ (s.size : Int) := by have : ¬ (s.size : Int) = 0 := by simpa using h1
                                        omega
    by_cases hi : i = 0
    · subst hi
      go_wp2_with fail
      go_ret
      exact ⟨s, _, rfl, by omega, by omega, hr1, hb1⟩
    · have hi' : (i == 0) = false := by simpa using hi
      clear hi
      go_wp2_with fail
      refine (pick_any g (p + 1) _ w1 hr1 (by omega) (by omega) (by omega)).mono ?_
      rintro e w2 ⟨i2, rfl, hj0, hj1, hr2, hb2⟩
      obtain ⟨k, rfl⟩ := Int.eq_ofNat_of_zero_le hj0
      have hk : k < s.size := by omega
      have hrd2 := hb2.reads hrd1 hB1 (fun _ => HA.out)
      have hB2 : B ≤ w2.heap.size := by have := hb2.size; omega
      go_wp2_with fail
      go_region_with (first | (go_at_call 28; refine (of_any g (p + 1 + 1) L B A n c ls _ (by exact hr2) (by omega) (by exact hrd2) (by exact hB2) hn1 hn2 HA.out HL.out).mono ?_; rintro e w3 ⟨x, rfl, hx, hr3, hb3⟩; have a1 : ∀ W : World, (Op.stringOp .add (s.extract 0 k) x).run Tryd.prog W = .ok (.string (s.extract 0 k ++ x)) W := (fun W => run_string_add_sum W _ _ (by have := extract_le s 0 k; omega))) | (go_at_call 47; refine (pick_any g (p + 1 + 1 + 1) 2 _ (by exact hr3) (by omega) (by omega) (by omega)).mono ?_; rintro e w4 ⟨i3, rfl, hm0, hm1, hr4, hb4⟩; obtain ⟨j, rfl⟩ := Int.eq_ofNat_of_zero_le hm0; have b1 : IntKind.i64.wrap ((k : Int) + (j : Int)) = (k : Int) + (j : Int) := IntWalk.i64_in _ (by omega); have b2 : 0 ≤ (k : Int) + (j : Int) := (by omega); have b3 : (k : Int) + (j : Int) ≤ (s.size : Int) := (by omega); have b4 : ((k : Int) + (j : Int)).toNat = k + j := (by omega); have a2 : ∀ W : World, (Op.stringOp .add (s.extract 0 k ++ x) (s.extract (k + j) s.size)).run Tryd.prog W = .ok (.string (s.extract 0 k ++ x ++ s.extract (k + j) s.size)) W := (fun W => run_string_add_sum W _ _ (by have := extract_le s 0 k; have := extract_le s (k + j) s.size; rw [ByteArray.size_append]; omega))))
      all_goals
        go_wp2_with fail
        go_ret
        exact ⟨_, _, rfl, bend_size s x k (k + j) L (by omega) (by omega) hx, (by omega), hr4, (by first | exact ((hb1.trans hb2).drew.trans hb3).trans hb4 | exact ((hb1.trans hb2).trans hb3).trans hb4 | exact ((hb1.trans hb2).drew.trans hb3).drew.trans hb4)⟩

/-- A new row as an argument: facts of the world with it, in one place. -/
theorem with_row {w : World} {g p : Nat} (hr : Rd w g p) (ls : List Z.Str) (t : TypeId) :
    Rd (w.alloc (.cells (ls.map sv).toArray t)) g p ∧ Reads (w.alloc (.cells (ls.map sv).toArray t)) (w.heap.size + 1) (some ⟨w.heap.size, 0, none⟩) ls.length (ls.map sv) ∧
      But g w (w.alloc (.cells (ls.map sv).toArray t)) ∧ w.heap.size + 1 ≤ (w.alloc (.cells (ls.map sv).toArray t)).heap.size ∧ ∀ ad : Addr, some (⟨w.heap.size, 0, none⟩ : Addr) = some ad → ad.block ≠ g := by
  have hgl := hr.lt
  refine ⟨hr.but ((Below.refl _ _).alloc (Nat.le_refl _) _), reads_list w ls t, (But.refl g w).alloc _, by simp, fun ad e => ?_⟩
  injection e with e
  subst e
  show w.heap.size ≠ g
  omega

set_option maxHeartbeats 1000000 in
theorem l13Open_any (A : Option Addr) (c : Nat) (zs : List UInt8) (w : World) (hz : zs.length ≤ 1048576) (hc : zs.length ≤ c) (hcm : c ≤ maxLen) (hrd : Reads w w.heap.size A zs.length (zs.map bv)) :
    Calls Tryd.prog 23 #[.slice A zs.length c] w fun e w' => e = .returned (.pointer (some ⟨w.heap.size, 0, none⟩)) ∧ Rd w' w.heap.size 0 ∧ Below w.heap.size w w' := by
  unfold maxLen at hcm
  by_cases h : zs.length ≤ 2000
  · go_enter Tryd.func23, Tryd.ntmps23
    go_wp2
    go_ret
    refine ⟨rfl, ⟨A, c, zs, h, ?_, hrd.keep fun q hq => World.cell?_alloc_lt w _ q (by omega)⟩, (Below.refl _ _).alloc (Nat.le_refl _) _⟩
    exact heap_alloc_new w _
  · have ht : (zs.take 2000).length = 2000 := by rw [List.length_take]; omega
    have hrt : Reads w w.heap.size A 2000 ((zs.take 2000).map bv) := by
      refine ⟨by simp; omega, fun _ => ?_⟩
      obtain ⟨ad, e, hb, hcell⟩ := hrd.2 (by omega)
      refine ⟨ad, e, hb, fun j u hu => hcell j u ?_⟩
      rw [List.map_take, List.getElem?_take] at hu
      split at hu
      · exact hu
      · cases hu
    have Ht := hid ht
    have Hrt := hid hrt
    clear ht hrt
    go_enter Tryd.func23, Tryd.ntmps23
    go_wp2
    go_ret
    refine ⟨rfl, ⟨A, c, zs.take 2000, by rw [Ht.out]; omega, ?_, ?_⟩, (Below.refl _ _).alloc (Nat.le_refl _) _⟩
    · rw [Ht.out]; exact heap_alloc_new w _
    · rw [Ht.out]; exact Hrt.out.keep fun q hq => World.cell?_alloc_lt w _ q (by omega)
end Go.Proofs.YtdaekcpjkfencaaDoor

/- What the draws return: some texts of a bounded length; the source of draws is a block of the call's own. What the draws of chapter 1 return: some texts of a bounded length. What the draws of chapter 1 return: some texts of a bounded length. What the draws of chapter 1 return. -/
import Derived.Test.YtjjjnmebadndeaaS
namespace Go.Proofs.Ytjjjnmebadndeaa
open Go.RowKit
set_option maxRecDepth 100000

theorem xor_i64 (a b : Nat) (ha : a < 1099511627776) (hb : b < 1099511627776) : bits .xor .i64 (a : Int) (b : Int) = ((a ^^^ b : Nat) : Int) ∧ a ^^^ b < 1099511627776 := by
  have hx : a ^^^ b < 2 ^ 40 := Nat.xor_lt_two_pow (by omega) (by omega)
  have h1 : (BitVec.ofInt 64 (a : Int)).toNat = a := by
    rw [BitVec.ofInt_natCast, BitVec.toNat_ofNat]; exact Nat.mod_eq_of_lt (by omega)
  have h2 : (BitVec.ofInt 64 (b : Int)).toNat = b := by
    rw [BitVec.ofInt_natCast, BitVec.toNat_ofNat]; exact Nat.mod_eq_of_lt (by omega)
  refine ⟨?_, hx⟩
  show IntKind.i64.wrap ((BitVec.ofInt 64 (a : Int) ^^^ BitVec.ofInt 64 (b : Int)).toNat : Int) = _
  rw [BitVec.toNat_xor, h1, h2]
  exact IntWalk.i64_in _ (by omega)

theorem xor_mod (x m : Int) (h0 : 0 ≤ x) (h1 : x < 1099511627776) (hm : 1 ≤ m) : 0 ≤ (bits .xor .i64 x (x / 64)).tmod m ∧ (bits .xor .i64 x (x / 64)).tmod m < m := by
  obtain ⟨n, rfl⟩ := Int.eq_ofNat_of_zero_le h0
  have hd : ((n : Int) / 64) = ((n / 64 : Nat) : Int) := by simp
  rw [hd, (xor_i64 n (n / 64) (by omega) (by omega)).1, Int.tmod_eq_emod_of_nonneg (by omega)]
  exact ⟨Int.emod_nonneg _ (by omega), Int.emod_lt_of_pos _ (by omega)⟩

/-- All blocks but one are as they were. -/
structure But (g : Nat) (w w' : World) : Prop where
  os : w'.os = w.os
  tape : w'.tape = w.tape
  output : w'.output = w.output
  size : w.heap.size ≤ w'.heap.size
  block : ∀ k, k < w.heap.size → k ≠ g → w'.heap[k]? = w.heap[k]?
theorem But.refl (g : Nat) (w : World) : But g w w := ⟨rfl, rfl, rfl, Nat.le_refl _, fun _ _ _ => rfl⟩
theorem But.trans {g : Nat} {a b c : World} (h : But g a b) (k : But g b c) : But g a c :=
  ⟨k.os.trans h.os, k.tape.trans h.tape, k.output.trans h.output, Nat.le_trans h.size k.size, fun i hi hg => (k.block i (Nat.lt_of_lt_of_le hi h.size) hg).trans (h.block i hi hg)⟩
theorem But.drewN {g : Nat} {a b : World} (h : But g a b) (n : Nat) : But g a (b.drewN n) := ⟨h.os, h.tape, h.output, h.size, h.block⟩
theorem But.drew {g : Nat} {a b : World} (h : But g a b) : But g a b.drew := ⟨h.os, h.tape, h.output, h.size, h.block⟩
theorem But.alloc {g : Nat} {a b : World} (h : But g a b) (o : Obj) : But g a (b.alloc o) :=
  ⟨h.os, h.tape, h.output, by have := h.size; simp; omega, fun k hk hg => (Below.heap_alloc b o k (by have := h.size; omega)).trans (h.block k hk hg)⟩
theorem But.setCell {g : Nat} {a b : World} (h : But g a b) (o : Nat) (u : Value) : But g a (b.setCell ⟨g, o, none⟩ u) :=
  ⟨h.os, h.tape, h.output, by have := h.size; simp [World.setCell]; omega, fun k hk hg => (Below.heap_setCell b ⟨g, o, none⟩ u k hg).trans (h.block k hk hg)⟩
theorem But.below {g B : Nat} {a b : World} (h : But g a b) (hB : B ≤ g) (hg : B ≤ a.heap.size) : Below B a b :=
  ⟨h.os, h.tape, h.output, h.size, fun k hk => h.block k (by omega) (by omega)⟩
theorem But.of_below {g : Nat} {a b : World} (h : Below a.heap.size a b) : But g a b := ⟨h.os, h.tape, h.output, h.size, fun k hk _ => h.block k hk⟩
theorem But.reads {g B n : Nat} {a b : World} {A : Option Addr} {xs : List Value} (h : But g a b) (hr : Reads a B A n xs) (hB : B ≤ a.heap.size) (hA : 0 < n → ∀ ad, A = some ad → ad.block ≠ g) : Reads b B A n xs :=
  ⟨hr.1, fun hn => by
    obtain ⟨ad, e, hb, hc⟩ := hr.2 hn
    exact ⟨ad, e, hb, fun j u hu => (World.cell?_of_block (w := a) (h.block _ (by rw [block_of_add]; omega) (by rw [block_of_add]; exact hA hn ad e))).trans (hc j u hu)⟩⟩

/-- The source of draws in block g, after p draws. -/
def Rd (w : World) (g p : Nat) : Prop := ∃ (A : Option Addr) (c : Nat) (zs : List UInt8), zs.length ≤ 2000 ∧ w.heap[g]? = some (.cells #[.slice A zs.length c, .int .i64 (p : Int)] 35 (0, 0)) ∧ Reads w g A zs.length (zs.map bv)
theorem Rd.lt {w : World} {g p : Nat} (h : Rd w g p) : g < w.heap.size := by
  obtain ⟨A, c, zs, _, hg, _⟩ := h
  exact (Array.getElem?_eq_some_iff.1 hg).1
theorem Rd.but {w w' : World} {g p : Nat} (h : Rd w g p) (hb : Below w.heap.size w w') : Rd w' g p := by
  have hl := h.lt
  obtain ⟨A, c, zs, hz, hg, hr⟩ := h
  exact ⟨A, c, zs, hz, (hb.block g hl).trans hg, hr.below hb (by omega)⟩
theorem Rd.drewN {w : World} {g p : Nat} (h : Rd w g p) (n : Nat) : Rd (w.drewN n) g p := h
theorem Rd.next {w : World} {g p : Nat} (h : Rd w g p) : Rd (w.setCell ⟨g, 1, none⟩ (.int .i64 ((p : Int) + 1))) g (p + 1) := by
  obtain ⟨A, c, zs, hz, hg, hr⟩ := h
  refine ⟨A, c, zs, hz, ?_, hr.keep fun q hq => World.cell?_of_block (Below.heap_setCell _ _ _ _ (by show q.block ≠ g; omega))⟩
  simp [World.setCell, Array.getElem?_modify, hg]

theorem byte_at {w : World} {g : Nat} {A : Option Addr} {zs : List UInt8} {k : Nat} (h : Reads w g A zs.length (zs.map bv)) (hk : k < zs.length) :
    ∃ ad z, A = some ad ∧ ad.block < g ∧ 0 ≤ z ∧ z ≤ 255 ∧ w.cell? (ad.add k) = some (.int .u8 z) := by
  obtain ⟨ad, u, e, hb, hx, hc⟩ := h.at_ hk
  rw [List.getElem?_map, List.getElem?_eq_getElem hk] at hx
  simp only [Option.map_some, Option.some.injEq] at hx
  subst hx
  exact ⟨ad, zs[k].toNat, e, hb, by omega, by have := zs[k].toNat_lt; omega, hc⟩

set_option maxHeartbeats 1000000 in
theorem pick_any (g p : Nat) (m : Int) (w : World) (hr : Rd w g p) (hp : p ≤ 1000000) (hm1 : 1 ≤ m) (hm2 : m ≤ 1048576) :
    Calls Try.prog 19 #[.pointer (some ⟨g, 0, none⟩), .int .i64 m] w fun e w' => ∃ i : Int, e = .returned (.int .i64 i) ∧ 0 ≤ i ∧ i < m ∧ Rd w' g (p + 1) ∧ But g w w' := by
  have hnext := hr.next
  have hbn : But g w (w.setCell ⟨g, 1, none⟩ (.int .i64 ((p : Int) + 1))) := (But.refl _ _).setCell 1 _
  obtain ⟨A, c, zs, hz, hg, hrd⟩ := hr
  have hc0 : w.cell? ⟨g, 0, none⟩ = some (.slice A zs.length c) := by simp [World.cell?, hg]
  have hc1 : w.cell? ⟨g, 1, none⟩ = some (.int .i64 (p : Int)) := by simp [World.cell?, hg]
  have hf1 : w.frozen? ⟨g, 1, none⟩ = false := by simp [World.frozen?, hg]
  have hd1 : (w.setCell ⟨g, 1, none⟩ (.int .i64 ((p : Int) + 1))).cell? ⟨g, 0, none⟩ = some (.slice A zs.length c) := by
    rw [World.cell?_setCell_other _ _ _ _ (by intro e; injection e with _ e2; omega)]; exact hc0
  have hd2 : (w.setCell ⟨g, 1, none⟩ (.int .i64 ((p : Int) + 1))).cell? ⟨g, 1, none⟩ = some (.int .i64 ((p : Int) + 1)) := World.cell?_setCell_same' _ _ _ (by rw [hc1]; rfl)
  have hrd2 := hrd.keep (w' := w.setCell ⟨g, 1, none⟩ (.int .i64 ((p : Int) + 1))) fun q hq => World.cell?_of_block (Below.heap_setCell _ _ _ _ (by show q.block ≠ g; omega))
  clear hg hrd
  by_cases hN : zs.length = 0
  · have hN' : ((zs.length : Int) == 0) = true := by simp [hN]
    go_enter Try.func19, Try.ntmps19
    go_wp2
    go_ret
    exact ⟨0, rfl, by omega, by omega, hnext, hbn⟩
  · have hN' : ((zs.length : Int) == 0) = false := by rw [beq_eq_false_iff_ne]; omega
    have hN1 : 1 ≤ zs.length := by omega
    clear hN
    by_cases hlt : p < zs.length
    · obtain ⟨ad, z, rfl, hab, hz0, hz1, hcell⟩ := byte_at hrd2 hlt
      go_enter Try.func19, Try.ntmps19
      go_wp2
      go_ret
      refine ⟨_, rfl, ?_, ?_, hnext, hbn⟩
      · exact Int.emod_nonneg _ (by omega)
      · exact Int.emod_lt_of_pos _ (by omega)
    · obtain ⟨j1, hj1⟩ : ∃ j, j = p % zs.length := ⟨_, rfl⟩
      obtain ⟨j2, hj2⟩ : ∃ j, j = (p * 7 + 3) % zs.length := ⟨_, rfl⟩
      obtain ⟨d1, hd⟩ : ∃ d, d = p / zs.length := ⟨_, rfl⟩
      have l1 : j1 < zs.length := by rw [hj1]; exact Nat.mod_lt _ (by omega)
      have l2 : j2 < zs.length := by rw [hj2]; exact Nat.mod_lt _ (by omega)
      have l3 : d1 ≤ p := by rw [hd]; exact Nat.div_le_self _ _
      obtain ⟨ad, z1, rfl, hab, hz0, hz1, hcell1⟩ := byte_at hrd2 l1
      obtain ⟨ad2, z2, e2, _, hy0, hy1, hcell2⟩ := byte_at hrd2 l2
      injection e2 with e2
      subst e2
      have t1 : ((p : Int)).tmod (zs.length : Int) = (j1 : Int) := by rw [Int.tmod_eq_emod_of_nonneg (by omega), hj1]; simp
      have t2 : ((p : Int) * 7 + 3).tmod (zs.length : Int) = (j2 : Int) := by rw [Int.tmod_eq_emod_of_nonneg (by omega), hj2]; simp
      have t3 : ((p : Int)).tdiv (zs.length : Int) = (d1 : Int) := by rw [Int.tdiv_eq_ediv_of_nonneg (by omega), hd]; simp
      have v1 : IntKind.i64.wrap ((p : Int) * 7) = (p : Int) * 7 := IntWalk.i64_in _ (by omega)
      have v2 : IntKind.i64.wrap ((p : Int) * 7 + 3) = (p : Int) * 7 + 3 := IntWalk.i64_in _ (by omega)
      have v3 : IntKind.i64.wrap (z1 * 131) = z1 * 131 := IntWalk.i64_in _ (by omega)
      have v4 : IntKind.i64.wrap (z2 * 1117) = z2 * 1117 := IntWalk.i64_in _ (by omega)
      have v5 : IntKind.i64.wrap (z1 * 131 + z2 * 1117) = z1 * 131 + z2 * 1117 := IntWalk.i64_in _ (by omega)
      have v6 : IntKind.i64.wrap ((p : Int) * 29) = (p : Int) * 29 := IntWalk.i64_in _ (by omega)
      have v7 : IntKind.i64.wrap (z1 * 131 + z2 * 1117 + (p : Int) * 29) = z1 * 131 + z2 * 1117 + (p : Int) * 29 := IntWalk.i64_in _ (by omega)
      have v8 : IntKind.i64.wrap ((d1 : Int) * 53) = (d1 : Int) * 53 := IntWalk.i64_in _ (by omega)
      have v9 : IntKind.i64.wrap (z1 * 131 + z2 * 1117 + (p : Int) * 29 + (d1 : Int) * 53) = z1 * 131 + z2 * 1117 + (p : Int) * 29 + (d1 : Int) * 53 := IntWalk.i64_in _ (by omega)
      have va : IntKind.i64.wrap z1 = z1 := IntWalk.i64_in _ (by omega)
      have vb : IntKind.i64.wrap z2 = z2 := IntWalk.i64_in _ (by omega)
      have vc : IntKind.i64.wrap (d1 : Int) = d1 := IntWalk.i64_in _ (by omega)
      clear hj1 hj2 hd hrd2
      go_enter Try.func19, Try.ntmps19
      go_wp2_with fail
      go_quiet (fail)
      clear v1 v2 v3 v4 v5 v6 v7 v8 v9 va vb vc t1 t2 t3
      go_wp2
      go_ret
      have hX := xor_mod (z1 * 131 + z2 * 1117 + (p : Int) * 29 + (d1 : Int) * 53) m (by omega) (by omega) hm1
      exact ⟨_, rfl, hX.1, hX.2, hnext.drewN _, hbn.drewN _⟩
end Go.Proofs.Ytjjjnmebadndeaa

namespace Go.Proofs.Ytjjjnmebadndeaa
open Go.RowKit
set_option maxRecDepth 100000

/-- A new row reads as what was put into it. -/
theorem reads_alloc (w : World) (xs : List Value) (t : TypeId) : Reads (w.alloc (.cells xs.toArray t)) (w.heap.size + 1) (some ⟨w.heap.size, 0, none⟩) xs.length xs := by
  refine ⟨rfl, fun _ => ⟨_, rfl, by show w.heap.size < _; omega, fun j u hu => ?_⟩⟩
  have e2 : (⟨w.heap.size, 0, none⟩ : Addr).add j = ⟨w.heap.size, j, none⟩ := by unfold Addr.add; split <;> simp_all
  rw [e2]
  have : (w.alloc (.cells xs.toArray t)).heap[w.heap.size]? = some (.cells xs.toArray t) := by
    show (w.heap.push _)[w.heap.size]? = _
    simp
  rw [cell_of_row _ _ j _ t (0, 0) this]
  simpa using hu
theorem reads_list (w : World) (ls : List Z.Str) (t : TypeId) : Reads (w.alloc (.cells (ls.map sv).toArray t)) (w.heap.size + 1) (some ⟨w.heap.size, 0, none⟩) ls.length (ls.map sv) := by
  have := reads_alloc w (ls.map sv) t
  rwa [List.length_map] at this

def wordList : List Z.Str := [[98, 46], [97, 46, 98, 46], [119, 119, 119, 46, 97, 46, 98, 46], [42, 46, 97, 46, 98, 46], [110, 115, 46, 98, 46], [109, 97, 105, 108, 46, 97, 46, 98, 46], [46], [120, 46, 119, 119, 119, 46, 97, 46, 98, 46], [99, 46], [115, 117, 98, 46, 97, 46, 98, 46], [122, 46, 98, 46], [110, 115, 46, 115, 117, 98, 46, 97, 46, 98, 46]]
theorem wordList_len : wordList.length = 12 := rfl
theorem wordList_le : ∀ l ∈ wordList, l.length ≤ 12 := by decide

end Go.Proofs.Ytjjjnmebadndeaa

namespace Go.Proofs.Ytjjjnmebadndeaa
open Go.RowKit
set_option maxRecDepth 100000

theorem extract_le (s : ByteArray) (a b : Nat) : (s.extract a b).size ≤ s.size := by simp [ByteArray.size_extract]; omega
theorem bend_size (s x : ByteArray) (k j L : Nat) (hk : k ≤ s.size) (hj : k ≤ j) (hx : x.size ≤ L) : (s.extract 0 k ++ x ++ s.extract j s.size).size ≤ s.size + L := by
  simp [ByteArray.size_append, ByteArray.size_extract]; omega

/-- A new row as an argument: facts of the world with it, in one place. -/
theorem with_row {w : World} {g p : Nat} (hr : Rd w g p) (ls : List Z.Str) (t : TypeId) :
    Rd (w.alloc (.cells (ls.map sv).toArray t)) g p ∧ Reads (w.alloc (.cells (ls.map sv).toArray t)) (w.heap.size + 1) (some ⟨w.heap.size, 0, none⟩) ls.length (ls.map sv) ∧
      But g w (w.alloc (.cells (ls.map sv).toArray t)) ∧ w.heap.size + 1 ≤ (w.alloc (.cells (ls.map sv).toArray t)).heap.size ∧ ∀ ad : Addr, some (⟨w.heap.size, 0, none⟩ : Addr) = some ad → ad.block ≠ g := by
  have hgl := hr.lt
  refine ⟨hr.but ((Below.refl _ _).alloc (Nat.le_refl _) _), reads_list w ls t, (But.refl g w).alloc _, by simp, fun ad e => ?_⟩
  injection e with e
  subst e
  show w.heap.size ≠ g
  omega

set_option maxHeartbeats 1000000 in
theorem l13Open_any (A : Option Addr) (c : Nat) (zs : List UInt8) (w : World) (hz : zs.length ≤ 1048576) (hc : zs.length ≤ c) (hcm : c ≤ maxLen) (hrd : Reads w w.heap.size A zs.length (zs.map bv)) :
    Calls Try.prog 14 #[.slice A zs.length c] w fun e w' => e = .returned (.pointer (some ⟨w.heap.size, 0, none⟩)) ∧ Rd w' w.heap.size 0 ∧ Below w.heap.size w w' := by
  unfold maxLen at hcm
  by_cases h : zs.length ≤ 2000
  · go_enter Try.func14, Try.ntmps14
    go_wp2
    go_ret
    refine ⟨rfl, ⟨A, c, zs, h, ?_, hrd.keep fun q hq => World.cell?_alloc_lt w _ q (by omega)⟩, (Below.refl _ _).alloc (Nat.le_refl _) _⟩
    exact heap_alloc_new w _
  · have ht : (zs.take 2000).length = 2000 := by rw [List.length_take]; omega
    have hrt : Reads w w.heap.size A 2000 ((zs.take 2000).map bv) := by
      refine ⟨by simp; omega, fun _ => ?_⟩
      obtain ⟨ad, e, hb, hcell⟩ := hrd.2 (by omega)
      refine ⟨ad, e, hb, fun j u hu => hcell j u ?_⟩
      rw [List.map_take, List.getElem?_take] at hu
      split at hu
      · exact hu
      · cases hu
    have Ht := hid ht
    have Hrt := hid hrt
    clear ht hrt
    go_enter Try.func14, Try.ntmps14
    go_wp2
    go_ret
    refine ⟨rfl, ⟨A, c, zs.take 2000, by rw [Ht.out]; omega, ?_, ?_⟩, (Below.refl _ _).alloc (Nat.le_refl _) _⟩
    · rw [Ht.out]; exact heap_alloc_new w _
    · rw [Ht.out]; exact Hrt.out.keep fun q hq => World.cell?_alloc_lt w _ q (by omega)
end Go.Proofs.Ytjjjnmebadndeaa

namespace Go.Proofs.Ytjjjnmebadndeaa
open Go.RowKit
set_option maxRecDepth 100000

/-- The bytes that a law is given. -/
def Code (w : World) (A : Option Addr) (c : Nat) (zs : List UInt8) : Prop := zs.length ≤ 1048576 ∧ zs.length ≤ c ∧ c ≤ maxLen ∧ Reads w w.heap.size A zs.length (zs.map bv)
theorem Code.below {w w' : World} {A : Option Addr} {c : Nat} {zs : List UInt8} (h : Code w A c zs) (hb : Below w.heap.size w w') : Code w' A c zs :=
  ⟨h.1, h.2.1, h.2.2.1, (h.2.2.2.below hb (Nat.le_refl _)).more hb.size⟩

def bendList : List Z.Str := [[], [46], [65], [42], [108, 111, 110, 103, 45, 108, 97, 98, 101, 108, 49], [32]]
theorem bendList_le : ∀ l ∈ bendList, l.length ≤ 12 := by decide
def twoList : List Z.Str := [[98, 46], [97, 46, 98, 46], [46]]
theorem twoList_le : ∀ l ∈ twoList, l.length ≤ 12 := by decide

end Go.Proofs.Ytjjjnmebadndeaa

/- What the draws return: some texts of a bounded length; the source of draws is a block of the call's own. What the draws of chapter 1 return: some texts of a bounded length. What the draws of chapter 1 return: some texts of a bounded length. What the draws of chapter 1 return. -/
import Derived.Test.YthbeecgfikcfdaaS
namespace Go.Proofs.Ythbeecgfikcfdaa
open Go.RowKit
set_option maxRecDepth 100000

theorem xor_i64 (a b : Nat) (ha : a < 1099511627776) (hb : b < 1099511627776) : bits .xor .i64 (a : Int) (b : Int) = ((a ^^^ b : Nat) : Int) ∧ a ^^^ b < 1099511627776 := by
  have hx : a ^^^ b < 2 ^ 40 := Nat.xor_lt_two_pow (by omega) (by omega)
  have h1 : (BitVec.ofInt 64 (a : Int)).toNat = a := by
    rw [BitVec.ofInt_natCast, BitVec.toNat_ofNat]; exact Nat.mod_eq_of_lt (by omega)
  have h2 : (BitVec.ofInt 64 (b : Int)).toNat = b := by
    rw [BitVec.ofInt_natCast, BitVec.toNat_ofNat]; exact Nat.mod_eq_of_lt (by omega)
  refine ⟨?_, hx⟩
  show IntKind.i64.wrap ((BitVec.ofInt 64 (a : Int) ^^^ BitVec.ofInt 64 (b : Int)).toNat : Int) = _
  rw [BitVec.toNat_xor, h1, h2]
  exact IntWalk.i64_in _ (by omega)

theorem xor_mod (x m : Int) (h0 : 0 ≤ x) (h1 : x < 1099511627776) (hm : 1 ≤ m) : 0 ≤ (bits .xor .i64 x (x / 64)).tmod m ∧ (bits .xor .i64 x (x / 64)).tmod m < m := by
  obtain ⟨n, rfl⟩ := Int.eq_ofNat_of_zero_le h0
  have hd : ((n : Int) / 64) = ((n / 64 : Nat) : Int) := by simp
  rw [hd, (xor_i64 n (n / 64) (by omega) (by omega)).1, Int.tmod_eq_emod_of_nonneg (by omega)]
  exact ⟨Int.emod_nonneg _ (by omega), Int.emod_lt_of_pos _ (by omega)⟩

/-- All blocks but one are as they were. -/
structure But (g : Nat) (w w' : World) : Prop where
  os : w'.os = w.os
  tape : w'.tape = w.tape
  output : w'.output = w.output
  size : w.heap.size ≤ w'.heap.size
  block : ∀ k, k < w.heap.size → k ≠ g → w'.heap[k]? = w.heap[k]?
theorem But.refl (g : Nat) (w : World) : But g w w := ⟨rfl, rfl, rfl, Nat.le_refl _, fun _ _ _ => rfl⟩
theorem But.trans {g : Nat} {a b c : World} (h : But g a b) (k : But g b c) : But g a c :=
  ⟨k.os.trans h.os, k.tape.trans h.tape, k.output.trans h.output, Nat.le_trans h.size k.size, fun i hi hg => (k.block i (Nat.lt_of_lt_of_le hi h.size) hg).trans (h.block i hi hg)⟩
theorem But.drewN {g : Nat} {a b : World} (h : But g a b) (n : Nat) : But g a (b.drewN n) := ⟨h.os, h.tape, h.output, h.size, h.block⟩
theorem But.drew {g : Nat} {a b : World} (h : But g a b) : But g a b.drew := ⟨h.os, h.tape, h.output, h.size, h.block⟩
theorem But.alloc {g : Nat} {a b : World} (h : But g a b) (o : Obj) : But g a (b.alloc o) :=
  ⟨h.os, h.tape, h.output, by have := h.size; simp; omega, fun k hk hg => (Below.heap_alloc b o k (by have := h.size; omega)).trans (h.block k hk hg)⟩
theorem But.setCell {g : Nat} {a b : World} (h : But g a b) (o : Nat) (u : Value) : But g a (b.setCell ⟨g, o, none⟩ u) :=
  ⟨h.os, h.tape, h.output, by have := h.size; simp [World.setCell]; omega, fun k hk hg => (Below.heap_setCell b ⟨g, o, none⟩ u k hg).trans (h.block k hk hg)⟩
theorem But.below {g B : Nat} {a b : World} (h : But g a b) (hB : B ≤ g) (hg : B ≤ a.heap.size) : Below B a b :=
  ⟨h.os, h.tape, h.output, h.size, fun k hk => h.block k (by omega) (by omega)⟩
theorem But.of_below {g : Nat} {a b : World} (h : Below a.heap.size a b) : But g a b := ⟨h.os, h.tape, h.output, h.size, fun k hk _ => h.block k hk⟩
theorem But.reads {g B n : Nat} {a b : World} {A : Option Addr} {xs : List Value} (h : But g a b) (hr : Reads a B A n xs) (hB : B ≤ a.heap.size) (hA : 0 < n → ∀ ad, A = some ad → ad.block ≠ g) : Reads b B A n xs :=
  ⟨hr.1, fun hn => by
    obtain ⟨ad, e, hb, hc⟩ := hr.2 hn
    exact ⟨ad, e, hb, fun j u hu => (World.cell?_of_block (w := a) (h.block _ (by rw [block_of_add]; omega) (by rw [block_of_add]; exact hA hn ad e))).trans (hc j u hu)⟩⟩

/-- The source of draws in block g, after p draws. -/
def Rd (w : World) (g p : Nat) : Prop := ∃ (A : Option Addr) (c : Nat) (zs : List UInt8), zs.length ≤ 2000 ∧ w.heap[g]? = some (.cells #[.slice A zs.length c, .int .i64 (p : Int)] 55 (0, 0)) ∧ Reads w g A zs.length (zs.map bv)
theorem Rd.lt {w : World} {g p : Nat} (h : Rd w g p) : g < w.heap.size := by
  obtain ⟨A, c, zs, _, hg, _⟩ := h
  exact (Array.getElem?_eq_some_iff.1 hg).1
theorem Rd.but {w w' : World} {g p : Nat} (h : Rd w g p) (hb : Below w.heap.size w w') : Rd w' g p := by
  have hl := h.lt
  obtain ⟨A, c, zs, hz, hg, hr⟩ := h
  exact ⟨A, c, zs, hz, (hb.block g hl).trans hg, hr.below hb (by omega)⟩
theorem Rd.drewN {w : World} {g p : Nat} (h : Rd w g p) (n : Nat) : Rd (w.drewN n) g p := h
theorem Rd.next {w : World} {g p : Nat} (h : Rd w g p) : Rd (w.setCell ⟨g, 1, none⟩ (.int .i64 ((p : Int) + 1))) g (p + 1) := by
  obtain ⟨A, c, zs, hz, hg, hr⟩ := h
  refine ⟨A, c, zs, hz, ?_, hr.keep fun q hq => World.cell?_of_block (Below.heap_setCell _ _ _ _ (by show q.block ≠ g; omega))⟩
  simp [World.setCell, Array.getElem?_modify, hg]

theorem byte_at {w : World} {g : Nat} {A : Option Addr} {zs : List UInt8} {k : Nat} (h : Reads w g A zs.length (zs.map bv)) (hk : k < zs.length) :
    ∃ ad z, A = some ad ∧ ad.block < g ∧ 0 ≤ z ∧ z ≤ 255 ∧ w.cell? (ad.add k) = some (.int .u8 z) := by
  obtain ⟨ad, u, e, hb, hx, hc⟩ := h.at_ hk
  rw [List.getElem?_map, List.getElem?_eq_getElem hk] at hx
  simp only [Option.map_some, Option.some.injEq] at hx
  subst hx
  exact ⟨ad, zs[k].toNat, e, hb, by omega, by have := zs[k].toNat_lt; omega, hc⟩

set_option maxHeartbeats 1000000 in
theorem pick_any (g p : Nat) (m : Int) (w : World) (hr : Rd w g p) (hp : p ≤ 1000000) (hm1 : 1 ≤ m) (hm2 : m ≤ 1048576) :
    Calls Try.prog 28 #[.pointer (some ⟨g, 0, none⟩), .int .i64 m] w fun e w' => ∃ i : Int, e = .returned (.int .i64 i) ∧ 0 ≤ i ∧ i < m ∧ Rd w' g (p + 1) ∧ But g w w' := by
  have hnext := hr.next
  have hbn : But g w (w.setCell ⟨g, 1, none⟩ (.int .i64 ((p : Int) + 1))) := (But.refl _ _).setCell 1 _
  obtain ⟨A, c, zs, hz, hg, hrd⟩ := hr
  have hc0 : w.cell? ⟨g, 0, none⟩ = some (.slice A zs.length c) := by simp [World.cell?, hg]
  have hc1 : w.cell? ⟨g, 1, none⟩ = some (.int .i64 (p : Int)) := by simp [World.cell?, hg]
  have hf1 : w.frozen? ⟨g, 1, none⟩ = false := by simp [World.frozen?, hg]
  have hd1 : (w.setCell ⟨g, 1, none⟩ (.int .i64 ((p : Int) + 1))).cell? ⟨g, 0, none⟩ = some (.slice A zs.length c) := by
    rw [World.cell?_setCell_other _ _ _ _ (by intro e; injection e with _ e2; omega)]; exact hc0
  have hd2 : (w.setCell ⟨g, 1, none⟩ (.int .i64 ((p : Int) + 1))).cell? ⟨g, 1, none⟩ = some (.int .i64 ((p : Int) + 1)) := World.cell?_setCell_same' _ _ _ (by rw [hc1]; rfl)
  have hrd2 := hrd.keep (w' := w.setCell ⟨g, 1, none⟩ (.int .i64 ((p : Int) + 1))) fun q hq => World.cell?_of_block (Below.heap_setCell _ _ _ _ (by show q.block ≠ g; omega))
  clear hg hrd
  by_cases hN : zs.length = 0
  · have hN' : ((zs.length : Int) == 0) = true := by simp [hN]
    go_enter Try.func28, Try.ntmps28
    go_wp2
    go_ret
    exact ⟨0, rfl, by omega, by omega, hnext, hbn⟩
  · have hN' : ((zs.length : Int) == 0) = false := by rw [beq_eq_false_iff_ne]; omega
    have hN1 : 1 ≤ zs.length := by omega
    clear hN
    by_cases hlt : p < zs.length
    · obtain ⟨ad, z, rfl, hab, hz0, hz1, hcell⟩ := byte_at hrd2 hlt
      go_enter Try.func28, Try.ntmps28
      go_wp2
      go_ret
      refine ⟨_, rfl, ?_, ?_, hnext, hbn⟩
      · exact Int.emod_nonneg _ (by omega)
      · exact Int.emod_lt_of_pos _ (by omega)
    · obtain ⟨j1, hj1⟩ : ∃ j, j = p % zs.length := ⟨_, rfl⟩
      obtain ⟨j2, hj2⟩ : ∃ j, j = (p * 7 + 3) % zs.length := ⟨_, rfl⟩
      obtain ⟨d1, hd⟩ : ∃ d, d = p / zs.length := ⟨_, rfl⟩
      have l1 : j1 < zs.length := by rw [hj1]; exact Nat.mod_lt _ (by omega)
      have l2 : j2 < zs.length := by rw [hj2]; exact Nat.mod_lt _ (by omega)
      have l3 : d1 ≤ p := by rw [hd]; exact Nat.div_le_self _ _
      obtain ⟨ad, z1, rfl, hab, hz0, hz1, hcell1⟩ := byte_at hrd2 l1
      obtain ⟨ad2, z2, e2, _, hy0, hy1, hcell2⟩ := byte_at hrd2 l2
      injection e2 with e2
      subst e2
      have t1 : ((p : Int)).tmod (zs.length : Int) = (j1 : Int) := by rw [Int.tmod_eq_emod_of_nonneg (by omega), hj1]; simp
      have t2 : ((p : Int) * 7 + 3).tmod (zs.length : Int) = (j2 : Int) := by rw [Int.tmod_eq_emod_of_nonneg (by omega), hj2]; simp
      have t3 : ((p : Int)).tdiv (zs.length : Int) = (d1 : Int) := by rw [Int.tdiv_eq_ediv_of_nonneg (by omega), hd]; simp
      have v1 : IntKind.i64.wrap ((p : Int) * 7) = (p : Int) * 7 := IntWalk.i64_in _ (by omega)
      have v2 : IntKind.i64.wrap ((p : Int) * 7 + 3) = (p : Int) * 7 + 3 := IntWalk.i64_in _ (by omega)
      have v3 : IntKind.i64.wrap (z1 * 131) = z1 * 131 := IntWalk.i64_in _ (by omega)
      have v4 : IntKind.i64.wrap (z2 * 1117) = z2 * 1117 := IntWalk.i64_in _ (by omega)
      have v5 : IntKind.i64.wrap (z1 * 131 + z2 * 1117) = z1 * 131 + z2 * 1117 := IntWalk.i64_in _ (by omega)
      have v6 : IntKind.i64.wrap ((p : Int) * 29) = (p : Int) * 29 := IntWalk.i64_in _ (by omega)
      have v7 : IntKind.i64.wrap (z1 * 131 + z2 * 1117 + (p : Int) * 29) = z1 * 131 + z2 * 1117 + (p : Int) * 29 := IntWalk.i64_in _ (by omega)
      have v8 : IntKind.i64.wrap ((d1 : Int) * 53) = (d1 : Int) * 53 := IntWalk.i64_in _ (by omega)
      have v9 : IntKind.i64.wrap (z1 * 131 + z2 * 1117 + (p : Int) * 29 + (d1 : Int) * 53) = z1 * 131 + z2 * 1117 + (p : Int) * 29 + (d1 : Int) * 53 := IntWalk.i64_in _ (by omega)
      have va : IntKind.i64.wrap z1 = z1 := IntWalk.i64_in _ (by omega)
      have vb : IntKind.i64.wrap z2 = z2 := IntWalk.i64_in _ (by omega)
      have vc : IntKind.i64.wrap (d1 : Int) = d1 := IntWalk.i64_in _ (by omega)
      clear hj1 hj2 hd hrd2
      go_enter Try.func28, Try.ntmps28
      go_wp2_with fail
      go_quiet (fail)
      clear v1 v2 v3 v4 v5 v6 v7 v8 v9 va vb vc t1 t2 t3
      go_wp2
      go_ret
      have hX := xor_mod (z1 * 131 + z2 * 1117 + (p : Int) * 29 + (d1 : Int) * 53) m (by omega) (by omega) hm1
      exact ⟨_, rfl, hX.1, hX.2, hnext.drewN _, hbn.drewN _⟩
end Go.Proofs.Ythbeecgfikcfdaa

namespace Go.Proofs.Ythbeecgfikcfdaa
open Go.RowKit
set_option maxRecDepth 100000

/-- A new row reads as what was put into it. -/
theorem reads_alloc (w : World) (xs : List Value) (t : TypeId) : Reads (w.alloc (.cells xs.toArray t)) (w.heap.size + 1) (some ⟨w.heap.size, 0, none⟩) xs.length xs := by
  refine ⟨rfl, fun _ => ⟨_, rfl, by show w.heap.size < _; omega, fun j u hu => ?_⟩⟩
  have e2 : (⟨w.heap.size, 0, none⟩ : Addr).add j = ⟨w.heap.size, j, none⟩ := by unfold Addr.add; split <;> simp_all
  rw [e2]
  have : (w.alloc (.cells xs.toArray t)).heap[w.heap.size]? = some (.cells xs.toArray t) := by
    show (w.heap.push _)[w.heap.size]? = _
    simp
  rw [cell_of_row _ _ j _ t (0, 0) this]
  simpa using hu
theorem reads_list (w : World) (ls : List Z.Str) (t : TypeId) : Reads (w.alloc (.cells (ls.map sv).toArray t)) (w.heap.size + 1) (some ⟨w.heap.size, 0, none⟩) ls.length (ls.map sv) := by
  have := reads_alloc w (ls.map sv) t
  rwa [List.length_map] at this

set_option maxHeartbeats 1000000 in
theorem of_any (g p L B : Nat) (A : Option Addr) (n c : Nat) (ls : List Z.Str) (w : World) (hr : Rd w g p) (hp : p ≤ 1000000) (hrd : Reads w B A n (ls.map sv)) (hB : B ≤ w.heap.size) (hn1 : 1 ≤ n) (hn2 : n ≤ 1048576) (hA : ∀ ad, A = some ad → ad.block ≠ g) (hl : ∀ l ∈ ls, l.length ≤ L) :
    Calls Try.prog 41 #[.pointer (some ⟨g, 0, none⟩), .slice A n c] w fun e w' => ∃ s : ByteArray, e = .returned (.string s) ∧ s.size ≤ L ∧ Rd w' g (p + 1) ∧ But g w w' := by
  obtain rfl : n = ls.length := by simpa using hrd.1.symm
  have HL := hid hl
  have HA := hid hA
  clear hl hA
  go_enter Try.func41, Try.ntmps41
  go_wp2_with fail
  refine (pick_any g p _ w hr hp (by omega) (by omega)).mono ?_
  rintro e w1 ⟨i, rfl, hi0, hi1, hr1, hb1⟩
  obtain ⟨k, rfl⟩ := Int.eq_ofNat_of_zero_le hi0
  have hk : k < ls.length := by omega
  obtain ⟨ad, x, rfl, hab, hx, hcell⟩ := reads_str (hb1.reads hrd hB (fun _ => HA.out)) hk
  have hxl : x.size ≤ L := by
    rw [← lst_length, hx]
    exact HL.out _ (by simp [hk])
  clear hx
  go_wp2_with fail
  go_ret
  exact ⟨x, rfl, hxl, hr1, hb1⟩

def wordList : List Z.Str := [[98, 46], [97, 46, 98, 46], [119, 119, 119, 46, 97, 46, 98, 46], [42, 46, 97, 46, 98, 46], [110, 115, 46, 98, 46], [109, 97, 105, 108, 46, 97, 46, 98, 46], [46], [120, 46, 119, 119, 119, 46, 97, 46, 98, 46], [99, 46], [115, 117, 98, 46, 97, 46, 98, 46], [122, 46, 98, 46], [110, 115, 46, 115, 117, 98, 46, 97, 46, 98, 46]]
theorem wordList_len : wordList.length = 12 := rfl
theorem wordList_le : ∀ l ∈ wordList, l.length ≤ 12 := by decide

set_option maxHeartbeats 1000000 in
theorem l1Words_any (w : World) :
    Calls Try.prog 42 #[] w fun e w' => e = .returned (.slice (some ⟨w.heap.size, 0, none⟩) 12 12) ∧ w' = w.alloc (.cells (wordList.map sv).toArray 9) := by
  go_enter Try.func42, Try.ntmps42
  go_wp2
  go_ret
  exact ⟨rfl, rfl⟩

set_option maxHeartbeats 1000000 in
theorem l1Name_any (g p : Nat) (w : World) (hr : Rd w g p) (hp : p ≤ 1000000) :
    Calls Try.prog 30 #[.pointer (some ⟨g, 0, none⟩)] w fun e w' => ∃ s : ByteArray, e = .returned (.string s) ∧ s.size ≤ 12 ∧ Rd w' g (p + 1) ∧ But g w w' := by
  have hgl := hr.lt
  have hr2 := hr.but ((Below.refl _ _).alloc (Nat.le_refl _) (.cells (wordList.map sv).toArray 9))
  have hrd := reads_list w wordList 9
  have hb0 := (But.refl g w).alloc (.cells (wordList.map sv).toArray 9)
  obtain ⟨W, hW⟩ : ∃ W, W = w.alloc (.cells (wordList.map sv).toArray 9) := ⟨_, rfl⟩
  have hWs : w.heap.size + 1 ≤ W.heap.size := by rw [hW]; simp
  have HW := hid hW
  rw [← hW] at hr2 hrd hb0
  clear hW
  go_enter Try.func30, Try.ntmps30
  go_wp2_with fail
  refine (l1Words_any w).mono ?_
  rintro e w1 ⟨rfl, hw1⟩
  rw [← HW.out] at hw1
  subst hw1
  go_wp2_with fail
  refine (of_any g p 12 _ _ 12 12 wordList _ hr2 hp hrd hWs (by omega) (by omega) (fun ad e => by injection e with e; subst e; show w.heap.size ≠ g; omega) wordList_le).mono ?_
  rintro e w2 ⟨s, rfl, hs, hr3, hb3⟩
  go_wp2_with fail
  go_ret
  exact ⟨s, rfl, hs, hr3, hb0.trans hb3⟩
end Go.Proofs.Ythbeecgfikcfdaa

namespace Go.Proofs.Ythbeecgfikcfdaa
open Go.RowKit
set_option maxRecDepth 100000

theorem extract_le (s : ByteArray) (a b : Nat) : (s.extract a b).size ≤ s.size := by simp [ByteArray.size_extract]; omega
theorem bend_size (s x : ByteArray) (k j L : Nat) (hk : k ≤ s.size) (hj : k ≤ j) (hx : x.size ≤ L) : (s.extract 0 k ++ x ++ s.extract j s.size).size ≤ s.size + L := by
  simp [ByteArray.size_append, ByteArray.size_extract]; omega

set_option maxHeartbeats 2000000 in
theorem l1Bend_any (g p L B : Nat) (A : Option Addr) (n c : Nat) (ls : List Z.Str) (s : ByteArray) (w : World) (hr : Rd w g p) (hp : p + 4 ≤ 1000000) (hrd : Reads w B A n (ls.map sv)) (hB : B ≤ w.heap.size) (hn1 : 1 ≤ n) (hn2 : n ≤ 1048576)
    (hA : ∀ ad, A = some ad → ad.block ≠ g) (hl : ∀ l ∈ ls, l.length ≤ L) (hs : s.size ≤ 1000) (hL : L ≤ 1000) :
    Calls Try.prog 31 #[.pointer (some ⟨g, 0, none⟩), .string s, .slice A n c] w fun e w' => ∃ (x : ByteArray) (q : Nat), e = .returned (.string x) ∧ x.size ≤ s.size + L ∧ q ≤ p + 4 ∧ Rd w' g q ∧ But g w w' := by
  have HL := hid hl
  have HA := hid hA
  clear hl hA
  by_cases h0 : s.size = 0
  · have h1 : ((s.size : Int) == 0) = true := by simp [h0]
    go_enter Try.func31, Try.ntmps31
    go_wp2_with fail
    go_ret
    exact ⟨s, p, rfl, by omega, by omega, hr, But.refl _ _⟩
  · have h1 : ((s.size : Int) == 0) = false := by rw [beq_eq_false_iff_ne]; omega
    clear h0
    go_enter Try.func31, Try.ntmps31
    go_wp2_with fail
    refine (pick_any g p _ w hr (by omega) (by omega) (by omega)).mono ?_
    rintro e w1 ⟨i, rfl, hi0, hi1, hr1, hb1⟩
    have hrd1 := hb1.reads hrd hB (fun _ => HA.out)
    have hB1 : B ≤ w1.heap.size := by have := hb1.size; omega
    have hsz : 1 ≤ (s.size : Int) := by have : ¬ (s.size : Int) = 0 := by simpa using h1
                                        omega
    by_cases hi : i = 0
    · subst hi
      go_wp2_with fail
      go_ret
      exact ⟨s, _, rfl, by omega, by omega, hr1, hb1⟩
    · have hi' : (i == 0) = false := by simpa using hi
      clear hi
      go_wp2_with fail
      refine (pick_any g (p + 1) _ w1 hr1 (by omega) (by omega) (by omega)).mono ?_
      rintro e w2 ⟨i2, rfl, hj0, hj1, hr2, hb2⟩
      obtain ⟨k, rfl⟩ := Int.eq_ofNat_of_zero_le hj0
      have hk : k < s.size := by omega
      have hrd2 := hb2.reads hrd1 hB1 (fun _ => HA.out)
      have hB2 : B ≤ w2.heap.size := by have := hb2.size; omega
      go_wp2_with fail
      go_region_with (first | (go_at_call 41; refine (of_any g (p + 1 + 1) L B A n c ls _ (by exact hr2) (by omega) (by exact hrd2) (by exact hB2) hn1 hn2 HA.out HL.out).mono ?_; rintro e w3 ⟨x, rfl, hx, hr3, hb3⟩; have a1 : ∀ W : World, (Op.stringOp .add (s.extract 0 k) x).run Try.prog W = .ok (.string (s.extract 0 k ++ x)) W := (fun W => run_string_add_sum W _ _ (by have := extract_le s 0 k; omega))) | (go_at_call 28; refine (pick_any g (p + 1 + 1 + 1) 2 _ (by exact hr3) (by omega) (by omega) (by omega)).mono ?_; rintro e w4 ⟨i3, rfl, hm0, hm1, hr4, hb4⟩; obtain ⟨j, rfl⟩ := Int.eq_ofNat_of_zero_le hm0; have b1 : IntKind.i64.wrap ((k : Int) + (j : Int)) = (k : Int) + (j : Int) := IntWalk.i64_in _ (by omega); have b2 : 0 ≤ (k : Int) + (j : Int) := (by omega); have b3 : (k : Int) + (j : Int) ≤ (s.size : Int) := (by omega); have b4 : ((k : Int) + (j : Int)).toNat = k + j := (by omega); have a2 : ∀ W : World, (Op.stringOp .add (s.extract 0 k ++ x) (s.extract (k + j) s.size)).run Try.prog W = .ok (.string (s.extract 0 k ++ x ++ s.extract (k + j) s.size)) W := (fun W => run_string_add_sum W _ _ (by have := extract_le s 0 k; have := extract_le s (k + j) s.size; rw [ByteArray.size_append]; omega))))
      all_goals
        go_wp2_with fail
        go_ret
        exact ⟨_, _, rfl, bend_size s x k (k + j) L (by omega) (by omega) hx, (by omega), hr4, (by first | exact ((hb1.trans hb2).drew.trans hb3).trans hb4 | exact ((hb1.trans hb2).trans hb3).trans hb4 | exact ((hb1.trans hb2).drew.trans hb3).drew.trans hb4)⟩

/-- A new row as an argument: facts of the world with it, in one place. -/
theorem with_row {w : World} {g p : Nat} (hr : Rd w g p) (ls : List Z.Str) (t : TypeId) :
    Rd (w.alloc (.cells (ls.map sv).toArray t)) g p ∧ Reads (w.alloc (.cells (ls.map sv).toArray t)) (w.heap.size + 1) (some ⟨w.heap.size, 0, none⟩) ls.length (ls.map sv) ∧
      But g w (w.alloc (.cells (ls.map sv).toArray t)) ∧ w.heap.size + 1 ≤ (w.alloc (.cells (ls.map sv).toArray t)).heap.size ∧ ∀ ad : Addr, some (⟨w.heap.size, 0, none⟩ : Addr) = some ad → ad.block ≠ g := by
  have hgl := hr.lt
  refine ⟨hr.but ((Below.refl _ _).alloc (Nat.le_refl _) _), reads_list w ls t, (But.refl g w).alloc _, by simp, fun ad e => ?_⟩
  injection e with e
  subst e
  show w.heap.size ≠ g
  omega

set_option maxHeartbeats 1000000 in
theorem l13Open_any (A : Option Addr) (c : Nat) (zs : List UInt8) (w : World) (hz : zs.length ≤ 1048576) (hc : zs.length ≤ c) (hcm : c ≤ maxLen) (hrd : Reads w w.heap.size A zs.length (zs.map bv)) :
    Calls Try.prog 16 #[.slice A zs.length c] w fun e w' => e = .returned (.pointer (some ⟨w.heap.size, 0, none⟩)) ∧ Rd w' w.heap.size 0 ∧ Below w.heap.size w w' := by
  unfold maxLen at hcm
  by_cases h : zs.length ≤ 2000
  · go_enter Try.func16, Try.ntmps16
    go_wp2
    go_ret
    refine ⟨rfl, ⟨A, c, zs, h, ?_, hrd.keep fun q hq => World.cell?_alloc_lt w _ q (by omega)⟩, (Below.refl _ _).alloc (Nat.le_refl _) _⟩
    exact heap_alloc_new w _
  · have ht : (zs.take 2000).length = 2000 := by rw [List.length_take]; omega
    have hrt : Reads w w.heap.size A 2000 ((zs.take 2000).map bv) := by
      refine ⟨by simp; omega, fun _ => ?_⟩
      obtain ⟨ad, e, hb, hcell⟩ := hrd.2 (by omega)
      refine ⟨ad, e, hb, fun j u hu => hcell j u ?_⟩
      rw [List.map_take, List.getElem?_take] at hu
      split at hu
      · exact hu
      · cases hu
    have Ht := hid ht
    have Hrt := hid hrt
    clear ht hrt
    go_enter Try.func16, Try.ntmps16
    go_wp2
    go_ret
    refine ⟨rfl, ⟨A, c, zs.take 2000, by rw [Ht.out]; omega, ?_, ?_⟩, (Below.refl _ _).alloc (Nat.le_refl _) _⟩
    · rw [Ht.out]; exact heap_alloc_new w _
    · rw [Ht.out]; exact Hrt.out.keep fun q hq => World.cell?_alloc_lt w _ q (by omega)
end Go.Proofs.Ythbeecgfikcfdaa

namespace Go.Proofs.Ythbeecgfikcfdaa
open Go.RowKit
set_option maxRecDepth 100000

/-- The bytes that a law is given. -/
def Code (w : World) (A : Option Addr) (c : Nat) (zs : List UInt8) : Prop := zs.length ≤ 1048576 ∧ zs.length ≤ c ∧ c ≤ maxLen ∧ Reads w w.heap.size A zs.length (zs.map bv)
theorem Code.below {w w' : World} {A : Option Addr} {c : Nat} {zs : List UInt8} (h : Code w A c zs) (hb : Below w.heap.size w w') : Code w' A c zs :=
  ⟨h.1, h.2.1, h.2.2.1, (h.2.2.2.below hb (Nat.le_refl _)).more hb.size⟩

def bendList : List Z.Str := [[], [46], [65], [42], [108, 111, 110, 103, 45, 108, 97, 98, 101, 108, 49], [32]]
theorem bendList_le : ∀ l ∈ bendList, l.length ≤ 12 := by decide
def twoList : List Z.Str := [[98, 46], [97, 46, 98, 46], [46]]
theorem twoList_le : ∀ l ∈ twoList, l.length ≤ 12 := by decide

set_option maxHeartbeats 1000000 in
theorem l1Case_any (A : Option Addr) (c : Nat) (zs : List UInt8) (w : World) (hcode : Code w A c zs) :
    Calls Try.prog 22 #[.slice A zs.length c] w fun e w' => ∃ x : ByteArray, e = .returned (.string x) ∧ x.size ≤ 100 ∧ Below w.heap.size w w' := by
  go_enter Try.func22, Try.ntmps22
  go_wp2_with fail
  refine (l13Open_any A c zs w hcode.1 hcode.2.1 hcode.2.2.1 hcode.2.2.2).mono ?_
  rintro e w1 ⟨rfl, hr1, hb1⟩
  have hgl := hr1.lt
  go_wp2_with fail
  refine (l1Name_any _ 0 w1 hr1 (by omega)).mono ?_
  rintro e w2 ⟨x, rfl, hx, hr2, hb2⟩
  have hbw2 := hb1.trans (hb2.below (Nat.le_refl _) (by omega))
  go_wp2_with fail
  refine (pick_any _ _ _ w2 hr2 (by omega) (by omega) (by omega)).mono ?_
  rintro e w3 ⟨i, rfl, hi0, hi1, hr3, hb3⟩
  have hbw3 := hbw2.trans (hb3.below (Nat.le_refl _) (by have := hb2.size; omega))
  by_cases hi : i = 0
  · subst hi
    obtain ⟨hr4, hrd4, hb4, hB4, hA4⟩ := with_row hr3 bendList 9
    have HA := hid hA4
    have hw3 := hr3.lt
    clear hA4
    go_wp2_with fail
    refine (l1Bend_any _ _ 12 _ _ 6 6 bendList x _ (by exact hr4) (by omega) (by exact hrd4) (by exact hB4) (by omega) (by omega) HA.out bendList_le (by omega) (by omega)).mono ?_
    rintro e w5 ⟨y, q, rfl, hy, hq, hr5, hb5⟩
    go_wp2_with fail
    go_ret
    exact ⟨y, rfl, by omega, hbw3.trans ((hb4.trans hb5).below (Nat.le_refl _) (by omega))⟩
  · have hi' : (i == 0) = false := by simpa using hi
    clear hi
    go_wp2_with fail
    go_ret
    exact ⟨x, rfl, by omega, hbw3⟩

end Go.Proofs.Ythbeecgfikcfdaa

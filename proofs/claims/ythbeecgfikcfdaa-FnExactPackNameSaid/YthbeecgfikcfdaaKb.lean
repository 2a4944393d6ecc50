/- What PackName of the program returns. -/
import Derived.Test.YthbeecgfikcfdaaKa
import Derived.Test.YthbeecgfikcfdaaQ
import Derived.Deep.RegionLaw
import Derived.Deep.AppendLies
import Derived.Lib.AppendStr
namespace Go.Proofs.Ythbeecgfikcfdaa
open Go.RowKit
set_option maxRecDepth 100000
set_option linter.unusedVariables false
set_option linter.unusedSimpArgs false

/-- A writer without a map in block g: what it has written lies in a row of its own behind g. -/
def Writes (w : World) (g : Nat) (v : Value) (xs : List UInt8) : Prop := Blk w g 49 [v, .map none] ∧ w.ownsRow (g + 1) 5 1 v xs.length (xs.map bv)

theorem Blk.grownK {w w' : World} {g : Nat} {t : TypeId} {cs : List Value} {row : Option Nat} (h : Blk w g t cs) (hg : w.grownBy w' row) (hne : some g ≠ row) : Blk w' g t cs := (hg.block g h.lt hne).trans h
def Wrote (lo hi g : Nat) (w w' : World) (xs : List UInt8) : Prop := ∃ v', Writes w' g v' xs ∧ Below g w w' ∧ Same lo hi w w' ∧ Off v' lo hi
theorem wrote_end {lo hi g n gg cap m : Nat} {w w7 : World} {xs : List UInt8} {A : Option Addr} {c : Nat} {tc : TypeId} (hblk : Blk w g 49 [.slice A m c, .map none]) (hown : w.ownsRow (g + 1) 5 1 (.slice A m c) m (xs.map bv)) (hm : m = xs.length) (hn : n ≤ 255) (hlo : g < lo) (hhi : hi ≤ w.heap.size) (hoff : Off (.slice A m c) lo hi) (hown7 : w7.ownsRow (g + 1) 5 1 (.slice (some ⟨gg, 0, none⟩) (m + 1) cap) (m + 1) (xs.map bv ++ [.int .u8 (n : Int)])) (hgr : (w.alloc (.cells #[.int .u8 (n : Int)] tc)).grownBy w7 (Value.ownBlock (.slice A m c))) (hat : Value.ownBlock (.slice A m c) = some gg ∨ gg = w.heap.size + 1) :
    Wrote lo hi g w (w7.setCell ⟨g, 0, none⟩ (.slice (some ⟨gg, 0, none⟩) (m + 1) cap)) (xs ++ [UInt8.ofNat n]) := by
  subst hm
  have hno : some g ≠ Value.ownBlock (.slice A xs.length c) := fun e => by
    have := (hown.lt g e.symm).1
    omega
  have hb7 := (hblk.alloc (.cells #[.int .u8 (n : Int)] tc)).grownK hgr hno
  have hgl := hblk.lt
  refine ⟨_, ⟨hb7.put 0 _, ?_⟩, ?_, fun k h1 h2 => ?_, fun g' hg' => ?_⟩
  · rw [List.length_append, List.map_append, List.map_singleton, byte_len n hn]
    exact ownsRow_setCell_below hown7 (a := ⟨g, 0, none⟩) (by show g < g + 1; omega) _
  · exact (((Below.refl g w).alloc (by omega) _).grown hgr (by simp; omega) (fun k hk => by have := (hown.lt k hk).1; omega)).setCell (p := ⟨g, 0, none⟩) (Nat.le_refl _) _
  · have hne : some k ≠ Value.ownBlock (.slice A xs.length c) := fun e => by
      rcases hoff k e.symm with h3 | h3 <;> omega
    exact (Below.heap_setCell w7 ⟨g, 0, none⟩ _ k (by show k ≠ g; omega)).trans ((hgr.block k (by simp; omega) hne).trans (Below.heap_alloc w _ k (by omega)))
  · have e1 : g' = gg := by simpa [Value.ownBlock] using hg'.symm
    subst e1
    rcases hat with h3 | h3
    · exact hoff _ h3
    · right; omega
theorem Wrote.drew {lo hi g : Nat} {w w' : World} {xs : List UInt8} (h : Wrote lo hi g w w' xs) : Wrote lo hi g w w'.drew xs := by
  obtain ⟨v', h1, h2, h3, h4⟩ := h
  exact ⟨v', ⟨h1.1.drew, h1.2.drew⟩, below_drewN h2 1, h3, h4⟩
theorem Writes.drew {w : World} {g : Nat} {v : Value} {xs : List UInt8} (h : Writes w g v xs) : Writes w.drew g v xs := ⟨h.1.drew, h.2.drew⟩

set_option maxHeartbeats 8000000 in
theorem addNumber1_any (lo hi g : Nat) (v : Value) (xs : List UInt8) (n : Nat) (w : World) (hw : Writes w g v xs) (hn : n ≤ 255) (hx : xs.length ≤ 1000) (hlo : g < lo) (hhi : hi ≤ w.heap.size) (hoff : Off v lo hi) :
    Calls Try.prog 35 #[.pointer (some ⟨g, 0, none⟩), .int .i64 (n : Int), .int .i64 1] w fun e w' => e = .returned (.tuple #[]) ∧ Wrote lo hi g w w' (xs ++ [UInt8.ofNat n]) := by
  obtain ⟨i0, hi0, hz0, hz1, hz2⟩ := info_parts infoByte
  obtain ⟨hblk, hown⟩ := hw
  have hgl := hblk.lt
  obtain ⟨A, c, rfl⟩ := own_slice hown
  have c0 : w.cell? ⟨g, 0, none⟩ = some (.slice A xs.length c) := by rw [hblk.cell]; rfl
  have z0 : w.frozen? ⟨g, 0, none⟩ = false := hblk.frozen 0
  have hwr := u8_wrap n hn
  have hno : some g ≠ Value.ownBlock (.slice A xs.length c) := fun e => by
    have := (hown.lt g e.symm).1
    omega
  have hw0 : IntKind.i64.wrap 0 = 0 := by decide
  have n0 : 0 ≤ (n : Int) := by omega
  have n1 : (n : Int) ≤ 255 := by omega
  go_enter Try.func35, Try.ntmps35
  go_wp2_with fail
  go_loopw [6] (fun s wr => (s = .int .i64 0 ∧ wr = w) ∨ (s = .int .i64 (-1) ∧ Wrote lo hi g w wr (xs ++ [UInt8.ofNat n]))) (fun s _ => (intOf s + 1).toNat)
  case atStart => exact Or.inl ⟨rfl, rfl⟩
  case round =>
    rcases hrel with ⟨rfl, rfl⟩ | ⟨rfl, hdone⟩
    · go_wp2_with fail
      go_region_law ((refine step_append_lies _ (by rfl) (.tmp 17) (.tmp 23) 22 (by rfl) (g + 1) 5 i0 _ 1 1 Try.underlying22 hi0 hz0 hz1 hz2 rfl (by omega) (.slice A xs.length c) xs.length (xs.map bv) (by rfl) (by first | exact hown.alloc _ | exact (hown.alloc _).drew) ⟨wr.heap.size, 0, none⟩ 1 1 [.int .u8 (n : Int)] (by rfl) (by rfl) (World.news_of_block (cs := #[.int .u8 (n : Int)]) (t := 5) (fr := (0, 0)) (heap_alloc_new wr _)) (by simp [Value.oneCell']) (by omega) (by unfold maxLen; omega) (by omega) (by simp; omega) (wr.heap.size + 1) (by simp) ?_; intro gg cap w7 hown7 hgrow hat hlt; have hgr : (wr.alloc (.cells #[.int .u8 (n : Int)] 5)).grownBy w7 (Value.ownBlock (.slice A xs.length c)) := (by first | exact hgrow | exact ⟨hgrow.os, hgrow.tape, hgrow.output, hgrow.size, hgrow.block⟩); have hb7 := (hblk.alloc (.cells #[.int .u8 (n : Int)] 5)).grownK hgr hno; have c7 : w7.cell? ⟨g, 0, none⟩ = some (.slice A xs.length c) := (by rw [hb7.cell]; rfl); have z7 : w7.frozen? ⟨g, 0, none⟩ = false := hb7.frozen 0))
      all_goals have hd := wrote_end hblk hown rfl hn hlo hhi hoff hown7 hgr hat
      all_goals have hd2 := hd.drew
      all_goals clear hgrow hgr hb7 hown7 c7 z7
      all_goals go_wp2_with fail
      all_goals first
        | exact ⟨Or.inr ⟨by go_num, hd2⟩, by simp [intOf]⟩
        | exact ⟨Or.inr ⟨by go_num, hd⟩, by simp [intOf]⟩
    · go_wp2_with fail
      go_end0
      exact ⟨rfl, hdone⟩

/-- The blocks from lo to hi hold texts. -/
def Texts (lo hi : Nat) (w : World) : Prop := ∀ k, lo ≤ k → k < hi → ∃ cur fr, w.heap[k]? = some (.cells cur 9 fr)
theorem Texts.same {lo hi : Nat} {w w' : World} (h : Texts lo hi w) (hs : Same lo hi w w') : Texts lo hi w' := fun k h1 h2 => by
  obtain ⟨cur, fr, e⟩ := h k h1 h2
  exact ⟨cur, fr, (hs k h1 h2).trans e⟩
theorem Texts.off {lo hi base n : Nat} {w : World} {v : Value} {xs : List Value} (h : Texts lo hi w) (ho : w.ownsRow base 5 1 v n xs) : Off v lo hi := fun g hg => by
  rcases ho.2 with ⟨rfl, _⟩ | ⟨g', cap, cur, rfl, _, hh, _⟩
  · cases hg
  · have e : g' = g := by simpa [Value.ownBlock] using hg
    subst e
    rcases Nat.lt_or_ge g' lo with h1 | h1
    · exact Or.inl h1
    · rcases Nat.lt_or_ge g' hi with h2 | h2
      · obtain ⟨cur2, fr2, e2⟩ := h g' h1 h2
        rw [e2] at hh
        simp at hh
      · exact Or.inr h2
theorem strCells_lst (s : ByteArray) : Lib.strCells s = (lst s).map bv := rfl

set_option maxHeartbeats 8000000 in
theorem addText_any (lo hi g : Nat) (v : Value) (xs : List UInt8) (s : ByteArray) (w : World) (hw : Writes w g v xs) (hs : s.size ≤ 60) (hx : xs.length ≤ 900) (hlo : g < lo) (hhi : hi ≤ w.heap.size) (htx : Texts lo hi w) :
    Calls Try.prog 36 #[.pointer (some ⟨g, 0, none⟩), .string s] w fun e w' => e = .returned (.tuple #[]) ∧ Wrote lo hi g w w' (xs ++ labB (lst s)) := by
  obtain ⟨i0, hi0, hz0, hz1, hz2⟩ := info_parts infoByte
  have hoff := htx.off hw.2
  go_enter Try.func36, Try.ntmps36
  go_wp2_with fail
  refine (addNumber1_any lo hi g v xs s.size w hw (by omega) (by omega) hlo hhi hoff).mono ?_
  rintro e w1 ⟨rfl, v1, hw1, hb1, hs1, hof1⟩
  have htx1 := htx.same hs1
  obtain ⟨hblk, hown⟩ := hw1
  have hgl := hblk.lt
  have hsz1 := hb1.size
  have hl1 : (xs ++ [UInt8.ofNat s.size]).length = xs.length + 1 := by simp
  rw [hl1] at hown
  obtain ⟨A, c, rfl⟩ := own_slice hown
  have c0 : w1.cell? ⟨g, 0, none⟩ = some (.slice A (xs.length + 1) c) := by rw [hblk.cell]; rfl
  have hno : some g ≠ Value.ownBlock (.slice A (xs.length + 1) c) := fun e => by
    have := (hown.lt g e.symm).1
    omega
  clear hl1
  go_wp2_with (at_builtin; refine Lib.wpList_append_own_string w1 rfl (.tmp 12) (.tmp 13) 22 9 rfl (g + 1) 5 i0 Try.underlying22 Try.underlying9 hi0 hz0 hz1 hz2 (.slice A (xs.length + 1) c) (xs.length + 1) _ rfl hown s rfl (by unfold maxLen; omega) (by omega) (by omega) ?_; intro v2 w2 hown2 hgr2 _; obtain ⟨A2, c9, rfl⟩ := own_slice hown2; have hb2 := hblk.grownK hgr2 hno; have c2 : w2.cell? ⟨g, 0, none⟩ = some (.slice A (xs.length + 1) c) := (by rw [hb2.cell]; rfl); have z2 : w2.frozen? ⟨g, 0, none⟩ = false := hb2.frozen 0)
  go_end0
  have hs2 : Same lo hi w1 w2 := fun k h1 h2 => hgr2.block k (by omega) (fun e => by rcases hof1 k e.symm with h3 | h3 <;> omega)
  have hof2 := (htx1.same hs2).off hown2
  have hlen : (xs ++ labB (lst s)).length = xs.length + 1 + s.size := by
    unfold labB
    rw [List.length_append, List.length_cons, lst_length]
    omega
  have hmap : (xs ++ labB (lst s)).map bv = (xs ++ [UInt8.ofNat s.size]).map bv ++ Lib.strCells s := by
    unfold labB
    rw [strCells_lst, lst_length]
    simp
  refine ⟨rfl, _, ⟨hb2.put 0 _, ?_⟩, ?_, ?_, hof2⟩
  · rw [hlen, hmap]
    exact ownsRow_setCell_below hown2 (a := ⟨g, 0, none⟩) (by show g < g + 1; omega) _
  · exact (hb1.trans ((Below.refl g w1).grown hgr2 (by omega) (fun k hk => by have := (hown.lt k hk).1; omega))).setCell (p := ⟨g, 0, none⟩) (Nat.le_refl _) _
  · exact hs1.trans (hs2.trans (fun k h1 h2 => Below.heap_setCell w2 ⟨g, 0, none⟩ _ k (by show k ≠ g; omega)))

theorem Wrote.trans {lo hi g : Nat} {a b c : World} {xs ys : List UInt8} (h : Wrote lo hi g a b xs) (k : Wrote lo hi g b c ys) : Wrote lo hi g a c ys := by
  obtain ⟨_, _, h2, h3, _⟩ := h
  obtain ⟨v, k1, k2, k3, k4⟩ := k
  exact ⟨v, k1, h2.trans k2, h3.trans k3, k4⟩
theorem Writes.next {w w' : World} {g : Nat} {v : Value} {xs : List UInt8} (h : Writes w g v xs) (hb : Below w.heap.size w w') : Writes w' g v xs := ⟨h.1.next hb, own_next h.2 hb⟩
theorem lookup_nil (k : ByteArray) (w : World) : (Instr.lookup 47 (.map none) (.string k) true).run Try.prog w = .ok (.tuple #[.int .i64 0, .bool false]) w := by
  kernel_rfl
theorem joinL_bound {s : Z.Str} (hv : Z.valid s = true) (k : Nat) : (Z.join ((Z.labs s).drop k)).length ≤ 67108864 := by
  rw [← labels_valid hv]
  exact join_drop_bound hv k

set_option maxHeartbeats 16000000 in
theorem addName_any (g : Nat) (v : Value) (xs : List UInt8) (s : ByteArray) (w : World) (hw : Writes w g v xs) (hv : Z.valid (lst s) = true) (hx : xs.length ≤ 700) :
    Calls Try.prog 24 #[.pointer (some ⟨g, 0, none⟩), .string s] w fun e w' => e = .returned (.tuple #[]) ∧ ∃ v', Writes w' g v' (xs ++ packN (lst s)) ∧ Below g w w' := by
  have hok := Z.valid_iff.1 hv
  have hsz : s.size ≤ 60 := by rw [← lst_length]; exact hok.2.1
  have h8 : (Z.labs (lst s)).length ≤ 8 := hok.2.2.2.2
  have hpos := Z.okLabs_pos hok.2.2.2.1
  have hpl : (packL (Z.labs (lst s))).length ≤ 88 := by
    rw [packL_length]
    have : ∀ ls : List Z.Str, (∀ l ∈ ls, l.length ≤ 10) → (ls.map (fun l => l.length + 1)).sum ≤ 11 * ls.length := by
      intro ls
      induction ls with
      | nil => intro _; simp
      | cons a r ih =>
        intro h
        have h1 := h a (by simp)
        have h2 := ih (fun l hl => h l (by simp [hl]))
        simp only [List.map_cons, List.sum_cons, List.length_cons]
        omega
    have h9 := this _ (fun l hl => (hpos l hl).2)
    omega
  have hlv := hid (labels_valid hv)
  have HP := hid hpos
  have HPL := hid hpl
  have HV := hid hv
  have HJ := hid (joinL_bound hv)
  have hgl := hw.1.lt
  clear hok hpos hpl hv
  go_enter Try.func24, Try.ntmps24
  go_wp2_with fail
  refine (iLabelsOf_any s (by unfold maxLen; omega) w).mono ?_
  rintro e w1 ⟨A3, c3, rfl, hown3, hb1⟩
  rw [hlv.out] at hown3 ⊢
  have hcap := (own_cap hown3).1
  have hcm := (own_cap hown3).2
  unfold maxLen at hcm
  have hw1 := hw.next hb1
  have hsz1 := hb1.size
  have hbg1 : Below g w w1 := hb1.mono (by omega)
  by_cases h0 : (Z.labs (lst s)).length = 0
  · have hnil : Z.labs (lst s) = [] := List.eq_nil_of_length_eq_zero h0
    have HNIL := hid hnil
    rw [hnil] at hcap hown3 ⊢
    clear hown3 hnil h0 hcap
    go_wp2_with fail
    go_loopw [14] (fun i wr => i = .int .i64 0 ∧ wr = w1) (fun _ _ => 0)
    case atStart => exact ⟨rfl, rfl⟩
    case round =>
      obtain ⟨rfl, rfl⟩ := hrel
      go_wp2_with fail
      refine (addNumber1_any (g + 1) (g + 1) g v _ 0 wr hw1 (by omega) (by omega) (by omega) (by omega) (fun g9 h9 => by omega)).mono ?_
      rintro e w6 ⟨rfl, v6, k1, k2, k3, k4⟩
      go_wp2_with fail
      go_end0
      refine ⟨rfl, v6, ?_, hbg1.trans k2⟩
      unfold packN
      rw [HNIL.out]
      exact k1
  · obtain ⟨g3, cap3, hvv, hbg3, hgl3⟩ := hown3.form (by omega)
    injection hvv with hA _ hC
    subst hA
    subst hC
    have hrd := Reads.of_own hown3
    have htx : Texts g3 (g3 + 1) w1 := fun k h1 h2 => by
      obtain rfl : k = g3 := by omega
      rcases hown3.2 with ⟨h9, _⟩ | ⟨g', cap, cur, hv9, _, hh, _⟩
      · cases h9
      · injection hv9 with hA9
        injection hA9 with hA9
        injection hA9 with hA9
        subst hA9
        exact ⟨_, _, hh⟩
    have hwr0 : Wrote g3 (g3 + 1) g w1 w1 (xs ++ packL ((Z.labs (lst s)).take 0)) := ⟨v, by simpa [packL] using hw1, Below.refl _ _, Same.refl _ _ _, htx.off hw1.2⟩
    clear hown3
    go_wp2_with fail
    go_loopw [14] (fun i wr => ∃ k : Nat, k ≤ (Z.labs (lst s)).length ∧ i = .int .i64 k ∧ Wrote g3 (g3 + 1) g w1 wr (xs ++ packL ((Z.labs (lst s)).take k))) (fun i _ => (Z.labs (lst s)).length - (intOf i).toNat)
    case atStart => exact ⟨0, Nat.zero_le _, rfl, hwr0⟩
    case round =>
      clear hwr0
      obtain ⟨k, hk, rfl, hwr⟩ := hrel
      obtain ⟨v4, hw4, hb4, hs4, hof4⟩ := hwr
      have hsz4 := hb4.size
      have hr4 : Reads wr w1.heap.size (some ⟨g3, 0, none⟩) (Z.labs (lst s)).length ((Z.labs (lst s)).map sv) := reads_same hrd (fun ad e => by
        obtain rfl := Option.some.inj e
        exact hs4 _ (Nat.le_refl _) (by show g3 < g3 + 1; omega))
      have c1 : wr.cell? ⟨g, 1, none⟩ = some (.map none) := by rw [hw4.1.cell]; rfl
      by_cases hlt : k < (Z.labs (lst s)).length
      · obtain ⟨ad, x, hade, hab, hx9, hcell⟩ := reads_str hr4 hlt
        obtain rfl := Option.some.inj hade
        have p1 : 0 ≤ (k : Int) := by omega
        have p2 : (k : Int) < (Z.labs (lst s)).length := by omega
        have p3 : (k : Int) ≤ c3 := by omega
        have p4 : k ≤ c3 := by omega
        have p5 : ¬ k = c3 := by omega
        have p6 : ¬ c3 = k := by omega
        have hca : wr.cell? ⟨g3, k, none⟩ = some (.string x) := by
          have e : (⟨g3, 0, none⟩ : Addr).add k = ⟨g3, k, none⟩ := by unfold Addr.add; split <;> simp_all
          rw [← e]
          exact hcell
        have hcut : Reads wr w1.heap.size (some ⟨g3, k, none⟩) ((Z.labs (lst s)).length - k) (((Z.labs (lst s)).drop k).map sv) := by
          have h9 := hr4.cut (k := k) hcap
          rw [if_neg p6] at h9
          have e : (⟨g3, 0, none⟩ : Addr).add k = ⟨g3, k, none⟩ := by unfold Addr.add; split <;> simp_all
          simp only [Option.map_some, e] at h9
          rw [List.map_drop]
          exact h9
        have hxk : (Z.labs (lst s))[k]? = some (lst x) := by
          rw [hx9, List.getElem?_eq_getElem hlt]
          simp [hlt]
        have hxl := (HP.out _ (List.mem_of_getElem? hxk)).2
        rw [lst_length] at hxl
        have HPK := hid (packL_take hxk)
        have hle := Nat.le_trans (packL_le (ls := Z.labs (lst s)) (k := k)) HPL.out
        have HX9 := hid hx9
        clear hcell hx9 hxk
        go_wp2_with fail
        refine (joinLabels_any ((Z.labs (lst s)).drop k) _ _ _ _ _ hcut (fun _ => ⟨g3, k, rfl, by omega⟩) (by omega) (by rw [List.length_drop]; omega) (HJ.out k)).mono ?_
        rintro e w5 ⟨rfl, hb5⟩
        have hw5 := hw4.next hb5
        have c5 : w5.cell? ⟨g, 1, none⟩ = some (.map none) := by rw [hw5.1.cell]; rfl
        have hlk : ∀ W, (Instr.lookup 47 (.map none) (.string (bs (Z.join ((Z.labs (lst s)).drop k)))) true).run Try.prog W = .ok (.tuple #[.int .i64 0, .bool false]) W := fun W => lookup_nil _ W
        have qT : ∀ (w : World) (r : Option Nat), (Go.binOp .neq 47 (.map r) (.map none)).run Try.prog w = .ok (.bool (!r.isNone)) w := fun w r => run_neq_map_nil w _ _ _ r Try.underlying47
        go_wp2_with fail
        have hs5 : Same g3 (g3 + 1) wr w5 := Same.below hb5 (by omega)
        refine (addText_any g3 (g3 + 1) g v4 _ x w5 hw5 (by omega) (by rw [List.length_append]; omega) (by omega) (by have := hb5.size; omega) ((htx.same hs4).same hs5)).mono ?_
        rintro e w6 ⟨rfl, hwr6⟩
        have hwr7 : Wrote g3 (g3 + 1) g w1 w6 (xs ++ packL ((Z.labs (lst s)).take (k + 1))) := by
          obtain ⟨v6, k1, k2, k3, k4⟩ := hwr6
          rw [HPK.out, ← List.append_assoc]
          exact ⟨v6, k1, (hb4.trans (hb5.mono (by omega))).trans k2, (hs4.trans hs5).trans k3, k4⟩
        clear hwr6 hlk qT
        go_wp2_with fail
        exact ⟨⟨k + 1, by omega, by go_num, hwr7⟩, by simp [intOf]; omega⟩
      · obtain rfl : k = (Z.labs (lst s)).length := by omega
        rw [List.take_of_length_le (Nat.le_refl _)] at hw4
        go_wp2_with fail
        refine (addNumber1_any g3 (g3 + 1) g v4 _ 0 wr hw4 (by omega) (by rw [List.length_append]; have := HPL.out; omega) (by omega) (by omega) hof4).mono ?_
        rintro e w6 ⟨rfl, v6, k1, k2, k3, k4⟩
        go_wp2_with fail
        go_end0
        refine ⟨rfl, v6, ?_, hbg1.trans (hb4.trans k2)⟩
        unfold packN
        rw [← List.append_assoc]
        exact k1

theorem own_less {w : World} {B B' : Nat} {e : TypeId} {size : Nat} {v : Value} {n : Nat} {xs : List Value} (h : w.ownsRow B e size v n xs) (hB : B' ≤ B) : w.ownsRow B' e size v n xs := by
  obtain ⟨h1, h2⟩ := h
  refine ⟨h1, ?_⟩
  rcases h2 with h2 | ⟨g, cap, cur, hv, hg, r⟩
  · exact Or.inl h2
  · exact Or.inr ⟨g, cap, cur, hv, by omega, r⟩

set_option maxHeartbeats 4000000 in
theorem iPackName_any (s : ByteArray) (hs : s.size ≤ 67108864) (w : World) :
    Calls Try.prog 11 #[.string s] w fun e w' => ∃ A c, e = .returned (.tuple #[.slice A (packOut (lst s)).length c, .bool (Z.valid (lst s))]) ∧ w'.ownsRow w.heap.size 5 1 (.slice A (packOut (lst s)).length c) (packOut (lst s)).length ((packOut (lst s)).map bv) ∧ Below w.heap.size w w' := by
  cases hv : Z.valid (lst s) with
  | false =>
    have hpo : packOut (lst s) = [] := by unfold packOut; rw [if_neg (by simp [hv])]
    rw [hpo]
    have HV := hid hv
    clear hv hpo
    go_enter Try.func11, Try.ntmps11
    go_wp2_with fail
    refine (iNameValid_any s (by unfold maxLen; omega) _).mono ?_
    rintro e w2 ⟨rfl, hb2⟩
    rw [HV.out]
    go_wp2_with fail
    go_ret2
    exact ⟨_, _, rfl, World.ownsRow_nil _ _ _ 1, hb2⟩
  | true =>
    have hpo : packOut (lst s) = packN (lst s) := by unfold packOut; rw [if_pos hv]
    rw [hpo]
    have HV := hid hv
    clear hpo
    go_enter Try.func11, Try.ntmps11
    go_wp2_with fail
    refine (iNameValid_any s (by unfold maxLen; omega) _).mono ?_
    rintro e w2 ⟨rfl, hb2⟩
    rw [HV.out]
    have hw3 : Writes (w2.alloc (.cells #[.slice none 0 0, .map none] 49)) w2.heap.size (.slice none 0 0) [] := ⟨Blk.new w2 _ [.slice none 0 0, .map none], World.ownsRow_nil _ _ _ 1⟩
    have hb3 := hb2.alloc (by have := hb2.size; omega) (.cells #[.slice none 0 0, .map none] 49)
    clear hv
    go_wp2_with fail
    refine (addName_any w2.heap.size (.slice none 0 0) [] s _ hw3 HV.out (by simp)).mono ?_
    rintro e w4 ⟨rfl, v4, hw4, hb4⟩
    rw [List.nil_append] at hw4
    obtain ⟨A, c, rfl⟩ := own_slice hw4.2
    have c4 : w4.cell? ⟨w2.heap.size, 0, none⟩ = some (.slice A (packN (lst s)).length c) := by rw [hw4.1.cell]; rfl
    go_wp2_with fail
    go_ret2
    exact ⟨A, c, rfl, own_less hw4.2 (by have := hb2.size; omega), hb3.trans (hb4.mono (by have := hb2.size; omega))⟩
end Go.Proofs.Ythbeecgfikcfdaa

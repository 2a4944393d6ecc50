/- What the helpers of the laws return: sizes of lists of texts and copies of them. -/
import Derived.Test.YtgmmaehdpongcaaDoorN
namespace Go.Proofs.YtgmmaehdpongcaaDoor
open Go.RowKit
set_option maxRecDepth 100000

def sizes (ls : List Z.Str) : Nat := (ls.map List.length).sum
theorem sizes_take (ls : List Z.Str) (k : Nat) (h : k < ls.length) : sizes (ls.take (k + 1)) = sizes (ls.take k) + (ls.getD k []).length := by
  have e : ls.getD k [] = ls[k] := by simp [h]
  unfold sizes
  rw [List.take_succ_eq_append_getElem h, e, List.map_append, List.sum_append, List.map_singleton, List.sum_singleton]
theorem sizes_mem {ls : List Z.Str} {l : Z.Str} (h : l ∈ ls) : l.length ≤ sizes ls := by
  unfold sizes
  induction ls with
  | nil => cases h
  | cons a r ih =>
    simp only [List.map_cons, List.sum_cons]
    rcases List.mem_cons.1 h with rfl | h
    · omega
    · have := ih h; omega

set_option maxHeartbeats 1000000 in
theorem szStringS_from (M : Nat) (hM : M ≤ 1048576) (ls : List Z.Str) (B : Nat) (A : Option Addr) (n c : Nat) (w : World) (hr : Reads w B A n (ls.map sv)) (hn : ls.length ≤ maxLen) (hl : ∀ l ∈ ls, List.length l ≤ maxLen) :
    Calls Tryd.prog 34 #[.slice A n c, (.int .i64 (M : Int))] w fun e w' => ∃ m : Int, e = .returned (.int .i64 m) ∧ Hid (m < 0 ∨ (0 ≤ m ∧ ls.length + sizes ls ≤ M)) ∧ w = w' := by
  unfold maxLen at hn hl
  obtain rfl : n = ls.length := by simpa using hr.1.symm
  have HL := hid hl
  clear hl
  by_cases hb : ls.length ≤ M
  · go_enter Tryd.func34, Tryd.ntmps34
    go_wp2_with fail
    go_loop [1, 5] (fun v i => ∃ (k t : Nat), k ≤ ls.length ∧ i = .int .i64 k ∧ v = .int .i64 (t : Int) ∧ t ≤ 1048576 ∧ Hid (t + ls.length + sizes (ls.take k) = M)) (fun _ i => ls.length - (intOf i).toNat)
    case atStart => exact ⟨0, M - ls.length, Nat.zero_le _, rfl, by go_num, by omega, hid (by simp [sizes]; omega)⟩
    case round =>
      obtain ⟨k, t, hk, rfl, rfl, htb, ht⟩ := hrel
      by_cases hlt : k < ls.length
      · obtain ⟨ad, x, rfl, hab, hx, hcell⟩ := reads_str hr hlt
        have hxs : x.size ≤ 2 ^ 63 - 1 := by
          rw [← lst_length, hx]
          exact HL.out _ (by simp [hlt])
        have hst := hid (sizes_take ls k hlt)
        have Hx : Hid ((ls.getD k []).length = x.size) := hid (by rw [← hx, lst_length])
        have hcell0 : k = 0 → w.cell? ad = some (.string x) := fun e => by subst e; simpa [Addr.add] using hcell
        clear hx
        by_cases hneg : t < x.size
        · go_wp2_with fail
          all_goals go_ret
          all_goals exact ⟨_, rfl, hid (Or.inl (by omega)), rfl⟩
        · have hge : x.size ≤ t := by omega
          clear hneg
          go_wp2_with fail
          all_goals exact ⟨⟨k + 1, t - x.size, by omega, by go_num, by go_num, by omega, hid (by have := ht.out; rw [hst.out, Hx.out]; omega)⟩, by simp [intOf]; omega⟩
      · have hfin : Hid (ls.length + sizes ls ≤ M) := hid (by
          have h1 := ht.out
          rw [List.take_of_length_le (by omega)] at h1
          omega)
        go_wp2_with fail
        go_ret
        exact ⟨_, rfl, hid (Or.inr ⟨by omega, hfin.out⟩), rfl⟩
  · go_enter Tryd.func34, Tryd.ntmps34
    go_wp2_with fail
    go_ret
    exact ⟨_, rfl, hid (Or.inl (by omega)), rfl⟩
theorem szStringS_any (ls : List Z.Str) (B : Nat) (A : Option Addr) (n c : Nat) (w : World) (hr : Reads w B A n (ls.map sv)) (hn : ls.length ≤ maxLen) (hl : ∀ l ∈ ls, List.length l ≤ maxLen) :
    Calls Tryd.prog 34 #[.slice A n c, .int .i64 1048576] w fun e w' => ∃ m : Int, e = .returned (.int .i64 m) ∧ Hid (m < 0 ∨ (0 ≤ m ∧ ls.length + sizes ls ≤ 1048576)) ∧ w = w' :=
  szStringS_from 1048576 (Nat.le_refl _) ls B A n c w hr hn hl
/-- The first k texts, and empty ones behind them. -/
def copied (ls : List Z.Str) (k : Nat) : List Z.Str := ls.take k ++ List.replicate (ls.length - k) []
theorem copied_length (ls : List Z.Str) (k : Nat) (h : k ≤ ls.length) : (copied ls k).length = ls.length := by simp [copied]; omega
theorem copied_set (ls : List Z.Str) (k : Nat) (h : k < ls.length) : (copied ls k).set k (ls.getD k []) = copied ls (k + 1) := by
  have e : ls.getD k [] = ls[k] := by simp [h]
  unfold copied
  rw [e, List.take_succ_eq_append_getElem h, List.set_append_right _ _ (by simp; omega)]
  have e2 : ls.length - k = (ls.length - (k + 1)) + 1 := by omega
  have e3 : k - (ls.take k).length = 0 := by rw [List.length_take]; omega
  rw [e2, e3, List.replicate_succ, List.set_cons_zero, List.append_assoc]
  rfl
theorem copied_all (ls : List Z.Str) : copied ls ls.length = ls := by simp [copied]
theorem made_empty (n : Nat) : (madeCells #[Value.string ⟨#[]⟩] (n * 1)).toList = (List.replicate n ([] : Z.Str)).map sv := by
  apply List.ext_getElem?
  intro i
  rw [List.getElem?_map]
  by_cases h : i < n
  · rw [List.getElem?_replicate, if_pos h]
    simp [madeCells, h, Nat.mod_one]
    rfl
  · rw [List.getElem?_replicate, if_neg h]
    simp [madeCells]
    omega

set_option maxHeartbeats 1000000 in
theorem toStringS_any (ls : List Z.Str) (B : Nat) (A : Option Addr) (n c : Nat) (w : World) (hr : Reads w B A n (ls.map sv)) (hB : B ≤ w.heap.size) (hn : ls.length ≤ 1048576) :
    Calls Tryd.prog 36 #[.slice A n c] w fun e w' => ∃ A2 c2, e = .returned (.slice A2 n c2) ∧ w'.ownsRow w.heap.size 9 1 (.slice A2 n c2) n (ls.map sv) ∧ Below w.heap.size w w' := by
  obtain rfl : n = ls.length := by simpa using hr.1.symm
  obtain ⟨i0, hi0, hz0, hz1, hz2⟩ := info_parts infoStr
  go_enter Tryd.func36, Tryd.ntmps36
  go_wp2_with (at_make; refine wpList_make_full _ rfl _ _ 34 rfl w.heap.size 9 i0 _ 1 Tryd.underlying34 hi0 hz0 hz1 _ _ _ _ ls.length rfl rfl rfl rfl (by rw [hz2]; omega) (by unfold maxLen; omega) (Nat.le_refl _) ?_; intro w1 hown1 hg1)
  have hb1 : Below w.heap.size w w1 := (Below.refl _ _).grown hg1 (Nat.le_refl _) (fun k h => by cases h)
  have hown2 : w1.ownsRow w.heap.size 9 1 (.slice (some ⟨w.heap.size, 0, none⟩) ls.length ls.length) ls.length ((copied ls 0).map sv) := by
    have : copied ls 0 = List.replicate ls.length [] := by simp [copied]
    rw [this, ← made_empty]
    exact hown1
  clear hown1 hg1
  go_loopw [4] (fun i wr => ∃ k : Nat, k ≤ ls.length ∧ i = .int .i64 k ∧ wr.ownsRow w.heap.size 9 1 (.slice (some ⟨w.heap.size, 0, none⟩) ls.length ls.length) ls.length ((copied ls k).map sv) ∧ Below w.heap.size w wr) (fun i _ => ls.length - (intOf i).toNat)
  case atStart => exact ⟨0, Nat.zero_le _, rfl, hown2, hb1⟩
  case round =>
    obtain ⟨k, hk, rfl, ho, hb⟩ := hrel
    by_cases hlt : k < ls.length
    · obtain ⟨ad, x, rfl, hab, hx, hcell⟩ := reads_str (hr.below hb hB) hlt
      have HX := hid hx
      clear hx
      have hcl := hid (copied_length ls k hk)
      have hcell2 : wr.cell? ⟨w.heap.size, k, none⟩ = some (.string (bs ((copied ls k).getD k []))) := by
        rw [ho.cellAt k (by omega), List.getElem?_map, List.getElem?_eq_getElem (by rw [hcl.out]; exact hlt)]
        simp [sv, hcl.out, hlt]
      have hfz := ho.frozenAt k
      obtain ⟨ho3, _⟩ := ho.stored k (.string x)
      have hset : ((copied ls k).map sv).set k (.string x) = (copied ls (k + 1)).map sv := by
        rw [← sv_lst x, ← List.map_set, HX.out, copied_set ls k hlt]
      rw [hset] at ho3
      have hb3 := hb.setCell (p := ⟨w.heap.size, k, none⟩) (Nat.le_refl _) (.string x)
      have hcell0 : k = 0 → wr.cell? ad = some (.string x) := fun e => by subst e; simpa [Addr.add] using hcell
      clear hset ho
      go_wp2_with fail
      all_goals exact ⟨⟨k + 1, by omega, by go_num, ho3, hb3⟩, by simp [intOf]; omega⟩
    · obtain rfl : k = ls.length := by omega
      rw [copied_all] at ho
      go_wp2_with fail
      go_ret
      exact ⟨_, _, rfl, ho, hb⟩
end Go.Proofs.YtgmmaehdpongcaaDoor

/- What the functions of the model's chapter 1 return: the order, parents, wildcards and common tops. -/
import Derived.Test.YtaiijnaockbahaaV
namespace Go.Proofs.Ytaiijnaockbahaa
open Go.RowKit
set_option maxRecDepth 100000

/-! ### lists from their ends -/

/-- The element at a place, from the end. -/
def rget (l : List Z.Str) (k : Nat) : Z.Str := l.getD (l.length - (k + 1)) []
theorem rget_rev (l : List Z.Str) (k : Nat) (h : k < l.length) : l.reverse.drop k = rget l k :: l.reverse.drop (k + 1) := by
  rw [List.drop_eq_getElem_cons (by simpa using h), List.getElem_reverse]
  unfold rget
  congr 1
  have h2 : l.length - (k + 1) < l.length := by omega
  have h3 : l.length - 1 - k = l.length - (k + 1) := by omega
  simp [h2, h3]

def EndsSame (x y : List Z.Str) (k : Nat) : Prop := Z.ltRev x.reverse y.reverse = Z.ltRev (x.reverse.drop k) (y.reverse.drop k)
theorem endsSame_start (x y : List Z.Str) : EndsSame x y 0 := rfl
theorem endsSame_next {x y : List Z.Str} {k : Nat} (h : EndsSame x y k) (hx : k < x.length) (hy : k < y.length) (e : rget x k = rget y k) : EndsSame x y (k + 1) := by
  unfold EndsSame at h ⊢
  rw [h, rget_rev x k hx, rget_rev y k hy, e]
  simp [Z.ltRev]
theorem endsSame_ne {x y : List Z.Str} {k : Nat} (h : EndsSame x y k) (hx : k < x.length) (hy : k < y.length) (e : rget x k ≠ rget y k) : Z.ltRev x.reverse y.reverse = decide (rget x k < rget y k) := by
  unfold EndsSame at h
  rw [h, rget_rev x k hx, rget_rev y k hy]
  simp [Z.ltRev, e]
theorem endsSame_end {x y : List Z.Str} {k : Nat} (h : EndsSame x y k) (hx : k ≤ x.length) (hy : k ≤ y.length) (e : k = x.length ∨ k = y.length) : Z.ltRev x.reverse y.reverse = decide (x.length < y.length) := by
  unfold EndsSame at h
  rw [h]
  rcases e with e | e
  · rw [List.drop_of_length_le (by simp; omega)]
    by_cases h2 : k < y.length
    · rw [rget_rev y k h2]; simp [Z.ltRev]; omega
    · rw [List.drop_of_length_le (by simp; omega)]; simp [Z.ltRev]; omega
  · rw [List.drop_of_length_le (l := y.reverse) (by simp; omega)]
    by_cases h2 : k < x.length
    · rw [rget_rev x k h2]; simp [Z.ltRev]; omega
    · rw [List.drop_of_length_le (by simp; omega)]; simp [Z.ltRev]; omega

theorem reads_end {w : World} {B : Nat} {A : Option Addr} {ls : List Z.Str} {k : Nat} (h : Reads w B A ls.length (ls.map sv)) (hk : k < ls.length) :
    ∃ ad s, A = some ad ∧ ad.block < B ∧ lst s = rget ls k ∧ w.cell? (ad.add (ls.length - (k + 1))) = some (.string s) := reads_str h (by omega)

set_option maxHeartbeats 1000000 in
theorem l1Order_any (s t : ByteArray) (hs : s.size ≤ 67108864) (ht : t.size ≤ 67108864) (w : World) :
    Calls Try.prog 40 #[.string s, .string t] w fun e w' => ∃ m : Int, e = .returned (.int .i64 m) ∧ Hid (decide (m < 0) = Z.ltRev (Z.labs (lst s)).reverse (Z.labs (lst t)).reverse) ∧ Below w.heap.size w w' := by
  have hx := Z.labs_count (lst s)
  have hy := Z.labs_count (lst t)
  rw [lst_length] at hx hy
  go_enter Try.func40, Try.ntmps40
  go_wp2_with fail
  refine (l1Labels_any s hs _).mono ?_
  rintro e w1 ⟨A, c, rfl, hown1, hb1⟩
  go_wp2_with fail
  refine (l1Labels_any t ht _).mono ?_
  rintro e w2 ⟨A2, c2, rfl, hown2, hb2⟩
  have hr1 := (Reads.of_own hown1).below hb2 (Nat.le_refl _)
  have hr2 := Reads.of_own hown2
  have hbb := below2 hb1 hb2
  clear hown1 hown2 hb1 hb2
  go_wp2_with fail
  go_loop [7] (fun i => ∃ (k : Nat), k ≤ (Z.labs (lst s)).length ∧ k ≤ (Z.labs (lst t)).length ∧ i = .int .i64 (k + 1) ∧ Hid (EndsSame (Z.labs (lst s)) (Z.labs (lst t)) k)) (fun i => (Z.labs (lst t)).length + 1 - (intOf i).toNat)
  case atStart => exact ⟨0, Nat.zero_le _, Nat.zero_le _, rfl, hid (endsSame_start _ _)⟩
  case round =>
    obtain ⟨k, hk1, hk2, rfl, hok⟩ := hrel
    by_cases hlt : k < (Z.labs (lst s)).length ∧ k < (Z.labs (lst t)).length
    · obtain ⟨hlt1, hlt2⟩ := hlt
      obtain ⟨ad1, x, rfl, hab1, hx2, hcell1⟩ := reads_end hr1 hlt1
      obtain ⟨ad2, y, rfl, hab2, hy2, hcell2⟩ := reads_end hr2 hlt2
      have Hx := hid hx2
      have Hy := hid hy2
      clear hx2 hy2
      go_wp2
      · have hb : Op.bytesLess x.toList y.toList = true := by assumption
        rw [bytesLess_lt, toList_lst, toList_lst] at hb
        have hlt : lst x < lst y := by simpa using hb
        go_ret
        refine ⟨_, rfl, hid ?_, hbb⟩
        rw [endsSame_ne hok.out hlt1 hlt2 (by rw [← Hx.out, ← Hy.out]; exact fun e => Z.lt_irrefl' _ (e ▸ hlt)), ← Hx.out, ← Hy.out]
        simp [hlt]
      · have hb : Op.bytesLess x.toList y.toList = false := by assumption
        have hq : (!x.toList == y.toList) = true := by assumption
        rw [bytesLess_lt, toList_lst, toList_lst] at hb
        rw [toList_lst, toList_lst] at hq
        have hlt : ¬ lst x < lst y := by simpa using hb
        have hne : lst x ≠ lst y := by simpa using hq
        go_ret
        refine ⟨_, rfl, hid ?_, hbb⟩
        rw [endsSame_ne hok.out hlt1 hlt2 (by rw [← Hx.out, ← Hy.out]; exact hne), ← Hx.out, ← Hy.out]
        simp [hlt]
      · have hq : (!x.toList == y.toList) = false := by assumption
        rw [toList_lst, toList_lst] at hq
        have he : lst x = lst y := by simpa using hq
        exact ⟨⟨k + 1, by omega, by omega, by go_num, hid (endsSame_next hok.out hlt1 hlt2 (by rw [← Hx.out, ← Hy.out]; exact he))⟩, by simp [intOf]; omega⟩
    · have hend := hid (endsSame_end hok.out hk1 hk2 (by omega))
      by_cases h1 : k < (Z.labs (lst s)).length
      all_goals
        go_wp2
        go_ret
        refine ⟨_, rfl, hid ?_, hbb⟩
        rw [hend.out]
        simp
        try omega

/-- The three ways that a function of two names takes before its work. -/
theorem pair_false {a b : Bool} (h : a = false ∨ b = false) : (a && b) = false := by rcases h with h | h <;> simp [h]

theorem root_iff (s : ByteArray) : (s.toList == [46]) = decide (lst s = [46]) := by rw [toList_lst, Bool.eq_iff_iff]; simp
/-- What is behind the first k elements of a row of the call's own. -/
theorem own_drop {w : World} {base : Nat} {e : TypeId} {A : Option Addr} {n c : Nat} {ls : List Z.Str} (h : w.ownsRow base e 1 (.slice A n c) n (ls.map sv)) (h1 : 1 ≤ n) (k : Nat) :
    ∃ g, A = some ⟨g, 0, none⟩ ∧ (c = k → Reads w w.heap.size (some ⟨g, 0, none⟩) 0 ((ls.drop k).map sv)) ∧ (c ≠ k → Reads w w.heap.size (some ⟨g, k, none⟩) (n - k) ((ls.drop k).map sv)) := by
  have hr := Reads.of_own h
  obtain ⟨g, cap, hv, _, _⟩ := h.form h1
  injection hv with hA
  subst hA
  have := hr.cut (k := k) (own_cap h).1
  rw [List.map_drop]
  refine ⟨g, rfl, fun e => ?_, fun e => ?_⟩
  · have h0 : n - k = 0 := by have := (own_cap h).1; omega
    rwa [if_pos e, h0] at this
  · rw [if_neg e] at this
    have e2 : (Option.map (fun x => x.add k) (some (⟨g, 0, none⟩ : Addr))) = some ⟨g, k, none⟩ := by
      by_cases hk : k = 0 <;> simp [Addr.add, hk]
    rwa [e2] at this

def starText (p : Z.Str) : Z.Str := if p = [46] then [42, 46] else [42, 46] ++ p
theorem starOf_text (s : Z.Str) : Z.starOf s = (Z.parentOf s).map starText := Z.starOf_eq s

end Go.Proofs.Ytaiijnaockbahaa

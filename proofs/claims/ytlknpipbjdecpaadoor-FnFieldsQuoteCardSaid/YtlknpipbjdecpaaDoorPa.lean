/- What the program's readers of numbers and of quoted texts return. What the program's readers of lists of numbers, of quoted texts and of the fields of data return. -/
import Derived.Test.YtlknpipbjdecpaaDoorSf
import Derived.Test.YtlknpipbjdecpaaDoorBk
import Derived.Test.YtlknpipbjdecpaaDoorMa
import Derived.Outline
import Derived.Test.YtlknpipbjdecpaaDoorShelf
import Derived.Handy
namespace Go.Proofs.YtlknpipbjdecpaaDoor
open Go.RowKit
set_option maxRecDepth 100000
set_option linter.unusedVariables false

theorem readNum_empty {s : ByteArray} (m : Int) (h : s.size = 0) : Z.readNum (lst s) m = none := by
  have : lst s = [] := List.length_eq_zero_iff.1 (by rw [lst_length]; exact h)
  simp [Z.readNum, this]
theorem readNum_zero {s : ByteArray} (m : Int) (h : 0 < s.size) (h0 : (s[0].toNat : Int) = 48) (h1 : 1 < s.size) : Z.readNum (lst s) m = none := by
  have e : s[0] = 48 := by rw [← UInt8.toNat_inj]; simp; omega
  have hh := head_lst h
  rw [e] at hh
  unfold Z.readNum
  rw [if_neg (fun hx => hx.2.2.1 ⟨hh, by rw [lst_length]; exact h1⟩)]
theorem readNum_digit {s : ByteArray} {k : Nat} (m : Int) (hk : k < s.size) (h : ¬ (48 ≤ (s[k].toNat : Int) ∧ (s[k].toNat : Int) ≤ 57)) : Z.readNum (lst s) m = none := by
  have hm : s[k] ∈ lst s := by rw [← lst_get s k hk]; exact List.getElem_mem _
  have : ¬ (lst s).all Z.digit = true := fun ha => h ((digit_int _).1 (List.all_eq_true.1 ha _ hm))
  unfold Z.readNum
  rw [if_neg (fun hh => this hh.2.1)]
theorem readNum_great {s : ByteArray} {k N : Nat} {m : Int} (hn : NumAt s k N) (h : m < N) : Z.readNum (lst s) m = none := by
  have h1 := Z.natOf_take_le (lst s) k
  rw [← hn.1] at h1
  unfold Z.readNum
  rw [if_neg (fun hh => by have := hh.2.2.2; omega)]
theorem readNum_good {s : ByteArray} {N : Nat} {m : Int} (h : 0 < s.size) (h0 : Lead s false h) (hn : NumAt s s.size N) (hm : (N : Int) ≤ m) : Z.readNum (lst s) m = some (N : Int) := by
  obtain ⟨e, a, _⟩ := hn
  rw [List.take_of_length_le (by rw [lst_length]; exact Nat.le_refl _)] at e a
  have hh := head_lst h
  have hne : lst s ≠ [] := fun e2 => by rw [e2] at hh; cases hh
  have hno : ¬ ((lst s).head? = some 48 ∧ 1 < (lst s).length) := fun hx => by
    rcases h0 with h0 | h0
    · rw [hh] at hx
      have h3 : s[0] = 48 := Option.some.inj hx.1
      exact h0 (by rw [h3]; rfl)
    · have h4 := hx.2
      rw [lst_length] at h4
      omega
  unfold Z.readNum
  rw [e] at hm ⊢
  rw [if_pos ⟨hne, a, hno, hm⟩]
theorem toList_one {s : ByteArray} (h : s.size = 1) (h0 : (s[0].toNat : Int) = 48) : (s.toList == [48]) = true := by
  have e : s[0] = 48 := by rw [← UInt8.toNat_inj]; simp; omega
  have h1 : lst s = [48] := by
    have h2 := head_lst (s := s) (by omega)
    rw [e] at h2
    have h3 : (lst s).length = 1 := by rw [lst_length]; exact h
    match hl : lst s, h3 with
    | [x], _ => rw [hl] at h2; simp at h2; rw [h2]
  rw [toList_lst, h1]; rfl
theorem toList_more {s : ByteArray} (h : 1 < s.size) : (s.toList == [48]) = false := by
  rw [toList_lst]
  apply beq_eq_false_iff_ne.2
  intro e
  have := congrArg List.length e
  rw [lst_length] at this
  simp at this
  omega
theorem toList_empty {s : ByteArray} (h : 0 < s.size) : s.toList.isEmpty = false := by
  rw [toList_lst]
  cases e : lst s with
  | nil => have h2 := lst_length s; rw [e] at h2; simp only [List.length_nil] at h2; omega
  | cons => rfl

end Go.Proofs.YtlknpipbjdecpaaDoor

namespace Go.Proofs.YtlknpipbjdecpaaDoor
open Go.RowKit
set_option maxRecDepth 100000
set_option linter.unusedVariables false

/-- The library's greatest length holds some number. -/
def MX (w : World) : Prop := 3 < w.heap.size ∧ ∃ m, w.cell? ⟨3, 0, none⟩ = some (.int .i64 m)
theorem MX.below {w w' : World} (h : MX w) (hb : Below w.heap.size w w') : MX w' := by
  obtain ⟨h1, m, hm⟩ := h
  exact ⟨by have := hb.size; omega, m, (hb.cell (p := ⟨3, 0, none⟩) h1).trans hm⟩
theorem mx_of {w : World} {m : Int} (hm : w.cell? ⟨3, 0, none⟩ = some (.int .i64 m)) : MX w := by
  refine ⟨?_, m, hm⟩
  rcases Nat.lt_or_ge 3 w.heap.size with h1 | h1
  · exact h1
  · unfold World.cell? at hm
    rw [Array.getElem?_eq_none h1] at hm
    cases hm

/-- The numbers that are read, and those that are left. -/
def ReadAt (ls : List Z.Str) (k : Nat) (ns : List Int) : Prop := ns.length = k ∧ Z.readNums ls = (Z.readNums (ls.drop k)).map (ns ++ ·)
theorem readAt_start (ls : List Z.Str) : ReadAt ls 0 [] := ⟨rfl, by simp⟩
theorem readAt_split {ls : List Z.Str} {k : Nat} (hk : k < ls.length) : ls.drop k = ls.getD k [] :: ls.drop (k + 1) := by
  rw [List.drop_eq_getElem_cons hk]
  simp [hk]
theorem readAt_next {ls : List Z.Str} {k : Nat} {ns : List Int} {n : Int} (h : ReadAt ls k ns) (hk : k < ls.length) (hn : Z.readNum (ls.getD k []) 4294967295 = some n) : ReadAt ls (k + 1) (ns ++ [n]) := by
  refine ⟨by rw [List.length_append, h.1]; rfl, ?_⟩
  rw [h.2, readAt_split hk, Z.readNums_cons, hn]
  cases Z.readNums (ls.drop (k + 1)) with
  | none => rfl
  | some r => simp
theorem readAt_fail {ls : List Z.Str} {k : Nat} {ns : List Int} (h : ReadAt ls k ns) (hk : k < ls.length) (hn : Z.readNum (ls.getD k []) 4294967295 = none) : Z.readNums ls = none := by
  rw [h.2, readAt_split hk, Z.readNums_cons, hn]
  rfl
theorem readAt_end {ls : List Z.Str} {k : Nat} {ns : List Int} (h : ReadAt ls k ns) (hk : ls.length ≤ k) : Z.readNums ls = some ns := by
  rw [h.2, List.drop_eq_nil_of_le hk]
  simp [Z.readNums]

/-- What a reader of numbers leaves. -/
def ReadOut (o : Option (List Int)) (w : World) (e : Ending) (w' : World) : Prop :=
  ∃ A q, e = .returned (.tuple #[.slice A (o.getD []).length q, .bool o.isSome]) ∧ w'.ownsRow w.heap.size 3 1 (.slice A (o.getD []).length q) (o.getD []).length ((o.getD []).map iv) ∧ Below w.heap.size w w'
theorem readOut_none {w w' : World} {A : Option Addr} {q : Nat} (ho : w'.ownsRow w.heap.size 3 1 (.slice A 0 q) 0 []) (hb : Below w.heap.size w w') : ReadOut none w (.returned (.tuple #[.slice A 0 q, .bool false])) w' := ⟨A, q, rfl, ho, hb⟩
theorem readOut_some {w w' : World} {A : Option Addr} {q : Nat} {ns : List Int} (ho : w'.ownsRow w.heap.size 3 1 (.slice A ns.length q) ns.length (ns.map iv)) (hb : Below w.heap.size w w') : ReadOut (some ns) w (.returned (.tuple #[.slice A ns.length q, .bool true])) w' := ⟨A, q, rfl, ho, hb⟩

/-! ### quoted texts -/

theorem last_at {s : ByteArray} {m : Nat} (hm : s.size = m + 2) : (lst s).getLast? = some s[m + 1] := by
  rw [List.getLast?_eq_getElem?, lst_length, show s.size - 1 = m + 1 by omega, List.getElem?_eq_getElem (by rw [lst_length]; omega), lst_get s (m + 1) (by omega)]
theorem quote_int {c : UInt8} : ((c.toNat : Int) = 34) ↔ c = 34 := by
  rw [← UInt8.toNat_inj]; simp; omega
theorem unq_short {s : ByteArray} (h : s.size < 2) : Z.unq (lst s) = none := by
  unfold Z.unq
  rw [if_neg (fun hh => by have := hh.1; rw [lst_length] at this; omega)]
theorem unq_head {s : ByteArray} (h : 2 ≤ s.size) (h0 : ¬ (s[0].toNat : Int) = 34) : Z.unq (lst s) = none := by
  unfold Z.unq
  rw [if_neg (fun hh => h0 (quote_int.2 (by have := hh.2.1; rw [head_lst (by omega)] at this; exact Option.some.inj this)))]
theorem unq_last {s : ByteArray} {m : Nat} (hm : s.size = m + 2) (h1 : ¬ (s[m + 1].toNat : Int) = 34) : Z.unq (lst s) = none := by
  unfold Z.unq
  rw [if_neg (fun hh => h1 (quote_int.2 (by have := hh.2.2; rw [last_at hm] at this; exact Option.some.inj this)))]
theorem unq_good {s : ByteArray} {m : Nat} (hm : s.size = m + 2) (h0 : (s[0].toNat : Int) = 34) (h1 : (s[m + 1].toNat : Int) = 34) : Z.unq (lst s) = some (lst (s.extract 1 (m + 1))) := by
  unfold Z.unq
  rw [if_pos ⟨by rw [lst_length]; omega, by rw [head_lst (by omega), quote_int.1 h0], by rw [last_at hm, quote_int.1 h1]⟩, lst_extract, lst_length, hm]
  rfl
def strTup (o : Option Z.Str) : Value := .tuple #[.string (bs (o.getD [])), .bool o.isSome]

end Go.Proofs.YtlknpipbjdecpaaDoor

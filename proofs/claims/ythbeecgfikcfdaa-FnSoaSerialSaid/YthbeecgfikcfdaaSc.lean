/- What RecordValid, SameData and RecordSame of the model return. -/
import Derived.Test.YthbeecgfikcfdaaSa
namespace Go.Proofs.Ythbeecgfikcfdaa
open Go.RowKit
set_option maxRecDepth 100000
set_option linter.unusedVariables false

/-- The limit that the model asks for the number at a place. -/
def limAt (k : Int) (i : Nat) : Int := if k = 6 ∧ i = 0 then 4294967295 else mostOf k
def okTo (k : Int) (zs : List Int) (n : Nat) : Prop := ∀ j, j < n → 0 ≤ zs.getD j 0 ∧ zs.getD j 0 ≤ limAt k j
theorem okTo_succ {k : Int} {zs : List Int} {n : Nat} (h : okTo k zs n) (hk : 0 ≤ zs.getD n 0 ∧ zs.getD n 0 ≤ limAt k n) : okTo k zs (n + 1) := fun j hj => by
  rcases Nat.lt_or_ge j n with h1 | h1
  · exact h j h1
  · have : j = n := by omega
    subst this; exact hk
theorem lims_len (k : Int) : (Z.lims k).length = cnt k := by
  unfold Z.lims cnt
  by_cases h1 : k = 1
  · simp [h1]
  · by_cases h6 : k = 6
    · simp [h6]
    · by_cases h15 : k = 15
      · simp [h15]
      · simp [h1, h6, h15]
theorem lims_at (k : Int) (i : Nat) (h : i < cnt k) : (Z.lims k).getD i 0 = limAt k i := by
  unfold cnt at h
  unfold Z.lims limAt mostOf
  by_cases h1 : k = 1
  · subst h1; simp at h; match i, h with
    | 0, _ => rfl
    | 1, _ => rfl
    | 2, _ => rfl
    | 3, _ => rfl
  · by_cases h6 : k = 6
    · subst h6; simp at h; match i, h with
      | 0, _ => rfl
      | 1, _ => rfl
      | 2, _ => rfl
      | 3, _ => rfl
      | 4, _ => rfl
    · by_cases h15 : k = 15
      · subst h15; simp at h; subst h; rfl
      · simp [h1, h6, h15] at h
theorem okNums_iff : ∀ (a b : List Int), a.length = b.length → (Z.okNums a b = true ↔ ∀ j, j < b.length → 0 ≤ a.getD j 0 ∧ a.getD j 0 ≤ b.getD j 0)
  | [], [], _ => by simp [Z.okNums]
  | n :: r, m :: q, h => by
    have ih := okNums_iff r q (by simpa using h)
    simp only [Z.okNums, Bool.and_eq_true, decide_eq_true_eq, ih]
    constructor
    · rintro ⟨⟨h1, h2⟩, h3⟩ j hj
      cases j with
      | zero => simpa using ⟨h1, h2⟩
      | succ j => simpa using h3 j (by simpa using hj)
    · intro h3
      refine ⟨by simpa using h3 0 (by simp), fun j hj => by simpa using h3 (j + 1) (by simpa using hj)⟩
  | [], _ :: _, h => by simp at h
  | _ :: _, [], h => by simp at h
theorem okNums_of {k : Int} {zs : List Int} (hl : zs.length = cnt k) (h : okTo k zs (cnt k)) : Z.okNums zs (Z.lims k) = true :=
  (okNums_iff _ _ (by rw [hl, lims_len])).2 fun j hj => by
    rw [lims_len] at hj
    rw [lims_at k j hj]
    exact h j hj
theorem okNums_not {k : Int} {zs : List Int} {n : Nat} (hn : n < cnt k) (h : ¬ (0 ≤ zs.getD n 0 ∧ zs.getD n 0 ≤ limAt k n)) : Z.okNums zs (Z.lims k) = false := by
  rw [Bool.eq_false_iff]
  intro ha
  have hl := Z.okNums_length ha
  have := (okNums_iff _ _ hl).1 ha n (by rw [lims_len]; exact hn)
  rw [lims_at k n hn] at this
  exact h this
theorem okNums_len {k : Int} {zs : List Int} (h : zs.length ≠ cnt k) : Z.okNums zs (Z.lims k) = false := by
  rw [Bool.eq_false_iff]
  intro ha
  exact h ((Z.okNums_length ha).trans (lims_len k))

theorem rv_nums {r : Z.Rec} (h : Z.okNums r.nums (Z.lims r.kind) = false) : Z.recValid r = false := by simp [Z.recValid, h]
theorem rv_rest {r : Z.Rec} (h1 : Z.valid r.name = true) (h2 : 0 ≤ r.ttl) (h3 : r.ttl ≤ 100000) (h4 : Z.kindName r.kind ≠ []) (h5 : Z.okNums r.nums (Z.lims r.kind) = true) : Z.recValid r = Z.okRest r.kind r.target r.text := by
  simp [Z.recValid, h1, h2, h3, h4, h5]
theorem bs_empty (l : List UInt8) : (bs l).toList.isEmpty = decide (l = []) := by
  rw [toList_lst, lst_bs, Bool.eq_iff_iff]; simp
theorem rv_bad {r : Z.Rec} (h1 : 0 ≤ r.ttl) (h2 : r.ttl ≤ 100000) (h : (r.ttl < 0 ∨ 100000 < r.ttl) ∨ (bs (Z.kindName r.kind)).toList.isEmpty = true) : Z.recValid r = false := by
  have : Z.kindName r.kind = [] := by
    rcases h with (h | h) | h
    · omega
    · omega
    · rw [bs_empty] at h; simpa using h
  simp [Z.recValid, this]
theorem emp_lst (s : ByteArray) : s.toList.isEmpty = decide (lst s = []) := by rw [toList_lst, Bool.eq_iff_iff]; simp
theorem ne_cnt {a b : Nat} (h : ((a : Int) != (b : Int)) = false) : a = b := by
  have : (a : Int) = b := by simpa using h
  omega
theorem ne_cnt' {a b : Nat} (h : ((a : Int) != (b : Int)) = true) : a ≠ b := by
  have : (a : Int) ≠ b := by simpa using h
  omega

theorem limAt_6 {k : Nat} (h : ((k : Int) == 0) = true) : limAt 6 k = 4294967295 := by
  have : (k : Int) = 0 := by simpa using h
  unfold limAt; rw [if_pos ⟨rfl, by omega⟩]
theorem limAt_6' {k : Nat} (h : ((k : Int) == 0) = false) : limAt 6 k = mostOf 6 := by
  have : (k : Int) ≠ 0 := by simpa using h
  unfold limAt; rw [if_neg (by intro e; omega)]
theorem limAt_ne {a : Int} {k : Nat} (h : ¬ a = 6) : limAt a k = mostOf a := by unfold limAt; rw [if_neg (fun e => h e.1)]
theorem rest_a {k : Int} {g x : Z.Str} (h : k = 1 ∨ k = 16) : Z.okRest k g x = (decide (g = []) && Z.okText x && (decide (k = 16) || decide (x = []))) := by unfold Z.okRest; rw [if_pos h]
theorem rest_b {k : Int} {g x : Z.Str} (h : ¬ (k = 1 ∨ k = 16)) : Z.okRest k g x = (Z.valid g && decide (x = [])) := by unfold Z.okRest; rw [if_neg h]

/-- The end of RecordValid, behind the numbers. -/
def RestGoal (k : Int) (aG aX : ByteArray) (b : Bool) : Prop := b = Z.okRest k (lst aG) (lst aX)

def Bad (aN : ByteArray) (aT aK : Int) (aL : Nat) : Prop := ¬ (Z.valid (lst aN) = true ∧ 0 ≤ aT ∧ aT ≤ 100000 ∧ (bs (Z.kindName aK)).toList.isEmpty = false) ∨ aL ≠ cnt aK
end Go.Proofs.Ythbeecgfikcfdaa

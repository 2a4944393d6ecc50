/- What the functions of the model's chapter 1 return: common tops. -/
import Derived.Test.YtaiijnaockbahaaW
namespace Go.Proofs.Ytaiijnaockbahaa
open Go.RowKit
set_option maxRecDepth 100000

def ComSame (x y : List Z.Str) (k : Nat) : Prop := Z.sameEnds x y = k + Z.common (x.reverse.drop k) (y.reverse.drop k)
theorem comSame_start (x y : List Z.Str) : ComSame x y 0 := by simp [ComSame, Z.sameEnds]
theorem comSame_next {x y : List Z.Str} {k : Nat} (h : ComSame x y k) (hx : k < x.length) (hy : k < y.length) (e : rget x k = rget y k) : ComSame x y (k + 1) := by
  unfold ComSame at h ⊢
  rw [h, rget_rev x k hx, rget_rev y k hy, e]
  simp [Z.common]; omega
theorem comSame_ne {x y : List Z.Str} {k : Nat} (h : ComSame x y k) (hx : k < x.length) (hy : k < y.length) (e : rget x k ≠ rget y k) : Z.sameEnds x y = k := by
  unfold ComSame at h
  rw [h, rget_rev x k hx, rget_rev y k hy]
  simp [Z.common, e]
theorem comSame_end {x y : List Z.Str} {k : Nat} (h : ComSame x y k) (e : x.length ≤ k ∨ y.length ≤ k) : Z.sameEnds x y = k := by
  unfold ComSame at h
  rw [h]
  rcases e with e | e
  · rw [List.drop_of_length_le (by simp; omega)]; simp [Z.common]
  · rw [List.drop_of_length_le (l := y.reverse) (by simp; omega)]
    cases x.reverse.drop k <;> simp [Z.common]

theorem cut_pos {w : World} {B m : Nat} {A : Option Addr} {ls : List Z.Str} {c k q : Nat} (e : c = k) (h : Reads w B (if c = k then A else A.map (·.add k)) m ((ls.map sv).drop k)) : Reads (w.drewN q) B A m ((ls.drop k).map sv) := by
  rw [if_pos e] at h
  rw [List.map_drop]
  exact h
theorem cut_neg {w : World} {B m : Nat} {A : Option Addr} {ls : List Z.Str} {c k q : Nat} (e : ¬ c = k) (h : Reads w B (if c = k then A else A.map (·.add k)) m ((ls.map sv).drop k)) : Reads (w.drewN q) B (A.map (·.add k)) m ((ls.drop k).map sv) := by
  rw [if_neg e] at h
  rw [List.map_drop]
  exact h
theorem joined_drop_le {s : Z.Str} (hv : Z.valid s = true) (k : Nat) : (Z.joined ((Z.labs s).drop k)).length ≤ 67108864 := by
  have h2 := (Z.valid_len (Z.valid_drop hv k)).2
  unfold Z.join at h2
  split at h2
  · rename_i h0; rw [h0]; simp [Z.joined]
  · omega

end Go.Proofs.Ytaiijnaockbahaa

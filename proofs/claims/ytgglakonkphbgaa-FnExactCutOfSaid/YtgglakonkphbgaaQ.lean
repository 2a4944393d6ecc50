/- What the functions of the program's chapter 1 return: short names, parents, wildcards, common tops. What the functions of the program's chapter 1 return: wildcards and common tops. -/
import Derived.Test.YtgglakonkphbgaaI
namespace Go.Proofs.Ytgglakonkphbgaa
open Go.RowKit
set_option maxRecDepth 100000

theorem trim_dot {s o p : Z.Str} (h : s = p ++ [46] ++ o) : Lib.trimSuffix s (46 :: o) = p := by
  unfold Lib.trimSuffix Lib.hasSuffix
  rw [if_pos]
  · rw [h]
    have e : (p ++ [46] ++ o).length - (46 :: o).length = p.length := by simp
    rw [e]
    simp
  · rw [List.isSuffixOf_iff_suffix]
    exact ⟨p, by rw [h]; simp⟩

theorem plain_of {w : World} {g o : Nat} (h : g < w.heap.size) : 0 < 1 → Plain w (some ⟨g, o, none⟩) := fun _ => ⟨g, o, rfl, h⟩
theorem own_lt {w : World} {base : Nat} {e : TypeId} {g o n c : Nat} {xs : List Value} (h : w.ownsRow base e 1 (.slice (some ⟨g, o, none⟩) n c) n xs) (h1 : 1 ≤ n) : g < w.heap.size := by
  obtain ⟨g2, cap, hv, _, hlt⟩ := h.form h1
  injection hv with hA
  injection hA with hA
  injection hA with hg
  omega
theorem join_drop_bound {s : Z.Str} (hv : Z.valid s = true) (k : Nat) : (Z.join ((Z.labels s).drop k)).length ≤ 67108864 := by
  rw [labels_valid hv]
  have := (Z.valid_len (Z.valid_drop hv k)).2
  omega
theorem labels_pos {s : Z.Str} (hv : Z.valid s = true) (hd : s ≠ [46]) : 1 ≤ (Z.labels s).length := by
  rw [labels_valid hv]
  have : Z.labs s ≠ [] := fun e => hd ((Z.labs_nil hv).1 e)
  exact List.length_pos_iff.2 this

end Go.Proofs.Ytgglakonkphbgaa

namespace Go.Proofs.Ytgglakonkphbgaa
open Go.RowKit
set_option maxRecDepth 100000

theorem set_star {ls : List Z.Str} (h : 1 ≤ ls.length) : (ls.map sv).set 0 (.string ⟨#[42]⟩) = ([42] :: ls.tail).map sv := by
  cases ls with
  | nil => simp at h
  | cons a r => rfl
theorem own_base {w : World} {base : Nat} {e : TypeId} {g o n c : Nat} {xs : List Value} (h : w.ownsRow base e 1 (.slice (some ⟨g, o, none⟩) n c) n xs) (h1 : 1 ≤ n) : base ≤ g := by
  obtain ⟨g2, cap, hv, hb, hlt⟩ := h.form h1
  injection hv with hA
  injection hA with hA
  injection hA with hg
  omega

theorem cutPlain {w : World} {A : Option Addr} {k n : Nat} (h : 0 < n → ∃ g o, A = some ⟨g, o, none⟩ ∧ g < w.heap.size) : 0 < n → Plain w (A.map (·.add k)) := fun hn => by
  obtain ⟨g, o, rfl, hg⟩ := h hn
  by_cases hk : k = 0
  · exact ⟨g, o, by simp [Addr.add, hk], hg⟩
  · exact ⟨g, o + k, by simp [Addr.add, hk], hg⟩

end Go.Proofs.Ytgglakonkphbgaa

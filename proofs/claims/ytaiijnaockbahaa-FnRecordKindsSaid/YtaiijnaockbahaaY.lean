/- What the functions of the program's chapter 1 return: wildcards and common tops. -/
import Derived.Test.YtaiijnaockbahaaQ
namespace Go.Proofs.Ytaiijnaockbahaa
open Go.RowKit
set_option maxRecDepth 100000

theorem set_star {ls : List Z.Str} (h : 1 ≤ ls.length) : (ls.map sv).set 0 (.string ⟨#[42]⟩) = ([42] :: ls.tail).map sv := by
  cases ls with
  | nil => simp at h
  | cons a r => rfl
theorem own_base {w : World} {base : Nat} {e : TypeId} {g o n c : Nat} {xs : List Value} (h : w.ownsRow base e 1 (.slice (some ⟨g, o, none⟩) n c) n xs) (h1 : 1 ≤ n) : base ≤ g := by
  obtain ⟨g2, cap, hv, hb, hlt⟩ := h.form h1
  injection hv with hA
  injection hA with hA
  injection hA with hg
  omega

theorem cutPlain {w : World} {A : Option Addr} {k n : Nat} (h : 0 < n → ∃ g o, A = some ⟨g, o, none⟩ ∧ g < w.heap.size) : 0 < n → Plain w (A.map (·.add k)) := fun hn => by
  obtain ⟨g, o, rfl, hg⟩ := h hn
  by_cases hk : k = 0
  · exact ⟨g, o, by simp [Addr.add, hk], hg⟩
  · exact ⟨g, o + k, by simp [Addr.add, hk], hg⟩

end Go.Proofs.Ytaiijnaockbahaa

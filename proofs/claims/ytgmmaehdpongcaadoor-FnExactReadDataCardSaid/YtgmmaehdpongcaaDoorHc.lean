/- What a walk is told of a slice of texts that came in. -/
import Derived.Test.YtgmmaehdpongcaaDoorC
import Derived.SliceStrings
import Derived.Test.YtgmmaehdpongcaaDoorEa
namespace Go.Proofs.YtgmmaehdpongcaaDoor
open Go.ChangeShapes Go.WideShapes Go.ChangeAt Go.RowKit
set_option maxRecDepth 100000
set_option linter.unusedVariables false

/-- A slice of texts that came in. -/
def StrsIn (w : World) (v : Value) : Prop :=
  ∃ (A : Option Addr) (n c : Nat) (ls : List Z.Str), v = .slice A n c ∧ n ≤ c ∧ c ≤ maxLen ∧ ls.length = n ∧ Reads w w.heap.size A n (ls.map sv) ∧ ∀ l ∈ ls, List.length l ≤ maxLen
theorem strs_of {w : World} {a : Option Addr} {len cap : Nat} {ss : List ByteArray} (h : (a = none ∧ len = 0 ∧ cap = 0 ∧ ss = []) ∨
    ∃ x, a = some x ∧ len ≤ cap ∧ cap ≤ maxLen ∧ ss.length = cap ∧ (∀ i, i < ss.length → w.cell? (x.add i) = some (.string (ss.getD i ByteArray.empty))) ∧ ∀ s ∈ ss, s.size ≤ maxLen) : StrsIn w (.slice a len cap) := by
  rcases h with ⟨rfl, rfl, rfl, _⟩ | ⟨x, rfl, h1, h2, h3, h4, h5⟩
  · exact ⟨none, 0, 0, [], rfl, Nat.le_refl _, by decide, rfl, Reads.none_, fun l hl => by cases hl⟩
  · refine ⟨some x, len, cap, (ss.take len).map lst, rfl, h1, h2, by simp; omega, ⟨by simp; omega, fun hn => ?_⟩, fun l hl => ?_⟩
    · refine ⟨x, rfl, by have := block_lt (h4 0 (by omega)); rwa [block_of_add] at this, fun j u hu => ?_⟩
      simp only [List.map_map, List.getElem?_map] at hu
      have hj : j < len := by
        rcases Nat.lt_or_ge j (ss.take len).length with h6 | h6
        · rw [List.length_take] at h6; omega
        · rw [List.getElem?_eq_none h6] at hu; cases hu
      have h6 : j < (ss.take len).length := by rw [List.length_take]; omega
      rw [List.getElem?_eq_getElem h6] at hu
      simp only [List.getElem_take, Option.map_some, Option.some.injEq, Function.comp_apply] at hu
      have hjs : j < ss.length := by omega
      rw [h4 j hjs, ← hu, sv_lst]
      simp [hjs]
    · obtain ⟨s, hs, rfl⟩ := List.mem_map.1 hl
      rw [lst_length]
      exact h5 s (List.mem_of_mem_take hs)
theorem open_strs {H : Type} {enc : TypeId × Value → H} {w : World} {r : Reach} {b0 : Nat} {v : Value} {d : DataW H} {p : List MemPlace} (hv : Value.okWide Tryd.prog w r b0 34 v) (h : DataW.Trod enc Tryd.prog w 0 (fun _ => true) true 34 v d p) : StrsIn w v := by
  obtain ⟨a0, len0, cap0, rfl⟩ := okWide_slice Tryd.underlying34 hv
  obtain ⟨fuel, hf⟩ := h
  rcases open_strings Tryd.underlying34 Tryd.underlying9 (by kernel_rfl) hf with ⟨hcs, _⟩ | ⟨x, l, c, ss, hcs, _, hl, hm, hz, _, hcell, hws⟩
  · simp [Value.cells] at hcs
    obtain ⟨rfl, rfl, rfl⟩ := hcs
    exact strs_of (ss := []) (.inl ⟨rfl, rfl, rfl, rfl⟩)
  · simp [Value.cells] at hcs
    obtain ⟨rfl, rfl, rfl⟩ := hcs
    exact strs_of (.inr ⟨_, rfl, hl, hm, by simpa using hz, hcell, hws⟩)
end Go.Proofs.YtgmmaehdpongcaaDoor

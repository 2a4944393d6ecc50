/- What a law is told of a slice of records that comes in. -/
import Derived.Test.YtgglakonkphbgaaRs
import Derived.Deep.Slices
namespace Go.Proofs.Ytgglakonkphbgaa
open Go.ChangeShapes Go.WideShapes Go.ChangeAt Go.RowKit
set_option maxRecDepth 100000
set_option linter.unusedVariables false
set_option linter.unusedSimpArgs false

theorem cell_lt {w : World} {a : Addr} {v : Value} (h : w.cell? a = some v) : a.block < w.heap.size := by
  rcases Nat.lt_or_ge a.block w.heap.size with h1 | h1
  · exact h1
  · unfold World.cell? at h
    rw [Array.getElem?_eq_none h1] at h
    simp at h
/-- A slice of records that came in. -/
def RecsIn (w : World) (v : Value) : Prop :=
  ∃ (A : Option Addr) (n c : Nat) (rs : List RV), v = .slice A n c ∧ n ≤ c ∧ c ≤ maxLen ∧ Recs w w.heap.size A n rs ∧ ∀ r ∈ rs, r.fits

set_option maxHeartbeats 1000000 in
theorem rec_cells {H : Type} {enc : TypeId × Value → H} {w : World} {fuel : Nat} {cs : List Value} {x : DataW H × List MemPlace} (hc : cs.length = 6) (hf : DataW.trod enc Try.prog w 0 (fun _ => true) true fuel 65 cs = some x) :
    ∃ r : RV, cs = r.cells ∧ r.fits ∧ Reads w w.heap.size r.A r.L (r.Z.map iv) := by
  obtain ⟨xs, n, _, hx, _, hlen, hg⟩ := DataW.trod_struct Try.underlying65 hf
  obtain ⟨c0, c1, c2, c3, c4, c5, rfl⟩ : ∃ c0 c1 c2 c3 c4 c5, cs = [c0, c1, c2, c3, c4, c5] := by
    match cs, hc with
    | [a, b, c, d, e, f], _ => exact ⟨a, b, c, d, e, f, rfl⟩
  obtain ⟨y0, y1, y2, y3, y4, y5, rfl⟩ : ∃ c0 c1 c2 c3 c4 c5, xs = [c0, c1, c2, c3, c4, c5] := by
    match xs, hlen with
    | [a, b, c, d, e, f], _ => exact ⟨a, b, c, d, e, f, rfl⟩
  have g0 := hg 0 _ rfl
  have g1 := hg 1 _ rfl
  have g2 := hg 2 _ rfl
  have g3 := hg 3 _ rfl
  have g4 := hg 4 _ rfl
  have g5 := hg 5 _ rfl
  obtain ⟨s, e0, _, hs⟩ := DataW.trod_string Try.underlying9 (g0.trans rfl)
  obtain ⟨t, e1, _, _⟩ := DataW.trod_int Try.underlying3 (g1.trans rfl)
  obtain ⟨k, e2, _, _⟩ := DataW.trod_int Try.underlying3 (g2.trans rfl)
  obtain ⟨g, e4, _, hg4⟩ := DataW.trod_string Try.underlying9 (g4.trans rfl)
  obtain ⟨x, e5, _, hx5⟩ := DataW.trod_string Try.underlying9 (g5.trans rfl)
  have k9 : Try.prog.cellsOf 9 = 1 := by kernel_rfl
  have k3 : Try.prog.cellsOf 3 = 1 := by kernel_rfl
  have k22 : Try.prog.cellsOf 52 = 1 := by kernel_rfl
  simp [Value.cells, k9, k3] at e0 e1 e2 e4 e5
  simp [Value.cells, k22] at g3
  obtain ⟨A, L, C, e3, m4, m5, aZ, hra⟩ := intsIn_of g3
  subst e0 e1 e2 e3 e4 e5
  exact ⟨⟨s, t, k, A, L, C, g, x, aZ⟩, rfl, ⟨hs, by dsimp only; omega, hg4, hx5⟩, hra⟩
set_option maxHeartbeats 1000000 in
theorem open_recs {H : Type} {enc : TypeId × Value → H} {w : World} {r : Reach} {b0 : Nat} {v : Value} {d : DataW H} {p : List MemPlace} (hv : Value.okWide Try.prog w r b0 22 v) (h : DataW.Trod enc Try.prog w 0 (fun _ => true) true 22 v d p) : RecsIn w v := by
  obtain ⟨a0, len0, cap0, rfl⟩ := okWide_slice Try.underlying22 hv
  obtain ⟨fuel, hf⟩ := h
  have h6 : Try.prog.cellsOf 65 = 6 := by kernel_rfl
  rcases Go.Deep.open_slice Try.underlying22 hf with ⟨hcs, _⟩ | ⟨a, len, cap, m, n, D, Pl, hcs, _, hl, hm, hmm, _, hi⟩
  · simp [Value.cells] at hcs
    obtain ⟨rfl, rfl, rfl⟩ := hcs
    exact ⟨none, 0, 0, [], rfl, Nat.le_refl _, by decide, ⟨Reads.none_, rfl, fun r hr => by cases hr⟩, fun r hr => by cases hr⟩
  · simp [Value.cells] at hcs
    obtain ⟨rfl, rfl, rfl⟩ := hcs
    rw [h6] at hi
    simp only [if_true] at hmm
    subst hmm
    have hex : ∀ i, ∃ r : RV, i < len0 → (∀ t, t < 6 → w.cell? (a.add (i * 6 + t)) = r.cells[t]?) ∧ r.fits ∧ Reads w w.heap.size r.A r.L (r.Z.map iv) := fun i => by
      by_cases hil : i < len0
      · obtain ⟨cs', hc, ht⟩ := hi i (by omega)
        obtain ⟨_, hcl, hat⟩ := World.cells?_some hc
        obtain ⟨r, rfl, h1, h2⟩ := rec_cells hcl ht
        refine ⟨r, fun _ => ⟨fun t htt => ?_, h1, h2⟩⟩
        rw [← add_of_add]
        exact hat t htt
      · exact ⟨noRV, fun h => absurd h hil⟩
    obtain ⟨f, hfx⟩ : ∃ f : Nat → RV, ∀ i, i < len0 → (∀ t, t < 6 → w.cell? (a.add (i * 6 + t)) = (f i).cells[t]?) ∧ (f i).fits ∧ Reads w w.heap.size (f i).A (f i).L ((f i).Z.map iv) := ⟨fun i => Classical.choose (hex i), fun i => Classical.choose_spec (hex i)⟩
    have hat : ∀ i, i < len0 → ((List.range len0).map f)[i]? = some (f i) := fun i hil => by
      rw [List.getElem?_map, List.getElem?_range hil]
      rfl
    refine ⟨some a, len0, _, (List.range len0).map f, rfl, hl, hm, ⟨⟨by rw [flat_length]; simp, fun hn => ⟨a, rfl, ?_, fun j u hu => ?_⟩⟩, by simp, fun r hr => ?_⟩, fun r hr => ?_⟩
    · have h1 := (hfx 0 (by omega)).1 0 (by omega)
      have h2 := cell_lt (w := w) (a := a.add (0 * 6 + 0)) (v := (.string (f 0).N)) (h1.trans rfl)
      rwa [block_of_add] at h2
    · have hj : j < len0 * 6 := by
        rcases Nat.lt_or_ge j (len0 * 6) with h | h
        · exact h
        · rw [List.getElem?_eq_none (by rw [flat_length]; simpa using h)] at hu; cases hu
      have e : j = j / 6 * 6 + j % 6 := by omega
      rw [e] at hu ⊢
      rw [flat_at (hat (j / 6) (by omega)) (j % 6) (by omega)] at hu
      rw [(hfx (j / 6) (by omega)).1 (j % 6) (by omega)]
      exact hu
    · obtain ⟨i, hi9, rfl⟩ := List.mem_map.1 hr
      exact (hfx i (List.mem_range.1 hi9)).2.2
    · obtain ⟨i, hi9, rfl⟩ := List.mem_map.1 hr
      exact (hfx i (List.mem_range.1 hi9)).2.1
theorem recs_of {w : World} {g n : Nat} {os : List RV} (hblk : Blk w g 54 (flat os)) (hl : os.length = n) (hrow : ∀ x ∈ os, w.ownsRow (g + 1) 3 1 (.slice x.A x.L x.C) x.L (x.Z.map iv)) : Recs w w.heap.size (some ⟨g, 0, none⟩) n os := by
  refine ⟨⟨by rw [flat_length, hl], fun hn => ⟨_, rfl, hblk.lt, fun j u hu => ?_⟩⟩, hl, fun x hx => Reads.of_own (hrow x hx)⟩
  have e : (⟨g, 0, none⟩ : Addr).add j = ⟨g, j, none⟩ := by
    unfold Addr.add
    split <;> simp_all
  rw [e, hblk.cell]
  exact hu
end Go.Proofs.Ytgglakonkphbgaa

/- What a law is told of a record that comes in. -/
import Derived.Test.YtdaekcpjkfencabEa
import Derived.ProofKit
import Derived.OpenShut
import Derived.ShutString
import Derived.ChangeOld
import Derived.Deep.Fields
namespace Go.Proofs.Ytdaekcpjkfencab
open Go.ChangeShapes Go.WideShapes Go.ChangeAt Go.RowKit
set_option maxRecDepth 100000
set_option linter.unusedVariables false

/-- A slice of ints that came in reads as a list. -/
def IntsIn (w : World) (A : Option Addr) (L C : Nat) : Prop := L ≤ C ∧ C ≤ maxLen ∧ ∃ zs : List Int, Reads w w.heap.size A L (zs.map iv)
theorem blockOf_lt {w : World} {a : Addr} {v : Value} (h : w.cell? a = some v) : a.block < w.heap.size := by
  rcases Nat.lt_or_ge a.block w.heap.size with h1 | h1
  · exact h1
  · unfold World.cell? at h
    rw [Array.getElem?_eq_none h1] at h
    cases h
theorem intsIn_of {H : Type} {enc : TypeId × Value → H} {w : World} {fuel : Nat} {c : Value} {x : DataW H × List MemPlace} (h : DataW.trod enc Try.prog w 0 (fun _ => true) true fuel 22 [c] = some x) :
    ∃ A L C, c = .slice A L C ∧ IntsIn w A L C := by
  rcases open_ints Try.underlying22 Try.underlying3 (by kernel_rfl) h with ⟨hcs, _⟩ | ⟨a, l, c', zs, hcs, _, hl, hm, hz, _, hcell, _⟩
  · simp at hcs
    exact ⟨none, 0, 0, hcs, Nat.le_refl _, by decide, [], Reads.none_⟩
  · simp at hcs hz
    refine ⟨some a, l, c', hcs, hl, hm, zs.take l, by simp; omega, fun hn => ⟨a, rfl, ?_, fun j u hu => ?_⟩⟩
    · have := blockOf_lt (hcell 0 (by omega))
      rwa [block_of_add] at this
    · rw [List.getElem?_map] at hu
      have hj : j < (zs.take l).length := by
        rcases Nat.lt_or_ge j (zs.take l).length with h6 | h6
        · exact h6
        · rw [List.getElem?_eq_none h6] at hu; cases hu
      rw [List.getElem?_eq_getElem hj] at hu
      simp only [List.getElem_take, Option.map_some, Option.some.injEq] at hu
      have hjz : j < zs.length := by rw [List.length_take] at hj; omega
      rw [hcell j hjz, ← hu]
      simp [iv, hjz]

/-- A record that came in. -/
def RecIn (w : World) (v : Value) : Prop := ∃ (s : ByteArray) (t k : Int) (A : Option Addr) (L C : Nat) (g x : ByteArray), v = .agg #[.string s, .int .i64 t, .int .i64 k, .slice A L C, .string g, .string x] ∧ s.size ≤ maxLen ∧ g.size ≤ maxLen ∧ x.size ≤ maxLen ∧ IntsIn w A L C

set_option maxHeartbeats 1000000 in
theorem open_rec {H : Type} {enc : TypeId × Value → H} {w : World} {r : Reach} {b0 : Nat} {v : Value} {d : DataW H} {p : List MemPlace} (hv : Value.okWide Try.prog w r b0 24 v) (h : DataW.Trod enc Try.prog w 0 (fun _ => true) true 24 v d p) : RecIn w v := by
  obtain ⟨cs, rfl, hsz⟩ := okWide_struct Try.underlying24 hv
  obtain ⟨fuel, hf⟩ := h
  obtain ⟨xs, n, _, hx, _, hlen, hg⟩ := DataW.trod_struct Try.underlying24 hf
  have h6 : Try.prog.cellsOf 24 = 6 := by kernel_rfl
  rw [h6] at hsz
  obtain ⟨l⟩ := cs
  obtain ⟨c0, c1, c2, c3, c4, c5, rfl⟩ : ∃ c0 c1 c2 c3 c4 c5, l = [c0, c1, c2, c3, c4, c5] := by
    match l, hsz with
    | [a, b, c, d, e, f], _ => exact ⟨a, b, c, d, e, f, rfl⟩
  obtain ⟨y0, y1, y2, y3, y4, y5, rfl⟩ : ∃ c0 c1 c2 c3 c4 c5, xs = [c0, c1, c2, c3, c4, c5] := by
    match xs, hlen with
    | [a, b, c, d, e, f], _ => exact ⟨a, b, c, d, e, f, rfl⟩
  have g0 := hg 0 _ rfl
  have g1 := hg 1 _ rfl
  have g2 := hg 2 _ rfl
  have g3 := hg 3 _ rfl
  have g4 := hg 4 _ rfl
  have g5 := hg 5 _ rfl
  obtain ⟨s, e0, _, hs⟩ := DataW.trod_string Try.underlying9 (g0.trans rfl)
  obtain ⟨t, e1, _, _⟩ := DataW.trod_int Try.underlying3 (g1.trans rfl)
  obtain ⟨k, e2, _, _⟩ := DataW.trod_int Try.underlying3 (g2.trans rfl)
  obtain ⟨g, e4, _, hg4⟩ := DataW.trod_string Try.underlying9 (g4.trans rfl)
  obtain ⟨x, e5, _, hx5⟩ := DataW.trod_string Try.underlying9 (g5.trans rfl)
  have k9 : Try.prog.cellsOf 9 = 1 := by kernel_rfl
  have k3 : Try.prog.cellsOf 3 = 1 := by kernel_rfl
  have k22 : Try.prog.cellsOf 22 = 1 := by kernel_rfl
  simp [Value.cells, k9, k3] at e0 e1 e2 e4 e5
  simp [Value.cells, k22] at g3
  obtain ⟨A, L, C, e3, hi⟩ := intsIn_of g3
  subst e0 e1 e2 e3 e4 e5
  exact ⟨_, _, _, _, _, _, _, _, rfl, hs, hg4, hx5, hi⟩
end Go.Proofs.Ytdaekcpjkfencab

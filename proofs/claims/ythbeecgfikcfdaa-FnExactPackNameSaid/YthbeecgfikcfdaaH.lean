/- What every law of chapter 1 needs: the bytes that it is given. -/
import Derived.Test.YthbeecgfikcfdaaD
import Derived.Test.YthbeecgfikcfdaaQ
import Derived.ProofKit
import Derived.OpenShut
import Derived.ShutString
import Derived.ChangeOld
namespace Go.Proofs.Ythbeecgfikcfdaa
open Go.RowKit
set_option maxRecDepth 100000

/-- What the walk of a law is told of a slice of integers that came in. -/
def IsRow (k : IntKind) (w : World) (a : Option Addr) (len cap : Nat) (zs : List Int) : Prop :=
  (a = none ∧ len = 0 ∧ cap = 0 ∧ zs = []) ∨
  ∃ x, a = some x ∧ len ≤ cap ∧ cap ≤ maxLen ∧ zs.length = cap ∧ (∀ i, i < zs.length → w.cell? (x.add i) = some (.int k (zs.getD i 0))) ∧ ∀ n ∈ zs, (Lit.int k n).wf = true

theorem block_lt {w : World} {a : Addr} {v : Value} (h : w.cell? a = some v) : a.block < w.heap.size := by
  rcases Nat.lt_or_ge a.block w.heap.size with h1 | h1
  · exact h1
  · unfold World.cell? at h
    rw [Array.getElem?_eq_none h1] at h
    cases h

theorem wf_u8 {n : Int} (h : (Lit.int .u8 n).wf = true) : 0 ≤ n ∧ n ≤ 255 := by simpa [Lit.wf, IntKind.min, IntKind.max, IntKind.signed, IntKind.bits] using h

theorem row_cap {k : IntKind} {w : World} {a : Option Addr} {len cap : Nat} {zs : List Int} (h : IsRow k w a len cap zs) : len ≤ cap ∧ cap ≤ maxLen := by
  rcases h with ⟨_, rfl, rfl, _⟩ | ⟨x, _, h1, h2, _⟩
  · exact ⟨Nat.le_refl _, by decide⟩
  · exact ⟨h1, h2⟩

theorem code_of_row {w : World} {a : Option Addr} {len cap : Nat} {zs : List Int} (h : IsRow .u8 w a len cap zs) (hl : len ≤ 1048576) : ∃ bytes : List UInt8, bytes.length = len ∧ Code w a cap bytes := by
  rcases h with ⟨rfl, rfl, rfl, _⟩ | ⟨x, rfl, h1, h2, h3, h4, h5⟩
  · exact ⟨[], rfl, by simp, Nat.le_refl _, by decide, Reads.none_⟩
  · refine ⟨(zs.take len).map (fun n => UInt8.ofNat n.toNat), by simp; omega, by simp; omega, by simp; omega, h2, by simp, fun hn => ?_⟩
    have hn0 : 0 < zs.length := by simp at hn; omega
    refine ⟨x, rfl, by have := block_lt (h4 0 hn0); rwa [block_of_add] at this, fun j u hu => ?_⟩
    simp only [List.map_map, List.getElem?_map] at hu
    have hj : j < len ∧ j < zs.length := by
      rcases Nat.lt_or_ge j (zs.take len).length with h6 | h6
      · rw [List.length_take] at h6; omega
      · rw [List.getElem?_eq_none h6] at hu; cases hu
    have h6 : j < (zs.take len).length := by rw [List.length_take]; omega
    rw [List.getElem?_eq_getElem h6] at hu
    simp only [List.getElem_take, Option.map_some, Option.some.injEq, Function.comp_apply] at hu
    rw [h4 j hj.2, ← hu]
    have hb := wf_u8 (h5 zs[j] (List.getElem_mem _))
    have e : zs.getD j 0 = zs[j] := by simp [hj.2]
    rw [e]
    unfold bv
    congr 2
    rw [UInt8.toNat_ofNat']
    omega

theorem big_iff {len : Nat} : decide ((1048576 : Int) < (len : Int)) = decide (1048576 < len) := by simp; omega
end Go.Proofs.Ythbeecgfikcfdaa

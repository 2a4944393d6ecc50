/- What a law is told of the table of kinds. -/
import Derived.Test.YtpgeeeamcncpkaaGreatDoorRows
import Derived.Test.YtpgeeeamcncpkaaGreatDoorIa
import Derived.ProofKit
import Derived.OpenShut
import Derived.ShutString
import Derived.ChangeOld
import Derived.LaidMore
import Derived.Lay
import Derived.OpenVars
import Derived.SevenTiedAt
import Derived.Stop.Joined
namespace Go.Proofs.YtpgeeeamcncpkaaGreatDoor
open Go.ChangeShapes Go.WideShapes Go.ChangeAt Go.RowKit
set_option maxRecDepth 100000
set_option linter.unusedVariables false

theorem gKinds : Tryz.prog.globalNamed "loop.example/zonefiles/impl.kindRows" = some 0 := by kernel_rfl
theorem tKinds : (Tryz.prog.globals[0]?).map (·.type) = some 114 := by kernel_rfl
theorem kind_row {W : World} {fuel : Nat} {cs : List Value} {k : Int} {s : List UInt8} {y : DataW Unit × List MemPlace} (h : DataW.trod (fun _ => ()) Tryz.prog W 0 (fun _ => true) false fuel 113 cs = some y) (hy : .agg [.lit (.int .i64 k), .lit (.string s)] = y.1) :
    cs = [.int .i64 k, .string ⟨s.toArray⟩] := by
  obtain ⟨d, p⟩ := y
  subst hy
  obtain ⟨xs, n, _, hx, hl, hlen, hg⟩ := DataW.trod_struct Tryz.underlying113 h
  have h2 : Tryz.prog.cellsOf 113 = 2 := by kernel_rfl
  rw [h2] at hl
  obtain ⟨c0, c1, rfl⟩ : ∃ c0 c1, cs = [c0, c1] := by
    match cs, hl with
    | [a, b], _ => exact ⟨a, b, rfl⟩
  obtain ⟨y0, y1, rfl⟩ : ∃ c0 c1, xs = [c0, c1] := by
    match xs, hlen with
    | [a, b], _ => exact ⟨a, b, rfl⟩
  have g0 := hg 0 _ rfl
  have g1 := hg 1 _ rfl
  obtain ⟨n0, e0, f0, _⟩ := DataW.trod_int Tryz.underlying3 (g0.trans rfl)
  obtain ⟨s1, e1, f1, _⟩ := DataW.trod_string Tryz.underlying9 (g1.trans rfl)
  have k9 : Tryz.prog.cellsOf 9 = 1 := by kernel_rfl
  have k3 : Tryz.prog.cellsOf 3 = 1 := by kernel_rfl
  simp [k9, k3] at e0 e1
  subst e0 e1 f0 f1
  simp at hx
  obtain ⟨⟨rfl, rfl⟩, _⟩ := hx
  simp

theorem kt_of {W : World} {cs : Array Value} {fuel : Nat} {p : List MemPlace} (hv : W.var? Tryz.prog "loop.example/zonefiles/impl.kindRows" = some cs)
    (hd : DataW.trod (fun _ => ()) Tryz.prog W 0 (fun _ => true) false fuel 114 cs.toList = some (Rows.laid_loop_example_zonefiles_impl_kindRows, p)) : KT W := by
  obtain ⟨xs, m, _, ex, hl, hlen, hel⟩ := DataW.trod_array Tryz.underlying114 hd
  have c2 : Tryz.prog.cellsOf 113 = 2 := by kernel_rfl
  have c14 : Tryz.prog.cellsOf 114 = 14 := by kernel_rfl
  rw [c14] at hl
  rw [c2] at hel
  obtain ⟨x0, x1, x2, x3, x4, x5, x6, rfl⟩ : ∃ x0 x1 x2 x3 x4 x5 x6, xs = [x0, x1, x2, x3, x4, x5, x6] := by
    match xs, hlen with
    | [a, b, c, d, e, f, g], _ => exact ⟨a, b, c, d, e, f, g, rfl⟩
  have hx := DataW.agg.inj (Prod.mk.inj ex).1
  simp only [List.map_cons, List.map_nil, List.cons.injEq, and_true] at hx
  obtain ⟨e0, e1, e2, e3, e4, e5, e6⟩ := hx
  have r0 := kind_row (show _ = some x0 from hel 0 (by decide)) e0
  have r1 := kind_row (show _ = some x1 from hel 1 (by decide)) e1
  have r2 := kind_row (show _ = some x2 from hel 2 (by decide)) e2
  have r3 := kind_row (show _ = some x3 from hel 3 (by decide)) e3
  have r4 := kind_row (show _ = some x4 from hel 4 (by decide)) e4
  have r5 := kind_row (show _ = some x5 from hel 5 (by decide)) e5
  have r6 := kind_row (show _ = some x6 from hel 6 (by decide)) e6
  have hc : cs.toList = ktCells := by
    obtain ⟨l⟩ := cs
    match l, hl with
    | [a0, a1, a2, a3, a4, a5, a6, a7, a8, a9, a10, a11, a12, a13], _ =>
      simp at r0 r1 r2 r3 r4 r5 r6
      obtain ⟨rfl, rfl⟩ := r0
      obtain ⟨rfl, rfl⟩ := r1
      obtain ⟨rfl, rfl⟩ := r2
      obtain ⟨rfl, rfl⟩ := r3
      obtain ⟨rfl, rfl⟩ := r4
      obtain ⟨rfl, rfl⟩ := r5
      obtain ⟨rfl, rfl⟩ := r6
      rfl
  have hcell : ∀ j, W.cell? ⟨0, j, none⟩ = ktCells[j]? := fun j => by
    rw [World.var?_cell gKinds hv j, ← hc]; simp
  refine ⟨?_, fun j _ => hcell j⟩
  have h0 := hcell 0
  rcases Nat.lt_or_ge 0 W.heap.size with h1 | h1
  · exact h1
  · unfold World.cell? at h0
    rw [Array.getElem?_eq_none h1] at h0
    cases h0

theorem kt_of_laid1 {W : World} (h : laidMetH Tryz.prog [("loop.example/zonefiles/impl.kindRows", Rows.laid_loop_example_zonefiles_impl_kindRows)] W) : KT W := by
  rw [MakeChecks.laidMetH_plain _ _ _ (by kernel_rfl)] at h
  obtain ⟨ps, ⟨g0, t0, cs0, f0, p0, q0, hg0, ht0, hv0, hd0, _, _⟩, _, _⟩ := h
  obtain rfl := Option.some.inj (gKinds.symm.trans hg0)
  obtain rfl := Option.some.inj (tKinds.symm.trans ht0)
  exact kt_of hv0 hd0
end Go.Proofs.YtpgeeeamcncpkaaGreatDoor

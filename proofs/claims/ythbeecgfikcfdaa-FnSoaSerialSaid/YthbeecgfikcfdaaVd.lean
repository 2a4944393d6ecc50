/- What the law on the starts of zones needs. -/
import Derived.Test.YthbeecgfikcfdaaVb
import Derived.Test.YthbeecgfikcfdaaIg
namespace Go.Proofs.Ythbeecgfikcfdaa
open Go.RowKit
set_option maxRecDepth 100000
set_option linter.unusedVariables false

def adds (a s : Int) : Int × Bool := if (0 ≤ a ∧ a ≤ 4294967295) ∧ (0 ≤ s ∧ s ≤ 2147483647) then ((a + s) % 4294967296, true) else (0, false)
theorem iSerialAdd_p (a s n : Int) (ok : Bool) (h : Hid (adds a s = (n, ok))) (w : World) :
    Calls Try.prog 7 #[.int .i64 a, .int .i64 s] w fun e w' => e = .returned (.tuple #[.int .i64 n, .bool ok]) ∧ w = w' := by
  have h1 := h.out
  unfold adds at h1
  by_cases hc : (0 ≤ a ∧ a ≤ 4294967295) ∧ (0 ≤ s ∧ s ≤ 2147483647)
  · rw [if_pos hc] at h1
    obtain ⟨rfl, rfl⟩ := Prod.mk.inj h1
    exact iSerialAdd_yes a s hc.1.1 hc.1.2 hc.2.1 hc.2.2 w
  · rw [if_neg hc] at h1
    obtain ⟨rfl, rfl⟩ := Prod.mk.inj h1
    exact iSerialAdd_no a s hc w
theorem SerialAdd_p (a s n : Int) (ok : Bool) (h : Hid (adds a s = (n, ok))) (w : World) :
    Calls Try.prog 8 #[.int .i64 a, .int .i64 s] w fun e w' => e = .returned (.tuple #[.int .i64 n, .bool ok]) ∧ w = w' := by
  have h1 := h.out
  unfold adds at h1
  by_cases hc : (0 ≤ a ∧ a ≤ 4294967295) ∧ (0 ≤ s ∧ s ≤ 2147483647)
  · rw [if_pos hc] at h1
    obtain ⟨rfl, rfl⟩ := Prod.mk.inj h1
    exact SerialAdd_yes a s hc.1.1 hc.1.2 hc.2.1 hc.2.2 w
  · rw [if_neg hc] at h1
    obtain ⟨rfl, rfl⟩ := Prod.mk.inj h1
    exact SerialAdd_no a s hc w
theorem soaRec_valid (a : Int) : Z.recValid ⟨lst ⟨#[98, 46]⟩, 0, 6, [a, 1, 1, 1, 1], lst ⟨#[46]⟩, lst ⟨#[]⟩⟩ = serB a := by
  have h1 : Z.valid (lst ⟨#[98, 46]⟩) = true := by decide +kernel
  have h2 : Z.valid (lst ⟨#[46]⟩) = true := by decide +kernel
  have h3 : Z.kindName 6 ≠ [] := by decide
  have h4 : lst ⟨#[]⟩ = [] := rfl
  unfold Z.recValid
  rw [h1, h4]
  simp [h2, h3, Z.okNums, Z.lims, Z.okRest, serB]
theorem soaRec_v (a : Int) (B g c : Nat) (w : World) (hr : Reads w B (some ⟨g, 0, none⟩) 5 ([a, 1, 1, 1, 1].map iv)) (hB : B ≤ w.heap.size) (x : Bool) (hx : Hid (serB a = x)) :
    Calls Try.prog 9 #[.agg #[.string ⟨#[98, 46]⟩, .int .i64 0, .int .i64 6, .slice (some ⟨g, 0, none⟩) 5 c, .string ⟨#[46]⟩, .string ⟨#[]⟩]] w fun e w' => e = .returned (.bool x) ∧ Below w.heap.size w w' := by
  have h := iRecordValid_any ⟨#[98, 46]⟩ 0 6 (some ⟨g, 0, none⟩) 5 c ⟨#[46]⟩ ⟨#[]⟩ [a, 1, 1, 1, 1] B w hr hB (by decide) (by decide) (by decide) (by decide)
  rw [soaRec_valid, hx.out] at h
  exact h
end Go.Proofs.Ythbeecgfikcfdaa

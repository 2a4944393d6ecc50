/- What the functions of the program's chapter 1 return: names that are read below an origin. -/
import Derived.Test.YtaiijnaockbahaaJ
namespace Go.Proofs.Ytaiijnaockbahaa
open Go.RowKit
set_option maxRecDepth 100000

theorem cell_add (g j : Nat) : (⟨g, 0, none⟩ : Addr).add j = ⟨g, j, none⟩ := by unfold Addr.add; split <;> simp_all

/-- The bytes of a string in a new block. -/
theorem bytes_of_string {P : Program} (w : World) (src dst e : TypeId) (s : ByteArray) (hs : P.underlying src = some .string) (hd : P.underlying dst = some (.slice e)) (he : P.underlying e = some (.int .u8)) :
    ∃ W cap, (convert src dst (.string s)).run P w = .ok (.slice (some ⟨w.heap.size, 0, none⟩) s.size cap) W ∧ s.size ≤ cap ∧ W.heap.size = w.heap.size + 1 ∧ Below w.heap.size w W ∧
      ∀ j, (hj : j < s.size) → W.cell? ⟨w.heap.size, j, none⟩ = some (bv s[j]) ∧ W.frozen? ⟨w.heap.size, j, none⟩ = false := by
  refine ⟨_, _, run_bytes_of_string w src dst e s hs hd he, grownCap_ge _ _ _ _, ?_, ?_, fun j hj => ⟨?_, ?_⟩⟩
  · simp
  · exact (Below.refl _ _).drew.alloc (Nat.le_refl _) _
  · have := World.cell?_alloc_mark w.drew (bytesRow s (grownCap w s.size 0 e)) e ((bytesRow s (grownCap w s.size 0 e)).size, (bytesRow s (grownCap w s.size 0 e)).size + 1) j
    refine this.trans ?_
    unfold bytesRow
    rw [Array.getElem?_append_left (by simpa using hj)]
    have hj2 : j < s.data.size := hj
    rw [Array.getElem?_map, Array.getElem?_eq_getElem hj2]
    rfl
  · have h1 : (w.drew.alloc (.cells (bytesRow s (grownCap w s.size 0 e)) e ((bytesRow s (grownCap w s.size 0 e)).size, (bytesRow s (grownCap w s.size 0 e)).size + 1))).heap[w.heap.size]? = some (.cells (bytesRow s (grownCap w s.size 0 e)) e ((bytesRow s (grownCap w s.size 0 e)).size, (bytesRow s (grownCap w s.size 0 e)).size + 1)) := by
      show (w.heap.push _)[w.heap.size]? = _
      simp
    simp only [World.frozen?, h1]
    have h2 : (bytesRow s (grownCap w s.size 0 e)).size = s.size + (grownCap w s.size 0 e - s.size) := by simp [bytesRow]
    rw [h2]
    simp
    omega

def alphabet : ByteArray := ⟨#[97, 98, 99, 100, 101, 102, 103, 104, 105, 106, 107, 108, 109, 110, 111, 112, 113, 114, 115, 116, 117, 118, 119, 120, 121, 122]⟩
theorem small_65 (w : World) : (Instr.index 9 (.string alphabet) (.int .i32 (65 - 65))).run Try.prog w = .ok (.int .u8 (65 + 32)) w := by kernel_rfl
theorem small_66 (w : World) : (Instr.index 9 (.string alphabet) (.int .i32 (66 - 65))).run Try.prog w = .ok (.int .u8 (66 + 32)) w := by kernel_rfl
theorem small_67 (w : World) : (Instr.index 9 (.string alphabet) (.int .i32 (67 - 65))).run Try.prog w = .ok (.int .u8 (67 + 32)) w := by kernel_rfl
theorem small_68 (w : World) : (Instr.index 9 (.string alphabet) (.int .i32 (68 - 65))).run Try.prog w = .ok (.int .u8 (68 + 32)) w := by kernel_rfl
theorem small_69 (w : World) : (Instr.index 9 (.string alphabet) (.int .i32 (69 - 65))).run Try.prog w = .ok (.int .u8 (69 + 32)) w := by kernel_rfl
theorem small_70 (w : World) : (Instr.index 9 (.string alphabet) (.int .i32 (70 - 65))).run Try.prog w = .ok (.int .u8 (70 + 32)) w := by kernel_rfl
theorem small_71 (w : World) : (Instr.index 9 (.string alphabet) (.int .i32 (71 - 65))).run Try.prog w = .ok (.int .u8 (71 + 32)) w := by kernel_rfl
theorem small_72 (w : World) : (Instr.index 9 (.string alphabet) (.int .i32 (72 - 65))).run Try.prog w = .ok (.int .u8 (72 + 32)) w := by kernel_rfl
theorem small_73 (w : World) : (Instr.index 9 (.string alphabet) (.int .i32 (73 - 65))).run Try.prog w = .ok (.int .u8 (73 + 32)) w := by kernel_rfl
theorem small_74 (w : World) : (Instr.index 9 (.string alphabet) (.int .i32 (74 - 65))).run Try.prog w = .ok (.int .u8 (74 + 32)) w := by kernel_rfl
theorem small_75 (w : World) : (Instr.index 9 (.string alphabet) (.int .i32 (75 - 65))).run Try.prog w = .ok (.int .u8 (75 + 32)) w := by kernel_rfl
theorem small_76 (w : World) : (Instr.index 9 (.string alphabet) (.int .i32 (76 - 65))).run Try.prog w = .ok (.int .u8 (76 + 32)) w := by kernel_rfl
theorem small_77 (w : World) : (Instr.index 9 (.string alphabet) (.int .i32 (77 - 65))).run Try.prog w = .ok (.int .u8 (77 + 32)) w := by kernel_rfl
theorem small_78 (w : World) : (Instr.index 9 (.string alphabet) (.int .i32 (78 - 65))).run Try.prog w = .ok (.int .u8 (78 + 32)) w := by kernel_rfl
theorem small_79 (w : World) : (Instr.index 9 (.string alphabet) (.int .i32 (79 - 65))).run Try.prog w = .ok (.int .u8 (79 + 32)) w := by kernel_rfl
theorem small_80 (w : World) : (Instr.index 9 (.string alphabet) (.int .i32 (80 - 65))).run Try.prog w = .ok (.int .u8 (80 + 32)) w := by kernel_rfl
theorem small_81 (w : World) : (Instr.index 9 (.string alphabet) (.int .i32 (81 - 65))).run Try.prog w = .ok (.int .u8 (81 + 32)) w := by kernel_rfl
theorem small_82 (w : World) : (Instr.index 9 (.string alphabet) (.int .i32 (82 - 65))).run Try.prog w = .ok (.int .u8 (82 + 32)) w := by kernel_rfl
theorem small_83 (w : World) : (Instr.index 9 (.string alphabet) (.int .i32 (83 - 65))).run Try.prog w = .ok (.int .u8 (83 + 32)) w := by kernel_rfl
theorem small_84 (w : World) : (Instr.index 9 (.string alphabet) (.int .i32 (84 - 65))).run Try.prog w = .ok (.int .u8 (84 + 32)) w := by kernel_rfl
theorem small_85 (w : World) : (Instr.index 9 (.string alphabet) (.int .i32 (85 - 65))).run Try.prog w = .ok (.int .u8 (85 + 32)) w := by kernel_rfl
theorem small_86 (w : World) : (Instr.index 9 (.string alphabet) (.int .i32 (86 - 65))).run Try.prog w = .ok (.int .u8 (86 + 32)) w := by kernel_rfl
theorem small_87 (w : World) : (Instr.index 9 (.string alphabet) (.int .i32 (87 - 65))).run Try.prog w = .ok (.int .u8 (87 + 32)) w := by kernel_rfl
theorem small_88 (w : World) : (Instr.index 9 (.string alphabet) (.int .i32 (88 - 65))).run Try.prog w = .ok (.int .u8 (88 + 32)) w := by kernel_rfl
theorem small_89 (w : World) : (Instr.index 9 (.string alphabet) (.int .i32 (89 - 65))).run Try.prog w = .ok (.int .u8 (89 + 32)) w := by kernel_rfl
theorem small_90 (w : World) : (Instr.index 9 (.string alphabet) (.int .i32 (90 - 65))).run Try.prog w = .ok (.int .u8 (90 + 32)) w := by kernel_rfl
theorem small_of (r : Int) (h1 : 65 ≤ r) (h2 : r ≤ 90) (w : World) : (Instr.index 9 (.string alphabet) (.int .i32 (r - 65))).run Try.prog w = .ok (.int .u8 (r + 32)) w := by
  have h : r = 65 ∨ r = 66 ∨ r = 67 ∨ r = 68 ∨ r = 69 ∨ r = 70 ∨ r = 71 ∨ r = 72 ∨ r = 73 ∨ r = 74 ∨ r = 75 ∨ r = 76 ∨ r = 77 ∨ r = 78 ∨ r = 79 ∨ r = 80 ∨ r = 81 ∨ r = 82 ∨ r = 83 ∨ r = 84 ∨ r = 85 ∨ r = 86 ∨ r = 87 ∨ r = 88 ∨ r = 89 ∨ r = 90 := by omega
  rcases h with rfl | rfl | rfl | rfl | rfl | rfl | rfl | rfl | rfl | rfl | rfl | rfl | rfl | rfl | rfl | rfl | rfl | rfl | rfl | rfl | rfl | rfl | rfl | rfl | rfl | rfl
  · exact small_65 w
  · exact small_66 w
  · exact small_67 w
  · exact small_68 w
  · exact small_69 w
  · exact small_70 w
  · exact small_71 w
  · exact small_72 w
  · exact small_73 w
  · exact small_74 w
  · exact small_75 w
  · exact small_76 w
  · exact small_77 w
  · exact small_78 w
  · exact small_79 w
  · exact small_80 w
  · exact small_81 w
  · exact small_82 w
  · exact small_83 w
  · exact small_84 w
  · exact small_85 w
  · exact small_86 w
  · exact small_87 w
  · exact small_88 w
  · exact small_89 w
  · exact small_90 w

/-- The bytes before a place in small letters, the others as they were. -/
def mixed (s : ByteArray) (pos j : Nat) (hj : j < s.size) : UInt8 := if j < pos then Z.lowByte s[j] else s[j]
theorem mixed_run (s : ByteArray) (pos wd j : Nat) (hj : j < s.size) (h : ∀ i, i < wd → ∃ hi : pos + i < s.size, Z.lowByte (s[pos + i]'hi) = s[pos + i]'hi) : mixed s (pos + wd) j hj = mixed s pos j hj := by
  unfold mixed
  by_cases h1 : j < pos
  · rw [if_pos h1, if_pos (by omega)]
  · rw [if_neg h1]
    by_cases h2 : j < pos + wd
    · rw [if_pos h2]
      obtain ⟨h3, h4⟩ := h (j - pos) (by omega)
      have e : pos + (j - pos) = j := by omega
      simpa only [e] using h4
    · rw [if_neg h2]
theorem lowByte_high {c : UInt8} (h : ¬ (65 ≤ c.toNat ∧ c.toNat ≤ 90)) : Z.lowByte c = c := by
  unfold Z.lowByte
  rw [if_neg]
  simp only [UInt8.le_iff_toNat_le]
  simpa using h

end Go.Proofs.Ytaiijnaockbahaa

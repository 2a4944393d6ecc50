/- What the functions of the program's chapter 1 return: names that are read below an origin. -/
import Derived.Test.YtgieklfpdlkmjabJ
namespace Go.Proofs.Ytgieklfpdlkmjab
open Go.RowKit

theorem cell_add (g j : Nat) : (⟨g, 0, none⟩ : Addr).add j = ⟨g, j, none⟩ := by unfold Addr.add; split <;> simp_all

/-- The bytes of a string in a new block. -/
theorem bytes_of_string {P : Program} (w : World) (src dst e : TypeId) (s : ByteArray) (hs : P.underlying src = some .string) (hd : P.underlying dst = some (.slice e)) (he : P.underlying e = some (.int .u8)) :
    ∃ W cap, (convert src dst (.string s)).run P w = .ok (.slice (some ⟨w.heap.size, 0, none⟩) s.size cap) W ∧ s.size ≤ cap ∧ W.heap.size = w.heap.size + 1 ∧ Below w.heap.size w W ∧
      ∀ j, (hj : j < s.size) → W.cell? ⟨w.heap.size, j, none⟩ = some (bv s[j]) ∧ W.frozen? ⟨w.heap.size, j, none⟩ = false := by
  refine ⟨_, _, run_bytes_of_string w src dst e s hs hd he, grownCap_ge _ _ _ _, ?_, ?_, fun j hj => ⟨?_, ?_⟩⟩
  · simp
  · exact (Below.refl _ _).drew.alloc (Nat.le_refl _) _
  · have := World.cell?_alloc_mark w.drew (bytesRow s (grownCap w s.size 0 e)) e ((bytesRow s (grownCap w s.size 0 e)).size, (bytesRow s (grownCap w s.size 0 e)).size + 1) j
    refine this.trans ?_
    unfold bytesRow
    rw [Array.getElem?_append_left (by simpa using hj)]
    have hj2 : j < s.data.size := hj
    rw [Array.getElem?_map, Array.getElem?_eq_getElem hj2]
    rfl
  · have h1 : (w.drew.alloc (.cells (bytesRow s (grownCap w s.size 0 e)) e ((bytesRow s (grownCap w s.size 0 e)).size, (bytesRow s (grownCap w s.size 0 e)).size + 1))).heap[w.heap.size]? = some (.cells (bytesRow s (grownCap w s.size 0 e)) e ((bytesRow s (grownCap w s.size 0 e)).size, (bytesRow s (grownCap w s.size 0 e)).size + 1)) := by
      show (w.heap.push _)[w.heap.size]? = _
      simp
    simp only [World.frozen?, h1]
    have h2 : (bytesRow s (grownCap w s.size 0 e)).size = s.size + (grownCap w s.size 0 e - s.size) := by simp [bytesRow]
    rw [h2]
    simp
    omega

def alphabet : ByteArray := ⟨#[97, 98, 99, 100, 101, 102, 103, 104, 105, 106, 107, 108, 109, 110, 111, 112, 113, 114, 115, 116, 117, 118, 119, 120, 121, 122]⟩
theorem small_65 (w : World) : (Instr.index 9 (.string alphabet) (.int .i32 (65 - 65))).run Try.prog w = .ok (.int .u8 (65 + 32)) w := by kernel_rfl
theorem small_66 (w : World) : (Instr.index 9 (.string alphabet) (.int .i32 (66 - 65))).run Try.prog w = .ok (.int .u8 (66 + 32)) w := by kernel_rfl
theorem small_67 (w : World) : (Instr.index 9 (.string alphabet) (.int .i32 (67 - 65))).run Try.prog w = .ok (.int .u8 (67 + 32)) w := by kernel_rfl
theorem small_68 (w : World) : (Instr.index 9 (.string alphabet) (.int .i32 (68 - 65))).run Try.prog w = .ok (.int .u8 (68 + 32)) w := by kernel_rfl
theorem small_69 (w : World) : (Instr.index 9 (.string alphabet) (.int .i32 (69 - 65))).run Try.prog w = .ok (.int .u8 (69 + 32)) w := by kernel_rfl
theorem small_70 (w : World) : (Instr.index 9 (.string alphabet) (.int .i32 (70 - 65))).run Try.prog w = .ok (.int .u8 (70 + 32)) w := by kernel_rfl
theorem small_71 (w : World) : (Instr.index 9 (.string alphabet) (.int .i32 (71 - 65))).run Try.prog w = .ok (.int .u8 (71 + 32)) w := by kernel_rfl
theorem small_72 (w : World) : (Instr.index 9 (.string alphabet) (.int .i32 (72 - 65))).run Try.prog w = .ok (.int .u8 (72 + 32)) w := by kernel_rfl
theorem small_73 (w : World) : (Instr.index 9 (.string alphabet) (.int .i32 (73 - 65))).run Try.prog w = .ok (.int .u8 (73 + 32)) w := by kernel_rfl
theorem small_74 (w : World) : (Instr.index 9 (.string alphabet) (.int .i32 (74 - 65))).run Try.prog w = .ok (.int .u8 (74 + 32)) w := by kernel_rfl
theorem small_75 (w : World) : (Instr.index 9 (.string alphabet) (.int .i32 (75 - 65))).run Try.prog w = .ok (.int .u8 (75 + 32)) w := by kernel_rfl
theorem small_76 (w : World) : (Instr.index 9 (.string alphabet) (.int .i32 (76 - 65))).run Try.prog w = .ok (.int .u8 (76 + 32)) w := by kernel_rfl
theorem small_77 (w : World) : (Instr.index 9 (.string alphabet) (.int .i32 (77 - 65))).run Try.prog w = .ok (.int .u8 (77 + 32)) w := by kernel_rfl
theorem small_78 (w : World) : (Instr.index 9 (.string alphabet) (.int .i32 (78 - 65))).run Try.prog w = .ok (.int .u8 (78 + 32)) w := by kernel_rfl
theorem small_79 (w : World) : (Instr.index 9 (.string alphabet) (.int .i32 (79 - 65))).run Try.prog w = .ok (.int .u8 (79 + 32)) w := by kernel_rfl
theorem small_80 (w : World) : (Instr.index 9 (.string alphabet) (.int .i32 (80 - 65))).run Try.prog w = .ok (.int .u8 (80 + 32)) w := by kernel_rfl
theorem small_81 (w : World) : (Instr.index 9 (.string alphabet) (.int .i32 (81 - 65))).run Try.prog w = .ok (.int .u8 (81 + 32)) w := by kernel_rfl
theorem small_82 (w : World) : (Instr.index 9 (.string alphabet) (.int .i32 (82 - 65))).run Try.prog w = .ok (.int .u8 (82 + 32)) w := by kernel_rfl
theorem small_83 (w : World) : (Instr.index 9 (.string alphabet) (.int .i32 (83 - 65))).run Try.prog w = .ok (.int .u8 (83 + 32)) w := by kernel_rfl
theorem small_84 (w : World) : (Instr.index 9 (.string alphabet) (.int .i32 (84 - 65))).run Try.prog w = .ok (.int .u8 (84 + 32)) w := by kernel_rfl
theorem small_85 (w : World) : (Instr.index 9 (.string alphabet) (.int .i32 (85 - 65))).run Try.prog w = .ok (.int .u8 (85 + 32)) w := by kernel_rfl
theorem small_86 (w : World) : (Instr.index 9 (.string alphabet) (.int .i32 (86 - 65))).run Try.prog w = .ok (.int .u8 (86 + 32)) w := by kernel_rfl
theorem small_87 (w : World) : (Instr.index 9 (.string alphabet) (.int .i32 (87 - 65))).run Try.prog w = .ok (.int .u8 (87 + 32)) w := by kernel_rfl
theorem small_88 (w : World) : (Instr.index 9 (.string alphabet) (.int .i32 (88 - 65))).run Try.prog w = .ok (.int .u8 (88 + 32)) w := by kernel_rfl
theorem small_89 (w : World) : (Instr.index 9 (.string alphabet) (.int .i32 (89 - 65))).run Try.prog w = .ok (.int .u8 (89 + 32)) w := by kernel_rfl
theorem small_90 (w : World) : (Instr.index 9 (.string alphabet) (.int .i32 (90 - 65))).run Try.prog w = .ok (.int .u8 (90 + 32)) w := by kernel_rfl
theorem small_of (r : Int) (h1 : 65 ≤ r) (h2 : r ≤ 90) (w : World) : (Instr.index 9 (.string alphabet) (.int .i32 (r - 65))).run Try.prog w = .ok (.int .u8 (r + 32)) w := by
  have h : r = 65 ∨ r = 66 ∨ r = 67 ∨ r = 68 ∨ r = 69 ∨ r = 70 ∨ r = 71 ∨ r = 72 ∨ r = 73 ∨ r = 74 ∨ r = 75 ∨ r = 76 ∨ r = 77 ∨ r = 78 ∨ r = 79 ∨ r = 80 ∨ r = 81 ∨ r = 82 ∨ r = 83 ∨ r = 84 ∨ r = 85 ∨ r = 86 ∨ r = 87 ∨ r = 88 ∨ r = 89 ∨ r = 90 := by omega
  rcases h with rfl | rfl | rfl | rfl | rfl | rfl | rfl | rfl | rfl | rfl | rfl | rfl | rfl | rfl | rfl | rfl | rfl | rfl | rfl | rfl | rfl | rfl | rfl | rfl | rfl | rfl
  · exact small_65 w
  · exact small_66 w
  · exact small_67 w
  · exact small_68 w
  · exact small_69 w
  · exact small_70 w
  · exact small_71 w
  · exact small_72 w
  · exact small_73 w
  · exact small_74 w
  · exact small_75 w
  · exact small_76 w
  · exact small_77 w
  · exact small_78 w
  · exact small_79 w
  · exact small_80 w
  · exact small_81 w
  · exact small_82 w
  · exact small_83 w
  · exact small_84 w
  · exact small_85 w
  · exact small_86 w
  · exact small_87 w
  · exact small_88 w
  · exact small_89 w
  · exact small_90 w

/-- The bytes before a place in small letters, the others as they were. -/
def mixed (s : ByteArray) (pos j : Nat) (hj : j < s.size) : UInt8 := if j < pos then Z.lowByte s[j] else s[j]
theorem mixed_run (s : ByteArray) (pos wd j : Nat) (hj : j < s.size) (h : ∀ i, i < wd → ∃ hi : pos + i < s.size, Z.lowByte (s[pos + i]'hi) = s[pos + i]'hi) : mixed s (pos + wd) j hj = mixed s pos j hj := by
  unfold mixed
  by_cases h1 : j < pos
  · rw [if_pos h1, if_pos (by omega)]
  · rw [if_neg h1]
    by_cases h2 : j < pos + wd
    · rw [if_pos h2]
      obtain ⟨h3, h4⟩ := h (j - pos) (by omega)
      have e : pos + (j - pos) = j := by omega
      simpa only [e] using h4
    · rw [if_neg h2]
theorem lowByte_high {c : UInt8} (h : ¬ (65 ≤ c.toNat ∧ c.toNat ≤ 90)) : Z.lowByte c = c := by
  unfold Z.lowByte
  rw [if_neg]
  simp only [UInt8.le_iff_toNat_le]
  simpa using h

set_option maxHeartbeats 1000000 in
theorem withSmallLetters_any (s : ByteArray) (_hs : s.size ≤ 67108864) (w : World) :
    Calls Try.prog 67 #[.string s] w fun e w' => e = .returned (.string (bs (Z.lower (lst s)))) ∧ Below w.heap.size w w' := by
  obtain ⟨W, cap, hconv, hcap, hWs, hbW, hcW⟩ := bytes_of_string (P := Try.prog) w 9 22 5 s Try.underlying9 Try.underlying22 Try.underlying5
  have HWs := hid hWs
  have HcW := hid hcW
  clear hcW hWs
  go_enter Try.func67, Try.ntmps67
  go_wp2
  go_loopw [] (fun wr => ∃ pos : Nat, pos ≤ s.size ∧ Hid (∀ j, (hj : j < s.size) → wr.cell? ⟨w.heap.size, j, none⟩ = some (bv (mixed s pos j hj)) ∧ wr.frozen? ⟨w.heap.size, j, none⟩ = false) ∧ Below w.heap.size w wr ∧ Hid (wr.heap[W.heap.size]? = some (.stringIter s pos)))
    (fun wr => s.size - wr.iterPos W.heap.size)
  case atStart => exact ⟨0, Nat.zero_le _, hid (fun j hj => by
      have h1 := HcW.out j hj
      have h2 : (W.iter s 0).heap[w.heap.size]? = W.heap[w.heap.size]? := Below.heap_alloc _ _ _ (by have := HWs.out; omega)
      rw [World.cell?_of_block (w := W) h2, World.frozen?_of_block (w := W) h2]
      exact h1), hbW.alloc (by have := HWs.out; omega) _, hid (World.iter_heap W s 0)⟩
  case round =>
    obtain ⟨pos, hp, hcell, hb, hit⟩ := hrel
    have hip := hid (iterPos_of hit.out)
    by_cases hlt : pos < s.size
    · obtain ⟨r, wd, hdec, hwd, hend, hr⟩ := rune_at s pos hlt
      obtain ⟨W2, hW2⟩ : ∃ W2, W2 = wr.iterAt W.heap.size s (pos + wd) := ⟨_, rfl⟩
      have hnx : ∀ ty, (Instr.next (.pointer (some ⟨W.heap.size, 0, none⟩)) true ty).run Try.prog wr = .ok (.tuple #[.bool true, .int .i64 pos, .int .i32 r]) W2 := fun ty => by
        rw [Lib.run_next_any_at wr W.heap.size s pos ty hit.out hlt, hdec, hW2]
      have hit2 : Hid (W2.heap[W.heap.size]? = some (.stringIter s (pos + wd))) := hid (by rw [hW2]; exact Lib.iterAt_heap wr _ s pos _ hit.out)
      have hb2 : Below w.heap.size w W2 := by rw [hW2]; exact Lib.below_iterAt hb (by have := HWs.out; omega) s _
      have hblk : Hid (W2.heap[w.heap.size]? = wr.heap[w.heap.size]?) := hid (by rw [hW2]; exact Lib.iterAt_other _ _ _ _ _ (by have := HWs.out; omega))
      have hcell2 : Hid (∀ j, (hj : j < s.size) → W2.cell? ⟨w.heap.size, j, none⟩ = some (bv (mixed s pos j hj)) ∧ W2.frozen? ⟨w.heap.size, j, none⟩ = false) := hid (fun j hj => by
        rw [World.cell?_of_block (w := wr) hblk.out, World.frozen?_of_block (w := wr) hblk.out]; exact hcell.out j hj)
      have HR := hid hr
      clear hdec hr hW2 hb hit hcell hblk
      by_cases hup : 65 ≤ r ∧ r ≤ 90
      · obtain ⟨hu1, hu2⟩ := hup
        have hsm := small_of (r : Int) (by omega) (by omega)
        unfold alphabet at hsm
        have hc0 := (hcell2.out pos hlt).1
        have hf0 := (hcell2.out pos hlt).2
        go_wp2
        have hasc : r = s[pos].toNat ∧ wd = 1 := by
          rcases HR.out with ⟨_, h5, h6⟩ | ⟨h5, _⟩
          · exact ⟨h5, h6⟩
          · omega
        have hit3 : (W2.setCell ⟨w.heap.size, pos, none⟩ (.int .u8 ((r : Int) + 32))).heap[W.heap.size]? = some (.stringIter s (pos + wd)) := by
          rw [Below.heap_setCell _ _ _ _ (by have := HWs.out; show W.heap.size ≠ w.heap.size; omega)]; exact hit2.out
        have hval : bv (Z.lowByte s[pos]) = .int .u8 ((r : Int) + 32) := by rw [hasc.1]; exact lower_up (by omega) (by omega)
        refine ⟨⟨pos + wd, hend, hid (fun j hj => ?_), hb2.setCell (Nat.le_refl _) _, hid hit3⟩, ?_⟩
        · have h7 := hcell2.out j hj
          by_cases hjp : j = pos
          · subst hjp
            refine ⟨?_, ?_⟩
            · rw [World.cell?_setCell_same' _ _ _ (by rw [hc0]; rfl), ← hval]
              unfold mixed
              rw [if_pos (by omega)]
            · rw [World.frozen?_setCell]
              exact h7.2
          · refine ⟨?_, ?_⟩
            · rw [World.cell?_setCell_other _ _ _ _ (by intro e; injection e with _ e2 _; exact hjp e2.symm), h7.1]
              unfold mixed
              rw [hasc.2]
              by_cases h8 : j < pos
              · rw [if_pos h8, if_pos (by omega)]
              · rw [if_neg h8, if_neg (by omega)]
            · rw [World.frozen?_setCell]
              exact h7.2
        · rw [iterPos_of hit3, hip.out]
          omega
      · have hsame : Hid (∀ i, i < wd → ∃ hi : pos + i < s.size, Z.lowByte (s[pos + i]'hi) = s[pos + i]'hi) := hid (fun i hi => by
          rcases HR.out with ⟨_, h5, h6⟩ | ⟨_, h6⟩
          · obtain rfl : i = 0 := by omega
            exact ⟨by omega, lowByte_high (by simp only [Nat.add_zero]; omega)⟩
          · obtain ⟨h7, h8⟩ := h6 i hi
            exact ⟨h7, lowByte_high (by omega)⟩)
        by_cases hu1 : 65 ≤ (r : Int)
        all_goals
          go_wp2
          refine ⟨⟨pos + wd, hend, hid (fun j hj => ?_), hb2, hit2⟩, ?_⟩
          · rw [mixed_run s pos wd j hj hsame.out]; exact hcell2.out j hj
          · rw [iterPos_of hit2.out, hip.out]
            omega
    · have hnx : ∀ ty, (Instr.next (.pointer (some ⟨W.heap.size, 0, none⟩)) true ty).run Try.prog wr = _ := fun ty => Lib.run_next_end_at wr W.heap.size s pos ty hit.out hlt
      have hcv : (convert 22 9 (.slice (some ⟨w.heap.size, 0, none⟩) s.size cap)).run Try.prog wr = .ok (.string (bs (Z.lower (lst s)))) wr := by
        have hll : (Z.lower (lst s)).length = s.size := by rw [Z.lower_length, lst_length]
        have := run_convert_bytes_back (P := Try.prog) wr 22 9 5 ⟨w.heap.size, 0, none⟩ cap (Z.lower (lst s)) Try.underlying22 Try.underlying5 Try.underlying9 (fun j hj => by
          rw [cell_add, (hcell.out j (by omega)).1]
          unfold mixed
          rw [if_pos (by omega)]
          simp only [Z.lower, List.getElem_map]
          rfl)
        rw [hll] at this
        exact this
      go_wp2
      go_ret
      exact ⟨rfl, hb⟩


end Go.Proofs.Ytgieklfpdlkmjab

/- What the model writes of a number. -/
import Derived.Test.YtaiijnaockbahaaB
import Derived.Test.YtaiijnaockbahaaMa
import Derived.Deep.Light
import Derived.Handy
namespace Go.Proofs.Ytaiijnaockbahaa
open Go.RowKit
set_option maxRecDepth 100000
set_option linter.unusedVariables false

theorem conv_byte {P : Program} {w : World} {src dst e : TypeId} {c : UInt8} {v : Int} (hs : P.underlying src = some (.slice e)) (he : P.underlying e = some (.int .u8)) (hd : P.underlying dst = some .string) (hv : v = c.toNat) :
    (convert src dst (.slice (some ⟨w.heap.size, 0, none⟩) 1 1)).run P (w.alloc (.cells #[.int .u8 v] e)) = .ok (.string (bs [c])) (w.alloc (.cells #[.int .u8 v] e)) := by
  subst hv
  have := run_convert_bytes_back (P := P) (w.alloc (.cells #[.int .u8 (c.toNat : Int)] e)) src dst e ⟨w.heap.size, 0, none⟩ 1 [c] hs he hd (fun j hj => by
    have hj0 : j = 0 := by simpa using hj
    subst hj0
    exact one_cell (x := .int .u8 (c.toNat : Int)) 0 _ rfl)
  exact this
theorem digit_nat (m : Nat) (h : m < 10) : (48 + (m : Int)) = ((UInt8.ofNat (48 + m)).toNat : Int) := by
  rw [UInt8.toNat_ofNat']
  omega
/-- The digits that are written, and the number that is left. -/
def DecAt (N m : Nat) (o : ByteArray) : Prop := Lib.decDigits N = Lib.decDigits m ++ lst o
theorem decAt_start (N : Nat) : DecAt N N ⟨#[]⟩ := by simp [DecAt, lst]
set_option maxHeartbeats 1000000 in
theorem l13Dec_any (N : Nat) (hN : N ≤ 9223372036854775807) (w : World) :
    Calls Try.prog 74 #[.int .i64 N] w fun e w' => e = .returned (.string (bs (Lib.itoa N))) ∧ Below w.heap.size w w' := by
  go_enter Try.func74, Try.ntmps74
  go_wp2
  go_loopw [0, 3] (fun i v wr => ∃ (m : Nat) (o : ByteArray), i = .int .i64 m ∧ m ≤ N ∧ v = .string o ∧ Hid (DecAt N m o) ∧ Below w.heap.size w wr) (fun i _ _ => (intOf i).toNat)
  case atStart => exact ⟨N, _, rfl, Nat.le_refl _, rfl, hid (decAt_start N), Below.refl _ _⟩
  case round =>
    obtain ⟨m, o, rfl, hm, rfl, hd, hb⟩ := hrel
    have hbs := hb.size
    have hos : o.size ≤ 19 := by
      have h1 := congrArg List.length hd.out
      have h2 := Z.dec_len (n := N) (k := 19) (by omega) (by omega)
      rw [List.length_append, lst_length] at h1
      omega
    by_cases h9 : 9 < m
    · obtain ⟨c, hc⟩ : ∃ c, c = UInt8.ofNat (48 + m % 10) := ⟨_, rfl⟩
      have hcv := conv_byte (P := Try.prog) (w := wr) (c := c) (v := 48 + (m : Int) % 10) Try.underlying22 Try.underlying5 Try.underlying9 (by have := digit_nat (m % 10) (Nat.mod_lt _ (by omega)); rw [hc, ← this]; omega)
      have ha : ∀ W : World, (Op.stringOp .add (bs [c]) o).run Try.prog W = .ok (.string (bs [c] ++ o)) W := fun W => run_string_add_sum W _ _ (by rw [bs_size]; simp; omega)
      have HD := hid (show DecAt N (m / 10) (bs [c] ++ o) by
        have := hd.out
        unfold DecAt at this ⊢
        rw [this, Z.dec_big (by omega), lst_append, lst_bs, hc]
        simp)
      clear hc
      go_wp2
      go_roundw
      case rel => exact ⟨m / 10, _, by go_num, by omega, rfl, HD, hb.alloc hbs _⟩
      case measure => simp [intOf]; omega
    · obtain ⟨c, hc⟩ : ∃ c, c = UInt8.ofNat (48 + m) := ⟨_, rfl⟩
      have hcv := conv_byte (P := Try.prog) (w := wr) (c := c) (v := 48 + (m : Int)) Try.underlying22 Try.underlying5 Try.underlying9 (by rw [hc]; exact digit_nat m (by omega))
      have ha : ∀ W : World, (Op.stringOp .add (bs [c]) o).run Try.prog W = .ok (.string (bs [c] ++ o)) W := fun W => run_string_add_sum W _ _ (by rw [bs_size]; simp; omega)
      have HD := hid (show bs (Lib.itoa N) = bs [c] ++ o by
        have := hd.out
        unfold DecAt at this
        apply lst_inj
        rw [Z.itoa_pos (by omega), Int.toNat_natCast, lst_bs, this, Z.dec_small (by omega), lst_append, lst_bs, hc])
      clear hc
      go_wp2
      go_ret
      exact ⟨ret_str HD.out.symm, hb.alloc hbs _⟩
end Go.Proofs.Ytaiijnaockbahaa

/- What the functions of the model's chapter 1 return: names out of labels, and names that are read. -/
import Derived.Test.YtaiijnaockbahaaS
import Derived.Laws.IdiomStrings
import Derived.Laws.BytesArg
namespace Go.Proofs.Ytaiijnaockbahaa
open Go.RowKit
set_option maxRecDepth 100000

theorem joined_take_succ (ls : List Z.Str) (k : Nat) (x : ByteArray) (h : k < ls.length) (hx : lst x = ls.getD k []) :
    bs (Z.joined (ls.take k)) ++ x ++ ⟨#[46]⟩ = bs (Z.joined (ls.take (k + 1))) := by
  apply lst_inj
  have e : ls.getD k [] = ls[k] := by simp [h]
  rw [lst_append, lst_append, lst_bs, lst_bs, List.take_succ_eq_append_getElem h, Z.joined_append, hx, e]
  simp [Z.joined, lst]
theorem joined_take_le (ls : List Z.Str) (k : Nat) : (Z.joined (ls.take k)).length ≤ (Z.joined ls).length := by
  conv => rhs; rw [← List.take_append_drop k ls, Z.joined_append]
  simp

theorem join_le (ls : List Z.Str) : (Z.join ls).length ≤ (Z.joined ls).length + 1 := by
  unfold Z.join
  split
  · simp
  · omega

theorem infoByte : (Try.prog.info? 5).map (fun i => (i.zero, i.size, i.bytes)) = some (some (.int .u8 0), 1, 1) := by kernel_rfl
def bv (c : UInt8) : Value := .int .u8 c.toNat
theorem lower_take_succ (s : ByteArray) (k : Nat) (h : k < s.size) : (Z.lower (lst s)).take (k + 1) = (Z.lower (lst s)).take k ++ [Z.lowByte s[k]] := by
  unfold Z.lower
  rw [← List.map_take, lst_take_succ s k h, List.map_append, List.map_take]; rfl
theorem lower_up {c : UInt8} (h1 : 65 ≤ (c.toNat : Int)) (h2 : (c.toNat : Int) ≤ 90) : bv (Z.lowByte c) = .int .u8 ((c.toNat : Int) + 32) := by
  unfold bv Z.lowByte
  rw [if_pos]
  · congr 1
    rw [UInt8.toNat_add]
    simp
    omega
  · simp only [UInt8.le_iff_toNat_le]
    simp
    omega
theorem lower_same {c : UInt8} (h : ¬ (65 ≤ (c.toNat : Int) ∧ (c.toNat : Int) ≤ 90)) : bv (Z.lowByte c) = .int .u8 (c.toNat : Int) := by
  unfold bv Z.lowByte
  rw [if_neg]
  simp only [UInt8.le_iff_toNat_le]
  simp
  omega

theorem conv_own {P : Program} {w : World} {src dst e : TypeId} {base n : Nat} {A : Option Addr} {c : Nat} {l : List UInt8} (hs : P.underlying src = some (.slice e)) (he : P.underlying e = some (.int .u8)) (hd : P.underlying dst = some .string)
    (h : w.ownsRow base e 1 (.slice A n c) n (l.map bv)) : (convert src dst (.slice A n c)).run P w = .ok (.string (bs l)) w := by
  obtain rfl : n = l.length := by simpa using h.1.symm
  have hr := Reads.of_own h
  cases A with
  | none =>
    have hl : l = [] := by
      rcases Nat.eq_zero_or_pos l.length with h0 | h0
      · exact List.eq_nil_of_length_eq_zero h0
      · obtain ⟨ad, e, _⟩ := hr.2 h0
        cases e
    subst hl
    rw [run_convert_bytes_nil w src e hs he _ _ dst hd]
    rfl
  | some a =>
    rw [run_convert_bytes_back w src dst e a c l hs he hd ?_]
    · rfl
    · intro j hj
      obtain ⟨ad, u, e1, _, hx, hc⟩ := hr.at_ hj
      injection e1 with e1
      subst e1
      rw [hc, ← hx, List.getElem?_map, List.getElem?_eq_getElem hj]
      rfl

def belowText (s o : Z.Str) : Z.Str := if o = [46] then s ++ [46] else s ++ [46] ++ o

theorem readName_of {t o n : Z.Str} (ho : Z.valid o = true) (ht : t ≠ []) (h60 : t.length ≤ 60) (hf : Z.fullText t o = n) : Z.readName t o = if Z.valid n = true then some n else none := by
  unfold Z.readName
  rw [hf]
  have : t.isEmpty = false := by cases t <;> simp_all
  simp [ho, this, h60]
end Go.Proofs.Ytaiijnaockbahaa

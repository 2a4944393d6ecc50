/- What the helpers of the laws that mark lists of bytes return. -/
import Derived.Test.YthbeecgfikcfdaaKb
import Derived.ProofKit
import Derived.OpenShut
import Derived.ShutString
import Derived.ChangeOld
namespace Go.Proofs.Ythbeecgfikcfdaa
open Go.RowKit
set_option maxRecDepth 100000
set_option linter.unusedVariables false

theorem reads_byte {w : World} {B n k : Nat} {A : Option Addr} {zs : List UInt8} (h : Reads w B A n (zs.map bv)) (hk : k < n) :
    ∃ ad, A = some ad ∧ ad.block < B ∧ w.cell? (ad.add k) = some (.int .u8 ((zs.getD k 0).toNat : Int)) := by
  obtain ⟨ad, u, e, hb, hx, hc⟩ := h.at_ hk
  have hl : k < zs.length := by have := h.1; simp at this; omega
  rw [List.getElem?_map, List.getElem?_eq_getElem hl] at hx
  simp only [Option.map_some, Option.some.injEq] at hx
  subst hx
  exact ⟨ad, e, hb, by rw [hc]; simp [hl, bv]⟩

set_option maxHeartbeats 400000 in
theorem eqByteS_any (xs : List UInt8) (B B' : Nat) (A A' : Option Addr) (n c c' : Nat) (w : World) (hx : Reads w B A n (xs.map bv)) (hy : Reads w B' A' n (xs.map bv)) (hn : n ≤ 67108864) :
    Calls Try.prog 13 #[.slice A n c, .slice A' n c'] w fun e w' => e = .returned (.bool true) ∧ Below w.heap.size w w' := by
  go_enter Try.func13, Try.ntmps13
  go_wp2
  go_loopw [5] (fun i wr => ∃ (k nq : Nat), k ≤ n ∧ i = .int .i64 k ∧ wr = w.drewN nq) (fun i _ => n - (intOf i).toNat)
  case atStart => exact ⟨0, 0, Nat.zero_le _, rfl, rfl⟩
  case round =>
    obtain ⟨k, nq, hk, rfl, rfl⟩ := hrel
    by_cases hlt : k < n
    · obtain ⟨ad2, rfl, hab2, hcell2⟩ := reads_byte hy hlt
      obtain ⟨ad1, rfl, hab1, hcell1⟩ := reads_byte hx hlt
      go_wp2_with fail
      go_quiet (fail)
      go_wp2
      exact ⟨⟨k + 1, _, by omega, by go_num, rfl⟩, by simp [intOf]; omega⟩
    · go_wp2
      go_ret
      exact ⟨rfl, by repeat (first | exact Below.refl _ _ | refine below_drewN ?_ _)⟩

def bmarks (k n : Nat) : List UInt8 := (List.range n).map (fun i => UInt8.ofNat (k + i))
/-- The first j bytes marked from k on, the others as they were. -/
def bmarked (k j : Nat) (xs : List UInt8) : List UInt8 := (List.range j).map (fun i => UInt8.ofNat (k + i)) ++ xs.drop j
theorem bmarked_zero (k : Nat) (xs : List UInt8) : bmarked k 0 xs = xs := by simp [bmarked]
theorem bmarked_length (k j : Nat) (xs : List UInt8) (h : j ≤ xs.length) : (bmarked k j xs).length = xs.length := by simp [bmarked]; omega
theorem bmarked_set (k j : Nat) (xs : List UInt8) (h : j < xs.length) : ((bmarked k j xs).map bv).set j (bv (UInt8.ofNat (k + j))) = (bmarked k (j + 1) xs).map bv := by
  unfold bmarked
  rw [List.drop_eq_getElem_cons h, List.range_succ, ← List.map_set]
  congr 1
  rw [List.set_append_right _ _ (by simp)]
  simp
  rw [List.drop_eq_getElem_cons h]
  rfl
theorem bmarked_all (k : Nat) (xs : List UInt8) : bmarked k xs.length xs = bmarks k xs.length := by simp [bmarked, bmarks]
theorem bmarks_get (k n j : Nat) (h : j < n) : (bmarks k n).getD j 0 = UInt8.ofNat (k + j) := by
  unfold bmarks
  simp [h]
theorem bmarks_length (k n : Nat) : (bmarks k n).length = n := by simp [bmarks]

set_option maxHeartbeats 1000000 in
theorem markByteS_any (xs : List UInt8) (base : Nat) (A : Option Addr) (n c k : Nat) (w : World) (hown : w.ownsRow base 5 1 (.slice A n c) n (xs.map bv)) (h2 : k + n ≤ 255) :
    Calls Try.prog 14 #[.slice A n c, .int .i64 (k : Int)] w fun e w' => e = .returned (.int .i64 ((k + n : Nat) : Int)) ∧ w'.ownsRow base 5 1 (.slice A n c) n ((bmarks k n).map bv) ∧ Below base w w' := by
  obtain rfl : n = xs.length := by simpa using hown.1.symm
  rcases Nat.eq_zero_or_pos xs.length with h0 | h0
  · obtain rfl := List.eq_nil_of_length_eq_zero h0
    go_enter Try.func14, Try.ntmps14
    go_wp2_with fail
    go_loop [1, 5] (fun ks i => ks = .int .i64 (k : Int) ∧ i = .int .i64 0) (fun _ _ => 0)
    case atStart => exact ⟨rfl, rfl⟩
    case round =>
      obtain ⟨rfl, rfl⟩ := hrel
      go_wp2_with fail
      go_ret
      exact ⟨rfl, hown, Below.refl _ _⟩
  · obtain ⟨g, cap, hv, hbg, hgl⟩ := hown.form h0
    injection hv with hA
    subst hA
    go_enter Try.func14, Try.ntmps14
    go_wp2_with fail
    go_loopw [1, 5] (fun ks i wr => ∃ j : Nat, j ≤ xs.length ∧ ks = .int .i64 ((k : Int) + j) ∧ i = .int .i64 j ∧ wr.ownsRow base 5 1 (.slice (some ⟨g, 0, none⟩) xs.length c) xs.length ((bmarked k j xs).map bv) ∧ Below base w wr) (fun _ i _ => xs.length - (intOf i).toNat)
    case atStart => exact ⟨0, Nat.zero_le _, by go_num, rfl, by rw [bmarked_zero]; exact hown, Below.refl _ _⟩
    case round =>
      obtain ⟨j, hj, rfl, rfl, ho, hb⟩ := hrel
      have hbs := hb.size
      by_cases hlt : j < xs.length
      · have hml := bmarked_length k j xs hj
        have HML := hid hml
        clear hml
        have hcell : wr.cell? ⟨g, j, none⟩ = some (bv ((bmarked k j xs).getD j 0)) := by
          rw [ho.cellAt j (by omega), List.getElem?_map, List.getElem?_eq_getElem (by rw [HML.out]; exact hlt)]
          simp [HML.out, hlt]
        unfold bv at hcell
        have hfz := ho.frozenAt j
        obtain ⟨ho3, _⟩ := ho.stored j (bv (UInt8.ofNat (k + j)))
        rw [bmarked_set k j xs hlt] at ho3
        have e1 : bv (UInt8.ofNat (k + j)) = .int .u8 ((k : Int) + (j : Int)) := by rw [byte_len (k + j) (by omega), Int.natCast_add]
        rw [e1] at ho3
        have hwr : IntKind.u8.wrap ((k : Int) + (j : Int)) = (k : Int) + (j : Int) := by
          have := u8_wrap (k + j) (by omega)
          rwa [Int.natCast_add] at this
        have hb3 : Below base w (wr.setCell ⟨g, j, none⟩ (.int .u8 ((k : Int) + (j : Int)))) := hb.setCell (p := ⟨g, j, none⟩) hbg _
        clear ho e1
        go_wp2_with fail
        exact ⟨⟨j + 1, by omega, by go_num, by go_num, ho3, hb3⟩, by simp [intOf]; omega⟩
      · obtain rfl : j = xs.length := by omega
        rw [bmarked_all] at ho
        go_wp2_with fail
        go_ret
        exact ⟨ret_int (by omega), ho, hb⟩

set_option maxHeartbeats 1000000 in
theorem heldByteS_any (B : Nat) (A : Option Addr) (n c k : Nat) (w : World) (hr : Reads w B A n ((bmarks k n).map bv)) (h2 : k + n ≤ 255) :
    Calls Try.prog 15 #[.slice A n c, .int .i64 (k : Int)] w fun e w' => e = .returned (.int .i64 ((k + n : Nat) : Int)) ∧ ∃ q, w.drewN q = w' := by
  go_enter Try.func15, Try.ntmps15
  go_wp2_with fail
  go_loopw [1, 5] (fun ks i wr => ∃ j : Nat, j ≤ n ∧ ks = .int .i64 ((k : Int) + j) ∧ i = .int .i64 j ∧ ∃ q, w.drewN q = wr) (fun _ i _ => n - (intOf i).toNat)
  case atStart => exact ⟨0, Nat.zero_le _, by go_num, rfl, 0, rfl⟩
  case round =>
    obtain ⟨j, hj, rfl, rfl, q, rfl⟩ := hrel
    by_cases hlt : j < n
    · have hr2 : Reads (w.drewN q) B A (bmarks k n).length ((bmarks k n).map bv) := by rw [bmarks_length]; exact hr
      obtain ⟨ad, rfl, hab, hcell⟩ := reads_byte hr2 (k := j) (by rw [bmarks_length]; exact hlt)
      rw [bmarks_get k n j hlt] at hcell
      have e1 : ((UInt8.ofNat (k + j)).toNat : Int) = (k : Int) + (j : Int) := by
        have h9 := byte_len (k + j) (by omega)
        unfold bv at h9
        injection h9 with _ h9
      rw [e1] at hcell
      have hwr : IntKind.u8.wrap ((k : Int) + (j : Int)) = (k : Int) + (j : Int) := by
        have := u8_wrap (k + j) (by omega)
        rwa [Int.natCast_add] at this
      have p1 : 0 ≤ (j : Int) := by omega
      have p2 : (j : Int) < n := by omega
      clear hr2 e1
      go_wp2_with fail
      exact ⟨⟨j + 1, by omega, by go_num, by go_num, by first | exact ⟨q, rfl⟩ | exact ⟨q + 1, rfl⟩⟩, by simp [intOf]; omega⟩
    · obtain rfl : j = n := by omega
      go_wp2_with fail
      go_ret
      exact ⟨ret_int (by omega), q, rfl⟩
end Go.Proofs.Ythbeecgfikcfdaa

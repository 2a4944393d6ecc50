/- What the helpers of the exact laws return for records. What a law is told of a record that comes in. What the helpers of the laws that mark the memory of a record return. -/
import Derived.Test.YtpgeeeamcncpkaaGreatDoorId
import Derived.ProofKit
import Derived.OpenShut
import Derived.ShutString
import Derived.ChangeOld
import Derived.Deep.Fields
import Derived.Test.YtpgeeeamcncpkaaGreatDoorBk
import Derived.Maps.AppendAt
namespace Go.Proofs.YtpgeeeamcncpkaaGreatDoor
open Go.RowKit
set_option maxRecDepth 100000
set_option linter.unusedVariables false

/-- What szRecord leaves of m, or less than 0. -/
def SzLeft (nm n tg tx : Nat) (m k : Int) : Prop := k ≤ m ∧ (0 ≤ k → k + (nm + n + tg + tx : Nat) ≤ m)
/-- The first k numbers, and zeros behind them. -/
def copiedI (ls : List Int) (k : Nat) : List Int := ls.take k ++ List.replicate (ls.length - k) 0
theorem copiedI_length (ls : List Int) (k : Nat) (h : k ≤ ls.length) : (copiedI ls k).length = ls.length := by simp [copiedI]; omega
theorem copiedI_set (ls : List Int) (k : Nat) (h : k < ls.length) : (copiedI ls k).set k (ls.getD k 0) = copiedI ls (k + 1) := by
  have e : ls.getD k 0 = ls[k] := by simp [h]
  unfold copiedI
  rw [e, List.take_succ_eq_append_getElem h, List.set_append_right _ _ (by simp; omega)]
  have e2 : ls.length - k = (ls.length - (k + 1)) + 1 := by omega
  have e3 : k - (ls.take k).length = 0 := by rw [List.length_take]; omega
  rw [e2, e3, List.replicate_succ, List.set_cons_zero, List.append_assoc]
  rfl
theorem copiedI_all (ls : List Int) : copiedI ls ls.length = ls := by simp [copiedI]
theorem made_zero (n : Nat) : (madeCells #[Value.int .i64 0] (n * 1)).toList = (List.replicate n (0 : Int)).map iv := by
  apply List.ext_getElem?
  intro i
  rw [List.getElem?_map]
  by_cases h : i < n
  · rw [List.getElem?_replicate, if_pos h]
    simp [madeCells, h, Nat.mod_one]
    rfl
  · rw [List.getElem?_replicate, if_neg h]
    simp [madeCells]
    omega
theorem infoInt3 : (Tryz.prog.info? 3).map (fun i => (i.zero, i.size, i.bytes)) = some (some (.int .i64 0), 1, 8) := by kernel_rfl

set_option maxHeartbeats 400000 in
theorem eqIntS_any (xs : List Int) (B B' : Nat) (A A' : Option Addr) (n c c' : Nat) (w : World) (hx : Reads w B A n (xs.map iv)) (hy : Reads w B' A' n (xs.map iv)) (hn : n ≤ 67108864) :
    Calls Tryz.prog 69 #[.slice A n c, .slice A' n c'] w fun e w' => e = .returned (.bool true) ∧ Below w.heap.size w w' := by
  have hl1 := hid (reads_len hx)
  go_enter Tryz.func69, Tryz.ntmps69
  go_wp2
  go_loopw [5] (fun i wr => ∃ (k nq : Nat), k ≤ n ∧ i = .int .i64 k ∧ wr = w.drewN nq) (fun i _ => n - (intOf i).toNat)
  case atStart => exact ⟨0, 0, Nat.zero_le _, rfl, rfl⟩
  case round =>
    obtain ⟨k, nq, hk, rfl, rfl⟩ := hrel
    by_cases hlt : k < n
    · obtain ⟨ad2, rfl, hab2, hcell2⟩ := reads_int hy hlt
      obtain ⟨ad1, rfl, hab1, hcell1⟩ := reads_int hx hlt
      go_wp2_with fail
      go_quiet (fail)
      go_wp2
      exact ⟨⟨k + 1, _, by omega, by go_num, rfl⟩, by simp [intOf]; omega⟩
    · go_wp2
      go_ret
      exact ⟨rfl, by repeat (first | exact Below.refl _ _ | refine below_drewN ?_ _)⟩

/-- Two records with the same fields are equal. -/
theorem eqRecord_any (aN : ByteArray) (aT aK : Int) (aA : Option Addr) (aL aC : Nat) (aG aX : ByteArray) (aZ : List Int) (aB : Nat) (bA : Option Addr) (bC bB : Nat) (w : World) (hra : Reads w aB aA aL (aZ.map iv)) (hba : aB ≤ w.heap.size) (hla : aL ≤ 67108864) (hrb : Reads w bB bA aL (aZ.map iv)) (hbb : bB ≤ w.heap.size) :
    Calls Tryz.prog 26 #[.agg #[.string aN, .int .i64 aT, .int .i64 aK, .slice aA aL aC, .string aG, .string aX], .agg #[.string aN, .int .i64 aT, .int .i64 aK, .slice bA aL bC, .string aG, .string aX]] w fun e w' => e = .returned (.bool true) ∧ Below w.heap.size w w' := by
  go_enter Tryz.func26, Tryz.ntmps26
  go_wp2_with (go_at_call 69; refine (eqIntS_any aZ aB bB _ _ _ _ _ _ ((hra.alloc (by omega) _).alloc (by simp; omega) _) ((hrb.alloc (by omega) _).alloc (by simp; omega) _) hla).mono ?_; rintro e w3 ⟨rfl, hb3⟩; obtain ⟨hc3, hf3⟩ := bcell hb3)
  clear hc3 hf3
  go_ret
  exact ⟨rfl, (((Below.refl _ _).alloc (Nat.le_refl _) _).alloc (by simp) _).trans (hb3.mono (by simp; omega))⟩

end Go.Proofs.YtpgeeeamcncpkaaGreatDoor

namespace Go.Proofs.YtpgeeeamcncpkaaGreatDoor
open Go.ChangeShapes Go.WideShapes Go.ChangeAt Go.RowKit
set_option maxRecDepth 100000
set_option linter.unusedVariables false

/-- A slice of ints that came in reads as a list. -/
def IntsIn (w : World) (A : Option Addr) (L C : Nat) : Prop := L ≤ C ∧ C ≤ maxLen ∧ ∃ zs : List Int, Reads w w.heap.size A L (zs.map iv)
theorem blockOf_lt {w : World} {a : Addr} {v : Value} (h : w.cell? a = some v) : a.block < w.heap.size := by
  rcases Nat.lt_or_ge a.block w.heap.size with h1 | h1
  · exact h1
  · unfold World.cell? at h
    rw [Array.getElem?_eq_none h1] at h
    cases h
theorem intsIn_of {H : Type} {enc : TypeId × Value → H} {w : World} {fuel : Nat} {c : Value} {x : DataW H × List MemPlace} (h : DataW.trod enc Tryz.prog w 0 (fun _ => true) true fuel 23 [c] = some x) :
    ∃ A L C, c = .slice A L C ∧ IntsIn w A L C := by
  rcases open_ints Tryz.underlying23 Tryz.underlying3 (by kernel_rfl) h with ⟨hcs, _⟩ | ⟨a, l, c', zs, hcs, _, hl, hm, hz, _, hcell, _⟩
  · simp at hcs
    exact ⟨none, 0, 0, hcs, Nat.le_refl _, by decide, [], Reads.none_⟩
  · simp at hcs hz
    refine ⟨some a, l, c', hcs, hl, hm, zs.take l, by simp; omega, fun hn => ⟨a, rfl, ?_, fun j u hu => ?_⟩⟩
    · have := blockOf_lt (hcell 0 (by omega))
      rwa [block_of_add] at this
    · rw [List.getElem?_map] at hu
      have hj : j < (zs.take l).length := by
        rcases Nat.lt_or_ge j (zs.take l).length with h6 | h6
        · exact h6
        · rw [List.getElem?_eq_none h6] at hu; cases hu
      rw [List.getElem?_eq_getElem hj] at hu
      simp only [List.getElem_take, Option.map_some, Option.some.injEq] at hu
      have hjz : j < zs.length := by rw [List.length_take] at hj; omega
      rw [hcell j hjz, ← hu]
      simp [iv, hjz]

/-- A record that came in. -/
def RecIn (w : World) (v : Value) : Prop := ∃ (s : ByteArray) (t k : Int) (A : Option Addr) (L C : Nat) (g x : ByteArray), v = .agg #[.string s, .int .i64 t, .int .i64 k, .slice A L C, .string g, .string x] ∧ s.size ≤ maxLen ∧ g.size ≤ maxLen ∧ x.size ≤ maxLen ∧ IntsIn w A L C

end Go.Proofs.YtpgeeeamcncpkaaGreatDoor

namespace Go.Proofs.YtpgeeeamcncpkaaGreatDoor
open Go.RowKit
set_option maxRecDepth 100000
set_option linter.unusedVariables false

theorem grown_set {w wr : World} {g j : Nat} (h : w.grownBy wr (some g)) (u : Value) : w.grownBy (wr.setCell ⟨g, j, none⟩ u) (some g) :=
  ⟨h.os, h.tape, h.output, by rw [World.size_setCell]; exact h.size, fun k hk hne => (Below.heap_setCell wr ⟨g, j, none⟩ u k (fun e => hne (by rw [e]))).trans (h.block k hk hne)⟩
theorem grown_alloc (w : World) (o : Obj) (row : Option Nat) : w.grownBy (w.alloc o) row := ⟨rfl, rfl, rfl, by simp, fun k hk _ => Below.heap_alloc w o k hk⟩
theorem grown_of {w w' : World} (h : Below w.heap.size w w') (row : Option Nat) : w.grownBy w' row := ⟨h.os, h.tape, h.output, h.size, fun k hk _ => h.block k hk⟩
theorem Blk.grew {w w' : World} {g : Nat} {t : TypeId} {cs : List Value} {row : Option Nat} (h : Blk w g t cs) (hg : w.grownBy w' row) (hne : some g ≠ row) : Blk w' g t cs := (hg.block g h.lt hne).trans h

/-- Numbers from k on. -/
def imarks (k n : Nat) : List Int := (List.range n).map (fun i => ((k + i : Nat) : Int))
/-- The first j numbers marked from k on, the others as they were. -/
def imarked (k j : Nat) (xs : List Int) : List Int := (List.range j).map (fun i => ((k + i : Nat) : Int)) ++ xs.drop j
theorem imarked_zero (k : Nat) (xs : List Int) : imarked k 0 xs = xs := by simp [imarked]
theorem imarked_length (k j : Nat) (xs : List Int) (h : j ≤ xs.length) : (imarked k j xs).length = xs.length := by simp [imarked]; omega
theorem imarked_set (k j : Nat) (xs : List Int) (h : j < xs.length) : ((imarked k j xs).map iv).set j (iv ((k + j : Nat) : Int)) = (imarked k (j + 1) xs).map iv := by
  unfold imarked
  rw [List.drop_eq_getElem_cons h, List.range_succ]
  simp
  rw [List.drop_eq_getElem_cons (by simpa using h)]
  rfl
theorem imarked_all (k : Nat) (xs : List Int) : imarked k xs.length xs = imarks k xs.length := by simp [imarked, imarks]
theorem imarks_get (k n j : Nat) (h : j < n) : (imarks k n).getD j 0 = ((k + j : Nat) : Int) := by
  unfold imarks
  simp [h]
theorem imarks_length (k n : Nat) : (imarks k n).length = n := by simp [imarks]

set_option maxHeartbeats 1000000 in
theorem markIntS_any (xs : List Int) (base : Nat) (A : Option Addr) (n c k : Nat) (w : World) (hown : w.ownsRow base 3 1 (.slice A n c) n (xs.map iv)) (h2 : k + n ≤ 100000000) :
    Calls Tryz.prog 70 #[.slice A n c, .int .i64 (k : Int)] w fun e w' => e = .returned (.int .i64 ((k + n : Nat) : Int)) ∧ w'.ownsRow base 3 1 (.slice A n c) n ((imarks k n).map iv) ∧ Below base w w' ∧ w.grownBy w' (Value.slice A n c).ownBlock := by
  obtain rfl : n = xs.length := by simpa using hown.1.symm
  rcases Nat.eq_zero_or_pos xs.length with h0 | h0
  · obtain rfl := List.eq_nil_of_length_eq_zero h0
    go_enter Tryz.func70, Tryz.ntmps70
    go_wp2_with fail
    go_loop [1, 5] (fun ks i => ks = .int .i64 (k : Int) ∧ i = .int .i64 0) (fun _ _ => 0)
    case atStart => exact ⟨rfl, rfl⟩
    case round =>
      obtain ⟨rfl, rfl⟩ := hrel
      go_wp2_with fail
      go_ret
      exact ⟨rfl, hown, Below.refl _ _, World.grownBy.refl _ _⟩
  · obtain ⟨g, cap, hv, hbg, hgl⟩ := hown.form h0
    injection hv with hA
    subst hA
    go_enter Tryz.func70, Tryz.ntmps70
    go_wp2_with fail
    go_loopw [1, 5] (fun ks i wr => ∃ j : Nat, j ≤ xs.length ∧ ks = .int .i64 ((k : Int) + j) ∧ i = .int .i64 j ∧ wr.ownsRow base 3 1 (.slice (some ⟨g, 0, none⟩) xs.length c) xs.length ((imarked k j xs).map iv) ∧ Below base w wr ∧ w.grownBy wr (some g)) (fun _ i _ => xs.length - (intOf i).toNat)
    case atStart => exact ⟨0, Nat.zero_le _, by go_num, rfl, by rw [imarked_zero]; exact hown, Below.refl _ _, World.grownBy.refl _ _⟩
    case round =>
      obtain ⟨j, hj, rfl, rfl, ho, hb, hgr⟩ := hrel
      have hbs := hb.size
      by_cases hlt : j < xs.length
      · have hml := imarked_length k j xs hj
        have HML := hid hml
        clear hml
        have hcell : wr.cell? ⟨g, j, none⟩ = some (iv ((imarked k j xs).getD j 0)) := by
          rw [ho.cellAt j (by omega), List.getElem?_map, List.getElem?_eq_getElem (by rw [HML.out]; exact hlt)]
          simp [HML.out, hlt]
        unfold iv at hcell
        have hfz := ho.frozenAt j
        obtain ⟨ho3, _⟩ := ho.stored j (iv ((k + j : Nat) : Int))
        rw [imarked_set k j xs hlt] at ho3
        have e1 : iv ((k + j : Nat) : Int) = .int .i64 ((k : Int) + (j : Int)) := by unfold iv; rw [Int.natCast_add]
        rw [e1] at ho3
        have hb3 : Below base w (wr.setCell ⟨g, j, none⟩ (.int .i64 ((k : Int) + (j : Int)))) := hb.setCell (p := ⟨g, j, none⟩) hbg _
        have hgr3 := grown_set (j := j) hgr (.int .i64 ((k : Int) + (j : Int)))
        clear ho e1
        go_wp2_with fail
        exact ⟨⟨j + 1, by omega, by go_num, by go_num, ho3, hb3, hgr3⟩, by simp [intOf]; omega⟩
      · obtain rfl : j = xs.length := by omega
        rw [imarked_all] at ho
        go_wp2_with fail
        go_ret
        exact ⟨ret_int (by omega), ho, hb, hgr⟩

set_option maxHeartbeats 1000000 in
theorem heldIntS_any (B : Nat) (A : Option Addr) (n c k : Nat) (w : World) (hr : Reads w B A n ((imarks k n).map iv)) (h2 : k + n ≤ 100000000) :
    Calls Tryz.prog 71 #[.slice A n c, .int .i64 (k : Int)] w fun e w' => e = .returned (.int .i64 ((k + n : Nat) : Int)) ∧ ∃ q, w.drewN q = w' := by
  go_enter Tryz.func71, Tryz.ntmps71
  go_wp2_with fail
  go_loopw [1, 5] (fun ks i wr => ∃ j : Nat, j ≤ n ∧ ks = .int .i64 ((k : Int) + j) ∧ i = .int .i64 j ∧ ∃ q, w.drewN q = wr) (fun _ i _ => n - (intOf i).toNat)
  case atStart => exact ⟨0, Nat.zero_le _, by go_num, rfl, 0, rfl⟩
  case round =>
    obtain ⟨j, hj, rfl, rfl, q, rfl⟩ := hrel
    by_cases hlt : j < n
    · have hr2 : Reads (w.drewN q) B A (imarks k n).length ((imarks k n).map iv) := by rw [imarks_length]; exact hr
      obtain ⟨ad, rfl, hab, hcell⟩ := reads_int hr2 (k := j) (by rw [imarks_length]; exact hlt)
      rw [imarks_get k n j hlt] at hcell
      rw [Int.natCast_add] at hcell
      have p1 : 0 ≤ (j : Int) := by omega
      have p2 : (j : Int) < n := by omega
      clear hr2
      go_wp2_with fail
      exact ⟨⟨j + 1, by omega, by go_num, by go_num, by first | exact ⟨q, rfl⟩ | exact ⟨q + 1, rfl⟩⟩, by simp [intOf]; omega⟩
    · obtain rfl : j = n := by omega
      go_wp2_with fail
      go_ret
      exact ⟨ret_int (by omega), q, rfl⟩

set_option maxHeartbeats 1000000 in
theorem markRecord_any (aN : ByteArray) (aT aK : Int) (aA : Option Addr) (aL aC : Nat) (aG aX : ByteArray) (aZ : List Int) (base k : Nat) (w : World) (hbase : base ≤ w.heap.size) (hown : w.ownsRow base 3 1 (.slice aA aL aC) aL (aZ.map iv)) (h2 : k + aL ≤ 100000000) :
    Calls Tryz.prog 27 #[.agg #[.string aN, .int .i64 aT, .int .i64 aK, .slice aA aL aC, .string aG, .string aX], .int .i64 (k : Int)] w fun e w' => e = .returned (.int .i64 ((k + aL : Nat) : Int)) ∧ w'.ownsRow base 3 1 (.slice aA aL aC) aL ((imarks k aL).map iv) ∧ Below base w w' ∧ w.grownBy w' (Value.slice aA aL aC).ownBlock := by
  go_enter Tryz.func27, Tryz.ntmps27
  go_wp2_with fail
  refine (markIntS_any aZ base aA aL aC k _ (hown.alloc _) h2).mono ?_
  rintro e w2 ⟨rfl, hown2, hb2, hg2⟩
  go_wp2_with fail
  go_ret
  exact ⟨rfl, hown2, ((Below.refl _ _).alloc hbase _).trans hb2, (grown_alloc _ _ _).trans hg2⟩

set_option maxHeartbeats 1000000 in
theorem heldRecord_any (aN : ByteArray) (aT aK : Int) (aA : Option Addr) (aL aC : Nat) (aG aX : ByteArray) (B k : Nat) (w : World) (hr : Reads w B aA aL ((imarks k aL).map iv)) (hB : B ≤ w.heap.size) (h2 : k + aL ≤ 100000000) :
    Calls Tryz.prog 28 #[.agg #[.string aN, .int .i64 aT, .int .i64 aK, .slice aA aL aC, .string aG, .string aX], .int .i64 (k : Int)] w fun e w' => e = .returned (.int .i64 ((k + aL : Nat) : Int)) ∧ Below w.heap.size w w' := by
  go_enter Tryz.func28, Tryz.ntmps28
  go_wp2_with fail
  refine (heldIntS_any B aA aL aC k _ (hr.alloc hB _) h2).mono ?_
  rintro e w2 ⟨rfl, q, rfl⟩
  have hge : ¬ ((k : Int) + (aL : Int)) < 0 := by omega
  go_wp2_with fail
  go_ret
  exact ⟨rfl, below_drewN ((Below.refl _ _).alloc (Nat.le_refl _) _) q⟩
end Go.Proofs.YtpgeeeamcncpkaaGreatDoor

/- What the small functions of the program's chapter 2 return: numbers within limits, lists of numbers. What SameData and RecordSame of the program return. What KindName and KindOf of the program return, where the table of kinds is as the program's text lays it. -/
import Derived.Test.YtgglakonkphbgaaS
import Derived.Test.YtgglakonkphbgaaMa
import Derived.Handy
import Derived.Deep.QuietTactic
import Derived.Deep.Light
namespace Go.Proofs.Ytgglakonkphbgaa
open Go.RowKit
set_option maxRecDepth 100000
set_option linter.unusedVariables false

def iv (z : Int) : Value := .int .i64 z
theorem reads_int {w : World} {B n k : Nat} {A : Option Addr} {zs : List Int} (h : Reads w B A n (zs.map iv)) (hk : k < n) :
    ∃ ad, A = some ad ∧ ad.block < B ∧ w.cell? (ad.add k) = some (.int .i64 (zs.getD k 0)) := by
  obtain ⟨ad, u, e, hb, hx, hc⟩ := h.at_ hk
  have hl : k < zs.length := by have := h.1; simp at this; omega
  rw [List.getElem?_map, List.getElem?_eq_getElem hl] at hx
  simp only [Option.map_some, Option.some.injEq] at hx
  subst hx
  exact ⟨ad, e, hb, by rw [hc]; simp [hl, iv]⟩
theorem reads_len {w : World} {B n : Nat} {A : Option Addr} {zs : List Int} (h : Reads w B A n (zs.map iv)) : zs.length = n := by simpa using h.1

def within (x m : Int) : Bool := decide (0 ≤ x) && decide (x ≤ m)
set_option maxHeartbeats 400000 in
theorem isWithin_any (x m : Int) (w : World) :
    Calls Try.prog 114 #[.int .i64 x, .int .i64 m] w fun e w' => e = .returned (.bool (within x m)) ∧ w = w' := by
  go_enter Try.func114, Try.ntmps114
  go_wp2
  all_goals go_ret
  all_goals exact ⟨ret_bool (by unfold within; rw [Bool.eq_iff_iff]; simp; try omega), rfl⟩

def allUpTo (zs : List Int) (m : Int) (k : Nat) : Prop := ∀ j, j < k → within (zs.getD j 0) m = true
theorem allUpTo_succ {zs : List Int} {m : Int} {k : Nat} (h : allUpTo zs m k) (hk : within (zs.getD k 0) m = true) : allUpTo zs m (k + 1) := fun j hj => by
  rcases Nat.lt_or_ge j k with h1 | h1
  · exact h j h1
  · have : j = k := by omega
    subst this; exact hk
theorem all_within {zs : List Int} {m : Int} (h : allUpTo zs m zs.length) : zs.all (within · m) = true := by
  rw [List.all_eq_true]
  intro x hx
  obtain ⟨j, hj, rfl⟩ := List.getElem_of_mem hx
  have := h j hj
  simpa [hj] using this
theorem not_all_within {zs : List Int} {m : Int} {k : Nat} (hk : k < zs.length) (h : within (zs.getD k 0) m = false) : zs.all (within · m) = false := by
  rw [Bool.eq_false_iff]
  intro ha
  rw [List.all_eq_true] at ha
  have := ha zs[k] (List.getElem_mem _)
  have e : zs.getD k 0 = zs[k] := by simp [hk]
  rw [e, this] at h
  cases h

set_option maxHeartbeats 400000 in
theorem allWithin_any (zs : List Int) (B : Nat) (A : Option Addr) (n c : Nat) (m : Int) (w : World) (hr : Reads w B A n (zs.map iv)) (hn : n ≤ 67108864) :
    Calls Try.prog 142 #[.slice A n c, .int .i64 m] w fun e w' => e = .returned (.bool (zs.all (within · m))) ∧ w = w' := by
  have hlen := hid (reads_len hr)
  go_enter Try.func142, Try.ntmps142
  go_wp2
  go_loop [9] (fun i => ∃ k : Nat, k ≤ n ∧ i = .int .i64 k ∧ Hid (allUpTo zs m k)) (fun i => n - (intOf i).toNat)
  case atStart => exact ⟨0, Nat.zero_le _, rfl, hid (fun j hj => absurd hj (by omega))⟩
  case round =>
    obtain ⟨k, hk, rfl, hok⟩ := hrel
    by_cases hlt : k < n
    · obtain ⟨ad, rfl, hab, hcell⟩ := reads_int hr hlt
      go_wp2_with (go_at_call 114; refine (isWithin_any _ _ _).mono ?_; rintro e w' ⟨rfl, rfl⟩)
      · have hb : (!within (zs.getD k 0) m) = true := by assumption
        go_ret
        exact ⟨ret_bool (not_all_within (by rw [hlen.out]; exact hlt) (by simpa using hb)).symm, rfl⟩
      · have hb : (!within (zs.getD k 0) m) = false := by assumption
        exact ⟨⟨k + 1, by omega, by go_num, hid (allUpTo_succ hok.out (by simpa using hb))⟩, by simp [intOf]; omega⟩
    · have hks : k = n := by omega
      have hall : Hid (zs.all (within · m) = true) := hid (all_within (by rw [hlen.out, ← hks]; exact hok.out))
      clear hks
      go_wp2
      go_ret
      exact ⟨ret_bool hall.out.symm, rfl⟩

def okC (x : Int) : Bool := decide (32 ≤ x) && decide (x ≤ 126) && !(x == 34) && !(x == 92)
theorem okC_byte (c : UInt8) : okC c.toNat = Z.okChar c := by
  unfold okC Z.okChar
  rw [Bool.eq_iff_iff]
  simp only [Bool.and_eq_true, decide_eq_true_eq, Bool.not_eq_true', beq_eq_false_iff_ne, bne_iff_ne, ne_eq, UInt8.le_iff_toNat_le, ← UInt8.toNat_inj]
  simp
  omega
set_option maxHeartbeats 400000 in
theorem isTextByte_any (x : Int) (w : World) :
    Calls Try.prog 151 #[.int .u8 x] w fun e w' => e = .returned (.bool (okC x)) ∧ w = w' := by
  go_enter Try.func151, Try.ntmps151
  go_wp2
  all_goals go_ret
  all_goals exact ⟨ret_bool (by unfold okC; rw [Bool.eq_iff_iff]; simp; try omega), rfl⟩

/-! ### lists of numbers -/

def sameTo (xs ys : List Int) (k : Nat) : Prop := ∀ j, j < k → xs.getD j 0 = ys.getD j 0
theorem sameTo_succ {xs ys : List Int} {k : Nat} (h : sameTo xs ys k) (hk : xs.getD k 0 = ys.getD k 0) : sameTo xs ys (k + 1) := fun j hj => by
  rcases Nat.lt_or_ge j k with h1 | h1
  · exact h j h1
  · have : j = k := by omega
    subst this; exact hk
theorem sameTo_eq {xs ys : List Int} (hl : xs.length = ys.length) (h : sameTo xs ys xs.length) : xs = ys := by
  apply List.ext_getElem hl
  intro j h1 h2
  have := h j h1
  simpa [h1, h2] using this
theorem ne_of_getD {xs ys : List Int} {k : Nat} (h : xs.getD k 0 ≠ ys.getD k 0) : xs ≠ ys := fun e => h (by rw [e])

set_option maxHeartbeats 400000 in
theorem slicesEqual_any (xs ys : List Int) (B B' : Nat) (A A' : Option Addr) (n c n' c' : Nat) (w : World) (hx : Reads w B A n (xs.map iv)) (hy : Reads w B' A' n' (ys.map iv))
    (hn : n ≤ 67108864) (hn' : n' ≤ 67108864) :
    Calls Try.prog 86 #[.slice A n c, .slice A' n' c'] w fun e w' => e = .returned (.bool (decide (xs = ys))) ∧ Below w.heap.size w w' := by
  have hl1 := hid (reads_len hx)
  have hl2 := hid (reads_len hy)
  by_cases hnn : n = n'
  · subst hnn
    go_enter Try.func86, Try.ntmps86
    go_wp2
    go_loopw [13] (fun i wr => ∃ (k nq : Nat), k ≤ n ∧ i = .int .i64 k ∧ wr = w.drewN nq ∧ Hid (sameTo xs ys k)) (fun i _ => n - (intOf i).toNat)
    case atStart => exact ⟨0, 0, Nat.zero_le _, rfl, rfl, hid (fun j hj => absurd hj (by omega))⟩
    case round =>
      obtain ⟨k, nq, hk, rfl, rfl, hok⟩ := hrel
      by_cases hlt : k < n
      · obtain ⟨ad2, rfl, hab2, hcell2⟩ := reads_int hy hlt
        obtain ⟨ad1, rfl, hab1, hcell1⟩ := reads_int hx hlt
        go_wp2_with fail
        go_quiet (fail)
        go_wp2
        · have hne : (!xs.getD k 0 == ys.getD k 0) = true := by assumption
          go_ret
          exact ⟨ret_bool (by rw [decide_eq_false (ne_of_getD (by simpa using hne))]), by repeat (first | exact Below.refl _ _ | refine below_drewN ?_ _)⟩
        · have heq : (!xs.getD k 0 == ys.getD k 0) = false := by assumption
          exact ⟨⟨k + 1, _, by omega, by go_num, rfl, hid (sameTo_succ hok.out (by simpa using heq))⟩, by simp [intOf]; omega⟩
      · have hks : k = n := by omega
        have hall : Hid (xs = ys) := hid (sameTo_eq (by rw [hl1.out, hl2.out]) (by rw [hl1.out, ← hks]; exact hok.out))
        clear hks
        go_wp2
        go_ret
        exact ⟨ret_bool (by rw [decide_eq_true hall.out]), by repeat (first | exact Below.refl _ _ | refine below_drewN ?_ _)⟩
  · have hne : Hid (¬ xs = ys) := hid (fun e => hnn (by rw [← hl1.out, ← hl2.out, e]))
    go_enter Try.func86, Try.ntmps86
    go_wp2
    go_ret
    exact ⟨ret_bool (by rw [decide_eq_false hne.out]), Below.refl _ _⟩
end Go.Proofs.Ytgglakonkphbgaa

namespace Go.Proofs.Ytgglakonkphbgaa
open Go.RowKit
set_option maxRecDepth 100000
set_option linter.unusedVariables false

theorem bcell {W w1 : World} (hb : Below W.heap.size W w1) : (∀ b o, b < W.heap.size → w1.cell? ⟨b, o, none⟩ = W.cell? ⟨b, o, none⟩) ∧ (∀ b o, b < W.heap.size → w1.frozen? ⟨b, o, none⟩ = W.frozen? ⟨b, o, none⟩) :=
  ⟨fun b o h => hb.cell (p := ⟨b, o, none⟩) h, fun b o h => hb.frozen (p := ⟨b, o, none⟩) h⟩
theorem Reads.alloc {w : World} {B n : Nat} {A : Option Addr} {xs : List Value} (h : Reads w B A n xs) (hB : B ≤ w.heap.size) (o : Obj) : Reads (w.alloc o) B A n xs :=
  h.below ((Below.refl _ _).alloc (Nat.le_refl _) o) hB

/-- The world W came behind w, and block b, made since, holds the cells cs. -/
def Held (w W : World) (b : Nat) (cs : List Value) : Prop := Below w.heap.size w W ∧ w.heap.size ≤ b ∧ b < W.heap.size ∧ ∀ j v, cs[j]? = some v → W.cell? ⟨b, j, none⟩ = some v
theorem cell_new (w : World) (cs : List Value) (T : TypeId) (j : Nat) (v : Value) (h : cs[j]? = some v) : (w.alloc (.cells cs.toArray T)).cell? ⟨w.heap.size, j, none⟩ = some v := by
  rw [World.cell?_alloc_new]; simpa using h
theorem Held.box (w : World) (cs : List Value) (T : TypeId) : Held w (w.alloc (.cells cs.toArray T)) w.heap.size cs :=
  ⟨(Below.refl _ _).alloc (Nat.le_refl _) _, Nat.le_refl _, by simp, fun j v h => cell_new w cs T j v h⟩
theorem Held.next {w W W' : World} {b : Nat} {cs : List Value} (h : Held w W b cs) (hb : Below W.heap.size W W') : Held w W' b cs :=
  ⟨h.1.trans (hb.mono (by have := h.1.size; omega)), h.2.1, by have := hb.size; have := h.2.2.1; omega, fun j v hv => (hb.cell (p := ⟨b, j, none⟩) h.2.2.1).trans (h.2.2.2 j v hv)⟩
theorem Held.drewN {w W : World} {b : Nat} {cs : List Value} (h : Held w W b cs) (n : Nat) : Held w (W.drewN n) b cs := h.next (below_drewN (Below.refl _ _) n)
theorem Held.alloc {w W : World} {b : Nat} {cs : List Value} (h : Held w W b cs) (o : Obj) : Held w (W.alloc o) b cs := h.next ((Below.refl _ _).alloc (Nat.le_refl _) o)
theorem Held.more {w W : World} {b : Nat} {cs cs' : List Value} (h : Held w W b cs) (T : TypeId) : Held w (W.alloc (.cells cs'.toArray T)) W.heap.size cs' :=
  ⟨h.1.alloc (by have := h.1.size; omega) _, by have := h.1.size; omega, by simp, fun j v hv => cell_new W cs' T j v hv⟩
theorem Held.cells6 {w W : World} {b : Nat} {c0 c1 c2 c3 c4 c5 : Value} (h : Held w W b [c0, c1, c2, c3, c4, c5]) :
    W.cell? ⟨b, 0, none⟩ = some c0 ∧ W.cell? ⟨b, 1, none⟩ = some c1 ∧ W.cell? ⟨b, 2, none⟩ = some c2 ∧ W.cell? ⟨b, 3, none⟩ = some c3 ∧ W.cell? ⟨b, 4, none⟩ = some c4 ∧ W.cell? ⟨b, 5, none⟩ = some c5 :=
  ⟨h.2.2.2 0 _ rfl, h.2.2.2 1 _ rfl, h.2.2.2 2 _ rfl, h.2.2.2 3 _ rfl, h.2.2.2 4 _ rfl, h.2.2.2 5 _ rfl⟩
theorem Reads.held {w W : World} {b B n : Nat} {cs : List Value} {A : Option Addr} {xs : List Value} (h : Reads w B A n xs) (hB : B ≤ w.heap.size) (hh : Held w W b cs) : Reads W B A n xs := h.below hh.1 hB
theorem Held.up {w W : World} {b B : Nat} {cs : List Value} (h : Held w W b cs) (hB : B ≤ w.heap.size) : B ≤ W.heap.size := by have := h.1.size; omega

set_option maxHeartbeats 1000000 in
theorem iSameData_any (aN : ByteArray) (aT aK : Int) (aA : Option Addr) (aL aC : Nat) (aG aX : ByteArray) (aZ : List Int) (aB : Nat) (bN : ByteArray) (bT bK : Int) (bA : Option Addr) (bL bC : Nat) (bG bX : ByteArray) (bZ : List Int) (bB : Nat) (w : World) (hra : Reads w aB aA aL (aZ.map iv)) (hba : aB ≤ w.heap.size) (hla : aL ≤ 67108864) (hrb : Reads w bB bA bL (bZ.map iv)) (hbb : bB ≤ w.heap.size) (hlb : bL ≤ 67108864) :
    Calls Try.prog 67 #[.agg #[.string aN, .int .i64 aT, .int .i64 aK, .slice aA aL aC, .string aG, .string aX], .agg #[.string bN, .int .i64 bT, .int .i64 bK, .slice bA bL bC, .string bG, .string bX]] w fun e w' => e = .returned (.bool (Z.sameData (⟨lst aN, aT, aK, aZ, lst aG, lst aX⟩ : Z.Rec) (⟨lst bN, bT, bK, bZ, lst bG, lst bX⟩ : Z.Rec))) ∧ Below w.heap.size w w' := by
  go_enter Try.func67, Try.ntmps67
  go_wp2_with (go_at_call 86; refine (slicesEqual_any aZ bZ aB bB _ _ _ _ _ _ _ ((hra.alloc (by omega) _).alloc (by simp; omega) _) ((hrb.alloc (by omega) _).alloc (by simp; omega) _) hla hlb).mono ?_; rintro e w3 ⟨rfl, hb3⟩; obtain ⟨hc3, hf3⟩ := bcell hb3)
  all_goals (try clear hc3 hf3)
  all_goals go_ret
  all_goals refine ⟨ret_bool (by simp_all [Z.sameData, toList_lst] <;> (rw [Bool.eq_iff_iff]; simp)), ?_⟩
  all_goals first | exact (((Below.refl _ _).alloc (Nat.le_refl _) _).alloc (by simp) _).trans (hb3.mono (by simp; omega)) | exact ((Below.refl _ _).alloc (Nat.le_refl _) _).alloc (by simp) _

set_option maxHeartbeats 1000000 in
theorem iRecordSame_any (aN : ByteArray) (aT aK : Int) (aA : Option Addr) (aL aC : Nat) (aG aX : ByteArray) (aZ : List Int) (aB : Nat) (bN : ByteArray) (bT bK : Int) (bA : Option Addr) (bL bC : Nat) (bG bX : ByteArray) (bZ : List Int) (bB : Nat) (w : World) (hra : Reads w aB aA aL (aZ.map iv)) (hba : aB ≤ w.heap.size) (hla : aL ≤ 67108864) (hrb : Reads w bB bA bL (bZ.map iv)) (hbb : bB ≤ w.heap.size) (hlb : bL ≤ 67108864) :
    Calls Try.prog 48 #[.agg #[.string aN, .int .i64 aT, .int .i64 aK, .slice aA aL aC, .string aG, .string aX], .agg #[.string bN, .int .i64 bT, .int .i64 bK, .slice bA bL bC, .string bG, .string bX]] w fun e w' => e = .returned (.bool (Z.recSame (⟨lst aN, aT, aK, aZ, lst aG, lst aX⟩ : Z.Rec) (⟨lst bN, bT, bK, bZ, lst bG, lst bX⟩ : Z.Rec))) ∧ Below w.heap.size w w' := by
  go_enter Try.func48, Try.ntmps48
  go_wp2_with (go_at_call 67; refine (iSameData_any _ _ _ _ _ _ _ _ aZ aB _ _ _ _ _ _ _ _ bZ bB _ ((hra.alloc (by omega) _).alloc (by simp; omega) _) (by simp; omega) hla ((hrb.alloc (by omega) _).alloc (by simp; omega) _) (by simp; omega) hlb).mono ?_; rintro e w3 ⟨rfl, hb3⟩)
  all_goals go_ret
  all_goals refine ⟨ret_bool (by simp_all [Z.recSame, toList_lst]), ?_⟩
  all_goals first | exact (((Below.refl _ _).alloc (Nat.le_refl _) _).alloc (by simp) _).trans (hb3.mono (by simp; omega)) | exact ((Below.refl _ _).alloc (Nat.le_refl _) _).alloc (by simp) _
end Go.Proofs.Ytgglakonkphbgaa

namespace Go.Proofs.Ytgglakonkphbgaa
open Go.RowKit
set_option maxRecDepth 100000
set_option linter.unusedVariables false

def ktCells : List Value := [.int .i64 1, .string ⟨#[65]⟩, .int .i64 2, .string ⟨#[78, 83]⟩, .int .i64 5, .string ⟨#[67, 78, 65, 77, 69]⟩, .int .i64 6, .string ⟨#[83, 79, 65]⟩, .int .i64 12, .string ⟨#[80, 84, 82]⟩, .int .i64 15, .string ⟨#[77, 88]⟩, .int .i64 16, .string ⟨#[84, 88, 84]⟩]

theorem kn_tests (x : Int) : Z.kindName x = if ((1 : Int) == x) = true then [65] else if ((2 : Int) == x) = true then [78, 83] else if ((5 : Int) == x) = true then [67, 78, 65, 77, 69] else if ((6 : Int) == x) = true then [83, 79, 65] else if ((12 : Int) == x) = true then [80, 84, 82] else if ((15 : Int) == x) = true then [77, 88] else if ((16 : Int) == x) = true then [84, 88, 84] else [] := by
  unfold Z.kindName
  simp only [beq_iff_eq, @eq_comm Int x]
theorem ko_tests (s : ByteArray) : Z.kindOf (lst s) = if (([65] : List UInt8) == s.toList) = true then some 1 else if (([78, 83] : List UInt8) == s.toList) = true then some 2 else if (([67, 78, 65, 77, 69] : List UInt8) == s.toList) = true then some 5 else if (([83, 79, 65] : List UInt8) == s.toList) = true then some 6 else if (([80, 84, 82] : List UInt8) == s.toList) = true then some 12 else if (([77, 88] : List UInt8) == s.toList) = true then some 15 else if (([84, 88, 84] : List UInt8) == s.toList) = true then some 16 else none := by
  unfold Z.kindOf
  simp only [beq_iff_eq, toList_lst, @eq_comm (List UInt8) (lst s)]

end Go.Proofs.Ytgglakonkphbgaa

/- What SameData and RecordSame of the program return. -/
import Derived.Test.YtaiijnaockbahaaIa
namespace Go.Proofs.Ytaiijnaockbahaa
open Go.RowKit
set_option maxRecDepth 100000
set_option linter.unusedVariables false

theorem bcell {W w1 : World} (hb : Below W.heap.size W w1) : (∀ b o, b < W.heap.size → w1.cell? ⟨b, o, none⟩ = W.cell? ⟨b, o, none⟩) ∧ (∀ b o, b < W.heap.size → w1.frozen? ⟨b, o, none⟩ = W.frozen? ⟨b, o, none⟩) :=
  ⟨fun b o h => hb.cell (p := ⟨b, o, none⟩) h, fun b o h => hb.frozen (p := ⟨b, o, none⟩) h⟩
theorem Reads.alloc {w : World} {B n : Nat} {A : Option Addr} {xs : List Value} (h : Reads w B A n xs) (hB : B ≤ w.heap.size) (o : Obj) : Reads (w.alloc o) B A n xs :=
  h.below ((Below.refl _ _).alloc (Nat.le_refl _) o) hB

/-- The world W came behind w, and block b, made since, holds the cells cs. -/
def Held (w W : World) (b : Nat) (cs : List Value) : Prop := Below w.heap.size w W ∧ w.heap.size ≤ b ∧ b < W.heap.size ∧ ∀ j v, cs[j]? = some v → W.cell? ⟨b, j, none⟩ = some v
theorem cell_new (w : World) (cs : List Value) (T : TypeId) (j : Nat) (v : Value) (h : cs[j]? = some v) : (w.alloc (.cells cs.toArray T)).cell? ⟨w.heap.size, j, none⟩ = some v := by
  rw [World.cell?_alloc_new]; simpa using h
theorem Held.box (w : World) (cs : List Value) (T : TypeId) : Held w (w.alloc (.cells cs.toArray T)) w.heap.size cs :=
  ⟨(Below.refl _ _).alloc (Nat.le_refl _) _, Nat.le_refl _, by simp, fun j v h => cell_new w cs T j v h⟩
theorem Held.next {w W W' : World} {b : Nat} {cs : List Value} (h : Held w W b cs) (hb : Below W.heap.size W W') : Held w W' b cs :=
  ⟨h.1.trans (hb.mono (by have := h.1.size; omega)), h.2.1, by have := hb.size; have := h.2.2.1; omega, fun j v hv => (hb.cell (p := ⟨b, j, none⟩) h.2.2.1).trans (h.2.2.2 j v hv)⟩
theorem Held.drewN {w W : World} {b : Nat} {cs : List Value} (h : Held w W b cs) (n : Nat) : Held w (W.drewN n) b cs := h.next (below_drewN (Below.refl _ _) n)
theorem Held.alloc {w W : World} {b : Nat} {cs : List Value} (h : Held w W b cs) (o : Obj) : Held w (W.alloc o) b cs := h.next ((Below.refl _ _).alloc (Nat.le_refl _) o)
theorem Held.more {w W : World} {b : Nat} {cs cs' : List Value} (h : Held w W b cs) (T : TypeId) : Held w (W.alloc (.cells cs'.toArray T)) W.heap.size cs' :=
  ⟨h.1.alloc (by have := h.1.size; omega) _, by have := h.1.size; omega, by simp, fun j v hv => cell_new W cs' T j v hv⟩
theorem Held.cells6 {w W : World} {b : Nat} {c0 c1 c2 c3 c4 c5 : Value} (h : Held w W b [c0, c1, c2, c3, c4, c5]) :
    W.cell? ⟨b, 0, none⟩ = some c0 ∧ W.cell? ⟨b, 1, none⟩ = some c1 ∧ W.cell? ⟨b, 2, none⟩ = some c2 ∧ W.cell? ⟨b, 3, none⟩ = some c3 ∧ W.cell? ⟨b, 4, none⟩ = some c4 ∧ W.cell? ⟨b, 5, none⟩ = some c5 :=
  ⟨h.2.2.2 0 _ rfl, h.2.2.2 1 _ rfl, h.2.2.2 2 _ rfl, h.2.2.2 3 _ rfl, h.2.2.2 4 _ rfl, h.2.2.2 5 _ rfl⟩
theorem Reads.held {w W : World} {b B n : Nat} {cs : List Value} {A : Option Addr} {xs : List Value} (h : Reads w B A n xs) (hB : B ≤ w.heap.size) (hh : Held w W b cs) : Reads W B A n xs := h.below hh.1 hB
theorem Held.up {w W : World} {b B : Nat} {cs : List Value} (h : Held w W b cs) (hB : B ≤ w.heap.size) : B ≤ W.heap.size := by have := h.1.size; omega

set_option maxHeartbeats 1000000 in
theorem iSameData_any (aN : ByteArray) (aT aK : Int) (aA : Option Addr) (aL aC : Nat) (aG aX : ByteArray) (aZ : List Int) (aB : Nat) (bN : ByteArray) (bT bK : Int) (bA : Option Addr) (bL bC : Nat) (bG bX : ByteArray) (bZ : List Int) (bB : Nat) (w : World) (hra : Reads w aB aA aL (aZ.map iv)) (hba : aB ≤ w.heap.size) (hla : aL ≤ 67108864) (hrb : Reads w bB bA bL (bZ.map iv)) (hbb : bB ≤ w.heap.size) (hlb : bL ≤ 67108864) :
    Calls Try.prog 17 #[.agg #[.string aN, .int .i64 aT, .int .i64 aK, .slice aA aL aC, .string aG, .string aX], .agg #[.string bN, .int .i64 bT, .int .i64 bK, .slice bA bL bC, .string bG, .string bX]] w fun e w' => e = .returned (.bool (Z.sameData (⟨lst aN, aT, aK, aZ, lst aG, lst aX⟩ : Z.Rec) (⟨lst bN, bT, bK, bZ, lst bG, lst bX⟩ : Z.Rec))) ∧ Below w.heap.size w w' := by
  go_enter Try.func17, Try.ntmps17
  go_wp2_with (go_at_call 28; refine (slicesEqual_any aZ bZ aB bB _ _ _ _ _ _ _ ((hra.alloc (by omega) _).alloc (by simp; omega) _) ((hrb.alloc (by omega) _).alloc (by simp; omega) _) hla hlb).mono ?_; rintro e w3 ⟨rfl, hb3⟩; obtain ⟨hc3, hf3⟩ := bcell hb3)
  all_goals (try clear hc3 hf3)
  all_goals go_ret
  all_goals refine ⟨ret_bool (by simp_all [Z.sameData, toList_lst] <;> (rw [Bool.eq_iff_iff]; simp)), ?_⟩
  all_goals first | exact (((Below.refl _ _).alloc (Nat.le_refl _) _).alloc (by simp) _).trans (hb3.mono (by simp; omega)) | exact ((Below.refl _ _).alloc (Nat.le_refl _) _).alloc (by simp) _

set_option maxHeartbeats 1000000 in
theorem iRecordSame_any (aN : ByteArray) (aT aK : Int) (aA : Option Addr) (aL aC : Nat) (aG aX : ByteArray) (aZ : List Int) (aB : Nat) (bN : ByteArray) (bT bK : Int) (bA : Option Addr) (bL bC : Nat) (bG bX : ByteArray) (bZ : List Int) (bB : Nat) (w : World) (hra : Reads w aB aA aL (aZ.map iv)) (hba : aB ≤ w.heap.size) (hla : aL ≤ 67108864) (hrb : Reads w bB bA bL (bZ.map iv)) (hbb : bB ≤ w.heap.size) (hlb : bL ≤ 67108864) :
    Calls Try.prog 14 #[.agg #[.string aN, .int .i64 aT, .int .i64 aK, .slice aA aL aC, .string aG, .string aX], .agg #[.string bN, .int .i64 bT, .int .i64 bK, .slice bA bL bC, .string bG, .string bX]] w fun e w' => e = .returned (.bool (Z.recSame (⟨lst aN, aT, aK, aZ, lst aG, lst aX⟩ : Z.Rec) (⟨lst bN, bT, bK, bZ, lst bG, lst bX⟩ : Z.Rec))) ∧ Below w.heap.size w w' := by
  go_enter Try.func14, Try.ntmps14
  go_wp2_with (go_at_call 17; refine (iSameData_any _ _ _ _ _ _ _ _ aZ aB _ _ _ _ _ _ _ _ bZ bB _ ((hra.alloc (by omega) _).alloc (by simp; omega) _) (by simp; omega) hla ((hrb.alloc (by omega) _).alloc (by simp; omega) _) (by simp; omega) hlb).mono ?_; rintro e w3 ⟨rfl, hb3⟩)
  all_goals go_ret
  all_goals refine ⟨ret_bool (by simp_all [Z.recSame, toList_lst]), ?_⟩
  all_goals first | exact (((Below.refl _ _).alloc (Nat.le_refl _) _).alloc (by simp) _).trans (hb3.mono (by simp; omega)) | exact ((Below.refl _ _).alloc (Nat.le_refl _) _).alloc (by simp) _
end Go.Proofs.Ytaiijnaockbahaa

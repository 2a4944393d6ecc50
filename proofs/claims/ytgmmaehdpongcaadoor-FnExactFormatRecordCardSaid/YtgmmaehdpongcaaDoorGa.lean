/- What the exact laws of records share. -/
import Derived.Test.YtgmmaehdpongcaaDoorEa
import Derived.Test.YtgmmaehdpongcaaDoorSd
import Derived.Test.YtgmmaehdpongcaaDoorIj
import Derived.Below
namespace Go.Proofs.YtgmmaehdpongcaaDoor
open Go.RowKit
set_option maxRecDepth 100000
set_option linter.unusedVariables false

theorem cells12 {w W : World} {b b' : Nat} {c0 c1 c2 c3 c4 c5 d0 d1 d2 d3 d4 d5 : Value} (h : Held w W b [c0, c1, c2, c3, c4, c5]) (k : Held w W b' [d0, d1, d2, d3, d4, d5]) :
    Held w W b [c0, c1, c2, c3, c4, c5] ∧ Held w W b' [d0, d1, d2, d3, d4, d5] ∧ W.cell? ⟨b, 0, none⟩ = some c0 ∧ W.cell? ⟨b, 1, none⟩ = some c1 ∧ W.cell? ⟨b, 2, none⟩ = some c2 ∧ W.cell? ⟨b, 3, none⟩ = some c3 ∧ W.cell? ⟨b, 4, none⟩ = some c4 ∧ W.cell? ⟨b, 5, none⟩ = some c5 ∧
    W.cell? ⟨b', 0, none⟩ = some d0 ∧ W.cell? ⟨b', 1, none⟩ = some d1 ∧ W.cell? ⟨b', 2, none⟩ = some d2 ∧ W.cell? ⟨b', 3, none⟩ = some d3 ∧ W.cell? ⟨b', 4, none⟩ = some d4 ∧ W.cell? ⟨b', 5, none⟩ = some d5 := by
  obtain ⟨h0, h1, h2, h3, h4, h5⟩ := h.cells6
  obtain ⟨k0, k1, k2, k3, k4, k5⟩ := k.cells6
  exact ⟨h, k, h0, h1, h2, h3, h4, h5, k0, k1, k2, k3, k4, k5⟩
theorem cells12b {w W : World} {b b' l m : Nat} {c0 c1 c2 c3 c4 c5 d0 d1 d2 d3 d4 d5 : Value} {cs ds : List Value} {P Q : Prop} (h : Held w W b [c0, c1, c2, c3, c4, c5]) (k : Held w W b' [d0, d1, d2, d3, d4, d5]) (hl : Held w W l cs) (hm : Held w W m ds) (hp : P) (hq : Q) :
    Held w W b [c0, c1, c2, c3, c4, c5] ∧ Held w W b' [d0, d1, d2, d3, d4, d5] ∧ Held w W l cs ∧ Held w W m ds ∧ P ∧ Q ∧ W.cell? ⟨b, 0, none⟩ = some c0 ∧ W.cell? ⟨b, 1, none⟩ = some c1 ∧ W.cell? ⟨b, 2, none⟩ = some c2 ∧ W.cell? ⟨b, 3, none⟩ = some c3 ∧ W.cell? ⟨b, 4, none⟩ = some c4 ∧ W.cell? ⟨b, 5, none⟩ = some c5 ∧
    W.cell? ⟨b', 0, none⟩ = some d0 ∧ W.cell? ⟨b', 1, none⟩ = some d1 ∧ W.cell? ⟨b', 2, none⟩ = some d2 ∧ W.cell? ⟨b', 3, none⟩ = some d3 ∧ W.cell? ⟨b', 4, none⟩ = some d4 ∧ W.cell? ⟨b', 5, none⟩ = some d5 := by
  obtain ⟨h0, h1, h2, h3, h4, h5⟩ := h.cells6
  obtain ⟨k0, k1, k2, k3, k4, k5⟩ := k.cells6
  exact ⟨h, k, hl, hm, hp, hq, h0, h1, h2, h3, h4, h5, k0, k1, k2, k3, k4, k5⟩
theorem readsAlloc {W : World} {A : Option Addr} {n : Nat} {xs : List Value} (h : Reads W W.heap.size A n xs) (o : Obj) : Reads (W.alloc o) (W.alloc o).heap.size A n xs := (h.alloc (Nat.le_refl _) o).more (by simp)
theorem readsNow {W W' : World} {A : Option Addr} {n : Nat} {xs : List Value} (h : Reads W W.heap.size A n xs) (hb : Below W.heap.size W W') : Reads W' W'.heap.size A n xs := (h.below hb (Nat.le_refl _)).more hb.size

theorem toRecord_law {w W : World} {b : Nat} {cs : List Value} {aN : ByteArray} {aT aK : Int} {aA : Option Addr} {aL aC : Nat} {aG aX : ByteArray} {aZ : List Int} (hra : Reads w w.heap.size aA aL (aZ.map iv)) (hh : Held w W b cs) (la : aL ≤ 1048576) :
    Calls Tryd.prog 27 #[.agg #[.string aN, .int .i64 aT, .int .i64 aK, .slice aA aL aC, .string aG, .string aX]] W fun e W' => ∃ A c, e = .returned (.agg #[.string aN, .int .i64 aT, .int .i64 aK, .slice A aL c, .string aG, .string aX]) ∧ Reads W' W'.heap.size A aL (aZ.map iv) ∧ Below W.heap.size W W' :=
  toRecord_any _ _ _ _ _ _ _ _ aZ w.heap.size W (hra.held (Nat.le_refl _) hh) (hh.up (Nat.le_refl _)) (by omega) la
theorem eqRecord_law {W : World} {aN : ByteArray} {aT aK : Int} {aA bA : Option Addr} {aL aC bC : Nat} {aG aX : ByteArray} {aZ : List Int} (hra : Reads W W.heap.size aA aL (aZ.map iv)) (hrb : Reads W W.heap.size bA aL (aZ.map iv)) (la : aL ≤ 1048576) :
    Calls Tryd.prog 28 #[.agg #[.string aN, .int .i64 aT, .int .i64 aK, .slice aA aL aC, .string aG, .string aX], .agg #[.string aN, .int .i64 aT, .int .i64 aK, .slice bA aL bC, .string aG, .string aX]] W fun e W' => e = .returned (.bool true) ∧ Below W.heap.size W W' :=
  eqRecord_any _ _ _ _ _ _ _ _ aZ W.heap.size bA bC W.heap.size W hra (Nat.le_refl _) (by omega) hrb (Nat.le_refl _)

theorem iRecordSame_eq (aN : ByteArray) (aT aK : Int) (aA : Option Addr) (aL aC : Nat) (aG aX : ByteArray) (aZ : List Int) (aB : Nat) (bN : ByteArray) (bT bK : Int) (bA : Option Addr) (bL bC : Nat) (bG bX : ByteArray) (bZ : List Int) (bB : Nat) (w : World) (hra : Reads w aB aA aL (aZ.map iv)) (hba : aB ≤ w.heap.size) (hla : aL ≤ 67108864) (hrb : Reads w bB bA bL (bZ.map iv)) (hbb : bB ≤ w.heap.size) (hlb : bL ≤ 67108864) (v : Bool) (hv : Z.recSame (⟨lst aN, aT, aK, aZ, lst aG, lst aX⟩ : Z.Rec) (⟨lst bN, bT, bK, bZ, lst bG, lst bX⟩ : Z.Rec) = v) :
    Calls Tryd.prog 21 #[.agg #[.string aN, .int .i64 aT, .int .i64 aK, .slice aA aL aC, .string aG, .string aX], .agg #[.string bN, .int .i64 bT, .int .i64 bK, .slice bA bL bC, .string bG, .string bX]] w fun e w' => e = .returned (.bool v) ∧ Below w.heap.size w w' := by subst hv; exact iRecordSame_any _ _ _ _ _ _ _ _ aZ aB _ _ _ _ _ _ _ _ bZ bB w hra hba hla hrb hbb hlb
theorem iRecordBefore_eq (aN : ByteArray) (aT aK : Int) (aA : Option Addr) (aL aC : Nat) (aG aX : ByteArray) (aZ : List Int) (aB : Nat) (bN : ByteArray) (bT bK : Int) (bA : Option Addr) (bL bC : Nat) (bG bX : ByteArray) (bZ : List Int) (bB : Nat) (w : World) (hra : Reads w aB aA aL (aZ.map iv)) (hba : aB ≤ w.heap.size) (hla : aL ≤ 67108864) (hrb : Reads w bB bA bL (bZ.map iv)) (hbb : bB ≤ w.heap.size) (hlb : bL ≤ 67108864) (hsa : aN.size ≤ 67108864) (hga : aG.size ≤ 67108864) (hxa : aX.size ≤ 67108864) (hsb : bN.size ≤ 67108864) (hgb : bG.size ≤ 67108864) (hxb : bX.size ≤ 67108864) (v : Bool) (hv : Z.recBefore (⟨lst aN, aT, aK, aZ, lst aG, lst aX⟩ : Z.Rec) (⟨lst bN, bT, bK, bZ, lst bG, lst bX⟩ : Z.Rec) = v) :
    Calls Tryd.prog 17 #[.agg #[.string aN, .int .i64 aT, .int .i64 aK, .slice aA aL aC, .string aG, .string aX], .agg #[.string bN, .int .i64 bT, .int .i64 bK, .slice bA bL bC, .string bG, .string bX]] w fun e w' => e = .returned (.bool v) ∧ Below w.heap.size w w' := by subst hv; exact iRecordBefore_any _ _ _ _ _ _ _ _ aZ aB _ _ _ _ _ _ _ _ bZ bB w hra hba hla hrb hbb hlb hsa hga hxa hsb hgb hxb
theorem RecordValid_eqG (aN : ByteArray) (aT aK : Int) (aA : Option Addr) (aL aC : Nat) (aG aX : ByteArray) (aZ : List Int) (aB : Nat) (w : World) (hra : Reads w aB aA aL (aZ.map iv)) (hba : aB ≤ w.heap.size) (hla : aL ≤ 67108864) (hsa : aN.size ≤ 67108864) (hga : aG.size ≤ 67108864) (hxa : aX.size ≤ 67108864) (v : Bool) (hv : Z.recValid (⟨lst aN, aT, aK, aZ, lst aG, lst aX⟩ : Z.Rec) = v) :
    Calls Tryd.prog 50 #[.agg #[.string aN, .int .i64 aT, .int .i64 aK, .slice aA aL aC, .string aG, .string aX]] w fun e w' => e = .returned (.bool v) ∧ Below w.heap.size w w' := by subst hv; exact RecordValid_any _ _ _ _ _ _ _ _ aZ aB w hra hba hla hsa hga hxa
theorem iRecordValid_eq (aN : ByteArray) (aT aK : Int) (aA : Option Addr) (aL aC : Nat) (aG aX : ByteArray) (aZ : List Int) (aB : Nat) (w : World) (hra : Reads w aB aA aL (aZ.map iv)) (hba : aB ≤ w.heap.size) (hla : aL ≤ 67108864) (hsa : aN.size ≤ 67108864) (hga : aG.size ≤ 67108864) (hxa : aX.size ≤ 67108864) (v : Bool) (hv : Z.recValid (⟨lst aN, aT, aK, aZ, lst aG, lst aX⟩ : Z.Rec) = v) :
    Calls Tryd.prog 15 #[.agg #[.string aN, .int .i64 aT, .int .i64 aK, .slice aA aL aC, .string aG, .string aX]] w fun e w' => e = .returned (.bool v) ∧ Below w.heap.size w w' := by subst hv; exact iRecordValid_any _ _ _ _ _ _ _ _ aZ aB w hra hba hla hsa hga hxa
end Go.Proofs.YtgmmaehdpongcaaDoor

/- What a law knows of the records that it drew, and what the functions of chapter 2 say of them. -/
import Derived.Test.YtaiijnaockbahaaNe
import Derived.Test.YtaiijnaockbahaaH
import Derived.Test.YtaiijnaockbahaaIj
import Derived.Test.YtaiijnaockbahaaSe
namespace Go.Proofs.Ytaiijnaockbahaa
open Go.RowKit
set_option maxRecDepth 100000
set_option linter.unusedVariables false

/-- A record in block p, whose numbers can be read. -/
def One (w W : World) (p : Nat) (aN : ByteArray) (aT aK : Int) (aA : Option Addr) (aL aC : Nat) (aG aX : ByteArray) (aZ : List Int) : Prop :=
  Below w.heap.size w W ∧ w.heap.size ≤ p ∧ Blk W p 25 [.string aN, .int .i64 aT, .int .i64 aK, .slice aA aL aC, .string aG, .string aX] ∧ Reads W W.heap.size aA aL (aZ.map iv) ∧ aL ≤ 67108864 ∧ aN.size ≤ 67108864 ∧ aG.size ≤ 67108864 ∧ aX.size ≤ 67108864
theorem One.next {w W W' : World} {p : Nat} {aN : ByteArray} {aT aK : Int} {aA : Option Addr} {aL aC : Nat} {aG aX : ByteArray} {aZ : List Int} (h : One w W p aN aT aK aA aL aC aG aX aZ) (hb : Below W.heap.size W W') : One w W' p aN aT aK aA aL aC aG aX aZ :=
  ⟨h.1.trans (hb.mono h.1.size), h.2.1, h.2.2.1.next hb, (h.2.2.2.1.below hb (Nat.le_refl _)).more hb.size, h.2.2.2.2⟩
theorem One.cells {w W : World} {p : Nat} {aN : ByteArray} {aT aK : Int} {aA : Option Addr} {aL aC : Nat} {aG aX : ByteArray} {aZ : List Int} (h : One w W p aN aT aK aA aL aC aG aX aZ) : W.cell? ⟨p, 0, none⟩ = some (.string aN) ∧ W.cell? ⟨p, 1, none⟩ = some (.int .i64 aT) ∧ W.cell? ⟨p, 2, none⟩ = some (.int .i64 aK) ∧ W.cell? ⟨p, 3, none⟩ = some (.slice aA aL aC) ∧ W.cell? ⟨p, 4, none⟩ = some (.string aG) ∧ W.cell? ⟨p, 5, none⟩ = some (.string aX) := h.2.2.1.cells6
theorem One.below {w W : World} {p : Nat} {aN : ByteArray} {aT aK : Int} {aA : Option Addr} {aL aC : Nat} {aG aX : ByteArray} {aZ : List Int} (h : One w W p aN aT aK aA aL aC aG aX aZ) : Below w.heap.size w W := h.1
/-- Two records, in blocks p and q. -/
def Pair (w W : World) (p q : Nat) (aN : ByteArray) (aT aK : Int) (aA : Option Addr) (aL aC : Nat) (aG aX : ByteArray) (aZ : List Int) (bN : ByteArray) (bT bK : Int) (bA : Option Addr) (bL bC : Nat) (bG bX : ByteArray) (bZ : List Int) : Prop := One w W p aN aT aK aA aL aC aG aX aZ ∧ One w W q bN bT bK bA bL bC bG bX bZ
theorem Pair.next {w W W' : World} {p q : Nat} {aN : ByteArray} {aT aK : Int} {aA : Option Addr} {aL aC : Nat} {aG aX : ByteArray} {aZ : List Int} {bN : ByteArray} {bT bK : Int} {bA : Option Addr} {bL bC : Nat} {bG bX : ByteArray} {bZ : List Int} (h : Pair w W p q aN aT aK aA aL aC aG aX aZ bN bT bK bA bL bC bG bX bZ) (hb : Below W.heap.size W W') : Pair w W' p q aN aT aK aA aL aC aG aX aZ bN bT bK bA bL bC bG bX bZ := ⟨h.1.next hb, h.2.next hb⟩
theorem Pair.swap {w W : World} {p q : Nat} {aN : ByteArray} {aT aK : Int} {aA : Option Addr} {aL aC : Nat} {aG aX : ByteArray} {aZ : List Int} {bN : ByteArray} {bT bK : Int} {bA : Option Addr} {bL bC : Nat} {bG bX : ByteArray} {bZ : List Int} (h : Pair w W p q aN aT aK aA aL aC aG aX aZ bN bT bK bA bL bC bG bX bZ) : Pair w W q p bN bT bK bA bL bC bG bX bZ aN aT aK aA aL aC aG aX aZ := ⟨h.2, h.1⟩
theorem Pair.a {w W : World} {p q : Nat} {aN : ByteArray} {aT aK : Int} {aA : Option Addr} {aL aC : Nat} {aG aX : ByteArray} {aZ : List Int} {bN : ByteArray} {bT bK : Int} {bA : Option Addr} {bL bC : Nat} {bG bX : ByteArray} {bZ : List Int} (h : Pair w W p q aN aT aK aA aL aC aG aX aZ bN bT bK bA bL bC bG bX bZ) : One w W p aN aT aK aA aL aC aG aX aZ := h.1
theorem Pair.b {w W : World} {p q : Nat} {aN : ByteArray} {aT aK : Int} {aA : Option Addr} {aL aC : Nat} {aG aX : ByteArray} {aZ : List Int} {bN : ByteArray} {bT bK : Int} {bA : Option Addr} {bL bC : Nat} {bG bX : ByteArray} {bZ : List Int} (h : Pair w W p q aN aT aK aA aL aC aG aX aZ bN bT bK bA bL bC bG bX bZ) : One w W q bN bT bK bA bL bC bG bX bZ := h.2
theorem pair_of {w W : World} {p q : Nat} {aN : ByteArray} {aT aK : Int} {aA : Option Addr} {aL aC : Nat} {aG aX : ByteArray} {aZ : List Int} {bN : ByteArray} {bT bK : Int} {bA : Option Addr} {bL bC : Nat} {bG bX : ByteArray} {bZ : List Int} (h : One w W p aN aT aK aA aL aC aG aX aZ) (k : One w W q bN bT bK bA bL bC bG bX bZ) : Pair w W p q aN aT aK aA aL aC aG aX aZ bN bT bK bA bL bC bG bX bZ := ⟨h, k⟩
theorem Pair.same {w W : World} {p : Nat} {aN : ByteArray} {aT aK : Int} {aA : Option Addr} {aL aC : Nat} {aG aX : ByteArray} {aZ : List Int} (h : One w W p aN aT aK aA aL aC aG aX aZ) : Pair w W p p aN aT aK aA aL aC aG aX aZ aN aT aK aA aL aC aG aX aZ := ⟨h, h⟩
/-- The records that were just drawn. -/
theorem pair_new {w w1 : World} {aN : ByteArray} {aT aK : Int} {aA : Option Addr} {aL aC : Nat} {aG aX : ByteArray} {aZ : List Int} {bN : ByteArray} {bT bK : Int} {bA : Option Addr} {bL bC : Nat} {bG bX : ByteArray} {bZ : List Int} {B : Nat} (hb : Below w.heap.size w w1) (hx : w1.ownsRow B 3 1 (.slice aA aL aC) aL (aZ.map iv)) (hy : w1.ownsRow B 3 1 (.slice bA bL bC) bL (bZ.map iv)) (h1 : aL ≤ 200) (h2 : bL ≤ 200) (s1 : aN.size ≤ 100) (s2 : aG.size ≤ 100) (s3 : aX.size ≤ 100) (s4 : bN.size ≤ 100) (s5 : bG.size ≤ 100) (s6 : bX.size ≤ 100) :
    Pair w ((w1.alloc (.cells #[.string aN, .int .i64 aT, .int .i64 aK, .slice aA aL aC, .string aG, .string aX] 25)).alloc (.cells #[.string bN, .int .i64 bT, .int .i64 bK, .slice bA bL bC, .string bG, .string bX] 25)) w1.heap.size (w1.heap.size + 1) aN aT aK aA aL aC aG aX aZ bN bT bK bA bL bC bG bX bZ := by
  have hs := hb.size
  have r1 := (((Reads.of_own hx).alloc (Nat.le_refl _) (.cells #[.string aN, .int .i64 aT, .int .i64 aK, .slice aA aL aC, .string aG, .string aX] 25)).alloc (by simp) (.cells #[.string bN, .int .i64 bT, .int .i64 bK, .slice bA bL bC, .string bG, .string bX] 25)).more (B' := ((w1.alloc (.cells #[.string aN, .int .i64 aT, .int .i64 aK, .slice aA aL aC, .string aG, .string aX] 25)).alloc (.cells #[.string bN, .int .i64 bT, .int .i64 bK, .slice bA bL bC, .string bG, .string bX] 25)).heap.size) (by simp; omega)
  have r2 := (((Reads.of_own hy).alloc (Nat.le_refl _) (.cells #[.string aN, .int .i64 aT, .int .i64 aK, .slice aA aL aC, .string aG, .string aX] 25)).alloc (by simp) (.cells #[.string bN, .int .i64 bT, .int .i64 bK, .slice bA bL bC, .string bG, .string bX] 25)).more (B' := ((w1.alloc (.cells #[.string aN, .int .i64 aT, .int .i64 aK, .slice aA aL aC, .string aG, .string aX] 25)).alloc (.cells #[.string bN, .int .i64 bT, .int .i64 bK, .slice bA bL bC, .string bG, .string bX] 25)).heap.size) (by simp; omega)
  have hbw : Below w.heap.size w ((w1.alloc (.cells #[.string aN, .int .i64 aT, .int .i64 aK, .slice aA aL aC, .string aG, .string aX] 25)).alloc (.cells #[.string bN, .int .i64 bT, .int .i64 bK, .slice bA bL bC, .string bG, .string bX] 25)) := (hb.alloc hs _).alloc (by simp; omega) _
  have b1 := (Blk.new w1 25 [.string aN, .int .i64 aT, .int .i64 aK, .slice aA aL aC, .string aG, .string aX]).alloc (.cells #[.string bN, .int .i64 bT, .int .i64 bK, .slice bA bL bC, .string bG, .string bX] 25)
  have b2 := Blk.new (w1.alloc (.cells #[.string aN, .int .i64 aT, .int .i64 aK, .slice aA aL aC, .string aG, .string aX] 25)) 25 [.string bN, .int .i64 bT, .int .i64 bK, .slice bA bL bC, .string bG, .string bX]
  exact ⟨⟨hbw, hs, b1, r1, by omega, by omega, by omega, by omega⟩, ⟨hbw, by omega, by simpa using b2, r2, by omega, by omega, by omega, by omega⟩⟩
theorem one_copy {w W : World} {p : Nat} {aN : ByteArray} {aT aK : Int} {aA : Option Addr} {aL aC : Nat} {aG aX : ByteArray} {aZ : List Int} (h : One w W p aN aT aK aA aL aC aG aX aZ) (N' : ByteArray) (T' K' : Int) (hN : N'.size ≤ 67108864) :
    One w (W.alloc (.cells #[.string N', .int .i64 T', .int .i64 K', .slice aA aL aC, .string aG, .string aX] 25)) W.heap.size N' T' K' aA aL aC aG aX aZ :=
  ⟨h.1.alloc h.1.size _, h.1.size, Blk.new W 25 [.string N', .int .i64 T', .int .i64 K', .slice aA aL aC, .string aG, .string aX], (h.2.2.2.1.alloc (Nat.le_refl _) _).more (by simp), h.2.2.2.2.1, hN, h.2.2.2.2.2.2.1, h.2.2.2.2.2.2.2⟩
theorem One.alloc {w W : World} {p : Nat} {aN : ByteArray} {aT aK : Int} {aA : Option Addr} {aL aC : Nat} {aG aX : ByteArray} {aZ : List Int} (h : One w W p aN aT aK aA aL aC aG aX aZ) (o : Obj) : One w (W.alloc o) p aN aT aK aA aL aC aG aX aZ := h.next ((Below.refl _ _).alloc (Nat.le_refl _) o)
theorem one_new {w w1 : World} {aN : ByteArray} {aT aK : Int} {aA : Option Addr} {aL aC : Nat} {aG aX : ByteArray} {aZ : List Int} {B : Nat} (hb : Below w.heap.size w w1) (hx : w1.ownsRow B 3 1 (.slice aA aL aC) aL (aZ.map iv)) (h1 : aL ≤ 200) (s1 : aN.size ≤ 100) (s2 : aG.size ≤ 100) (s3 : aX.size ≤ 100) :
    One w (w1.alloc (.cells #[.string aN, .int .i64 aT, .int .i64 aK, .slice aA aL aC, .string aG, .string aX] 25)) w1.heap.size aN aT aK aA aL aC aG aX aZ := by
  have hs := hb.size
  have r1 := ((Reads.of_own hx).alloc (Nat.le_refl _) (.cells #[.string aN, .int .i64 aT, .int .i64 aK, .slice aA aL aC, .string aG, .string aX] 25)).more (B' := (w1.alloc (.cells #[.string aN, .int .i64 aT, .int .i64 aK, .slice aA aL aC, .string aG, .string aX] 25)).heap.size) (by simp)
  exact ⟨hb.alloc hs _, hs, Blk.new w1 25 [.string aN, .int .i64 aT, .int .i64 aK, .slice aA aL aC, .string aG, .string aX], r1, by omega, by omega, by omega, by omega⟩
theorem ip_RecordBefore {w W : World} {p q : Nat} {aN : ByteArray} {aT aK : Int} {aA : Option Addr} {aL aC : Nat} {aG aX : ByteArray} {aZ : List Int} {bN : ByteArray} {bT bK : Int} {bA : Option Addr} {bL bC : Nat} {bG bX : ByteArray} {bZ : List Int} (h : Pair w W p q aN aT aK aA aL aC aG aX aZ bN bT bK bA bL bC bG bX bZ) (v : Bool) (hv : Hid (Z.recBefore (⟨lst aN, aT, aK, aZ, lst aG, lst aX⟩ : Z.Rec) (⟨lst bN, bT, bK, bZ, lst bG, lst bX⟩ : Z.Rec) = v)) :
    Calls Try.prog 11 #[.agg #[.string aN, .int .i64 aT, .int .i64 aK, .slice aA aL aC, .string aG, .string aX], .agg #[.string bN, .int .i64 bT, .int .i64 bK, .slice bA bL bC, .string bG, .string bX]] W fun e W' => e = .returned (.bool v) ∧ Below W.heap.size W W' := by
  refine (iRecordBefore_any _ _ _ _ _ _ _ _ aZ W.heap.size _ _ _ _ _ _ _ _ bZ W.heap.size W h.1.2.2.2.1 (Nat.le_refl _) h.1.2.2.2.2.1 h.2.2.2.2.1 (Nat.le_refl _) h.2.2.2.2.2.1 h.1.2.2.2.2.2.1 h.1.2.2.2.2.2.2.1 h.1.2.2.2.2.2.2.2 h.2.2.2.2.2.2.1 h.2.2.2.2.2.2.2.1 h.2.2.2.2.2.2.2.2).mono ?_
  rintro e W' ⟨rfl, hb⟩
  exact ⟨ret_bool hv.out, hb⟩
theorem ip_SameData {w W : World} {p q : Nat} {aN : ByteArray} {aT aK : Int} {aA : Option Addr} {aL aC : Nat} {aG aX : ByteArray} {aZ : List Int} {bN : ByteArray} {bT bK : Int} {bA : Option Addr} {bL bC : Nat} {bG bX : ByteArray} {bZ : List Int} (h : Pair w W p q aN aT aK aA aL aC aG aX aZ bN bT bK bA bL bC bG bX bZ) (v : Bool) (hv : Hid (Z.sameData (⟨lst aN, aT, aK, aZ, lst aG, lst aX⟩ : Z.Rec) (⟨lst bN, bT, bK, bZ, lst bG, lst bX⟩ : Z.Rec) = v)) :
    Calls Try.prog 17 #[.agg #[.string aN, .int .i64 aT, .int .i64 aK, .slice aA aL aC, .string aG, .string aX], .agg #[.string bN, .int .i64 bT, .int .i64 bK, .slice bA bL bC, .string bG, .string bX]] W fun e W' => e = .returned (.bool v) ∧ Below W.heap.size W W' := by
  refine (iSameData_any _ _ _ _ _ _ _ _ aZ W.heap.size _ _ _ _ _ _ _ _ bZ W.heap.size W h.1.2.2.2.1 (Nat.le_refl _) h.1.2.2.2.2.1 h.2.2.2.2.1 (Nat.le_refl _) h.2.2.2.2.2.1).mono ?_
  rintro e W' ⟨rfl, hb⟩
  exact ⟨ret_bool hv.out, hb⟩
theorem ip_RecordSame {w W : World} {p q : Nat} {aN : ByteArray} {aT aK : Int} {aA : Option Addr} {aL aC : Nat} {aG aX : ByteArray} {aZ : List Int} {bN : ByteArray} {bT bK : Int} {bA : Option Addr} {bL bC : Nat} {bG bX : ByteArray} {bZ : List Int} (h : Pair w W p q aN aT aK aA aL aC aG aX aZ bN bT bK bA bL bC bG bX bZ) (v : Bool) (hv : Hid (Z.recSame (⟨lst aN, aT, aK, aZ, lst aG, lst aX⟩ : Z.Rec) (⟨lst bN, bT, bK, bZ, lst bG, lst bX⟩ : Z.Rec) = v)) :
    Calls Try.prog 14 #[.agg #[.string aN, .int .i64 aT, .int .i64 aK, .slice aA aL aC, .string aG, .string aX], .agg #[.string bN, .int .i64 bT, .int .i64 bK, .slice bA bL bC, .string bG, .string bX]] W fun e W' => e = .returned (.bool v) ∧ Below W.heap.size W W' := by
  refine (iRecordSame_any _ _ _ _ _ _ _ _ aZ W.heap.size _ _ _ _ _ _ _ _ bZ W.heap.size W h.1.2.2.2.1 (Nat.le_refl _) h.1.2.2.2.2.1 h.2.2.2.2.1 (Nat.le_refl _) h.2.2.2.2.2.1).mono ?_
  rintro e W' ⟨rfl, hb⟩
  exact ⟨ret_bool hv.out, hb⟩
theorem io_RecordValid {w W : World} {p : Nat} {aN : ByteArray} {aT aK : Int} {aA : Option Addr} {aL aC : Nat} {aG aX : ByteArray} {aZ : List Int} (h : One w W p aN aT aK aA aL aC aG aX aZ) (v : Bool) (hv : Hid (Z.recValid (⟨lst aN, aT, aK, aZ, lst aG, lst aX⟩ : Z.Rec) = v)) :
    Calls Try.prog 13 #[.agg #[.string aN, .int .i64 aT, .int .i64 aK, .slice aA aL aC, .string aG, .string aX]] W fun e W' => e = .returned (.bool v) ∧ Below W.heap.size W W' := by
  refine (iRecordValid_any _ _ _ _ _ _ _ _ aZ W.heap.size W h.2.2.2.1 (Nat.le_refl _) h.2.2.2.2.1 h.2.2.2.2.2.1 h.2.2.2.2.2.2.1 h.2.2.2.2.2.2.2).mono ?_
  rintro e W' ⟨rfl, hb⟩
  exact ⟨ret_bool hv.out, hb⟩
theorem sp_RecordBefore {w W : World} {p q : Nat} {aN : ByteArray} {aT aK : Int} {aA : Option Addr} {aL aC : Nat} {aG aX : ByteArray} {aZ : List Int} {bN : ByteArray} {bT bK : Int} {bA : Option Addr} {bL bC : Nat} {bG bX : ByteArray} {bZ : List Int} (h : Pair w W p q aN aT aK aA aL aC aG aX aZ bN bT bK bA bL bC bG bX bZ) (v : Bool) (hv : Hid (Z.recBefore (⟨lst aN, aT, aK, aZ, lst aG, lst aX⟩ : Z.Rec) (⟨lst bN, bT, bK, bZ, lst bG, lst bX⟩ : Z.Rec) = v)) :
    Calls Try.prog 12 #[.agg #[.string aN, .int .i64 aT, .int .i64 aK, .slice aA aL aC, .string aG, .string aX], .agg #[.string bN, .int .i64 bT, .int .i64 bK, .slice bA bL bC, .string bG, .string bX]] W fun e W' => e = .returned (.bool v) ∧ Below W.heap.size W W' := by
  refine (RecordBefore_any _ _ _ _ _ _ _ _ aZ W.heap.size _ _ _ _ _ _ _ _ bZ W.heap.size W h.1.2.2.2.1 (Nat.le_refl _) h.1.2.2.2.2.1 h.2.2.2.2.1 (Nat.le_refl _) h.2.2.2.2.2.1 h.1.2.2.2.2.2.1 h.1.2.2.2.2.2.2.1 h.1.2.2.2.2.2.2.2 h.2.2.2.2.2.2.1 h.2.2.2.2.2.2.2.1 h.2.2.2.2.2.2.2.2).mono ?_
  rintro e W' ⟨rfl, hb⟩
  exact ⟨ret_bool hv.out, hb⟩
theorem sp_SameData {w W : World} {p q : Nat} {aN : ByteArray} {aT aK : Int} {aA : Option Addr} {aL aC : Nat} {aG aX : ByteArray} {aZ : List Int} {bN : ByteArray} {bT bK : Int} {bA : Option Addr} {bL bC : Nat} {bG bX : ByteArray} {bZ : List Int} (h : Pair w W p q aN aT aK aA aL aC aG aX aZ bN bT bK bA bL bC bG bX bZ) (v : Bool) (hv : Hid (Z.sameData (⟨lst aN, aT, aK, aZ, lst aG, lst aX⟩ : Z.Rec) (⟨lst bN, bT, bK, bZ, lst bG, lst bX⟩ : Z.Rec) = v)) :
    Calls Try.prog 18 #[.agg #[.string aN, .int .i64 aT, .int .i64 aK, .slice aA aL aC, .string aG, .string aX], .agg #[.string bN, .int .i64 bT, .int .i64 bK, .slice bA bL bC, .string bG, .string bX]] W fun e W' => e = .returned (.bool v) ∧ Below W.heap.size W W' := by
  refine (SameData_any _ _ _ _ _ _ _ _ aZ W.heap.size _ _ _ _ _ _ _ _ bZ W.heap.size W h.1.2.2.2.1 (Nat.le_refl _) h.1.2.2.2.2.1 h.2.2.2.2.1 (Nat.le_refl _) h.2.2.2.2.2.1).mono ?_
  rintro e W' ⟨rfl, hb⟩
  exact ⟨ret_bool hv.out, hb⟩
theorem sp_RecordSame {w W : World} {p q : Nat} {aN : ByteArray} {aT aK : Int} {aA : Option Addr} {aL aC : Nat} {aG aX : ByteArray} {aZ : List Int} {bN : ByteArray} {bT bK : Int} {bA : Option Addr} {bL bC : Nat} {bG bX : ByteArray} {bZ : List Int} (h : Pair w W p q aN aT aK aA aL aC aG aX aZ bN bT bK bA bL bC bG bX bZ) (v : Bool) (hv : Hid (Z.recSame (⟨lst aN, aT, aK, aZ, lst aG, lst aX⟩ : Z.Rec) (⟨lst bN, bT, bK, bZ, lst bG, lst bX⟩ : Z.Rec) = v)) :
    Calls Try.prog 19 #[.agg #[.string aN, .int .i64 aT, .int .i64 aK, .slice aA aL aC, .string aG, .string aX], .agg #[.string bN, .int .i64 bT, .int .i64 bK, .slice bA bL bC, .string bG, .string bX]] W fun e W' => e = .returned (.bool v) ∧ Below W.heap.size W W' := by
  refine (RecordSame_any _ _ _ _ _ _ _ _ aZ W.heap.size _ _ _ _ _ _ _ _ bZ W.heap.size W h.1.2.2.2.1 (Nat.le_refl _) h.1.2.2.2.2.1 h.2.2.2.2.1 (Nat.le_refl _) h.2.2.2.2.2.1).mono ?_
  rintro e W' ⟨rfl, hb⟩
  exact ⟨ret_bool hv.out, hb⟩
theorem so_RecordValid {w W : World} {p : Nat} {aN : ByteArray} {aT aK : Int} {aA : Option Addr} {aL aC : Nat} {aG aX : ByteArray} {aZ : List Int} (h : One w W p aN aT aK aA aL aC aG aX aZ) (v : Bool) (hv : Hid (Z.recValid (⟨lst aN, aT, aK, aZ, lst aG, lst aX⟩ : Z.Rec) = v)) :
    Calls Try.prog 21 #[.agg #[.string aN, .int .i64 aT, .int .i64 aK, .slice aA aL aC, .string aG, .string aX]] W fun e W' => e = .returned (.bool v) ∧ Below W.heap.size W W' := by
  refine (RecordValid_any _ _ _ _ _ _ _ _ aZ W.heap.size W h.2.2.2.1 (Nat.le_refl _) h.2.2.2.2.1 h.2.2.2.2.2.1 h.2.2.2.2.2.2.1 h.2.2.2.2.2.2.2).mono ?_
  rintro e W' ⟨rfl, hb⟩
  exact ⟨ret_bool hv.out, hb⟩
theorem nb_eq (a b : ByteArray) (ha : a.size ≤ 67108864) (hb : b.size ≤ 67108864) (v : Bool) (hv : Hid (Z.before (lst a) (lst b) = v)) (W : World) :
    Calls Try.prog 15 #[.string a, .string b] W fun e W' => e = .returned (.bool v) ∧ Below W.heap.size W W' := by
  refine (iNameBefore_any a b (by unfold maxLen; omega) (by unfold maxLen; omega) W).mono ?_
  rintro e W' ⟨rfl, hb⟩
  exact ⟨ret_bool hv.out, hb⟩
theorem five_ways {X Y VA VB S : Bool} (t1 : X = true → VA = true ∧ VB = true) (t2 : Y = true → VA = true ∧ VB = true) (t3 : X = true → Y = false) (t5 : VA = true → VB = true → (X || Y) = !S) :
    (X = true ∧ Y = false ∧ VA = true ∧ VB = true ∧ S = false) ∨ (X = false ∧ Y = true ∧ VA = true ∧ VB = true ∧ S = false) ∨ (X = false ∧ Y = false ∧ VA = false) ∨ (X = false ∧ Y = false ∧ VA = true ∧ VB = false) ∨ (X = false ∧ Y = false ∧ VA = true ∧ VB = true ∧ S = true) := by
  cases X <;> cases Y <;> cases VA <;> cases VB <;> cases S <;> simp_all
end Go.Proofs.Ytaiijnaockbahaa

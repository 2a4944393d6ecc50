/- What the draws of one record and of two records return. What a law knows of the records that it drew, and what the functions of chapter 2 say of them. -/
import Derived.Test.YtpgeeeamcncpkaaGreatDoorNd
import Derived.Deep.RegionHeld3
import Derived.Test.YtpgeeeamcncpkaaGreatDoorH
import Derived.Test.YtpgeeeamcncpkaaGreatDoorIj
import Derived.Test.YtpgeeeamcncpkaaGreatDoorSd
namespace Go.Proofs.YtpgeeeamcncpkaaGreatDoor
open Go.RowKit
set_option maxRecDepth 100000
set_option linter.unusedVariables false

/-- Some record whose numbers can be read. -/
def RecDrawn (w : World) (e : Ending) (w' : World) : Prop :=
  ∃ (N : ByteArray) (T K : Int) (A : Option Addr) (L c : Nat) (x y : ByteArray) (ns : List Int), e = .returned (.agg #[.string N, .int .i64 T, .int .i64 K, .slice A L c, .string x, .string y]) ∧
    w'.ownsRow w.heap.size 3 1 (.slice A L c) L (ns.map iv) ∧ L ≤ 200 ∧ N.size ≤ 100 ∧ x.size ≤ 100 ∧ y.size ≤ 100 ∧ Below w.heap.size w w'
/-- Some two records whose numbers can be read. -/
def TwoDrawn (w : World) (e : Ending) (w' : World) : Prop :=
  ∃ (aN : ByteArray) (aT aK : Int) (aA : Option Addr) (aL aC : Nat) (aG aX : ByteArray) (aZ : List Int) (bN : ByteArray) (bT bK : Int) (bA : Option Addr) (bL bC : Nat) (bG bX : ByteArray) (bZ : List Int),
    e = .returned (.tuple #[.agg #[.string aN, .int .i64 aT, .int .i64 aK, .slice aA aL aC, .string aG, .string aX], .agg #[.string bN, .int .i64 bT, .int .i64 bK, .slice bA bL bC, .string bG, .string bX]]) ∧
    w'.ownsRow w.heap.size 3 1 (.slice aA aL aC) aL (aZ.map iv) ∧ w'.ownsRow w.heap.size 3 1 (.slice bA bL bC) bL (bZ.map iv) ∧ aL ≤ 200 ∧ bL ≤ 200 ∧ aN.size ≤ 100 ∧ aG.size ≤ 100 ∧ aX.size ≤ 100 ∧ bN.size ≤ 100 ∧ bG.size ≤ 100 ∧ bX.size ≤ 100 ∧ Below w.heap.size w w'
theorem Rd.drew {w : World} {g p : Nat} (h : Rd w g p) : Rd w.drew g p := h
theorem six_reads {w : World} {B n : Nat} {A : Option Addr} {xs : List Value} (h : Reads w B A n xs) {k : Nat} (hk : 0 < n → ∀ ad, A = some ad → ad.block ≠ k) (d0 d1 d2 d3 d4 d5 : Value) :
    Reads ((((((w.setCell ⟨k, 0, none⟩ d0).setCell ⟨k, 1, none⟩ d1).setCell ⟨k, 2, none⟩ d2).setCell ⟨k, 3, none⟩ d3).setCell ⟨k, 4, none⟩ d4).setCell ⟨k, 5, none⟩ d5) B A n xs := by
  refine ⟨h.1, fun hn => ?_⟩
  obtain ⟨ad, e, hb, hc⟩ := h.2 hn
  refine ⟨ad, e, hb, fun j u hu => ?_⟩
  have hne : (ad.add j).block ≠ k := by rw [block_of_add]; exact hk hn ad e
  have step : ∀ (W : World) (o : Nat) (v : Value), (W.setCell ⟨k, o, none⟩ v).cell? (ad.add j) = W.cell? (ad.add j) := fun W o v => World.cell?_setCell_other _ _ _ _ (fun e2 => hne (by rw [← e2]))
  rw [step, step, step, step, step, step]
  exact hc j u hu
theorem six_size (w : World) (k : Nat) (d0 d1 d2 d3 d4 d5 : Value) : ((((((w.setCell ⟨k, 0, none⟩ d0).setCell ⟨k, 1, none⟩ d1).setCell ⟨k, 2, none⟩ d2).setCell ⟨k, 3, none⟩ d3).setCell ⟨k, 4, none⟩ d4).setCell ⟨k, 5, none⟩ d5).heap.size = w.heap.size := by simp [World.setCell]
theorem six_far {w : World} {g k : Nat} {t : TypeId} {cs : List Value} (h : Blk w g t cs) (hk : g ≠ k) (d0 d1 d2 d3 d4 d5 : Value) :
    Blk ((((((w.setCell ⟨k, 0, none⟩ d0).setCell ⟨k, 1, none⟩ d1).setCell ⟨k, 2, none⟩ d2).setCell ⟨k, 3, none⟩ d3).setCell ⟨k, 4, none⟩ d4).setCell ⟨k, 5, none⟩ d5) g t cs :=
  (((((h.far (p := ⟨k, 0, none⟩) hk d0).far (p := ⟨k, 1, none⟩) hk d1).far (p := ⟨k, 2, none⟩) hk d2).far (p := ⟨k, 3, none⟩) hk d3).far (p := ⟨k, 4, none⟩) hk d4).far (p := ⟨k, 5, none⟩) hk d5
end Go.Proofs.YtpgeeeamcncpkaaGreatDoor

namespace Go.Proofs.YtpgeeeamcncpkaaGreatDoor
open Go.RowKit
set_option maxRecDepth 100000
set_option linter.unusedVariables false

/-- A record in block p, whose numbers can be read. -/
def One (w W : World) (p : Nat) (aN : ByteArray) (aT aK : Int) (aA : Option Addr) (aL aC : Nat) (aG aX : ByteArray) (aZ : List Int) : Prop :=
  Below w.heap.size w W ∧ w.heap.size ≤ p ∧ Blk W p 25 [.string aN, .int .i64 aT, .int .i64 aK, .slice aA aL aC, .string aG, .string aX] ∧ Reads W W.heap.size aA aL (aZ.map iv) ∧ aL ≤ 67108864 ∧ aN.size ≤ 67108864 ∧ aG.size ≤ 67108864 ∧ aX.size ≤ 67108864
theorem One.next {w W W' : World} {p : Nat} {aN : ByteArray} {aT aK : Int} {aA : Option Addr} {aL aC : Nat} {aG aX : ByteArray} {aZ : List Int} (h : One w W p aN aT aK aA aL aC aG aX aZ) (hb : Below W.heap.size W W') : One w W' p aN aT aK aA aL aC aG aX aZ :=
  ⟨h.1.trans (hb.mono h.1.size), h.2.1, h.2.2.1.next hb, (h.2.2.2.1.below hb (Nat.le_refl _)).more hb.size, h.2.2.2.2⟩
theorem One.cells {w W : World} {p : Nat} {aN : ByteArray} {aT aK : Int} {aA : Option Addr} {aL aC : Nat} {aG aX : ByteArray} {aZ : List Int} (h : One w W p aN aT aK aA aL aC aG aX aZ) : W.cell? ⟨p, 0, none⟩ = some (.string aN) ∧ W.cell? ⟨p, 1, none⟩ = some (.int .i64 aT) ∧ W.cell? ⟨p, 2, none⟩ = some (.int .i64 aK) ∧ W.cell? ⟨p, 3, none⟩ = some (.slice aA aL aC) ∧ W.cell? ⟨p, 4, none⟩ = some (.string aG) ∧ W.cell? ⟨p, 5, none⟩ = some (.string aX) := h.2.2.1.cells6
theorem One.below {w W : World} {p : Nat} {aN : ByteArray} {aT aK : Int} {aA : Option Addr} {aL aC : Nat} {aG aX : ByteArray} {aZ : List Int} (h : One w W p aN aT aK aA aL aC aG aX aZ) : Below w.heap.size w W := h.1
/-- Two records, in blocks p and q. -/
def Pair (w W : World) (p q : Nat) (aN : ByteArray) (aT aK : Int) (aA : Option Addr) (aL aC : Nat) (aG aX : ByteArray) (aZ : List Int) (bN : ByteArray) (bT bK : Int) (bA : Option Addr) (bL bC : Nat) (bG bX : ByteArray) (bZ : List Int) : Prop := One w W p aN aT aK aA aL aC aG aX aZ ∧ One w W q bN bT bK bA bL bC bG bX bZ
theorem Pair.next {w W W' : World} {p q : Nat} {aN : ByteArray} {aT aK : Int} {aA : Option Addr} {aL aC : Nat} {aG aX : ByteArray} {aZ : List Int} {bN : ByteArray} {bT bK : Int} {bA : Option Addr} {bL bC : Nat} {bG bX : ByteArray} {bZ : List Int} (h : Pair w W p q aN aT aK aA aL aC aG aX aZ bN bT bK bA bL bC bG bX bZ) (hb : Below W.heap.size W W') : Pair w W' p q aN aT aK aA aL aC aG aX aZ bN bT bK bA bL bC bG bX bZ := ⟨h.1.next hb, h.2.next hb⟩
theorem Pair.swap {w W : World} {p q : Nat} {aN : ByteArray} {aT aK : Int} {aA : Option Addr} {aL aC : Nat} {aG aX : ByteArray} {aZ : List Int} {bN : ByteArray} {bT bK : Int} {bA : Option Addr} {bL bC : Nat} {bG bX : ByteArray} {bZ : List Int} (h : Pair w W p q aN aT aK aA aL aC aG aX aZ bN bT bK bA bL bC bG bX bZ) : Pair w W q p bN bT bK bA bL bC bG bX bZ aN aT aK aA aL aC aG aX aZ := ⟨h.2, h.1⟩
theorem Pair.a {w W : World} {p q : Nat} {aN : ByteArray} {aT aK : Int} {aA : Option Addr} {aL aC : Nat} {aG aX : ByteArray} {aZ : List Int} {bN : ByteArray} {bT bK : Int} {bA : Option Addr} {bL bC : Nat} {bG bX : ByteArray} {bZ : List Int} (h : Pair w W p q aN aT aK aA aL aC aG aX aZ bN bT bK bA bL bC bG bX bZ) : One w W p aN aT aK aA aL aC aG aX aZ := h.1
theorem Pair.b {w W : World} {p q : Nat} {aN : ByteArray} {aT aK : Int} {aA : Option Addr} {aL aC : Nat} {aG aX : ByteArray} {aZ : List Int} {bN : ByteArray} {bT bK : Int} {bA : Option Addr} {bL bC : Nat} {bG bX : ByteArray} {bZ : List Int} (h : Pair w W p q aN aT aK aA aL aC aG aX aZ bN bT bK bA bL bC bG bX bZ) : One w W q bN bT bK bA bL bC bG bX bZ := h.2
theorem pair_of {w W : World} {p q : Nat} {aN : ByteArray} {aT aK : Int} {aA : Option Addr} {aL aC : Nat} {aG aX : ByteArray} {aZ : List Int} {bN : ByteArray} {bT bK : Int} {bA : Option Addr} {bL bC : Nat} {bG bX : ByteArray} {bZ : List Int} (h : One w W p aN aT aK aA aL aC aG aX aZ) (k : One w W q bN bT bK bA bL bC bG bX bZ) : Pair w W p q aN aT aK aA aL aC aG aX aZ bN bT bK bA bL bC bG bX bZ := ⟨h, k⟩
theorem Pair.same {w W : World} {p : Nat} {aN : ByteArray} {aT aK : Int} {aA : Option Addr} {aL aC : Nat} {aG aX : ByteArray} {aZ : List Int} (h : One w W p aN aT aK aA aL aC aG aX aZ) : Pair w W p p aN aT aK aA aL aC aG aX aZ aN aT aK aA aL aC aG aX aZ := ⟨h, h⟩
/-- The records that were just drawn. -/
theorem pair_new {w w1 : World} {aN : ByteArray} {aT aK : Int} {aA : Option Addr} {aL aC : Nat} {aG aX : ByteArray} {aZ : List Int} {bN : ByteArray} {bT bK : Int} {bA : Option Addr} {bL bC : Nat} {bG bX : ByteArray} {bZ : List Int} {B : Nat} (hb : Below w.heap.size w w1) (hx : w1.ownsRow B 3 1 (.slice aA aL aC) aL (aZ.map iv)) (hy : w1.ownsRow B 3 1 (.slice bA bL bC) bL (bZ.map iv)) (h1 : aL ≤ 200) (h2 : bL ≤ 200) (s1 : aN.size ≤ 100) (s2 : aG.size ≤ 100) (s3 : aX.size ≤ 100) (s4 : bN.size ≤ 100) (s5 : bG.size ≤ 100) (s6 : bX.size ≤ 100) :
    Pair w ((w1.alloc (.cells #[.string aN, .int .i64 aT, .int .i64 aK, .slice aA aL aC, .string aG, .string aX] 25)).alloc (.cells #[.string bN, .int .i64 bT, .int .i64 bK, .slice bA bL bC, .string bG, .string bX] 25)) w1.heap.size (w1.heap.size + 1) aN aT aK aA aL aC aG aX aZ bN bT bK bA bL bC bG bX bZ := by
  have hs := hb.size
  have r1 := (((Reads.of_own hx).alloc (Nat.le_refl _) (.cells #[.string aN, .int .i64 aT, .int .i64 aK, .slice aA aL aC, .string aG, .string aX] 25)).alloc (by simp) (.cells #[.string bN, .int .i64 bT, .int .i64 bK, .slice bA bL bC, .string bG, .string bX] 25)).more (B' := ((w1.alloc (.cells #[.string aN, .int .i64 aT, .int .i64 aK, .slice aA aL aC, .string aG, .string aX] 25)).alloc (.cells #[.string bN, .int .i64 bT, .int .i64 bK, .slice bA bL bC, .string bG, .string bX] 25)).heap.size) (by simp; omega)
  have r2 := (((Reads.of_own hy).alloc (Nat.le_refl _) (.cells #[.string aN, .int .i64 aT, .int .i64 aK, .slice aA aL aC, .string aG, .string aX] 25)).alloc (by simp) (.cells #[.string bN, .int .i64 bT, .int .i64 bK, .slice bA bL bC, .string bG, .string bX] 25)).more (B' := ((w1.alloc (.cells #[.string aN, .int .i64 aT, .int .i64 aK, .slice aA aL aC, .string aG, .string aX] 25)).alloc (.cells #[.string bN, .int .i64 bT, .int .i64 bK, .slice bA bL bC, .string bG, .string bX] 25)).heap.size) (by simp; omega)
  have hbw : Below w.heap.size w ((w1.alloc (.cells #[.string aN, .int .i64 aT, .int .i64 aK, .slice aA aL aC, .string aG, .string aX] 25)).alloc (.cells #[.string bN, .int .i64 bT, .int .i64 bK, .slice bA bL bC, .string bG, .string bX] 25)) := (hb.alloc hs _).alloc (by simp; omega) _
  have b1 := (Blk.new w1 25 [.string aN, .int .i64 aT, .int .i64 aK, .slice aA aL aC, .string aG, .string aX]).alloc (.cells #[.string bN, .int .i64 bT, .int .i64 bK, .slice bA bL bC, .string bG, .string bX] 25)
  have b2 := Blk.new (w1.alloc (.cells #[.string aN, .int .i64 aT, .int .i64 aK, .slice aA aL aC, .string aG, .string aX] 25)) 25 [.string bN, .int .i64 bT, .int .i64 bK, .slice bA bL bC, .string bG, .string bX]
  exact ⟨⟨hbw, hs, b1, r1, by omega, by omega, by omega, by omega⟩, ⟨hbw, by omega, by simpa using b2, r2, by omega, by omega, by omega, by omega⟩⟩
theorem one_copy {w W : World} {p : Nat} {aN : ByteArray} {aT aK : Int} {aA : Option Addr} {aL aC : Nat} {aG aX : ByteArray} {aZ : List Int} (h : One w W p aN aT aK aA aL aC aG aX aZ) (N' : ByteArray) (T' K' : Int) (hN : N'.size ≤ 67108864) :
    One w (W.alloc (.cells #[.string N', .int .i64 T', .int .i64 K', .slice aA aL aC, .string aG, .string aX] 25)) W.heap.size N' T' K' aA aL aC aG aX aZ :=
  ⟨h.1.alloc h.1.size _, h.1.size, Blk.new W 25 [.string N', .int .i64 T', .int .i64 K', .slice aA aL aC, .string aG, .string aX], (h.2.2.2.1.alloc (Nat.le_refl _) _).more (by simp), h.2.2.2.2.1, hN, h.2.2.2.2.2.2.1, h.2.2.2.2.2.2.2⟩
theorem One.alloc {w W : World} {p : Nat} {aN : ByteArray} {aT aK : Int} {aA : Option Addr} {aL aC : Nat} {aG aX : ByteArray} {aZ : List Int} (h : One w W p aN aT aK aA aL aC aG aX aZ) (o : Obj) : One w (W.alloc o) p aN aT aK aA aL aC aG aX aZ := h.next ((Below.refl _ _).alloc (Nat.le_refl _) o)
theorem one_new {w w1 : World} {aN : ByteArray} {aT aK : Int} {aA : Option Addr} {aL aC : Nat} {aG aX : ByteArray} {aZ : List Int} {B : Nat} (hb : Below w.heap.size w w1) (hx : w1.ownsRow B 3 1 (.slice aA aL aC) aL (aZ.map iv)) (h1 : aL ≤ 200) (s1 : aN.size ≤ 100) (s2 : aG.size ≤ 100) (s3 : aX.size ≤ 100) :
    One w (w1.alloc (.cells #[.string aN, .int .i64 aT, .int .i64 aK, .slice aA aL aC, .string aG, .string aX] 25)) w1.heap.size aN aT aK aA aL aC aG aX aZ := by
  have hs := hb.size
  have r1 := ((Reads.of_own hx).alloc (Nat.le_refl _) (.cells #[.string aN, .int .i64 aT, .int .i64 aK, .slice aA aL aC, .string aG, .string aX] 25)).more (B' := (w1.alloc (.cells #[.string aN, .int .i64 aT, .int .i64 aK, .slice aA aL aC, .string aG, .string aX] 25)).heap.size) (by simp)
  exact ⟨hb.alloc hs _, hs, Blk.new w1 25 [.string aN, .int .i64 aT, .int .i64 aK, .slice aA aL aC, .string aG, .string aX], r1, by omega, by omega, by omega, by omega⟩
theorem ip_SameData {w W : World} {p q : Nat} {aN : ByteArray} {aT aK : Int} {aA : Option Addr} {aL aC : Nat} {aG aX : ByteArray} {aZ : List Int} {bN : ByteArray} {bT bK : Int} {bA : Option Addr} {bL bC : Nat} {bG bX : ByteArray} {bZ : List Int} (h : Pair w W p q aN aT aK aA aL aC aG aX aZ bN bT bK bA bL bC bG bX bZ) (v : Bool) (hv : Hid (Z.sameData (⟨lst aN, aT, aK, aZ, lst aG, lst aX⟩ : Z.Rec) (⟨lst bN, bT, bK, bZ, lst bG, lst bX⟩ : Z.Rec) = v)) :
    Calls Tryz.prog 53 #[.agg #[.string aN, .int .i64 aT, .int .i64 aK, .slice aA aL aC, .string aG, .string aX], .agg #[.string bN, .int .i64 bT, .int .i64 bK, .slice bA bL bC, .string bG, .string bX]] W fun e W' => e = .returned (.bool v) ∧ Below W.heap.size W W' := by
  refine (iSameData_any _ _ _ _ _ _ _ _ aZ W.heap.size _ _ _ _ _ _ _ _ bZ W.heap.size W h.1.2.2.2.1 (Nat.le_refl _) h.1.2.2.2.2.1 h.2.2.2.2.1 (Nat.le_refl _) h.2.2.2.2.2.1).mono ?_
  rintro e W' ⟨rfl, hb⟩
  exact ⟨ret_bool hv.out, hb⟩
theorem ip_RecordSame {w W : World} {p q : Nat} {aN : ByteArray} {aT aK : Int} {aA : Option Addr} {aL aC : Nat} {aG aX : ByteArray} {aZ : List Int} {bN : ByteArray} {bT bK : Int} {bA : Option Addr} {bL bC : Nat} {bG bX : ByteArray} {bZ : List Int} (h : Pair w W p q aN aT aK aA aL aC aG aX aZ bN bT bK bA bL bC bG bX bZ) (v : Bool) (hv : Hid (Z.recSame (⟨lst aN, aT, aK, aZ, lst aG, lst aX⟩ : Z.Rec) (⟨lst bN, bT, bK, bZ, lst bG, lst bX⟩ : Z.Rec) = v)) :
    Calls Tryz.prog 17 #[.agg #[.string aN, .int .i64 aT, .int .i64 aK, .slice aA aL aC, .string aG, .string aX], .agg #[.string bN, .int .i64 bT, .int .i64 bK, .slice bA bL bC, .string bG, .string bX]] W fun e W' => e = .returned (.bool v) ∧ Below W.heap.size W W' := by
  refine (iRecordSame_any _ _ _ _ _ _ _ _ aZ W.heap.size _ _ _ _ _ _ _ _ bZ W.heap.size W h.1.2.2.2.1 (Nat.le_refl _) h.1.2.2.2.2.1 h.2.2.2.2.1 (Nat.le_refl _) h.2.2.2.2.2.1).mono ?_
  rintro e W' ⟨rfl, hb⟩
  exact ⟨ret_bool hv.out, hb⟩
theorem io_RecordValid {w W : World} {p : Nat} {aN : ByteArray} {aT aK : Int} {aA : Option Addr} {aL aC : Nat} {aG aX : ByteArray} {aZ : List Int} (h : One w W p aN aT aK aA aL aC aG aX aZ) (v : Bool) (hv : Hid (Z.recValid (⟨lst aN, aT, aK, aZ, lst aG, lst aX⟩ : Z.Rec) = v)) :
    Calls Tryz.prog 20 #[.agg #[.string aN, .int .i64 aT, .int .i64 aK, .slice aA aL aC, .string aG, .string aX]] W fun e W' => e = .returned (.bool v) ∧ Below W.heap.size W W' := by
  refine (iRecordValid_any _ _ _ _ _ _ _ _ aZ W.heap.size W h.2.2.2.1 (Nat.le_refl _) h.2.2.2.2.1 h.2.2.2.2.2.1 h.2.2.2.2.2.2.1 h.2.2.2.2.2.2.2).mono ?_
  rintro e W' ⟨rfl, hb⟩
  exact ⟨ret_bool hv.out, hb⟩
theorem so_RecordValid {w W : World} {p : Nat} {aN : ByteArray} {aT aK : Int} {aA : Option Addr} {aL aC : Nat} {aG aX : ByteArray} {aZ : List Int} (h : One w W p aN aT aK aA aL aC aG aX aZ) (v : Bool) (hv : Hid (Z.recValid (⟨lst aN, aT, aK, aZ, lst aG, lst aX⟩ : Z.Rec) = v)) :
    Calls Tryz.prog 52 #[.agg #[.string aN, .int .i64 aT, .int .i64 aK, .slice aA aL aC, .string aG, .string aX]] W fun e W' => e = .returned (.bool v) ∧ Below W.heap.size W W' := by
  refine (RecordValid_any _ _ _ _ _ _ _ _ aZ W.heap.size W h.2.2.2.1 (Nat.le_refl _) h.2.2.2.2.1 h.2.2.2.2.2.1 h.2.2.2.2.2.2.1 h.2.2.2.2.2.2.2).mono ?_
  rintro e W' ⟨rfl, hb⟩
  exact ⟨ret_bool hv.out, hb⟩
theorem five_ways {X Y VA VB S : Bool} (t1 : X = true → VA = true ∧ VB = true) (t2 : Y = true → VA = true ∧ VB = true) (t3 : X = true → Y = false) (t5 : VA = true → VB = true → (X || Y) = !S) :
    (X = true ∧ Y = false ∧ VA = true ∧ VB = true ∧ S = false) ∨ (X = false ∧ Y = true ∧ VA = true ∧ VB = true ∧ S = false) ∨ (X = false ∧ Y = false ∧ VA = false) ∨ (X = false ∧ Y = false ∧ VA = true ∧ VB = false) ∨ (X = false ∧ Y = false ∧ VA = true ∧ VB = true ∧ S = true) := by
  cases X <;> cases Y <;> cases VA <;> cases VB <;> cases S <;> simp_all
end Go.Proofs.YtpgeeeamcncpkaaGreatDoor

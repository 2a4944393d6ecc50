/- What the draws of one record and of two records return. What a law knows of the records that it drew, and what the functions of chapter 2 say of them. -/
import Derived.Test.YtlknpipbjdecpaaGreatDoorNd
import Derived.Deep.RegionHeld3
import Derived.Test.YtlknpipbjdecpaaGreatDoorH
import Derived.Test.YtlknpipbjdecpaaGreatDoorIj
import Derived.Test.YtlknpipbjdecpaaGreatDoorSd
namespace Go.Proofs.YtlknpipbjdecpaaGreatDoor
open Go.RowKit
set_option maxRecDepth 100000
set_option linter.unusedVariables false

/-- Some record whose numbers can be read. -/
def RecDrawn (w : World) (e : Ending) (w' : World) : Prop :=
  ∃ (N : ByteArray) (T K : Int) (A : Option Addr) (L c : Nat) (x y : ByteArray) (ns : List Int), e = .returned (.agg #[.string N, .int .i64 T, .int .i64 K, .slice A L c, .string x, .string y]) ∧
    w'.ownsRow w.heap.size 3 1 (.slice A L c) L (ns.map iv) ∧ L ≤ 200 ∧ N.size ≤ 100 ∧ x.size ≤ 100 ∧ y.size ≤ 100 ∧ Below w.heap.size w w'
/-- Some two records whose numbers can be read. -/
def TwoDrawn (w : World) (e : Ending) (w' : World) : Prop :=
  ∃ (aN : ByteArray) (aT aK : Int) (aA : Option Addr) (aL aC : Nat) (aG aX : ByteArray) (aZ : List Int) (bN : ByteArray) (bT bK : Int) (bA : Option Addr) (bL bC : Nat) (bG bX : ByteArray) (bZ : List Int),
    e = .returned (.tuple #[.agg #[.string aN, .int .i64 aT, .int .i64 aK, .slice aA aL aC, .string aG, .string aX], .agg #[.string bN, .int .i64 bT, .int .i64 bK, .slice bA bL bC, .string bG, .string bX]]) ∧
    w'.ownsRow w.heap.size 3 1 (.slice aA aL aC) aL (aZ.map iv) ∧ w'.ownsRow w.heap.size 3 1 (.slice bA bL bC) bL (bZ.map iv) ∧ aL ≤ 200 ∧ bL ≤ 200 ∧ aN.size ≤ 100 ∧ aG.size ≤ 100 ∧ aX.size ≤ 100 ∧ bN.size ≤ 100 ∧ bG.size ≤ 100 ∧ bX.size ≤ 100 ∧ Below w.heap.size w w'
theorem Rd.drew {w : World} {g p : Nat} (h : Rd w g p) : Rd w.drew g p := h
theorem six_reads {w : World} {B n : Nat} {A : Option Addr} {xs : List Value} (h : Reads w B A n xs) {k : Nat} (hk : 0 < n → ∀ ad, A = some ad → ad.block ≠ k) (d0 d1 d2 d3 d4 d5 : Value) :
    Reads ((((((w.setCell ⟨k, 0, none⟩ d0).setCell ⟨k, 1, none⟩ d1).setCell ⟨k, 2, none⟩ d2).setCell ⟨k, 3, none⟩ d3).setCell ⟨k, 4, none⟩ d4).setCell ⟨k, 5, none⟩ d5) B A n xs := by
  refine ⟨h.1, fun hn => ?_⟩
  obtain ⟨ad, e, hb, hc⟩ := h.2 hn
  refine ⟨ad, e, hb, fun j u hu => ?_⟩
  have hne : (ad.add j).block ≠ k := by rw [block_of_add]; exact hk hn ad e
  have step : ∀ (W : World) (o : Nat) (v : Value), (W.setCell ⟨k, o, none⟩ v).cell? (ad.add j) = W.cell? (ad.add j) := fun W o v => World.cell?_setCell_other _ _ _ _ (fun e2 => hne (by rw [← e2]))
  rw [step, step, step, step, step, step]
  exact hc j u hu
theorem six_size (w : World) (k : Nat) (d0 d1 d2 d3 d4 d5 : Value) : ((((((w.setCell ⟨k, 0, none⟩ d0).setCell ⟨k, 1, none⟩ d1).setCell ⟨k, 2, none⟩ d2).setCell ⟨k, 3, none⟩ d3).setCell ⟨k, 4, none⟩ d4).setCell ⟨k, 5, none⟩ d5).heap.size = w.heap.size := by simp [World.setCell]
theorem six_far {w : World} {g k : Nat} {t : TypeId} {cs : List Value} (h : Blk w g t cs) (hk : g ≠ k) (d0 d1 d2 d3 d4 d5 : Value) :
    Blk ((((((w.setCell ⟨k, 0, none⟩ d0).setCell ⟨k, 1, none⟩ d1).setCell ⟨k, 2, none⟩ d2).setCell ⟨k, 3, none⟩ d3).setCell ⟨k, 4, none⟩ d4).setCell ⟨k, 5, none⟩ d5) g t cs :=
  (((((h.far (p := ⟨k, 0, none⟩) hk d0).far (p := ⟨k, 1, none⟩) hk d1).far (p := ⟨k, 2, none⟩) hk d2).far (p := ⟨k, 3, none⟩) hk d3).far (p := ⟨k, 4, none⟩) hk d4).far (p := ⟨k, 5, none⟩) hk d5
theorem ret_case {a : Act} {W : World} {post : Ending → World → Prop} (b : Nat) {c0 c1 c2 c3 c4 c5 : Value} (hp : a.tmps[2]?.getD undef = .pointer (some ⟨b, 0, none⟩)) (hd : a.defers = [])
    (hB : W.cell? ⟨b, 0, none⟩ = some c0 ∧ W.cell? ⟨b, 1, none⟩ = some c1 ∧ W.cell? ⟨b, 2, none⟩ = some c2 ∧ W.cell? ⟨b, 3, none⟩ = some c3 ∧ W.cell? ⟨b, 4, none⟩ = some c4 ∧ W.cell? ⟨b, 5, none⟩ = some c5)
    (h : post (.returned (.agg #[c0, c1, c2, c3, c4, c5])) W) : bodyPost Tryz.prog Tryz.f32 post Exit.ret a W := by
  obtain ⟨h0, h1, h2, h3, h4, h5⟩ := hB
  exact bodyPost_ret (by simp [results, Tryz.results32, go_sem, hp, h0, h1, h2, h3, h4, h5]) hd h
set_option maxHeartbeats 4000000 in
theorem l2Case_any (A : Option Addr) (c : Nat) (zs : List UInt8) (w : World) (hcode : Code w A c zs) :
    Calls Tryz.prog 32 #[.slice A zs.length c] w (RecDrawn w) := by
  go_enter Tryz.func32, Tryz.ntmps32
  go_wp2_with fail
  have hc0 := hcode.below ((Below.refl _ _).alloc (Nat.le_refl _) (.cells #[.string ⟨#[]⟩, .int .i64 0, .int .i64 0, .slice none 0 0, .string ⟨#[]⟩, .string ⟨#[]⟩] 25))
  refine (l13Open_any A c zs _ hc0.1 hc0.2.1 hc0.2.2.1 hc0.2.2.2).mono ?_
  rintro e w1 ⟨rfl, hr1, hb1⟩
  have hz := (Blk.new w 25 [.string ⟨#[]⟩, .int .i64 0, .int .i64 0, .slice none 0 0, .string ⟨#[]⟩, .string ⟨#[]⟩]).next hb1
  have hr : Rd w1 (w.heap.size + 1) 0 := by simpa using hr1
  have hbw : Below w.heap.size w w1 := ((Below.refl _ _).alloc (Nat.le_refl _) _).trans (hb1.mono (by simp))
  have hs1 : w.heap.size + 1 < w1.heap.size := hr.lt
  clear hr1 hb1 hc0
  go_wp2_with fail
  refine (l2Draw_any _ 0 w1 (by simpa using hr) (by omega)).mono ?_
  rintro e w2 ⟨aN, aT, aK, aA, aL, aC, aG, aX, aZ, q, rfl, hown, hL, hN, hx, hy, hq, hr2, hb2⟩
  have hz2 := hz.but hb2 (by omega)
  have hbw2 := hbw.trans (hb2.below (by omega) (by omega))
  have hs2 : w1.heap.size ≤ w2.heap.size := hb2.size
  clear hz hbw hr hb2
  go_wp2_with fail
  refine (l2Wrong_any _ q 99 aN aT aK aA aL aC aG aX aZ _ w2 (by simpa using hr2) (by omega) (Reads.of_own hown) (Nat.le_refl _) (by omega) (by omega) (by omega) hN hx hy).mono ?_
  rintro e w3 ⟨bN, bT, bK, bA, bL, bC, bG, bX, bZ, q3, rfl, hown3, hL3, hN3, hx3, hy3, hq3, hr3, hb3⟩
  have hz3 := hz2.but hb3 (by omega)
  have hbw3 := hbw2.trans (hb3.below (by omega) (by omega))
  obtain ⟨p0, p1, p2, p3, p4, p5⟩ := hz3.cells6
  obtain ⟨f0, f1, f2, f3, f4, f5⟩ := hz3.free6
  have HBW := hid hbw3
  have HO := hid hown3
  have HZ := hid hz3
  clear hbw3 hown3 hz2 hbw2 hown hr2 hr3 hb3 hz3
  go_wp2
  exact ret_case w.heap.size rfl rfl (six_set HZ.out _ _ _ _ _ _).cells6 ⟨bN, bT, bK, bA, bL, bC, bG, bX, bZ, rfl, own_mono (six_own HO.out (by omega) _ _ _ _ _ _) (by omega), by omega, hN3, hx3, hy3, six_below HBW.out (Nat.le_refl _) _ _ _ _ _ _⟩

theorem ret_DrawFormatRecord {a : Act} {W : World} {post : Ending → World → Prop} (b : Nat) {c0 c1 c2 c3 c4 c5 : Value} (hp : a.tmps[2]?.getD undef = .pointer (some ⟨b, 0, none⟩)) (hd : a.defers = [])
    (hB : W.cell? ⟨b, 0, none⟩ = some c0 ∧ W.cell? ⟨b, 1, none⟩ = some c1 ∧ W.cell? ⟨b, 2, none⟩ = some c2 ∧ W.cell? ⟨b, 3, none⟩ = some c3 ∧ W.cell? ⟨b, 4, none⟩ = some c4 ∧ W.cell? ⟨b, 5, none⟩ = some c5)
    (h : post (.returned (.agg #[c0, c1, c2, c3, c4, c5])) W) : bodyPost Tryz.prog Tryz.f8 post Exit.ret a W := by
  obtain ⟨h0, h1, h2, h3, h4, h5⟩ := hB
  exact bodyPost_ret (by simp [results, Tryz.results8, go_sem, hp, h0, h1, h2, h3, h4, h5]) hd h
set_option maxHeartbeats 1000000 in
theorem DrawFormatRecord_any (A : Option Addr) (c : Nat) (zs : List UInt8) (w : World) (hcode : Code w A c zs) :
    Calls Tryz.prog 8 #[.slice A zs.length c] w (RecDrawn w) := by
  go_enter Tryz.func8, Tryz.ntmps8
  go_wp2_with fail
  refine (l2Case_any A c zs _ (hcode.below ((Below.refl _ _).alloc (Nat.le_refl _) (.cells #[.string ⟨#[]⟩, .int .i64 0, .int .i64 0, .slice none 0 0, .string ⟨#[]⟩, .string ⟨#[]⟩] 25)))).mono ?_
  rintro e w1 ⟨bN, bT, bK, bA, bL, bC, bG, bX, bZ, rfl, hrd, hL, hN, hx, hy, hb1⟩
  have hz := (Blk.new w 25 [.string ⟨#[]⟩, .int .i64 0, .int .i64 0, .slice none 0 0, .string ⟨#[]⟩, .string ⟨#[]⟩]).next hb1
  have hbw : Below w.heap.size w w1 := ((Below.refl _ _).alloc (Nat.le_refl _) _).trans (hb1.mono (by simp))
  obtain ⟨p0, p1, p2, p3, p4, p5⟩ := hz.cells6
  obtain ⟨f0, f1, f2, f3, f4, f5⟩ := hz.free6
  have HBW := hid hbw
  have HZ := hid hz
  have HR := hid hrd
  clear hbw hz hrd hb1
  go_wp2
  exact ret_DrawFormatRecord w.heap.size rfl rfl (six_set HZ.out _ _ _ _ _ _).cells6 ⟨bN, bT, bK, bA, bL, bC, bG, bX, bZ, rfl, own_mono (six_own HR.out (by simp) _ _ _ _ _ _) (by simp), hL, hN, hx, hy, six_below HBW.out (Nat.le_refl _) _ _ _ _ _ _⟩

end Go.Proofs.YtlknpipbjdecpaaGreatDoor

namespace Go.Proofs.YtlknpipbjdecpaaGreatDoor
open Go.RowKit
set_option maxRecDepth 100000
set_option linter.unusedVariables false

/-- A record in block p, whose numbers can be read. -/
def One (w W : World) (p : Nat) (aN : ByteArray) (aT aK : Int) (aA : Option Addr) (aL aC : Nat) (aG aX : ByteArray) (aZ : List Int) : Prop :=
  Below w.heap.size w W ∧ w.heap.size ≤ p ∧ Blk W p 25 [.string aN, .int .i64 aT, .int .i64 aK, .slice aA aL aC, .string aG, .string aX] ∧ Reads W W.heap.size aA aL (aZ.map iv) ∧ aL ≤ 67108864 ∧ aN.size ≤ 67108864 ∧ aG.size ≤ 67108864 ∧ aX.size ≤ 67108864
theorem One.next {w W W' : World} {p : Nat} {aN : ByteArray} {aT aK : Int} {aA : Option Addr} {aL aC : Nat} {aG aX : ByteArray} {aZ : List Int} (h : One w W p aN aT aK aA aL aC aG aX aZ) (hb : Below W.heap.size W W') : One w W' p aN aT aK aA aL aC aG aX aZ :=
  ⟨h.1.trans (hb.mono h.1.size), h.2.1, h.2.2.1.next hb, (h.2.2.2.1.below hb (Nat.le_refl _)).more hb.size, h.2.2.2.2⟩
theorem One.cells {w W : World} {p : Nat} {aN : ByteArray} {aT aK : Int} {aA : Option Addr} {aL aC : Nat} {aG aX : ByteArray} {aZ : List Int} (h : One w W p aN aT aK aA aL aC aG aX aZ) : W.cell? ⟨p, 0, none⟩ = some (.string aN) ∧ W.cell? ⟨p, 1, none⟩ = some (.int .i64 aT) ∧ W.cell? ⟨p, 2, none⟩ = some (.int .i64 aK) ∧ W.cell? ⟨p, 3, none⟩ = some (.slice aA aL aC) ∧ W.cell? ⟨p, 4, none⟩ = some (.string aG) ∧ W.cell? ⟨p, 5, none⟩ = some (.string aX) := h.2.2.1.cells6
theorem One.below {w W : World} {p : Nat} {aN : ByteArray} {aT aK : Int} {aA : Option Addr} {aL aC : Nat} {aG aX : ByteArray} {aZ : List Int} (h : One w W p aN aT aK aA aL aC aG aX aZ) : Below w.heap.size w W := h.1
/-- Two records, in blocks p and q. -/
def Pair (w W : World) (p q : Nat) (aN : ByteArray) (aT aK : Int) (aA : Option Addr) (aL aC : Nat) (aG aX : ByteArray) (aZ : List Int) (bN : ByteArray) (bT bK : Int) (bA : Option Addr) (bL bC : Nat) (bG bX : ByteArray) (bZ : List Int) : Prop := One w W p aN aT aK aA aL aC aG aX aZ ∧ One w W q bN bT bK bA bL bC bG bX bZ
theorem Pair.next {w W W' : World} {p q : Nat} {aN : ByteArray} {aT aK : Int} {aA : Option Addr} {aL aC : Nat} {aG aX : ByteArray} {aZ : List Int} {bN : ByteArray} {bT bK : Int} {bA : Option Addr} {bL bC : Nat} {bG bX : ByteArray} {bZ : List Int} (h : Pair w W p q aN aT aK aA aL aC aG aX aZ bN bT bK bA bL bC bG bX bZ) (hb : Below W.heap.size W W') : Pair w W' p q aN aT aK aA aL aC aG aX aZ bN bT bK bA bL bC bG bX bZ := ⟨h.1.next hb, h.2.next hb⟩
theorem Pair.swap {w W : World} {p q : Nat} {aN : ByteArray} {aT aK : Int} {aA : Option Addr} {aL aC : Nat} {aG aX : ByteArray} {aZ : List Int} {bN : ByteArray} {bT bK : Int} {bA : Option Addr} {bL bC : Nat} {bG bX : ByteArray} {bZ : List Int} (h : Pair w W p q aN aT aK aA aL aC aG aX aZ bN bT bK bA bL bC bG bX bZ) : Pair w W q p bN bT bK bA bL bC bG bX bZ aN aT aK aA aL aC aG aX aZ := ⟨h.2, h.1⟩
theorem Pair.a {w W : World} {p q : Nat} {aN : ByteArray} {aT aK : Int} {aA : Option Addr} {aL aC : Nat} {aG aX : ByteArray} {aZ : List Int} {bN : ByteArray} {bT bK : Int} {bA : Option Addr} {bL bC : Nat} {bG bX : ByteArray} {bZ : List Int} (h : Pair w W p q aN aT aK aA aL aC aG aX aZ bN bT bK bA bL bC bG bX bZ) : One w W p aN aT aK aA aL aC aG aX aZ := h.1
theorem Pair.b {w W : World} {p q : Nat} {aN : ByteArray} {aT aK : Int} {aA : Option Addr} {aL aC : Nat} {aG aX : ByteArray} {aZ : List Int} {bN : ByteArray} {bT bK : Int} {bA : Option Addr} {bL bC : Nat} {bG bX : ByteArray} {bZ : List Int} (h : Pair w W p q aN aT aK aA aL aC aG aX aZ bN bT bK bA bL bC bG bX bZ) : One w W q bN bT bK bA bL bC bG bX bZ := h.2
theorem pair_of {w W : World} {p q : Nat} {aN : ByteArray} {aT aK : Int} {aA : Option Addr} {aL aC : Nat} {aG aX : ByteArray} {aZ : List Int} {bN : ByteArray} {bT bK : Int} {bA : Option Addr} {bL bC : Nat} {bG bX : ByteArray} {bZ : List Int} (h : One w W p aN aT aK aA aL aC aG aX aZ) (k : One w W q bN bT bK bA bL bC bG bX bZ) : Pair w W p q aN aT aK aA aL aC aG aX aZ bN bT bK bA bL bC bG bX bZ := ⟨h, k⟩
theorem Pair.same {w W : World} {p : Nat} {aN : ByteArray} {aT aK : Int} {aA : Option Addr} {aL aC : Nat} {aG aX : ByteArray} {aZ : List Int} (h : One w W p aN aT aK aA aL aC aG aX aZ) : Pair w W p p aN aT aK aA aL aC aG aX aZ aN aT aK aA aL aC aG aX aZ := ⟨h, h⟩
/-- The records that were just drawn. -/
theorem pair_new {w w1 : World} {aN : ByteArray} {aT aK : Int} {aA : Option Addr} {aL aC : Nat} {aG aX : ByteArray} {aZ : List Int} {bN : ByteArray} {bT bK : Int} {bA : Option Addr} {bL bC : Nat} {bG bX : ByteArray} {bZ : List Int} {B : Nat} (hb : Below w.heap.size w w1) (hx : w1.ownsRow B 3 1 (.slice aA aL aC) aL (aZ.map iv)) (hy : w1.ownsRow B 3 1 (.slice bA bL bC) bL (bZ.map iv)) (h1 : aL ≤ 200) (h2 : bL ≤ 200) (s1 : aN.size ≤ 100) (s2 : aG.size ≤ 100) (s3 : aX.size ≤ 100) (s4 : bN.size ≤ 100) (s5 : bG.size ≤ 100) (s6 : bX.size ≤ 100) :
    Pair w ((w1.alloc (.cells #[.string aN, .int .i64 aT, .int .i64 aK, .slice aA aL aC, .string aG, .string aX] 25)).alloc (.cells #[.string bN, .int .i64 bT, .int .i64 bK, .slice bA bL bC, .string bG, .string bX] 25)) w1.heap.size (w1.heap.size + 1) aN aT aK aA aL aC aG aX aZ bN bT bK bA bL bC bG bX bZ := by
  have hs := hb.size
  have r1 := (((Reads.of_own hx).alloc (Nat.le_refl _) (.cells #[.string aN, .int .i64 aT, .int .i64 aK, .slice aA aL aC, .string aG, .string aX] 25)).alloc (by simp) (.cells #[.string bN, .int .i64 bT, .int .i64 bK, .slice bA bL bC, .string bG, .string bX] 25)).more (B' := ((w1.alloc (.cells #[.string aN, .int .i64 aT, .int .i64 aK, .slice aA aL aC, .string aG, .string aX] 25)).alloc (.cells #[.string bN, .int .i64 bT, .int .i64 bK, .slice bA bL bC, .string bG, .string bX] 25)).heap.size) (by simp; omega)
  have r2 := (((Reads.of_own hy).alloc (Nat.le_refl _) (.cells #[.string aN, .int .i64 aT, .int .i64 aK, .slice aA aL aC, .string aG, .string aX] 25)).alloc (by simp) (.cells #[.string bN, .int .i64 bT, .int .i64 bK, .slice bA bL bC, .string bG, .string bX] 25)).more (B' := ((w1.alloc (.cells #[.string aN, .int .i64 aT, .int .i64 aK, .slice aA aL aC, .string aG, .string aX] 25)).alloc (.cells #[.string bN, .int .i64 bT, .int .i64 bK, .slice bA bL bC, .string bG, .string bX] 25)).heap.size) (by simp; omega)
  have hbw : Below w.heap.size w ((w1.alloc (.cells #[.string aN, .int .i64 aT, .int .i64 aK, .slice aA aL aC, .string aG, .string aX] 25)).alloc (.cells #[.string bN, .int .i64 bT, .int .i64 bK, .slice bA bL bC, .string bG, .string bX] 25)) := (hb.alloc hs _).alloc (by simp; omega) _
  have b1 := (Blk.new w1 25 [.string aN, .int .i64 aT, .int .i64 aK, .slice aA aL aC, .string aG, .string aX]).alloc (.cells #[.string bN, .int .i64 bT, .int .i64 bK, .slice bA bL bC, .string bG, .string bX] 25)
  have b2 := Blk.new (w1.alloc (.cells #[.string aN, .int .i64 aT, .int .i64 aK, .slice aA aL aC, .string aG, .string aX] 25)) 25 [.string bN, .int .i64 bT, .int .i64 bK, .slice bA bL bC, .string bG, .string bX]
  exact ⟨⟨hbw, hs, b1, r1, by omega, by omega, by omega, by omega⟩, ⟨hbw, by omega, by simpa using b2, r2, by omega, by omega, by omega, by omega⟩⟩
theorem one_copy {w W : World} {p : Nat} {aN : ByteArray} {aT aK : Int} {aA : Option Addr} {aL aC : Nat} {aG aX : ByteArray} {aZ : List Int} (h : One w W p aN aT aK aA aL aC aG aX aZ) (N' : ByteArray) (T' K' : Int) (hN : N'.size ≤ 67108864) :
    One w (W.alloc (.cells #[.string N', .int .i64 T', .int .i64 K', .slice aA aL aC, .string aG, .string aX] 25)) W.heap.size N' T' K' aA aL aC aG aX aZ :=
  ⟨h.1.alloc h.1.size _, h.1.size, Blk.new W 25 [.string N', .int .i64 T', .int .i64 K', .slice aA aL aC, .string aG, .string aX], (h.2.2.2.1.alloc (Nat.le_refl _) _).more (by simp), h.2.2.2.2.1, hN, h.2.2.2.2.2.2.1, h.2.2.2.2.2.2.2⟩
theorem One.alloc {w W : World} {p : Nat} {aN : ByteArray} {aT aK : Int} {aA : Option Addr} {aL aC : Nat} {aG aX : ByteArray} {aZ : List Int} (h : One w W p aN aT aK aA aL aC aG aX aZ) (o : Obj) : One w (W.alloc o) p aN aT aK aA aL aC aG aX aZ := h.next ((Below.refl _ _).alloc (Nat.le_refl _) o)
theorem one_new {w w1 : World} {aN : ByteArray} {aT aK : Int} {aA : Option Addr} {aL aC : Nat} {aG aX : ByteArray} {aZ : List Int} {B : Nat} (hb : Below w.heap.size w w1) (hx : w1.ownsRow B 3 1 (.slice aA aL aC) aL (aZ.map iv)) (h1 : aL ≤ 200) (s1 : aN.size ≤ 100) (s2 : aG.size ≤ 100) (s3 : aX.size ≤ 100) :
    One w (w1.alloc (.cells #[.string aN, .int .i64 aT, .int .i64 aK, .slice aA aL aC, .string aG, .string aX] 25)) w1.heap.size aN aT aK aA aL aC aG aX aZ := by
  have hs := hb.size
  have r1 := ((Reads.of_own hx).alloc (Nat.le_refl _) (.cells #[.string aN, .int .i64 aT, .int .i64 aK, .slice aA aL aC, .string aG, .string aX] 25)).more (B' := (w1.alloc (.cells #[.string aN, .int .i64 aT, .int .i64 aK, .slice aA aL aC, .string aG, .string aX] 25)).heap.size) (by simp)
  exact ⟨hb.alloc hs _, hs, Blk.new w1 25 [.string aN, .int .i64 aT, .int .i64 aK, .slice aA aL aC, .string aG, .string aX], r1, by omega, by omega, by omega, by omega⟩
theorem ip_SameData {w W : World} {p q : Nat} {aN : ByteArray} {aT aK : Int} {aA : Option Addr} {aL aC : Nat} {aG aX : ByteArray} {aZ : List Int} {bN : ByteArray} {bT bK : Int} {bA : Option Addr} {bL bC : Nat} {bG bX : ByteArray} {bZ : List Int} (h : Pair w W p q aN aT aK aA aL aC aG aX aZ bN bT bK bA bL bC bG bX bZ) (v : Bool) (hv : Hid (Z.sameData (⟨lst aN, aT, aK, aZ, lst aG, lst aX⟩ : Z.Rec) (⟨lst bN, bT, bK, bZ, lst bG, lst bX⟩ : Z.Rec) = v)) :
    Calls Tryz.prog 48 #[.agg #[.string aN, .int .i64 aT, .int .i64 aK, .slice aA aL aC, .string aG, .string aX], .agg #[.string bN, .int .i64 bT, .int .i64 bK, .slice bA bL bC, .string bG, .string bX]] W fun e W' => e = .returned (.bool v) ∧ Below W.heap.size W W' := by
  refine (iSameData_any _ _ _ _ _ _ _ _ aZ W.heap.size _ _ _ _ _ _ _ _ bZ W.heap.size W h.1.2.2.2.1 (Nat.le_refl _) h.1.2.2.2.2.1 h.2.2.2.2.1 (Nat.le_refl _) h.2.2.2.2.2.1).mono ?_
  rintro e W' ⟨rfl, hb⟩
  exact ⟨ret_bool hv.out, hb⟩
theorem ip_RecordSame {w W : World} {p q : Nat} {aN : ByteArray} {aT aK : Int} {aA : Option Addr} {aL aC : Nat} {aG aX : ByteArray} {aZ : List Int} {bN : ByteArray} {bT bK : Int} {bA : Option Addr} {bL bC : Nat} {bG bX : ByteArray} {bZ : List Int} (h : Pair w W p q aN aT aK aA aL aC aG aX aZ bN bT bK bA bL bC bG bX bZ) (v : Bool) (hv : Hid (Z.recSame (⟨lst aN, aT, aK, aZ, lst aG, lst aX⟩ : Z.Rec) (⟨lst bN, bT, bK, bZ, lst bG, lst bX⟩ : Z.Rec) = v)) :
    Calls Tryz.prog 14 #[.agg #[.string aN, .int .i64 aT, .int .i64 aK, .slice aA aL aC, .string aG, .string aX], .agg #[.string bN, .int .i64 bT, .int .i64 bK, .slice bA bL bC, .string bG, .string bX]] W fun e W' => e = .returned (.bool v) ∧ Below W.heap.size W W' := by
  refine (iRecordSame_any _ _ _ _ _ _ _ _ aZ W.heap.size _ _ _ _ _ _ _ _ bZ W.heap.size W h.1.2.2.2.1 (Nat.le_refl _) h.1.2.2.2.2.1 h.2.2.2.2.1 (Nat.le_refl _) h.2.2.2.2.2.1).mono ?_
  rintro e W' ⟨rfl, hb⟩
  exact ⟨ret_bool hv.out, hb⟩
theorem io_RecordValid {w W : World} {p : Nat} {aN : ByteArray} {aT aK : Int} {aA : Option Addr} {aL aC : Nat} {aG aX : ByteArray} {aZ : List Int} (h : One w W p aN aT aK aA aL aC aG aX aZ) (v : Bool) (hv : Hid (Z.recValid (⟨lst aN, aT, aK, aZ, lst aG, lst aX⟩ : Z.Rec) = v)) :
    Calls Tryz.prog 11 #[.agg #[.string aN, .int .i64 aT, .int .i64 aK, .slice aA aL aC, .string aG, .string aX]] W fun e W' => e = .returned (.bool v) ∧ Below W.heap.size W W' := by
  refine (iRecordValid_any _ _ _ _ _ _ _ _ aZ W.heap.size W h.2.2.2.1 (Nat.le_refl _) h.2.2.2.2.1 h.2.2.2.2.2.1 h.2.2.2.2.2.2.1 h.2.2.2.2.2.2.2).mono ?_
  rintro e W' ⟨rfl, hb⟩
  exact ⟨ret_bool hv.out, hb⟩
theorem so_RecordValid {w W : World} {p : Nat} {aN : ByteArray} {aT aK : Int} {aA : Option Addr} {aL aC : Nat} {aG aX : ByteArray} {aZ : List Int} (h : One w W p aN aT aK aA aL aC aG aX aZ) (v : Bool) (hv : Hid (Z.recValid (⟨lst aN, aT, aK, aZ, lst aG, lst aX⟩ : Z.Rec) = v)) :
    Calls Tryz.prog 13 #[.agg #[.string aN, .int .i64 aT, .int .i64 aK, .slice aA aL aC, .string aG, .string aX]] W fun e W' => e = .returned (.bool v) ∧ Below W.heap.size W W' := by
  refine (RecordValid_any _ _ _ _ _ _ _ _ aZ W.heap.size W h.2.2.2.1 (Nat.le_refl _) h.2.2.2.2.1 h.2.2.2.2.2.1 h.2.2.2.2.2.2.1 h.2.2.2.2.2.2.2).mono ?_
  rintro e W' ⟨rfl, hb⟩
  exact ⟨ret_bool hv.out, hb⟩
theorem five_ways {X Y VA VB S : Bool} (t1 : X = true → VA = true ∧ VB = true) (t2 : Y = true → VA = true ∧ VB = true) (t3 : X = true → Y = false) (t5 : VA = true → VB = true → (X || Y) = !S) :
    (X = true ∧ Y = false ∧ VA = true ∧ VB = true ∧ S = false) ∨ (X = false ∧ Y = true ∧ VA = true ∧ VB = true ∧ S = false) ∨ (X = false ∧ Y = false ∧ VA = false) ∨ (X = false ∧ Y = false ∧ VA = true ∧ VB = false) ∨ (X = false ∧ Y = false ∧ VA = true ∧ VB = true ∧ S = true) := by
  cases X <;> cases Y <;> cases VA <;> cases VB <;> cases S <;> simp_all
end Go.Proofs.YtlknpipbjdecpaaGreatDoor

/- What the draws of one record and of two records return. -/
import Derived.Test.YtaiijnaockbahaaNd
import Derived.Deep.RegionHeld3
namespace Go.Proofs.Ytaiijnaockbahaa
open Go.RowKit
set_option maxRecDepth 100000
set_option linter.unusedVariables false

/-- Some record whose numbers can be read. -/
def RecDrawn (w : World) (e : Ending) (w' : World) : Prop :=
  ∃ (N : ByteArray) (T K : Int) (A : Option Addr) (L c : Nat) (x y : ByteArray) (ns : List Int), e = .returned (.agg #[.string N, .int .i64 T, .int .i64 K, .slice A L c, .string x, .string y]) ∧
    w'.ownsRow w.heap.size 3 1 (.slice A L c) L (ns.map iv) ∧ L ≤ 200 ∧ N.size ≤ 100 ∧ x.size ≤ 100 ∧ y.size ≤ 100 ∧ Below w.heap.size w w'
/-- Some two records whose numbers can be read. -/
def TwoDrawn (w : World) (e : Ending) (w' : World) : Prop :=
  ∃ (aN : ByteArray) (aT aK : Int) (aA : Option Addr) (aL aC : Nat) (aG aX : ByteArray) (aZ : List Int) (bN : ByteArray) (bT bK : Int) (bA : Option Addr) (bL bC : Nat) (bG bX : ByteArray) (bZ : List Int),
    e = .returned (.tuple #[.agg #[.string aN, .int .i64 aT, .int .i64 aK, .slice aA aL aC, .string aG, .string aX], .agg #[.string bN, .int .i64 bT, .int .i64 bK, .slice bA bL bC, .string bG, .string bX]]) ∧
    w'.ownsRow w.heap.size 3 1 (.slice aA aL aC) aL (aZ.map iv) ∧ w'.ownsRow w.heap.size 3 1 (.slice bA bL bC) bL (bZ.map iv) ∧ aL ≤ 200 ∧ bL ≤ 200 ∧ aN.size ≤ 100 ∧ aG.size ≤ 100 ∧ aX.size ≤ 100 ∧ bN.size ≤ 100 ∧ bG.size ≤ 100 ∧ bX.size ≤ 100 ∧ Below w.heap.size w w'
theorem Rd.drew {w : World} {g p : Nat} (h : Rd w g p) : Rd w.drew g p := h
theorem six_reads {w : World} {B n : Nat} {A : Option Addr} {xs : List Value} (h : Reads w B A n xs) {k : Nat} (hk : 0 < n → ∀ ad, A = some ad → ad.block ≠ k) (d0 d1 d2 d3 d4 d5 : Value) :
    Reads ((((((w.setCell ⟨k, 0, none⟩ d0).setCell ⟨k, 1, none⟩ d1).setCell ⟨k, 2, none⟩ d2).setCell ⟨k, 3, none⟩ d3).setCell ⟨k, 4, none⟩ d4).setCell ⟨k, 5, none⟩ d5) B A n xs := by
  refine ⟨h.1, fun hn => ?_⟩
  obtain ⟨ad, e, hb, hc⟩ := h.2 hn
  refine ⟨ad, e, hb, fun j u hu => ?_⟩
  have hne : (ad.add j).block ≠ k := by rw [block_of_add]; exact hk hn ad e
  have step : ∀ (W : World) (o : Nat) (v : Value), (W.setCell ⟨k, o, none⟩ v).cell? (ad.add j) = W.cell? (ad.add j) := fun W o v => World.cell?_setCell_other _ _ _ _ (fun e2 => hne (by rw [← e2]))
  rw [step, step, step, step, step, step]
  exact hc j u hu
theorem six_size (w : World) (k : Nat) (d0 d1 d2 d3 d4 d5 : Value) : ((((((w.setCell ⟨k, 0, none⟩ d0).setCell ⟨k, 1, none⟩ d1).setCell ⟨k, 2, none⟩ d2).setCell ⟨k, 3, none⟩ d3).setCell ⟨k, 4, none⟩ d4).setCell ⟨k, 5, none⟩ d5).heap.size = w.heap.size := by simp [World.setCell]
theorem six_far {w : World} {g k : Nat} {t : TypeId} {cs : List Value} (h : Blk w g t cs) (hk : g ≠ k) (d0 d1 d2 d3 d4 d5 : Value) :
    Blk ((((((w.setCell ⟨k, 0, none⟩ d0).setCell ⟨k, 1, none⟩ d1).setCell ⟨k, 2, none⟩ d2).setCell ⟨k, 3, none⟩ d3).setCell ⟨k, 4, none⟩ d4).setCell ⟨k, 5, none⟩ d5) g t cs :=
  (((((h.far (p := ⟨k, 0, none⟩) hk d0).far (p := ⟨k, 1, none⟩) hk d1).far (p := ⟨k, 2, none⟩) hk d2).far (p := ⟨k, 3, none⟩) hk d3).far (p := ⟨k, 4, none⟩) hk d4).far (p := ⟨k, 5, none⟩) hk d5
theorem ret_case {a : Act} {W : World} {post : Ending → World → Prop} (b : Nat) {c0 c1 c2 c3 c4 c5 : Value} (hp : a.tmps[2]?.getD undef = .pointer (some ⟨b, 0, none⟩)) (hd : a.defers = [])
    (hB : W.cell? ⟨b, 0, none⟩ = some c0 ∧ W.cell? ⟨b, 1, none⟩ = some c1 ∧ W.cell? ⟨b, 2, none⟩ = some c2 ∧ W.cell? ⟨b, 3, none⟩ = some c3 ∧ W.cell? ⟨b, 4, none⟩ = some c4 ∧ W.cell? ⟨b, 5, none⟩ = some c5)
    (h : post (.returned (.agg #[c0, c1, c2, c3, c4, c5])) W) : bodyPost Try.prog Try.f30 post Exit.ret a W := by
  obtain ⟨h0, h1, h2, h3, h4, h5⟩ := hB
  exact bodyPost_ret (by simp [results, Try.results30, go_sem, hp, h0, h1, h2, h3, h4, h5]) hd h
set_option maxHeartbeats 4000000 in
theorem l2Case_any (A : Option Addr) (c : Nat) (zs : List UInt8) (w : World) (hcode : Code w A c zs) :
    Calls Try.prog 30 #[.slice A zs.length c] w (RecDrawn w) := by
  go_enter Try.func30, Try.ntmps30
  go_wp2_with fail
  have hc0 := hcode.below ((Below.refl _ _).alloc (Nat.le_refl _) (.cells #[.string ⟨#[]⟩, .int .i64 0, .int .i64 0, .slice none 0 0, .string ⟨#[]⟩, .string ⟨#[]⟩] 25))
  refine (l13Open_any A c zs _ hc0.1 hc0.2.1 hc0.2.2.1 hc0.2.2.2).mono ?_
  rintro e w1 ⟨rfl, hr1, hb1⟩
  have hz := (Blk.new w 25 [.string ⟨#[]⟩, .int .i64 0, .int .i64 0, .slice none 0 0, .string ⟨#[]⟩, .string ⟨#[]⟩]).next hb1
  have hr : Rd w1 (w.heap.size + 1) 0 := by simpa using hr1
  have hbw : Below w.heap.size w w1 := ((Below.refl _ _).alloc (Nat.le_refl _) _).trans (hb1.mono (by simp))
  have hs1 : w.heap.size + 1 < w1.heap.size := hr.lt
  clear hr1 hb1 hc0
  go_wp2_with fail
  refine (l2Draw_any _ 0 w1 (by simpa using hr) (by omega)).mono ?_
  rintro e w2 ⟨aN, aT, aK, aA, aL, aC, aG, aX, aZ, q, rfl, hown, hL, hN, hx, hy, hq, hr2, hb2⟩
  have hz2 := hz.but hb2 (by omega)
  have hbw2 := hbw.trans (hb2.below (by omega) (by omega))
  have hs2 : w1.heap.size ≤ w2.heap.size := hb2.size
  clear hz hbw hr hb2
  go_wp2_with fail
  refine (l2Wrong_any _ q 99 aN aT aK aA aL aC aG aX aZ _ w2 (by simpa using hr2) (by omega) (Reads.of_own hown) (Nat.le_refl _) (by omega) (by omega) (by omega) hN hx hy).mono ?_
  rintro e w3 ⟨bN, bT, bK, bA, bL, bC, bG, bX, bZ, q3, rfl, hown3, hL3, hN3, hx3, hy3, hq3, hr3, hb3⟩
  have hz3 := hz2.but hb3 (by omega)
  have hbw3 := hbw2.trans (hb3.below (by omega) (by omega))
  obtain ⟨p0, p1, p2, p3, p4, p5⟩ := hz3.cells6
  obtain ⟨f0, f1, f2, f3, f4, f5⟩ := hz3.free6
  have HBW := hid hbw3
  have HO := hid hown3
  have HZ := hid hz3
  clear hbw3 hown3 hz2 hbw2 hown hr2 hr3 hb3 hz3
  go_wp2
  exact ret_case w.heap.size rfl rfl (six_set HZ.out _ _ _ _ _ _).cells6 ⟨bN, bT, bK, bA, bL, bC, bG, bX, bZ, rfl, own_mono (six_own HO.out (by omega) _ _ _ _ _ _) (by omega), by omega, hN3, hx3, hy3, six_below HBW.out (Nat.le_refl _) _ _ _ _ _ _⟩

theorem ret_DrawRecordValid {a : Act} {W : World} {post : Ending → World → Prop} (b : Nat) {c0 c1 c2 c3 c4 c5 : Value} (hp : a.tmps[2]?.getD undef = .pointer (some ⟨b, 0, none⟩)) (hd : a.defers = [])
    (hB : W.cell? ⟨b, 0, none⟩ = some c0 ∧ W.cell? ⟨b, 1, none⟩ = some c1 ∧ W.cell? ⟨b, 2, none⟩ = some c2 ∧ W.cell? ⟨b, 3, none⟩ = some c3 ∧ W.cell? ⟨b, 4, none⟩ = some c4 ∧ W.cell? ⟨b, 5, none⟩ = some c5)
    (h : post (.returned (.agg #[c0, c1, c2, c3, c4, c5])) W) : bodyPost Try.prog Try.f20 post Exit.ret a W := by
  obtain ⟨h0, h1, h2, h3, h4, h5⟩ := hB
  exact bodyPost_ret (by simp [results, Try.results20, go_sem, hp, h0, h1, h2, h3, h4, h5]) hd h
set_option maxHeartbeats 1000000 in
theorem DrawRecordValid_any (A : Option Addr) (c : Nat) (zs : List UInt8) (w : World) (hcode : Code w A c zs) :
    Calls Try.prog 20 #[.slice A zs.length c] w (RecDrawn w) := by
  go_enter Try.func20, Try.ntmps20
  go_wp2_with fail
  refine (l2Case_any A c zs _ (hcode.below ((Below.refl _ _).alloc (Nat.le_refl _) (.cells #[.string ⟨#[]⟩, .int .i64 0, .int .i64 0, .slice none 0 0, .string ⟨#[]⟩, .string ⟨#[]⟩] 25)))).mono ?_
  rintro e w1 ⟨bN, bT, bK, bA, bL, bC, bG, bX, bZ, rfl, hrd, hL, hN, hx, hy, hb1⟩
  have hz := (Blk.new w 25 [.string ⟨#[]⟩, .int .i64 0, .int .i64 0, .slice none 0 0, .string ⟨#[]⟩, .string ⟨#[]⟩]).next hb1
  have hbw : Below w.heap.size w w1 := ((Below.refl _ _).alloc (Nat.le_refl _) _).trans (hb1.mono (by simp))
  obtain ⟨p0, p1, p2, p3, p4, p5⟩ := hz.cells6
  obtain ⟨f0, f1, f2, f3, f4, f5⟩ := hz.free6
  have HBW := hid hbw
  have HZ := hid hz
  have HR := hid hrd
  clear hbw hz hrd hb1
  go_wp2
  exact ret_DrawRecordValid w.heap.size rfl rfl (six_set HZ.out _ _ _ _ _ _).cells6 ⟨bN, bT, bK, bA, bL, bC, bG, bX, bZ, rfl, own_mono (six_own HR.out (by simp) _ _ _ _ _ _) (by simp), hL, hN, hx, hy, six_below HBW.out (Nat.le_refl _) _ _ _ _ _ _⟩

theorem ret_two {a : Act} {W : World} {post : Ending → World → Prop} (b d : Nat) {c0 c1 c2 c3 c4 c5 d0 d1 d2 d3 d4 d5 : Value} (hp : a.tmps[2]?.getD undef = .pointer (some ⟨b, 0, none⟩)) (hq : a.tmps[3]?.getD undef = .pointer (some ⟨d, 0, none⟩)) (hd : a.defers = [])
    (hB : W.cell? ⟨b, 0, none⟩ = some c0 ∧ W.cell? ⟨b, 1, none⟩ = some c1 ∧ W.cell? ⟨b, 2, none⟩ = some c2 ∧ W.cell? ⟨b, 3, none⟩ = some c3 ∧ W.cell? ⟨b, 4, none⟩ = some c4 ∧ W.cell? ⟨b, 5, none⟩ = some c5)
    (hD : W.cell? ⟨d, 0, none⟩ = some d0 ∧ W.cell? ⟨d, 1, none⟩ = some d1 ∧ W.cell? ⟨d, 2, none⟩ = some d2 ∧ W.cell? ⟨d, 3, none⟩ = some d3 ∧ W.cell? ⟨d, 4, none⟩ = some d4 ∧ W.cell? ⟨d, 5, none⟩ = some d5)
    (h : post (.returned (.tuple #[.agg #[c0, c1, c2, c3, c4, c5], .agg #[d0, d1, d2, d3, d4, d5]])) W) : bodyPost Try.prog Try.f22 post Exit.ret a W := by
  obtain ⟨h0, h1, h2, h3, h4, h5⟩ := hB
  obtain ⟨k0, k1, k2, k3, k4, k5⟩ := hD
  exact bodyPost_ret (by simp [results, Try.results22, go_sem, hp, hq, h0, h1, h2, h3, h4, h5, k0, k1, k2, k3, k4, k5]) hd h
set_option maxHeartbeats 3000000 in
theorem l2Two_any (A : Option Addr) (c : Nat) (zs : List UInt8) (w : World) (hcode : Code w A c zs) :
    Calls Try.prog 22 #[.slice A zs.length c] w (TwoDrawn w) := by
  go_enter Try.func22, Try.ntmps22
  go_wp2_with fail
  have hbx : Below w.heap.size w ((w.alloc (.cells #[.string ⟨#[]⟩, .int .i64 0, .int .i64 0, .slice none 0 0, .string ⟨#[]⟩, .string ⟨#[]⟩] 25)).alloc (.cells #[.string ⟨#[]⟩, .int .i64 0, .int .i64 0, .slice none 0 0, .string ⟨#[]⟩, .string ⟨#[]⟩] 25)) := by go_grown
  have hc0 := hcode.below hbx
  refine (l13Open_any A c zs _ hc0.1 hc0.2.1 hc0.2.2.1 hc0.2.2.2).mono ?_
  rintro e w1 ⟨rfl, hr1, hb1⟩
  have hz := ((Blk.new w 25 [.string ⟨#[]⟩, .int .i64 0, .int .i64 0, .slice none 0 0, .string ⟨#[]⟩, .string ⟨#[]⟩]).alloc (.cells #[.string ⟨#[]⟩, .int .i64 0, .int .i64 0, .slice none 0 0, .string ⟨#[]⟩, .string ⟨#[]⟩] 25)).next hb1
  have hy0 : Blk ((w.alloc (.cells #[.string ⟨#[]⟩, .int .i64 0, .int .i64 0, .slice none 0 0, .string ⟨#[]⟩, .string ⟨#[]⟩] 25)).alloc (.cells #[.string ⟨#[]⟩, .int .i64 0, .int .i64 0, .slice none 0 0, .string ⟨#[]⟩, .string ⟨#[]⟩] 25)) (w.heap.size + 1) 25 [.string ⟨#[]⟩, .int .i64 0, .int .i64 0, .slice none 0 0, .string ⟨#[]⟩, .string ⟨#[]⟩] := by
    have := Blk.new (w.alloc (.cells #[.string ⟨#[]⟩, .int .i64 0, .int .i64 0, .slice none 0 0, .string ⟨#[]⟩, .string ⟨#[]⟩] 25)) 25 [.string ⟨#[]⟩, .int .i64 0, .int .i64 0, .slice none 0 0, .string ⟨#[]⟩, .string ⟨#[]⟩]
    simpa using this
  have hy := hy0.next hb1
  have hr : Rd w1 (w.heap.size + 1 + 1) 0 := by simpa using hr1
  have hbw : Below w.heap.size w w1 := hbx.trans (hb1.mono (by simp; omega))
  have hs1 : w.heap.size + 2 < w1.heap.size := hr.lt
  clear hr1 hb1 hc0 hbx hy0
  go_wp2_with fail
  refine (l2Draw_any _ 0 w1 (by simpa using hr) (by omega)).mono ?_
  rintro e w2 ⟨aN, aT, aK, aA, aL, aC, aG, aX, aZ, q, rfl, hown, hL, hN, hG, hX, hq, hr2, hb2⟩
  have hs2 : w1.heap.size ≤ w2.heap.size := hb2.size
  replace hz := (hz.but hb2 (by omega)).alloc (.cells #[.string aN, .int .i64 aT, .int .i64 aK, .slice aA aL aC, .string aG, .string aX] 25)
  replace hy := (hy.but hb2 (by omega)).alloc (.cells #[.string aN, .int .i64 aT, .int .i64 aK, .slice aA aL aC, .string aG, .string aX] 25)
  have hx : Blk (w2.alloc (.cells #[.string aN, .int .i64 aT, .int .i64 aK, .slice aA aL aC, .string aG, .string aX] 25)) w2.heap.size 25 [.string aN, .int .i64 aT, .int .i64 aK, .slice aA aL aC, .string aG, .string aX] := Blk.new w2 25 [.string aN, .int .i64 aT, .int .i64 aK, .slice aA aL aC, .string aG, .string aX]
  have ho := hown.alloc (.cells #[.string aN, .int .i64 aT, .int .i64 aK, .slice aA aL aC, .string aG, .string aX] 25)
  replace hr := hr2.but ((Below.refl _ _).alloc (Nat.le_refl _) (.cells #[.string aN, .int .i64 aT, .int .i64 aK, .slice aA aL aC, .string aG, .string aX] 25))
  replace hbw := (hbw.trans (hb2.below (by omega) (by omega))).alloc (by omega) (.cells #[.string aN, .int .i64 aT, .int .i64 aK, .slice aA aL aC, .string aG, .string aX] 25)
  clear hr2 hb2 hown
  go_wp2_with fail
  refine (pick_any _ q 2 _ (by exact hr) (by omega) (by omega) (by omega)).mono ?_
  rintro e w3 ⟨i, rfl, hi0, hi1, hr3, hb3⟩
  have hs3 : w2.heap.size < w3.heap.size := by have := hb3.size; simp at this; omega
  replace hz := hz.but hb3 (by omega)
  replace hy := hy.but hb3 (by omega)
  replace hx := hx.but hb3 (by omega)
  replace ho := own_but ho hb3 (by omega)
  replace hbw := hbw.trans (hb3.below (by omega) (by simp; omega))
  replace hr := hr3
  clear hr3 hb3
  obtain ⟨x0, x1, x2, x3, x4, x5⟩ := hx.cells6
  by_cases hi : i = 0
  · subst hi
    go_wp2_with fail
    refine (l2Wrong_any _ (q + 1) 99 aN aT aK aA aL aC aG aX aZ _ w3 (by exact hr) (by omega) (Reads.of_own ho) (Nat.le_refl _) (by omega) (by omega) (by omega) hN hG hX).mono ?_
    rintro e w4 ⟨bN, bT, bK, bA, bL, bC, bG, bX, bZ, q4, rfl, hown4, hL4, hN4, hG4, hX4, hq4, hr4, hb4⟩
    have hs4 := hb4.size
    replace hz := hz.but hb4 (by omega)
    replace hy := hy.but hb4 (by omega)
    replace hbw := hbw.trans (hb4.below (by omega) (by omega))
    clear x0 x1 x2 x3 x4 x5 hx ho hr hb4
    go_wp2_with fail
    refine (l2Draw_any _ q4 w4 (by exact hr4) (by omega)).mono ?_
    rintro e w5 ⟨dN, dT, dK, dA, dL, dC, dG, dX, dZ, q5, rfl, hown5, hL5, hN5, hG5, hX5, hq5, hr5, hb5⟩
    have hs5 := hb5.size
    replace hz := hz.but hb5 (by omega)
    replace hy := hy.but hb5 (by omega)
    replace hown4 := own_but hown4 hb5 (by omega)
    replace hbw := hbw.trans (hb5.below (by omega) (by omega))
    obtain ⟨p0, p1, p2, p3, p4, p5⟩ := hz.cells6
    obtain ⟨f0, f1, f2, f3, f4, f5⟩ := hz.free6
    obtain ⟨r0, r1, r2, r3, r4, r5⟩ := hy.cells6
    obtain ⟨e0, e1, e2, e3, e4, e5⟩ := hy.free6
    have HB := hid hbw
    have HZ := hid hz
    have HY := hid hy
    have HO4 := hid hown4
    have HO5 := hid hown5
    clear hbw hz hy hown4 hown5 hr4 hr5 hb5
    go_wp2
    exact ret_two w.heap.size (w.heap.size + 1) rfl rfl rfl (six_far (six_set HZ.out _ _ _ _ _ _) (by omega) _ _ _ _ _ _).cells6 (six_set (six_far HY.out (by omega) _ _ _ _ _ _) _ _ _ _ _ _).cells6
      ⟨bN, bT, bK, bA, bL, bC, bG, bX, bZ, dN, dT, dK, dA, dL, dC, dG, dX, dZ, rfl, own_mono (six_own (six_own HO4.out (by omega) _ _ _ _ _ _) (by omega) _ _ _ _ _ _) (by omega), own_mono (six_own (six_own HO5.out (by omega) _ _ _ _ _ _) (by omega) _ _ _ _ _ _) (by omega), by omega, by omega, hN4, hG4, hX4, hN5, hG5, hX5,
        six_below (six_below HB.out (by omega) _ _ _ _ _ _) (by omega) _ _ _ _ _ _⟩
  · have hi' : (i == 0) = false := by simpa using hi
    clear hi
    go_wp2_with fail
    go_region_held3 (fun w' => w'.cell? ⟨w2.heap.size, 0, none⟩ = some (.string aN) ∧ w'.cell? ⟨w2.heap.size, 1, none⟩ = some (.int .i64 aT) ∧ w'.cell? ⟨w2.heap.size, 2, none⟩ = some (.int .i64 aK) ∧ w'.cell? ⟨w2.heap.size, 3, none⟩ = some (.slice aA aL aC) ∧ w'.cell? ⟨w2.heap.size, 4, none⟩ = some (.string aG) ∧ w'.cell? ⟨w2.heap.size, 5, none⟩ = some (.string aX))
      (first | with_reducible exact hx.cells6 | with_reducible exact hx.drew.cells6 | with_reducible exact hx4.cells6 | with_reducible exact hx5.cells6 | with_reducible exact hx6.cells6 | with_reducible exact (six_far hx6 (by omega) _ _ _ _ _ _).cells6 | with_reducible exact (six_far (six_far hx6 (by omega) _ _ _ _ _ _) (by omega) _ _ _ _ _ _).cells6 | go_keep)
      (first
        | (go_at_call 38; refine (l2Wrong_any _ q5 99 dN dT dK dA dL dC dG dX dZ _ _ (by first | with_reducible exact hr5 | exact Rd.drew hr5) (by omega) (Reads.of_own (by first | with_reducible exact hown5 | exact World.ownsRow.drew hown5)) (Nat.le_refl _) (by omega) (by omega) (by omega) hN5 hG5 hX5).mono ?_; rintro e w6 ⟨fN, fT, fK, fA, fL, fC, fG, fX, fZ, q6, rfl, hown6, hL6, hN6, hG6, hX6, hq6, hr6, hb6⟩; have hb6' : But (w.heap.size + 1 + 1) w5 w6 := (by first | exact hb6 | exact But.undrew hb6); have hs6 := hb6'.size; have hz6 := hz5.but hb6' (by omega); have hy6 := hy5.but hb6' (by omega); have hx6 := hx5.but hb6' (by omega); have hbw6 := hbw5.trans (hb6'.below (by omega) (by omega)); have hbase6 : w5.heap.size ≤ w6.heap.size := hs6; obtain ⟨p0, p1, p2, p3, p4, p5⟩ := hz6.cells6; obtain ⟨f0, f1, f2, f3, f4, f5⟩ := hz6.free6; obtain ⟨r0, r1, r2, r3, r4, r5⟩ := hy6.cells6; obtain ⟨e0, e1, e2, e3, e4, e5⟩ := hy6.free6)
        | (go_at_call 38; refine (l2Wrong_any _ q4 98 bN bT bK bA bL bC bG bX bZ _ _ (by first | with_reducible exact hr4 | exact Rd.drew hr4) (by omega) (Reads.of_own (by first | with_reducible exact hown4 | exact World.ownsRow.drew hown4)) (Nat.le_refl _) (by omega) (by omega) (by omega) hN4 hG4 hX4).mono ?_; rintro e w5 ⟨dN, dT, dK, dA, dL, dC, dG, dX, dZ, q5, rfl, hown5, hL5, hN5, hG5, hX5, hq5, hr5, hb5⟩; have hb5' : But (w.heap.size + 1 + 1) w4 w5 := (by first | exact hb5 | exact But.undrew hb5); have hs5 := hb5'.size; have hz5 := hz4.but hb5' (by omega); have hy5 := hy4.but hb5' (by omega); have hx5 := hx4.but hb5' (by omega); have hbw5 := hbw4.trans (hb5'.below (by omega) (by omega)); have hbase5 : w4.heap.size ≤ w5.heap.size := hs5)
        | (go_at_call 38; refine (l2Wrong_any _ (q + 1) 97 aN aT aK aA aL aC aG aX aZ _ _ (by first | with_reducible exact hr | exact Rd.drew hr) (by omega) (Reads.of_own (by first | with_reducible exact ho | exact World.ownsRow.drew ho)) (Nat.le_refl _) (by omega) (by omega) (by omega) hN hG hX).mono ?_; rintro e w4 ⟨bN, bT, bK, bA, bL, bC, bG, bX, bZ, q4, rfl, hown4, hL4, hN4, hG4, hX4, hq4, hr4, hb4⟩; have hb4' : But (w.heap.size + 1 + 1) w3 w4 := (by first | exact hb4 | exact But.undrew hb4); have hs4 := hb4'.size; have hz4 := hz.but hb4' (by omega); have hy4 := hy.but hb4' (by omega); have hx4 := hx.but hb4' (by omega); have hbw4 := hbw.trans (hb4'.below (by omega) (by omega)); have hbase4 : w3.heap.size ≤ w4.heap.size := hs4))
    have hoa := own_but (own_but (own_but ho hb4' (by omega)) hb5' (by omega)) hb6' (by omega)
    have HB := hid hbw6
    have HZ := hid hz6
    have HY := hid hy6
    have HOA := hid hoa
    have HO6 := hid hown6
    clear hbw6 hz6 hy6 hoa hown6 hbw hz hy hx ho hr hbw4 hbw5 hz4 hz5 hy4 hy5 hx4 hx5 hx6 hr4 hr5 hr6 hb4 hb5 hb6 hb4' hb5' hb6' hown4 hown5
    go_wp2
    exact ret_two w.heap.size (w.heap.size + 1) rfl rfl rfl (six_far (six_set HZ.out _ _ _ _ _ _) (by omega) _ _ _ _ _ _).cells6 (six_set (six_far HY.out (by omega) _ _ _ _ _ _) _ _ _ _ _ _).cells6
      ⟨aN, aT, aK, aA, aL, aC, aG, aX, aZ, fN, fT, fK, fA, fL, fC, fG, fX, fZ, rfl, own_mono (six_own (six_own HOA.out (by omega) _ _ _ _ _ _) (by omega) _ _ _ _ _ _) (by omega), own_mono (six_own (six_own HO6.out (by omega) _ _ _ _ _ _) (by omega) _ _ _ _ _ _) (by omega), by omega, by omega, hN, hG, hX, hN6, hG6, hX6,
        six_below (six_below HB.out (by omega) _ _ _ _ _ _) (by omega) _ _ _ _ _ _⟩

theorem ret_DrawRecordBefore {a : Act} {W : World} {post : Ending → World → Prop} (b d : Nat) {c0 c1 c2 c3 c4 c5 d0 d1 d2 d3 d4 d5 : Value} (hp : a.tmps[2]?.getD undef = .pointer (some ⟨b, 0, none⟩)) (hq : a.tmps[3]?.getD undef = .pointer (some ⟨d, 0, none⟩)) (hd : a.defers = [])
    (hB : W.cell? ⟨b, 0, none⟩ = some c0 ∧ W.cell? ⟨b, 1, none⟩ = some c1 ∧ W.cell? ⟨b, 2, none⟩ = some c2 ∧ W.cell? ⟨b, 3, none⟩ = some c3 ∧ W.cell? ⟨b, 4, none⟩ = some c4 ∧ W.cell? ⟨b, 5, none⟩ = some c5)
    (hD : W.cell? ⟨d, 0, none⟩ = some d0 ∧ W.cell? ⟨d, 1, none⟩ = some d1 ∧ W.cell? ⟨d, 2, none⟩ = some d2 ∧ W.cell? ⟨d, 3, none⟩ = some d3 ∧ W.cell? ⟨d, 4, none⟩ = some d4 ∧ W.cell? ⟨d, 5, none⟩ = some d5)
    (h : post (.returned (.tuple #[.agg #[c0, c1, c2, c3, c4, c5], .agg #[d0, d1, d2, d3, d4, d5]])) W) : bodyPost Try.prog Try.f10 post Exit.ret a W := by
  obtain ⟨h0, h1, h2, h3, h4, h5⟩ := hB
  obtain ⟨k0, k1, k2, k3, k4, k5⟩ := hD
  exact bodyPost_ret (by simp [results, Try.results10, go_sem, hp, hq, h0, h1, h2, h3, h4, h5, k0, k1, k2, k3, k4, k5]) hd h
set_option maxHeartbeats 2000000 in
theorem DrawRecordBefore_any (A : Option Addr) (c : Nat) (zs : List UInt8) (w : World) (hcode : Code w A c zs) :
    Calls Try.prog 10 #[.slice A zs.length c] w (TwoDrawn w) := by
  go_enter Try.func10, Try.ntmps10
  go_wp2_with fail
  have hbx : Below w.heap.size w ((w.alloc (.cells #[.string ⟨#[]⟩, .int .i64 0, .int .i64 0, .slice none 0 0, .string ⟨#[]⟩, .string ⟨#[]⟩] 25)).alloc (.cells #[.string ⟨#[]⟩, .int .i64 0, .int .i64 0, .slice none 0 0, .string ⟨#[]⟩, .string ⟨#[]⟩] 25)) := by go_grown
  refine (l2Two_any A c zs _ (hcode.below hbx)).mono ?_
  rintro e w1 ⟨aN, aT, aK, aA, aL, aC, aG, aX, aZ, bN, bT, bK, bA, bL, bC, bG, bX, bZ, rfl, hown, hown2, hL, hL2, hN, hG, hX, hN2, hG2, hX2, hb1⟩
  have hz := ((Blk.new w 25 [.string ⟨#[]⟩, .int .i64 0, .int .i64 0, .slice none 0 0, .string ⟨#[]⟩, .string ⟨#[]⟩]).alloc (.cells #[.string ⟨#[]⟩, .int .i64 0, .int .i64 0, .slice none 0 0, .string ⟨#[]⟩, .string ⟨#[]⟩] 25)).next hb1
  have hy0 : Blk ((w.alloc (.cells #[.string ⟨#[]⟩, .int .i64 0, .int .i64 0, .slice none 0 0, .string ⟨#[]⟩, .string ⟨#[]⟩] 25)).alloc (.cells #[.string ⟨#[]⟩, .int .i64 0, .int .i64 0, .slice none 0 0, .string ⟨#[]⟩, .string ⟨#[]⟩] 25)) (w.heap.size + 1) 25 [.string ⟨#[]⟩, .int .i64 0, .int .i64 0, .slice none 0 0, .string ⟨#[]⟩, .string ⟨#[]⟩] := by
    have := Blk.new (w.alloc (.cells #[.string ⟨#[]⟩, .int .i64 0, .int .i64 0, .slice none 0 0, .string ⟨#[]⟩, .string ⟨#[]⟩] 25)) 25 [.string ⟨#[]⟩, .int .i64 0, .int .i64 0, .slice none 0 0, .string ⟨#[]⟩, .string ⟨#[]⟩]
    simpa using this
  have hy := hy0.next hb1
  have hbw := hbx.trans (hb1.mono (by simp; omega))
  obtain ⟨p0, p1, p2, p3, p4, p5⟩ := hz.cells6
  obtain ⟨f0, f1, f2, f3, f4, f5⟩ := hz.free6
  obtain ⟨r0, r1, r2, r3, r4, r5⟩ := hy.cells6
  obtain ⟨e0, e1, e2, e3, e4, e5⟩ := hy.free6
  have HB := hid hbw
  have HZ := hid hz
  have HY := hid hy
  have HO := hid hown
  have HO2 := hid hown2
  clear hbw hz hy hy0 hbx hb1 hown hown2
  go_wp2
  exact ret_DrawRecordBefore w.heap.size (w.heap.size + 1) rfl rfl rfl (six_far (six_set HZ.out _ _ _ _ _ _) (by omega) _ _ _ _ _ _).cells6 (six_set (six_far HY.out (by omega) _ _ _ _ _ _) _ _ _ _ _ _).cells6
    ⟨aN, aT, aK, aA, aL, aC, aG, aX, aZ, bN, bT, bK, bA, bL, bC, bG, bX, bZ, rfl, own_mono (six_own (six_own HO.out (by simp; try omega) _ _ _ _ _ _) (by simp; try omega) _ _ _ _ _ _) (by simp; try omega), own_mono (six_own (six_own HO2.out (by simp; try omega) _ _ _ _ _ _) (by simp; try omega) _ _ _ _ _ _) (by simp; try omega), hL, hL2, hN, hG, hX, hN2, hG2, hX2,
      six_below (six_below HB.out (by omega) _ _ _ _ _ _) (by omega) _ _ _ _ _ _⟩

theorem ret_DrawSameData {a : Act} {W : World} {post : Ending → World → Prop} (b d : Nat) {c0 c1 c2 c3 c4 c5 d0 d1 d2 d3 d4 d5 : Value} (hp : a.tmps[2]?.getD undef = .pointer (some ⟨b, 0, none⟩)) (hq : a.tmps[3]?.getD undef = .pointer (some ⟨d, 0, none⟩)) (hd : a.defers = [])
    (hB : W.cell? ⟨b, 0, none⟩ = some c0 ∧ W.cell? ⟨b, 1, none⟩ = some c1 ∧ W.cell? ⟨b, 2, none⟩ = some c2 ∧ W.cell? ⟨b, 3, none⟩ = some c3 ∧ W.cell? ⟨b, 4, none⟩ = some c4 ∧ W.cell? ⟨b, 5, none⟩ = some c5)
    (hD : W.cell? ⟨d, 0, none⟩ = some d0 ∧ W.cell? ⟨d, 1, none⟩ = some d1 ∧ W.cell? ⟨d, 2, none⟩ = some d2 ∧ W.cell? ⟨d, 3, none⟩ = some d3 ∧ W.cell? ⟨d, 4, none⟩ = some d4 ∧ W.cell? ⟨d, 5, none⟩ = some d5)
    (h : post (.returned (.tuple #[.agg #[c0, c1, c2, c3, c4, c5], .agg #[d0, d1, d2, d3, d4, d5]])) W) : bodyPost Try.prog Try.f16 post Exit.ret a W := by
  obtain ⟨h0, h1, h2, h3, h4, h5⟩ := hB
  obtain ⟨k0, k1, k2, k3, k4, k5⟩ := hD
  exact bodyPost_ret (by simp [results, Try.results16, go_sem, hp, hq, h0, h1, h2, h3, h4, h5, k0, k1, k2, k3, k4, k5]) hd h
set_option maxHeartbeats 2000000 in
theorem DrawSameData_any (A : Option Addr) (c : Nat) (zs : List UInt8) (w : World) (hcode : Code w A c zs) :
    Calls Try.prog 16 #[.slice A zs.length c] w (TwoDrawn w) := by
  go_enter Try.func16, Try.ntmps16
  go_wp2_with fail
  have hbx : Below w.heap.size w ((w.alloc (.cells #[.string ⟨#[]⟩, .int .i64 0, .int .i64 0, .slice none 0 0, .string ⟨#[]⟩, .string ⟨#[]⟩] 25)).alloc (.cells #[.string ⟨#[]⟩, .int .i64 0, .int .i64 0, .slice none 0 0, .string ⟨#[]⟩, .string ⟨#[]⟩] 25)) := by go_grown
  refine (l2Two_any A c zs _ (hcode.below hbx)).mono ?_
  rintro e w1 ⟨aN, aT, aK, aA, aL, aC, aG, aX, aZ, bN, bT, bK, bA, bL, bC, bG, bX, bZ, rfl, hown, hown2, hL, hL2, hN, hG, hX, hN2, hG2, hX2, hb1⟩
  have hz := ((Blk.new w 25 [.string ⟨#[]⟩, .int .i64 0, .int .i64 0, .slice none 0 0, .string ⟨#[]⟩, .string ⟨#[]⟩]).alloc (.cells #[.string ⟨#[]⟩, .int .i64 0, .int .i64 0, .slice none 0 0, .string ⟨#[]⟩, .string ⟨#[]⟩] 25)).next hb1
  have hy0 : Blk ((w.alloc (.cells #[.string ⟨#[]⟩, .int .i64 0, .int .i64 0, .slice none 0 0, .string ⟨#[]⟩, .string ⟨#[]⟩] 25)).alloc (.cells #[.string ⟨#[]⟩, .int .i64 0, .int .i64 0, .slice none 0 0, .string ⟨#[]⟩, .string ⟨#[]⟩] 25)) (w.heap.size + 1) 25 [.string ⟨#[]⟩, .int .i64 0, .int .i64 0, .slice none 0 0, .string ⟨#[]⟩, .string ⟨#[]⟩] := by
    have := Blk.new (w.alloc (.cells #[.string ⟨#[]⟩, .int .i64 0, .int .i64 0, .slice none 0 0, .string ⟨#[]⟩, .string ⟨#[]⟩] 25)) 25 [.string ⟨#[]⟩, .int .i64 0, .int .i64 0, .slice none 0 0, .string ⟨#[]⟩, .string ⟨#[]⟩]
    simpa using this
  have hy := hy0.next hb1
  have hbw := hbx.trans (hb1.mono (by simp; omega))
  obtain ⟨p0, p1, p2, p3, p4, p5⟩ := hz.cells6
  obtain ⟨f0, f1, f2, f3, f4, f5⟩ := hz.free6
  obtain ⟨r0, r1, r2, r3, r4, r5⟩ := hy.cells6
  obtain ⟨e0, e1, e2, e3, e4, e5⟩ := hy.free6
  have HB := hid hbw
  have HZ := hid hz
  have HY := hid hy
  have HO := hid hown
  have HO2 := hid hown2
  clear hbw hz hy hy0 hbx hb1 hown hown2
  go_wp2
  exact ret_DrawSameData w.heap.size (w.heap.size + 1) rfl rfl rfl (six_far (six_set HZ.out _ _ _ _ _ _) (by omega) _ _ _ _ _ _).cells6 (six_set (six_far HY.out (by omega) _ _ _ _ _ _) _ _ _ _ _ _).cells6
    ⟨aN, aT, aK, aA, aL, aC, aG, aX, aZ, bN, bT, bK, bA, bL, bC, bG, bX, bZ, rfl, own_mono (six_own (six_own HO.out (by simp; try omega) _ _ _ _ _ _) (by simp; try omega) _ _ _ _ _ _) (by simp; try omega), own_mono (six_own (six_own HO2.out (by simp; try omega) _ _ _ _ _ _) (by simp; try omega) _ _ _ _ _ _) (by simp; try omega), hL, hL2, hN, hG, hX, hN2, hG2, hX2,
      six_below (six_below HB.out (by omega) _ _ _ _ _ _) (by omega) _ _ _ _ _ _⟩

end Go.Proofs.Ytaiijnaockbahaa

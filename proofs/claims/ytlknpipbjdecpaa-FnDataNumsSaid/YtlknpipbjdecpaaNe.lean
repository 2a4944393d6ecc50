/- What the draws of one record and of two records return. What a law knows of the records that it drew, and what the functions of chapter 2 say of them. -/
import Derived.Test.YtlknpipbjdecpaaNd
import Derived.Deep.RegionHeld3
import Derived.Test.YtlknpipbjdecpaaH
import Derived.Test.YtlknpipbjdecpaaIj
import Derived.Test.YtlknpipbjdecpaaSd
namespace Go.Proofs.Ytlknpipbjdecpaa
open Go.RowKit
set_option maxRecDepth 100000
set_option linter.unusedVariables false

/-- Some record whose numbers can be read. -/
def RecDrawn (w : World) (e : Ending) (w' : World) : Prop :=
  ∃ (N : ByteArray) (T K : Int) (A : Option Addr) (L c : Nat) (x y : ByteArray) (ns : List Int), e = .returned (.agg #[.string N, .int .i64 T, .int .i64 K, .slice A L c, .string x, .string y]) ∧
    w'.ownsRow w.heap.size 3 1 (.slice A L c) L (ns.map iv) ∧ L ≤ 200 ∧ N.size ≤ 100 ∧ x.size ≤ 100 ∧ y.size ≤ 100 ∧ Below w.heap.size w w'
/-- Some two records whose numbers can be read. -/
def TwoDrawn (w : World) (e : Ending) (w' : World) : Prop :=
  ∃ (aN : ByteArray) (aT aK : Int) (aA : Option Addr) (aL aC : Nat) (aG aX : ByteArray) (aZ : List Int) (bN : ByteArray) (bT bK : Int) (bA : Option Addr) (bL bC : Nat) (bG bX : ByteArray) (bZ : List Int),
    e = .returned (.tuple #[.agg #[.string aN, .int .i64 aT, .int .i64 aK, .slice aA aL aC, .string aG, .string aX], .agg #[.string bN, .int .i64 bT, .int .i64 bK, .slice bA bL bC, .string bG, .string bX]]) ∧
    w'.ownsRow w.heap.size 3 1 (.slice aA aL aC) aL (aZ.map iv) ∧ w'.ownsRow w.heap.size 3 1 (.slice bA bL bC) bL (bZ.map iv) ∧ aL ≤ 200 ∧ bL ≤ 200 ∧ aN.size ≤ 100 ∧ aG.size ≤ 100 ∧ aX.size ≤ 100 ∧ bN.size ≤ 100 ∧ bG.size ≤ 100 ∧ bX.size ≤ 100 ∧ Below w.heap.size w w'
theorem Rd.drew {w : World} {g p : Nat} (h : Rd w g p) : Rd w.drew g p := h
theorem six_reads {w : World} {B n : Nat} {A : Option Addr} {xs : List Value} (h : Reads w B A n xs) {k : Nat} (hk : 0 < n → ∀ ad, A = some ad → ad.block ≠ k) (d0 d1 d2 d3 d4 d5 : Value) :
    Reads ((((((w.setCell ⟨k, 0, none⟩ d0).setCell ⟨k, 1, none⟩ d1).setCell ⟨k, 2, none⟩ d2).setCell ⟨k, 3, none⟩ d3).setCell ⟨k, 4, none⟩ d4).setCell ⟨k, 5, none⟩ d5) B A n xs := by
  refine ⟨h.1, fun hn => ?_⟩
  obtain ⟨ad, e, hb, hc⟩ := h.2 hn
  refine ⟨ad, e, hb, fun j u hu => ?_⟩
  have hne : (ad.add j).block ≠ k := by rw [block_of_add]; exact hk hn ad e
  have step : ∀ (W : World) (o : Nat) (v : Value), (W.setCell ⟨k, o, none⟩ v).cell? (ad.add j) = W.cell? (ad.add j) := fun W o v => World.cell?_setCell_other _ _ _ _ (fun e2 => hne (by rw [← e2]))
  rw [step, step, step, step, step, step]
  exact hc j u hu
theorem six_size (w : World) (k : Nat) (d0 d1 d2 d3 d4 d5 : Value) : ((((((w.setCell ⟨k, 0, none⟩ d0).setCell ⟨k, 1, none⟩ d1).setCell ⟨k, 2, none⟩ d2).setCell ⟨k, 3, none⟩ d3).setCell ⟨k, 4, none⟩ d4).setCell ⟨k, 5, none⟩ d5).heap.size = w.heap.size := by simp [World.setCell]
theorem six_far {w : World} {g k : Nat} {t : TypeId} {cs : List Value} (h : Blk w g t cs) (hk : g ≠ k) (d0 d1 d2 d3 d4 d5 : Value) :
    Blk ((((((w.setCell ⟨k, 0, none⟩ d0).setCell ⟨k, 1, none⟩ d1).setCell ⟨k, 2, none⟩ d2).setCell ⟨k, 3, none⟩ d3).setCell ⟨k, 4, none⟩ d4).setCell ⟨k, 5, none⟩ d5) g t cs :=
  (((((h.far (p := ⟨k, 0, none⟩) hk d0).far (p := ⟨k, 1, none⟩) hk d1).far (p := ⟨k, 2, none⟩) hk d2).far (p := ⟨k, 3, none⟩) hk d3).far (p := ⟨k, 4, none⟩) hk d4).far (p := ⟨k, 5, none⟩) hk d5
theorem ret_two {a : Act} {W : World} {post : Ending → World → Prop} (b d : Nat) {c0 c1 c2 c3 c4 c5 d0 d1 d2 d3 d4 d5 : Value} (hp : a.tmps[2]?.getD undef = .pointer (some ⟨b, 0, none⟩)) (hq : a.tmps[3]?.getD undef = .pointer (some ⟨d, 0, none⟩)) (hd : a.defers = [])
    (hB : W.cell? ⟨b, 0, none⟩ = some c0 ∧ W.cell? ⟨b, 1, none⟩ = some c1 ∧ W.cell? ⟨b, 2, none⟩ = some c2 ∧ W.cell? ⟨b, 3, none⟩ = some c3 ∧ W.cell? ⟨b, 4, none⟩ = some c4 ∧ W.cell? ⟨b, 5, none⟩ = some c5)
    (hD : W.cell? ⟨d, 0, none⟩ = some d0 ∧ W.cell? ⟨d, 1, none⟩ = some d1 ∧ W.cell? ⟨d, 2, none⟩ = some d2 ∧ W.cell? ⟨d, 3, none⟩ = some d3 ∧ W.cell? ⟨d, 4, none⟩ = some d4 ∧ W.cell? ⟨d, 5, none⟩ = some d5)
    (h : post (.returned (.tuple #[.agg #[c0, c1, c2, c3, c4, c5], .agg #[d0, d1, d2, d3, d4, d5]])) W) : bodyPost Try.prog Try.f26 post Exit.ret a W := by
  obtain ⟨h0, h1, h2, h3, h4, h5⟩ := hB
  obtain ⟨k0, k1, k2, k3, k4, k5⟩ := hD
  exact bodyPost_ret (by simp [results, Try.results26, go_sem, hp, hq, h0, h1, h2, h3, h4, h5, k0, k1, k2, k3, k4, k5]) hd h
set_option maxHeartbeats 3000000 in
theorem l2Two_any (A : Option Addr) (c : Nat) (zs : List UInt8) (w : World) (hcode : Code w A c zs) :
    Calls Try.prog 26 #[.slice A zs.length c] w (TwoDrawn w) := by
  go_enter Try.func26, Try.ntmps26
  go_wp2_with fail
  have hbx : Below w.heap.size w ((w.alloc (.cells #[.string ⟨#[]⟩, .int .i64 0, .int .i64 0, .slice none 0 0, .string ⟨#[]⟩, .string ⟨#[]⟩] 25)).alloc (.cells #[.string ⟨#[]⟩, .int .i64 0, .int .i64 0, .slice none 0 0, .string ⟨#[]⟩, .string ⟨#[]⟩] 25)) := by go_grown
  have hc0 := hcode.below hbx
  refine (l13Open_any A c zs _ hc0.1 hc0.2.1 hc0.2.2.1 hc0.2.2.2).mono ?_
  rintro e w1 ⟨rfl, hr1, hb1⟩
  have hz := ((Blk.new w 25 [.string ⟨#[]⟩, .int .i64 0, .int .i64 0, .slice none 0 0, .string ⟨#[]⟩, .string ⟨#[]⟩]).alloc (.cells #[.string ⟨#[]⟩, .int .i64 0, .int .i64 0, .slice none 0 0, .string ⟨#[]⟩, .string ⟨#[]⟩] 25)).next hb1
  have hy0 : Blk ((w.alloc (.cells #[.string ⟨#[]⟩, .int .i64 0, .int .i64 0, .slice none 0 0, .string ⟨#[]⟩, .string ⟨#[]⟩] 25)).alloc (.cells #[.string ⟨#[]⟩, .int .i64 0, .int .i64 0, .slice none 0 0, .string ⟨#[]⟩, .string ⟨#[]⟩] 25)) (w.heap.size + 1) 25 [.string ⟨#[]⟩, .int .i64 0, .int .i64 0, .slice none 0 0, .string ⟨#[]⟩, .string ⟨#[]⟩] := by
    have := Blk.new (w.alloc (.cells #[.string ⟨#[]⟩, .int .i64 0, .int .i64 0, .slice none 0 0, .string ⟨#[]⟩, .string ⟨#[]⟩] 25)) 25 [.string ⟨#[]⟩, .int .i64 0, .int .i64 0, .slice none 0 0, .string ⟨#[]⟩, .string ⟨#[]⟩]
    simpa using this
  have hy := hy0.next hb1
  have hr : Rd w1 (w.heap.size + 1 + 1) 0 := by simpa using hr1
  have hbw : Below w.heap.size w w1 := hbx.trans (hb1.mono (by simp; omega))
  have hs1 : w.heap.size + 2 < w1.heap.size := hr.lt
  clear hr1 hb1 hc0 hbx hy0
  go_wp2_with fail
  refine (l2Draw_any _ 0 w1 (by simpa using hr) (by omega)).mono ?_
  rintro e w2 ⟨aN, aT, aK, aA, aL, aC, aG, aX, aZ, q, rfl, hown, hL, hN, hG, hX, hq, hr2, hb2⟩
  have hs2 : w1.heap.size ≤ w2.heap.size := hb2.size
  replace hz := (hz.but hb2 (by omega)).alloc (.cells #[.string aN, .int .i64 aT, .int .i64 aK, .slice aA aL aC, .string aG, .string aX] 25)
  replace hy := (hy.but hb2 (by omega)).alloc (.cells #[.string aN, .int .i64 aT, .int .i64 aK, .slice aA aL aC, .string aG, .string aX] 25)
  have hx : Blk (w2.alloc (.cells #[.string aN, .int .i64 aT, .int .i64 aK, .slice aA aL aC, .string aG, .string aX] 25)) w2.heap.size 25 [.string aN, .int .i64 aT, .int .i64 aK, .slice aA aL aC, .string aG, .string aX] := Blk.new w2 25 [.string aN, .int .i64 aT, .int .i64 aK, .slice aA aL aC, .string aG, .string aX]
  have ho := hown.alloc (.cells #[.string aN, .int .i64 aT, .int .i64 aK, .slice aA aL aC, .string aG, .string aX] 25)
  replace hr := hr2.but ((Below.refl _ _).alloc (Nat.le_refl _) (.cells #[.string aN, .int .i64 aT, .int .i64 aK, .slice aA aL aC, .string aG, .string aX] 25))
  replace hbw := (hbw.trans (hb2.below (by omega) (by omega))).alloc (by omega) (.cells #[.string aN, .int .i64 aT, .int .i64 aK, .slice aA aL aC, .string aG, .string aX] 25)
  clear hr2 hb2 hown
  go_wp2_with fail
  refine (pick_any _ q 2 _ (by exact hr) (by omega) (by omega) (by omega)).mono ?_
  rintro e w3 ⟨i, rfl, hi0, hi1, hr3, hb3⟩
  have hs3 : w2.heap.size < w3.heap.size := by have := hb3.size; simp at this; omega
  replace hz := hz.but hb3 (by omega)
  replace hy := hy.but hb3 (by omega)
  replace hx := hx.but hb3 (by omega)
  replace ho := own_but ho hb3 (by omega)
  replace hbw := hbw.trans (hb3.below (by omega) (by simp; omega))
  replace hr := hr3
  clear hr3 hb3
  obtain ⟨x0, x1, x2, x3, x4, x5⟩ := hx.cells6
  by_cases hi : i = 0
  · subst hi
    go_wp2_with fail
    refine (l2Wrong_any _ (q + 1) 99 aN aT aK aA aL aC aG aX aZ _ w3 (by exact hr) (by omega) (Reads.of_own ho) (Nat.le_refl _) (by omega) (by omega) (by omega) hN hG hX).mono ?_
    rintro e w4 ⟨bN, bT, bK, bA, bL, bC, bG, bX, bZ, q4, rfl, hown4, hL4, hN4, hG4, hX4, hq4, hr4, hb4⟩
    have hs4 := hb4.size
    replace hz := hz.but hb4 (by omega)
    replace hy := hy.but hb4 (by omega)
    replace hbw := hbw.trans (hb4.below (by omega) (by omega))
    clear x0 x1 x2 x3 x4 x5 hx ho hr hb4
    go_wp2_with fail
    refine (l2Draw_any _ q4 w4 (by exact hr4) (by omega)).mono ?_
    rintro e w5 ⟨dN, dT, dK, dA, dL, dC, dG, dX, dZ, q5, rfl, hown5, hL5, hN5, hG5, hX5, hq5, hr5, hb5⟩
    have hs5 := hb5.size
    replace hz := hz.but hb5 (by omega)
    replace hy := hy.but hb5 (by omega)
    replace hown4 := own_but hown4 hb5 (by omega)
    replace hbw := hbw.trans (hb5.below (by omega) (by omega))
    obtain ⟨p0, p1, p2, p3, p4, p5⟩ := hz.cells6
    obtain ⟨f0, f1, f2, f3, f4, f5⟩ := hz.free6
    obtain ⟨r0, r1, r2, r3, r4, r5⟩ := hy.cells6
    obtain ⟨e0, e1, e2, e3, e4, e5⟩ := hy.free6
    have HB := hid hbw
    have HZ := hid hz
    have HY := hid hy
    have HO4 := hid hown4
    have HO5 := hid hown5
    clear hbw hz hy hown4 hown5 hr4 hr5 hb5
    go_wp2
    exact ret_two w.heap.size (w.heap.size + 1) rfl rfl rfl (six_far (six_set HZ.out _ _ _ _ _ _) (by omega) _ _ _ _ _ _).cells6 (six_set (six_far HY.out (by omega) _ _ _ _ _ _) _ _ _ _ _ _).cells6
      ⟨bN, bT, bK, bA, bL, bC, bG, bX, bZ, dN, dT, dK, dA, dL, dC, dG, dX, dZ, rfl, own_mono (six_own (six_own HO4.out (by omega) _ _ _ _ _ _) (by omega) _ _ _ _ _ _) (by omega), own_mono (six_own (six_own HO5.out (by omega) _ _ _ _ _ _) (by omega) _ _ _ _ _ _) (by omega), by omega, by omega, hN4, hG4, hX4, hN5, hG5, hX5,
        six_below (six_below HB.out (by omega) _ _ _ _ _ _) (by omega) _ _ _ _ _ _⟩
  · have hi' : (i == 0) = false := by simpa using hi
    clear hi
    go_wp2_with fail
    go_region_held3 (fun w' => w'.cell? ⟨w2.heap.size, 0, none⟩ = some (.string aN) ∧ w'.cell? ⟨w2.heap.size, 1, none⟩ = some (.int .i64 aT) ∧ w'.cell? ⟨w2.heap.size, 2, none⟩ = some (.int .i64 aK) ∧ w'.cell? ⟨w2.heap.size, 3, none⟩ = some (.slice aA aL aC) ∧ w'.cell? ⟨w2.heap.size, 4, none⟩ = some (.string aG) ∧ w'.cell? ⟨w2.heap.size, 5, none⟩ = some (.string aX))
      (first | with_reducible exact hx.cells6 | with_reducible exact hx.drew.cells6 | with_reducible exact hx4.cells6 | with_reducible exact hx5.cells6 | with_reducible exact hx6.cells6 | with_reducible exact (six_far hx6 (by omega) _ _ _ _ _ _).cells6 | with_reducible exact (six_far (six_far hx6 (by omega) _ _ _ _ _ _) (by omega) _ _ _ _ _ _).cells6 | go_keep)
      (first
        | (go_at_call 51; refine (l2Wrong_any _ q5 99 dN dT dK dA dL dC dG dX dZ _ _ (by first | with_reducible exact hr5 | exact Rd.drew hr5) (by omega) (Reads.of_own (by first | with_reducible exact hown5 | exact World.ownsRow.drew hown5)) (Nat.le_refl _) (by omega) (by omega) (by omega) hN5 hG5 hX5).mono ?_; rintro e w6 ⟨fN, fT, fK, fA, fL, fC, fG, fX, fZ, q6, rfl, hown6, hL6, hN6, hG6, hX6, hq6, hr6, hb6⟩; have hb6' : But (w.heap.size + 1 + 1) w5 w6 := (by first | exact hb6 | exact But.undrew hb6); have hs6 := hb6'.size; have hz6 := hz5.but hb6' (by omega); have hy6 := hy5.but hb6' (by omega); have hx6 := hx5.but hb6' (by omega); have hbw6 := hbw5.trans (hb6'.below (by omega) (by omega)); have hbase6 : w5.heap.size ≤ w6.heap.size := hs6; obtain ⟨p0, p1, p2, p3, p4, p5⟩ := hz6.cells6; obtain ⟨f0, f1, f2, f3, f4, f5⟩ := hz6.free6; obtain ⟨r0, r1, r2, r3, r4, r5⟩ := hy6.cells6; obtain ⟨e0, e1, e2, e3, e4, e5⟩ := hy6.free6)
        | (go_at_call 51; refine (l2Wrong_any _ q4 98 bN bT bK bA bL bC bG bX bZ _ _ (by first | with_reducible exact hr4 | exact Rd.drew hr4) (by omega) (Reads.of_own (by first | with_reducible exact hown4 | exact World.ownsRow.drew hown4)) (Nat.le_refl _) (by omega) (by omega) (by omega) hN4 hG4 hX4).mono ?_; rintro e w5 ⟨dN, dT, dK, dA, dL, dC, dG, dX, dZ, q5, rfl, hown5, hL5, hN5, hG5, hX5, hq5, hr5, hb5⟩; have hb5' : But (w.heap.size + 1 + 1) w4 w5 := (by first | exact hb5 | exact But.undrew hb5); have hs5 := hb5'.size; have hz5 := hz4.but hb5' (by omega); have hy5 := hy4.but hb5' (by omega); have hx5 := hx4.but hb5' (by omega); have hbw5 := hbw4.trans (hb5'.below (by omega) (by omega)); have hbase5 : w4.heap.size ≤ w5.heap.size := hs5)
        | (go_at_call 51; refine (l2Wrong_any _ (q + 1) 97 aN aT aK aA aL aC aG aX aZ _ _ (by first | with_reducible exact hr | exact Rd.drew hr) (by omega) (Reads.of_own (by first | with_reducible exact ho | exact World.ownsRow.drew ho)) (Nat.le_refl _) (by omega) (by omega) (by omega) hN hG hX).mono ?_; rintro e w4 ⟨bN, bT, bK, bA, bL, bC, bG, bX, bZ, q4, rfl, hown4, hL4, hN4, hG4, hX4, hq4, hr4, hb4⟩; have hb4' : But (w.heap.size + 1 + 1) w3 w4 := (by first | exact hb4 | exact But.undrew hb4); have hs4 := hb4'.size; have hz4 := hz.but hb4' (by omega); have hy4 := hy.but hb4' (by omega); have hx4 := hx.but hb4' (by omega); have hbw4 := hbw.trans (hb4'.below (by omega) (by omega)); have hbase4 : w3.heap.size ≤ w4.heap.size := hs4))
    have hoa := own_but (own_but (own_but ho hb4' (by omega)) hb5' (by omega)) hb6' (by omega)
    have HB := hid hbw6
    have HZ := hid hz6
    have HY := hid hy6
    have HOA := hid hoa
    have HO6 := hid hown6
    clear hbw6 hz6 hy6 hoa hown6 hbw hz hy hx ho hr hbw4 hbw5 hz4 hz5 hy4 hy5 hx4 hx5 hx6 hr4 hr5 hr6 hb4 hb5 hb6 hb4' hb5' hb6' hown4 hown5
    go_wp2
    exact ret_two w.heap.size (w.heap.size + 1) rfl rfl rfl (six_far (six_set HZ.out _ _ _ _ _ _) (by omega) _ _ _ _ _ _).cells6 (six_set (six_far HY.out (by omega) _ _ _ _ _ _) _ _ _ _ _ _).cells6
      ⟨aN, aT, aK, aA, aL, aC, aG, aX, aZ, fN, fT, fK, fA, fL, fC, fG, fX, fZ, rfl, own_mono (six_own (six_own HOA.out (by omega) _ _ _ _ _ _) (by omega) _ _ _ _ _ _) (by omega), own_mono (six_own (six_own HO6.out (by omega) _ _ _ _ _ _) (by omega) _ _ _ _ _ _) (by omega), by omega, by omega, hN, hG, hX, hN6, hG6, hX6,
        six_below (six_below HB.out (by omega) _ _ _ _ _ _) (by omega) _ _ _ _ _ _⟩

theorem ret_DrawSameData {a : Act} {W : World} {post : Ending → World → Prop} (b d : Nat) {c0 c1 c2 c3 c4 c5 d0 d1 d2 d3 d4 d5 : Value} (hp : a.tmps[2]?.getD undef = .pointer (some ⟨b, 0, none⟩)) (hq : a.tmps[3]?.getD undef = .pointer (some ⟨d, 0, none⟩)) (hd : a.defers = [])
    (hB : W.cell? ⟨b, 0, none⟩ = some c0 ∧ W.cell? ⟨b, 1, none⟩ = some c1 ∧ W.cell? ⟨b, 2, none⟩ = some c2 ∧ W.cell? ⟨b, 3, none⟩ = some c3 ∧ W.cell? ⟨b, 4, none⟩ = some c4 ∧ W.cell? ⟨b, 5, none⟩ = some c5)
    (hD : W.cell? ⟨d, 0, none⟩ = some d0 ∧ W.cell? ⟨d, 1, none⟩ = some d1 ∧ W.cell? ⟨d, 2, none⟩ = some d2 ∧ W.cell? ⟨d, 3, none⟩ = some d3 ∧ W.cell? ⟨d, 4, none⟩ = some d4 ∧ W.cell? ⟨d, 5, none⟩ = some d5)
    (h : post (.returned (.tuple #[.agg #[c0, c1, c2, c3, c4, c5], .agg #[d0, d1, d2, d3, d4, d5]])) W) : bodyPost Try.prog Try.f8 post Exit.ret a W := by
  obtain ⟨h0, h1, h2, h3, h4, h5⟩ := hB
  obtain ⟨k0, k1, k2, k3, k4, k5⟩ := hD
  exact bodyPost_ret (by simp [results, Try.results8, go_sem, hp, hq, h0, h1, h2, h3, h4, h5, k0, k1, k2, k3, k4, k5]) hd h
set_option maxHeartbeats 2000000 in
theorem DrawSameData_any (A : Option Addr) (c : Nat) (zs : List UInt8) (w : World) (hcode : Code w A c zs) :
    Calls Try.prog 8 #[.slice A zs.length c] w (TwoDrawn w) := by
  go_enter Try.func8, Try.ntmps8
  go_wp2_with fail
  have hbx : Below w.heap.size w ((w.alloc (.cells #[.string ⟨#[]⟩, .int .i64 0, .int .i64 0, .slice none 0 0, .string ⟨#[]⟩, .string ⟨#[]⟩] 25)).alloc (.cells #[.string ⟨#[]⟩, .int .i64 0, .int .i64 0, .slice none 0 0, .string ⟨#[]⟩, .string ⟨#[]⟩] 25)) := by go_grown
  refine (l2Two_any A c zs _ (hcode.below hbx)).mono ?_
  rintro e w1 ⟨aN, aT, aK, aA, aL, aC, aG, aX, aZ, bN, bT, bK, bA, bL, bC, bG, bX, bZ, rfl, hown, hown2, hL, hL2, hN, hG, hX, hN2, hG2, hX2, hb1⟩
  have hz := ((Blk.new w 25 [.string ⟨#[]⟩, .int .i64 0, .int .i64 0, .slice none 0 0, .string ⟨#[]⟩, .string ⟨#[]⟩]).alloc (.cells #[.string ⟨#[]⟩, .int .i64 0, .int .i64 0, .slice none 0 0, .string ⟨#[]⟩, .string ⟨#[]⟩] 25)).next hb1
  have hy0 : Blk ((w.alloc (.cells #[.string ⟨#[]⟩, .int .i64 0, .int .i64 0, .slice none 0 0, .string ⟨#[]⟩, .string ⟨#[]⟩] 25)).alloc (.cells #[.string ⟨#[]⟩, .int .i64 0, .int .i64 0, .slice none 0 0, .string ⟨#[]⟩, .string ⟨#[]⟩] 25)) (w.heap.size + 1) 25 [.string ⟨#[]⟩, .int .i64 0, .int .i64 0, .slice none 0 0, .string ⟨#[]⟩, .string ⟨#[]⟩] := by
    have := Blk.new (w.alloc (.cells #[.string ⟨#[]⟩, .int .i64 0, .int .i64 0, .slice none 0 0, .string ⟨#[]⟩, .string ⟨#[]⟩] 25)) 25 [.string ⟨#[]⟩, .int .i64 0, .int .i64 0, .slice none 0 0, .string ⟨#[]⟩, .string ⟨#[]⟩]
    simpa using this
  have hy := hy0.next hb1
  have hbw := hbx.trans (hb1.mono (by simp; omega))
  obtain ⟨p0, p1, p2, p3, p4, p5⟩ := hz.cells6
  obtain ⟨f0, f1, f2, f3, f4, f5⟩ := hz.free6
  obtain ⟨r0, r1, r2, r3, r4, r5⟩ := hy.cells6
  obtain ⟨e0, e1, e2, e3, e4, e5⟩ := hy.free6
  have HB := hid hbw
  have HZ := hid hz
  have HY := hid hy
  have HO := hid hown
  have HO2 := hid hown2
  clear hbw hz hy hy0 hbx hb1 hown hown2
  go_wp2
  exact ret_DrawSameData w.heap.size (w.heap.size + 1) rfl rfl rfl (six_far (six_set HZ.out _ _ _ _ _ _) (by omega) _ _ _ _ _ _).cells6 (six_set (six_far HY.out (by omega) _ _ _ _ _ _) _ _ _ _ _ _).cells6
    ⟨aN, aT, aK, aA, aL, aC, aG, aX, aZ, bN, bT, bK, bA, bL, bC, bG, bX, bZ, rfl, own_mono (six_own (six_own HO.out (by simp; try omega) _ _ _ _ _ _) (by simp; try omega) _ _ _ _ _ _) (by simp; try omega), own_mono (six_own (six_own HO2.out (by simp; try omega) _ _ _ _ _ _) (by simp; try omega) _ _ _ _ _ _) (by simp; try omega), hL, hL2, hN, hG, hX, hN2, hG2, hX2,
      six_below (six_below HB.out (by omega) _ _ _ _ _ _) (by omega) _ _ _ _ _ _⟩

end Go.Proofs.Ytlknpipbjdecpaa

namespace Go.Proofs.Ytlknpipbjdecpaa
open Go.RowKit
set_option maxRecDepth 100000
set_option linter.unusedVariables false

/-- A record in block p, whose numbers can be read. -/
def One (w W : World) (p : Nat) (aN : ByteArray) (aT aK : Int) (aA : Option Addr) (aL aC : Nat) (aG aX : ByteArray) (aZ : List Int) : Prop :=
  Below w.heap.size w W ∧ w.heap.size ≤ p ∧ Blk W p 25 [.string aN, .int .i64 aT, .int .i64 aK, .slice aA aL aC, .string aG, .string aX] ∧ Reads W W.heap.size aA aL (aZ.map iv) ∧ aL ≤ 67108864 ∧ aN.size ≤ 67108864 ∧ aG.size ≤ 67108864 ∧ aX.size ≤ 67108864
theorem One.next {w W W' : World} {p : Nat} {aN : ByteArray} {aT aK : Int} {aA : Option Addr} {aL aC : Nat} {aG aX : ByteArray} {aZ : List Int} (h : One w W p aN aT aK aA aL aC aG aX aZ) (hb : Below W.heap.size W W') : One w W' p aN aT aK aA aL aC aG aX aZ :=
  ⟨h.1.trans (hb.mono h.1.size), h.2.1, h.2.2.1.next hb, (h.2.2.2.1.below hb (Nat.le_refl _)).more hb.size, h.2.2.2.2⟩
theorem One.cells {w W : World} {p : Nat} {aN : ByteArray} {aT aK : Int} {aA : Option Addr} {aL aC : Nat} {aG aX : ByteArray} {aZ : List Int} (h : One w W p aN aT aK aA aL aC aG aX aZ) : W.cell? ⟨p, 0, none⟩ = some (.string aN) ∧ W.cell? ⟨p, 1, none⟩ = some (.int .i64 aT) ∧ W.cell? ⟨p, 2, none⟩ = some (.int .i64 aK) ∧ W.cell? ⟨p, 3, none⟩ = some (.slice aA aL aC) ∧ W.cell? ⟨p, 4, none⟩ = some (.string aG) ∧ W.cell? ⟨p, 5, none⟩ = some (.string aX) := h.2.2.1.cells6
theorem One.below {w W : World} {p : Nat} {aN : ByteArray} {aT aK : Int} {aA : Option Addr} {aL aC : Nat} {aG aX : ByteArray} {aZ : List Int} (h : One w W p aN aT aK aA aL aC aG aX aZ) : Below w.heap.size w W := h.1
/-- Two records, in blocks p and q. -/
def Pair (w W : World) (p q : Nat) (aN : ByteArray) (aT aK : Int) (aA : Option Addr) (aL aC : Nat) (aG aX : ByteArray) (aZ : List Int) (bN : ByteArray) (bT bK : Int) (bA : Option Addr) (bL bC : Nat) (bG bX : ByteArray) (bZ : List Int) : Prop := One w W p aN aT aK aA aL aC aG aX aZ ∧ One w W q bN bT bK bA bL bC bG bX bZ
theorem Pair.next {w W W' : World} {p q : Nat} {aN : ByteArray} {aT aK : Int} {aA : Option Addr} {aL aC : Nat} {aG aX : ByteArray} {aZ : List Int} {bN : ByteArray} {bT bK : Int} {bA : Option Addr} {bL bC : Nat} {bG bX : ByteArray} {bZ : List Int} (h : Pair w W p q aN aT aK aA aL aC aG aX aZ bN bT bK bA bL bC bG bX bZ) (hb : Below W.heap.size W W') : Pair w W' p q aN aT aK aA aL aC aG aX aZ bN bT bK bA bL bC bG bX bZ := ⟨h.1.next hb, h.2.next hb⟩
theorem Pair.swap {w W : World} {p q : Nat} {aN : ByteArray} {aT aK : Int} {aA : Option Addr} {aL aC : Nat} {aG aX : ByteArray} {aZ : List Int} {bN : ByteArray} {bT bK : Int} {bA : Option Addr} {bL bC : Nat} {bG bX : ByteArray} {bZ : List Int} (h : Pair w W p q aN aT aK aA aL aC aG aX aZ bN bT bK bA bL bC bG bX bZ) : Pair w W q p bN bT bK bA bL bC bG bX bZ aN aT aK aA aL aC aG aX aZ := ⟨h.2, h.1⟩
theorem Pair.a {w W : World} {p q : Nat} {aN : ByteArray} {aT aK : Int} {aA : Option Addr} {aL aC : Nat} {aG aX : ByteArray} {aZ : List Int} {bN : ByteArray} {bT bK : Int} {bA : Option Addr} {bL bC : Nat} {bG bX : ByteArray} {bZ : List Int} (h : Pair w W p q aN aT aK aA aL aC aG aX aZ bN bT bK bA bL bC bG bX bZ) : One w W p aN aT aK aA aL aC aG aX aZ := h.1
theorem Pair.b {w W : World} {p q : Nat} {aN : ByteArray} {aT aK : Int} {aA : Option Addr} {aL aC : Nat} {aG aX : ByteArray} {aZ : List Int} {bN : ByteArray} {bT bK : Int} {bA : Option Addr} {bL bC : Nat} {bG bX : ByteArray} {bZ : List Int} (h : Pair w W p q aN aT aK aA aL aC aG aX aZ bN bT bK bA bL bC bG bX bZ) : One w W q bN bT bK bA bL bC bG bX bZ := h.2
theorem pair_of {w W : World} {p q : Nat} {aN : ByteArray} {aT aK : Int} {aA : Option Addr} {aL aC : Nat} {aG aX : ByteArray} {aZ : List Int} {bN : ByteArray} {bT bK : Int} {bA : Option Addr} {bL bC : Nat} {bG bX : ByteArray} {bZ : List Int} (h : One w W p aN aT aK aA aL aC aG aX aZ) (k : One w W q bN bT bK bA bL bC bG bX bZ) : Pair w W p q aN aT aK aA aL aC aG aX aZ bN bT bK bA bL bC bG bX bZ := ⟨h, k⟩
theorem Pair.same {w W : World} {p : Nat} {aN : ByteArray} {aT aK : Int} {aA : Option Addr} {aL aC : Nat} {aG aX : ByteArray} {aZ : List Int} (h : One w W p aN aT aK aA aL aC aG aX aZ) : Pair w W p p aN aT aK aA aL aC aG aX aZ aN aT aK aA aL aC aG aX aZ := ⟨h, h⟩
/-- The records that were just drawn. -/
theorem pair_new {w w1 : World} {aN : ByteArray} {aT aK : Int} {aA : Option Addr} {aL aC : Nat} {aG aX : ByteArray} {aZ : List Int} {bN : ByteArray} {bT bK : Int} {bA : Option Addr} {bL bC : Nat} {bG bX : ByteArray} {bZ : List Int} {B : Nat} (hb : Below w.heap.size w w1) (hx : w1.ownsRow B 3 1 (.slice aA aL aC) aL (aZ.map iv)) (hy : w1.ownsRow B 3 1 (.slice bA bL bC) bL (bZ.map iv)) (h1 : aL ≤ 200) (h2 : bL ≤ 200) (s1 : aN.size ≤ 100) (s2 : aG.size ≤ 100) (s3 : aX.size ≤ 100) (s4 : bN.size ≤ 100) (s5 : bG.size ≤ 100) (s6 : bX.size ≤ 100) :
    Pair w ((w1.alloc (.cells #[.string aN, .int .i64 aT, .int .i64 aK, .slice aA aL aC, .string aG, .string aX] 25)).alloc (.cells #[.string bN, .int .i64 bT, .int .i64 bK, .slice bA bL bC, .string bG, .string bX] 25)) w1.heap.size (w1.heap.size + 1) aN aT aK aA aL aC aG aX aZ bN bT bK bA bL bC bG bX bZ := by
  have hs := hb.size
  have r1 := (((Reads.of_own hx).alloc (Nat.le_refl _) (.cells #[.string aN, .int .i64 aT, .int .i64 aK, .slice aA aL aC, .string aG, .string aX] 25)).alloc (by simp) (.cells #[.string bN, .int .i64 bT, .int .i64 bK, .slice bA bL bC, .string bG, .string bX] 25)).more (B' := ((w1.alloc (.cells #[.string aN, .int .i64 aT, .int .i64 aK, .slice aA aL aC, .string aG, .string aX] 25)).alloc (.cells #[.string bN, .int .i64 bT, .int .i64 bK, .slice bA bL bC, .string bG, .string bX] 25)).heap.size) (by simp; omega)
  have r2 := (((Reads.of_own hy).alloc (Nat.le_refl _) (.cells #[.string aN, .int .i64 aT, .int .i64 aK, .slice aA aL aC, .string aG, .string aX] 25)).alloc (by simp) (.cells #[.string bN, .int .i64 bT, .int .i64 bK, .slice bA bL bC, .string bG, .string bX] 25)).more (B' := ((w1.alloc (.cells #[.string aN, .int .i64 aT, .int .i64 aK, .slice aA aL aC, .string aG, .string aX] 25)).alloc (.cells #[.string bN, .int .i64 bT, .int .i64 bK, .slice bA bL bC, .string bG, .string bX] 25)).heap.size) (by simp; omega)
  have hbw : Below w.heap.size w ((w1.alloc (.cells #[.string aN, .int .i64 aT, .int .i64 aK, .slice aA aL aC, .string aG, .string aX] 25)).alloc (.cells #[.string bN, .int .i64 bT, .int .i64 bK, .slice bA bL bC, .string bG, .string bX] 25)) := (hb.alloc hs _).alloc (by simp; omega) _
  have b1 := (Blk.new w1 25 [.string aN, .int .i64 aT, .int .i64 aK, .slice aA aL aC, .string aG, .string aX]).alloc (.cells #[.string bN, .int .i64 bT, .int .i64 bK, .slice bA bL bC, .string bG, .string bX] 25)
  have b2 := Blk.new (w1.alloc (.cells #[.string aN, .int .i64 aT, .int .i64 aK, .slice aA aL aC, .string aG, .string aX] 25)) 25 [.string bN, .int .i64 bT, .int .i64 bK, .slice bA bL bC, .string bG, .string bX]
  exact ⟨⟨hbw, hs, b1, r1, by omega, by omega, by omega, by omega⟩, ⟨hbw, by omega, by simpa using b2, r2, by omega, by omega, by omega, by omega⟩⟩
theorem one_copy {w W : World} {p : Nat} {aN : ByteArray} {aT aK : Int} {aA : Option Addr} {aL aC : Nat} {aG aX : ByteArray} {aZ : List Int} (h : One w W p aN aT aK aA aL aC aG aX aZ) (N' : ByteArray) (T' K' : Int) (hN : N'.size ≤ 67108864) :
    One w (W.alloc (.cells #[.string N', .int .i64 T', .int .i64 K', .slice aA aL aC, .string aG, .string aX] 25)) W.heap.size N' T' K' aA aL aC aG aX aZ :=
  ⟨h.1.alloc h.1.size _, h.1.size, Blk.new W 25 [.string N', .int .i64 T', .int .i64 K', .slice aA aL aC, .string aG, .string aX], (h.2.2.2.1.alloc (Nat.le_refl _) _).more (by simp), h.2.2.2.2.1, hN, h.2.2.2.2.2.2.1, h.2.2.2.2.2.2.2⟩
theorem One.alloc {w W : World} {p : Nat} {aN : ByteArray} {aT aK : Int} {aA : Option Addr} {aL aC : Nat} {aG aX : ByteArray} {aZ : List Int} (h : One w W p aN aT aK aA aL aC aG aX aZ) (o : Obj) : One w (W.alloc o) p aN aT aK aA aL aC aG aX aZ := h.next ((Below.refl _ _).alloc (Nat.le_refl _) o)
theorem one_new {w w1 : World} {aN : ByteArray} {aT aK : Int} {aA : Option Addr} {aL aC : Nat} {aG aX : ByteArray} {aZ : List Int} {B : Nat} (hb : Below w.heap.size w w1) (hx : w1.ownsRow B 3 1 (.slice aA aL aC) aL (aZ.map iv)) (h1 : aL ≤ 200) (s1 : aN.size ≤ 100) (s2 : aG.size ≤ 100) (s3 : aX.size ≤ 100) :
    One w (w1.alloc (.cells #[.string aN, .int .i64 aT, .int .i64 aK, .slice aA aL aC, .string aG, .string aX] 25)) w1.heap.size aN aT aK aA aL aC aG aX aZ := by
  have hs := hb.size
  have r1 := ((Reads.of_own hx).alloc (Nat.le_refl _) (.cells #[.string aN, .int .i64 aT, .int .i64 aK, .slice aA aL aC, .string aG, .string aX] 25)).more (B' := (w1.alloc (.cells #[.string aN, .int .i64 aT, .int .i64 aK, .slice aA aL aC, .string aG, .string aX] 25)).heap.size) (by simp)
  exact ⟨hb.alloc hs _, hs, Blk.new w1 25 [.string aN, .int .i64 aT, .int .i64 aK, .slice aA aL aC, .string aG, .string aX], r1, by omega, by omega, by omega, by omega⟩
theorem ip_RecordBefore {w W : World} {p q : Nat} {aN : ByteArray} {aT aK : Int} {aA : Option Addr} {aL aC : Nat} {aG aX : ByteArray} {aZ : List Int} {bN : ByteArray} {bT bK : Int} {bA : Option Addr} {bL bC : Nat} {bG bX : ByteArray} {bZ : List Int} (h : Pair w W p q aN aT aK aA aL aC aG aX aZ bN bT bK bA bL bC bG bX bZ) (v : Bool) (hv : Hid (Z.recBefore (⟨lst aN, aT, aK, aZ, lst aG, lst aX⟩ : Z.Rec) (⟨lst bN, bT, bK, bZ, lst bG, lst bX⟩ : Z.Rec) = v)) :
    Calls Try.prog 62 #[.agg #[.string aN, .int .i64 aT, .int .i64 aK, .slice aA aL aC, .string aG, .string aX], .agg #[.string bN, .int .i64 bT, .int .i64 bK, .slice bA bL bC, .string bG, .string bX]] W fun e W' => e = .returned (.bool v) ∧ Below W.heap.size W W' := by
  refine (iRecordBefore_any _ _ _ _ _ _ _ _ aZ W.heap.size _ _ _ _ _ _ _ _ bZ W.heap.size W h.1.2.2.2.1 (Nat.le_refl _) h.1.2.2.2.2.1 h.2.2.2.2.1 (Nat.le_refl _) h.2.2.2.2.2.1 h.1.2.2.2.2.2.1 h.1.2.2.2.2.2.2.1 h.1.2.2.2.2.2.2.2 h.2.2.2.2.2.2.1 h.2.2.2.2.2.2.2.1 h.2.2.2.2.2.2.2.2).mono ?_
  rintro e W' ⟨rfl, hb⟩
  exact ⟨ret_bool hv.out, hb⟩
theorem ip_SameData {w W : World} {p q : Nat} {aN : ByteArray} {aT aK : Int} {aA : Option Addr} {aL aC : Nat} {aG aX : ByteArray} {aZ : List Int} {bN : ByteArray} {bT bK : Int} {bA : Option Addr} {bL bC : Nat} {bG bX : ByteArray} {bZ : List Int} (h : Pair w W p q aN aT aK aA aL aC aG aX aZ bN bT bK bA bL bC bG bX bZ) (v : Bool) (hv : Hid (Z.sameData (⟨lst aN, aT, aK, aZ, lst aG, lst aX⟩ : Z.Rec) (⟨lst bN, bT, bK, bZ, lst bG, lst bX⟩ : Z.Rec) = v)) :
    Calls Try.prog 9 #[.agg #[.string aN, .int .i64 aT, .int .i64 aK, .slice aA aL aC, .string aG, .string aX], .agg #[.string bN, .int .i64 bT, .int .i64 bK, .slice bA bL bC, .string bG, .string bX]] W fun e W' => e = .returned (.bool v) ∧ Below W.heap.size W W' := by
  refine (iSameData_any _ _ _ _ _ _ _ _ aZ W.heap.size _ _ _ _ _ _ _ _ bZ W.heap.size W h.1.2.2.2.1 (Nat.le_refl _) h.1.2.2.2.2.1 h.2.2.2.2.1 (Nat.le_refl _) h.2.2.2.2.2.1).mono ?_
  rintro e W' ⟨rfl, hb⟩
  exact ⟨ret_bool hv.out, hb⟩
theorem ip_RecordSame {w W : World} {p q : Nat} {aN : ByteArray} {aT aK : Int} {aA : Option Addr} {aL aC : Nat} {aG aX : ByteArray} {aZ : List Int} {bN : ByteArray} {bT bK : Int} {bA : Option Addr} {bL bC : Nat} {bG bX : ByteArray} {bZ : List Int} (h : Pair w W p q aN aT aK aA aL aC aG aX aZ bN bT bK bA bL bC bG bX bZ) (v : Bool) (hv : Hid (Z.recSame (⟨lst aN, aT, aK, aZ, lst aG, lst aX⟩ : Z.Rec) (⟨lst bN, bT, bK, bZ, lst bG, lst bX⟩ : Z.Rec) = v)) :
    Calls Try.prog 41 #[.agg #[.string aN, .int .i64 aT, .int .i64 aK, .slice aA aL aC, .string aG, .string aX], .agg #[.string bN, .int .i64 bT, .int .i64 bK, .slice bA bL bC, .string bG, .string bX]] W fun e W' => e = .returned (.bool v) ∧ Below W.heap.size W W' := by
  refine (iRecordSame_any _ _ _ _ _ _ _ _ aZ W.heap.size _ _ _ _ _ _ _ _ bZ W.heap.size W h.1.2.2.2.1 (Nat.le_refl _) h.1.2.2.2.2.1 h.2.2.2.2.1 (Nat.le_refl _) h.2.2.2.2.2.1).mono ?_
  rintro e W' ⟨rfl, hb⟩
  exact ⟨ret_bool hv.out, hb⟩
theorem io_RecordValid {w W : World} {p : Nat} {aN : ByteArray} {aT aK : Int} {aA : Option Addr} {aL aC : Nat} {aG aX : ByteArray} {aZ : List Int} (h : One w W p aN aT aK aA aL aC aG aX aZ) (v : Bool) (hv : Hid (Z.recValid (⟨lst aN, aT, aK, aZ, lst aG, lst aX⟩ : Z.Rec) = v)) :
    Calls Try.prog 60 #[.agg #[.string aN, .int .i64 aT, .int .i64 aK, .slice aA aL aC, .string aG, .string aX]] W fun e W' => e = .returned (.bool v) ∧ Below W.heap.size W W' := by
  refine (iRecordValid_any _ _ _ _ _ _ _ _ aZ W.heap.size W h.2.2.2.1 (Nat.le_refl _) h.2.2.2.2.1 h.2.2.2.2.2.1 h.2.2.2.2.2.2.1 h.2.2.2.2.2.2.2).mono ?_
  rintro e W' ⟨rfl, hb⟩
  exact ⟨ret_bool hv.out, hb⟩
theorem sp_SameData {w W : World} {p q : Nat} {aN : ByteArray} {aT aK : Int} {aA : Option Addr} {aL aC : Nat} {aG aX : ByteArray} {aZ : List Int} {bN : ByteArray} {bT bK : Int} {bA : Option Addr} {bL bC : Nat} {bG bX : ByteArray} {bZ : List Int} (h : Pair w W p q aN aT aK aA aL aC aG aX aZ bN bT bK bA bL bC bG bX bZ) (v : Bool) (hv : Hid (Z.sameData (⟨lst aN, aT, aK, aZ, lst aG, lst aX⟩ : Z.Rec) (⟨lst bN, bT, bK, bZ, lst bG, lst bX⟩ : Z.Rec) = v)) :
    Calls Try.prog 10 #[.agg #[.string aN, .int .i64 aT, .int .i64 aK, .slice aA aL aC, .string aG, .string aX], .agg #[.string bN, .int .i64 bT, .int .i64 bK, .slice bA bL bC, .string bG, .string bX]] W fun e W' => e = .returned (.bool v) ∧ Below W.heap.size W W' := by
  refine (SameData_any _ _ _ _ _ _ _ _ aZ W.heap.size _ _ _ _ _ _ _ _ bZ W.heap.size W h.1.2.2.2.1 (Nat.le_refl _) h.1.2.2.2.2.1 h.2.2.2.2.1 (Nat.le_refl _) h.2.2.2.2.2.1).mono ?_
  rintro e W' ⟨rfl, hb⟩
  exact ⟨ret_bool hv.out, hb⟩
theorem sp_RecordSame {w W : World} {p q : Nat} {aN : ByteArray} {aT aK : Int} {aA : Option Addr} {aL aC : Nat} {aG aX : ByteArray} {aZ : List Int} {bN : ByteArray} {bT bK : Int} {bA : Option Addr} {bL bC : Nat} {bG bX : ByteArray} {bZ : List Int} (h : Pair w W p q aN aT aK aA aL aC aG aX aZ bN bT bK bA bL bC bG bX bZ) (v : Bool) (hv : Hid (Z.recSame (⟨lst aN, aT, aK, aZ, lst aG, lst aX⟩ : Z.Rec) (⟨lst bN, bT, bK, bZ, lst bG, lst bX⟩ : Z.Rec) = v)) :
    Calls Try.prog 39 #[.agg #[.string aN, .int .i64 aT, .int .i64 aK, .slice aA aL aC, .string aG, .string aX], .agg #[.string bN, .int .i64 bT, .int .i64 bK, .slice bA bL bC, .string bG, .string bX]] W fun e W' => e = .returned (.bool v) ∧ Below W.heap.size W W' := by
  refine (RecordSame_any _ _ _ _ _ _ _ _ aZ W.heap.size _ _ _ _ _ _ _ _ bZ W.heap.size W h.1.2.2.2.1 (Nat.le_refl _) h.1.2.2.2.2.1 h.2.2.2.2.1 (Nat.le_refl _) h.2.2.2.2.2.1).mono ?_
  rintro e W' ⟨rfl, hb⟩
  exact ⟨ret_bool hv.out, hb⟩
theorem so_RecordValid {w W : World} {p : Nat} {aN : ByteArray} {aT aK : Int} {aA : Option Addr} {aL aC : Nat} {aG aX : ByteArray} {aZ : List Int} (h : One w W p aN aT aK aA aL aC aG aX aZ) (v : Bool) (hv : Hid (Z.recValid (⟨lst aN, aT, aK, aZ, lst aG, lst aX⟩ : Z.Rec) = v)) :
    Calls Try.prog 55 #[.agg #[.string aN, .int .i64 aT, .int .i64 aK, .slice aA aL aC, .string aG, .string aX]] W fun e W' => e = .returned (.bool v) ∧ Below W.heap.size W W' := by
  refine (RecordValid_any _ _ _ _ _ _ _ _ aZ W.heap.size W h.2.2.2.1 (Nat.le_refl _) h.2.2.2.2.1 h.2.2.2.2.2.1 h.2.2.2.2.2.2.1 h.2.2.2.2.2.2.2).mono ?_
  rintro e W' ⟨rfl, hb⟩
  exact ⟨ret_bool hv.out, hb⟩
theorem nb_eq (a b : ByteArray) (ha : a.size ≤ 67108864) (hb : b.size ≤ 67108864) (v : Bool) (hv : Hid (Z.before (lst a) (lst b) = v)) (W : World) :
    Calls Try.prog 87 #[.string a, .string b] W fun e W' => e = .returned (.bool v) ∧ Below W.heap.size W W' := by
  refine (iNameBefore_any a b (by unfold maxLen; omega) (by unfold maxLen; omega) W).mono ?_
  rintro e W' ⟨rfl, hb⟩
  exact ⟨ret_bool hv.out, hb⟩
theorem five_ways {X Y VA VB S : Bool} (t1 : X = true → VA = true ∧ VB = true) (t2 : Y = true → VA = true ∧ VB = true) (t3 : X = true → Y = false) (t5 : VA = true → VB = true → (X || Y) = !S) :
    (X = true ∧ Y = false ∧ VA = true ∧ VB = true ∧ S = false) ∨ (X = false ∧ Y = true ∧ VA = true ∧ VB = true ∧ S = false) ∨ (X = false ∧ Y = false ∧ VA = false) ∨ (X = false ∧ Y = false ∧ VA = true ∧ VB = false) ∨ (X = false ∧ Y = false ∧ VA = true ∧ VB = true ∧ S = true) := by
  cases X <;> cases Y <;> cases VA <;> cases VB <;> cases S <;> simp_all
end Go.Proofs.Ytlknpipbjdecpaa

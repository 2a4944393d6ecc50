/- What DrawWriteLine returns. -/
import Derived.Test.YtlknpipbjdecpaaGreatDoorNe
import Derived.Deep.RegionWith
namespace Go.Proofs.YtlknpipbjdecpaaGreatDoor
open Go.RowKit
set_option maxRecDepth 100000
set_option linter.unusedVariables false
set_option linter.unusedSimpArgs false

/-- Some record, an origin and an owner. -/
def LineDrawn (w : World) (e : Ending) (w' : World) : Prop :=
  ∃ (N : ByteArray) (T K : Int) (A : Option Addr) (L c : Nat) (x y : ByteArray) (ns : List Int) (o ow : ByteArray), e = .returned (.tuple #[.agg #[.string N, .int .i64 T, .int .i64 K, .slice A L c, .string x, .string y], .string o, .string ow]) ∧
    w'.ownsRow w.heap.size 3 1 (.slice A L c) L (ns.map iv) ∧ L ≤ 200 ∧ N.size ≤ 100 ∧ x.size ≤ 100 ∧ y.size ≤ 100 ∧ o.size ≤ 100 ∧ ow.size ≤ 100 ∧ Below w.heap.size w w'
theorem ret_lineDrawn {a : Act} {W : World} {post : Ending → World → Prop} (b : Nat) {c0 c1 c2 c3 c4 c5 h3 h4 : Value} (hp : a.tmps[2]?.getD undef = .pointer (some ⟨b, 0, none⟩)) (k3 : a.tmps[3]?.getD undef = h3) (k4 : a.tmps[4]?.getD undef = h4) (hd : a.defers = [])
    (hB : W.cell? ⟨b, 0, none⟩ = some c0 ∧ W.cell? ⟨b, 1, none⟩ = some c1 ∧ W.cell? ⟨b, 2, none⟩ = some c2 ∧ W.cell? ⟨b, 3, none⟩ = some c3 ∧ W.cell? ⟨b, 4, none⟩ = some c4 ∧ W.cell? ⟨b, 5, none⟩ = some c5)
    (h : post (.returned (.tuple #[.agg #[c0, c1, c2, c3, c4, c5], h3, h4])) W) : bodyPost Tryz.prog Tryz.f30 post Exit.ret a W := by
  obtain ⟨h0, h1, h2, h33, h44, h5⟩ := hB
  exact bodyPost_ret (by simp [results, Tryz.results30, go_sem, hp, k3, k4, h0, h1, h2, h33, h44, h5]) hd h
def origins : List Z.Str := [[97, 46, 98, 46], [98, 46], [46], [97, 46, 98, 46]]
theorem origins_le : ∀ l ∈ origins, l.length ≤ 100 := by decide
theorem owners_eq (n : ByteArray) : ([[], [97, 46, 98, 46], lst n, [120]] : List Z.Str).map sv = [.string ⟨#[]⟩, .string ⟨#[97, 46, 98, 46]⟩, .string n, .string ⟨#[120]⟩] := by
  show [sv [], sv [97, 46, 98, 46], sv (lst n), sv [120]] = _
  rw [sv_lst]
  rfl
set_option maxHeartbeats 8000000 in
theorem DrawWriteLine_any (A : Option Addr) (c : Nat) (zs : List UInt8) (w : World) (hcode : Code w A c zs) :
    Calls Tryz.prog 30 #[.slice A zs.length c] w (LineDrawn w) := by
  go_enter Tryz.func30, Tryz.ntmps30
  go_wp2_with fail
  have hc0 := hcode.below ((Below.refl _ _).alloc (Nat.le_refl _) (.cells #[.string ⟨#[]⟩, .int .i64 0, .int .i64 0, .slice none 0 0, .string ⟨#[]⟩, .string ⟨#[]⟩] 25))
  refine (l13Open_any A c zs _ hc0.1 hc0.2.1 hc0.2.2.1 hc0.2.2.2).mono ?_
  rintro e w1 ⟨rfl, hr1, hb1⟩
  have hz := (Blk.new w 25 [.string ⟨#[]⟩, .int .i64 0, .int .i64 0, .slice none 0 0, .string ⟨#[]⟩, .string ⟨#[]⟩]).next hb1
  have hr : Rd w1 (w.heap.size + 1) 0 := by simpa using hr1
  have hbw : Below w.heap.size w w1 := ((Below.refl _ _).alloc (Nat.le_refl _) _).trans (hb1.mono (by simp))
  have hs1 : w.heap.size + 1 < w1.heap.size := hr.lt
  clear hr1 hb1 hc0
  go_wp2_with fail
  refine (l2Draw_any _ 0 w1 (by simpa using hr) (by omega)).mono ?_
  rintro e w2 ⟨aN, aT, aK, aA, aL, aC, aG, aX, aZ, q, rfl, hown, hL, hN, hx, hy, hq, hr2, hb2⟩
  have hz2 := hz.but hb2 (by omega)
  have hbw2 := hbw.trans (hb2.below (by omega) (by omega))
  have hs2 : w1.heap.size ≤ w2.heap.size := hb2.size
  clear hz hbw hr hb2
  go_wp2_with fail
  refine (l2Wrong_any _ q 99 aN aT aK aA aL aC aG aX aZ _ w2 (by simpa using hr2) (by omega) (Reads.of_own hown) (Nat.le_refl _) (by omega) (by omega) (by omega) hN hx hy).mono ?_
  rintro e w3 ⟨bN, bT, bK, bA, bL, bC, bG, bX, bZ, q3, rfl, hown3, hL3, hN3, hx3, hy3, hq3, hr3, hb3⟩
  have hz3 := hz2.but hb3 (by omega)
  have hbw3 := hbw2.trans (hb3.below (by omega) (by omega))
  have hs3 : w2.heap.size ≤ w3.heap.size := hb3.size
  have hr3' : Rd w3 (w.heap.size + 1) q3 := by simpa using hr3
  clear hz2 hbw2 hown hr2 hr3 hb3
  -- the record's box, then the owners
  have hx4 : Blk (w3.alloc (.cells #[.string bN, .int .i64 bT, .int .i64 bK, .slice bA bL bC, .string bG, .string bX] 25)) w3.heap.size 25 [.string bN, .int .i64 bT, .int .i64 bK, .slice bA bL bC, .string bG, .string bX] := Blk.new w3 _ _
  have hz4 := hz3.alloc (.cells #[.string bN, .int .i64 bT, .int .i64 bK, .slice bA bL bC, .string bG, .string bX] 25)
  have hown4 := hown3.alloc (.cells #[.string bN, .int .i64 bT, .int .i64 bK, .slice bA bL bC, .string bG, .string bX] 25)
  have hr4 := hr3'.but ((Below.refl _ _).alloc (Nat.le_refl _) (.cells #[.string bN, .int .i64 bT, .int .i64 bK, .slice bA bL bC, .string bG, .string bX] 25))
  have hbw4 := hbw3.alloc (by omega) (.cells #[.string bN, .int .i64 bT, .int .i64 bK, .slice bA bL bC, .string bG, .string bX] 25)
  clear hz3 hown3 hr3' hbw3
  obtain ⟨x0, x1, x2, x3, x4, x5⟩ := hx4.cells6
  obtain ⟨hr5, hrd5, hb5, hB5, hA5⟩ := with_row hr4 [[], [97, 46, 98, 46], lst bN, [120]] 9
  have hx5 := hx4.alloc (.cells (([[], [97, 46, 98, 46], lst bN, [120]] : List Z.Str).map sv).toArray 9)
  have hz5 := hz4.alloc (.cells (([[], [97, 46, 98, 46], lst bN, [120]] : List Z.Str).map sv).toArray 9)
  have hown5 := hown4.alloc (.cells (([[], [97, 46, 98, 46], lst bN, [120]] : List Z.Str).map sv).toArray 9)
  have hbw5 := hbw4.alloc (by simp; omega) (.cells (([[], [97, 46, 98, 46], lst bN, [120]] : List Z.Str).map sv).toArray 9)
  rw [owners_eq] at hr5 hrd5 hb5 hB5 hx5 hz5 hown5 hbw5
  have hsz4 : (w3.alloc (.cells #[.string bN, .int .i64 bT, .int .i64 bK, .slice bA bL bC, .string bG, .string bX] 25)).heap.size = w3.heap.size + 1 := by simp
  rw [hsz4] at hrd5 hB5 hA5
  obtain ⟨W5, hW5⟩ : ∃ W5, (w3.alloc (.cells #[.string bN, .int .i64 bT, .int .i64 bK, .slice bA bL bC, .string bG, .string bX] 25)).alloc (.cells #[.string ⟨#[]⟩, .string ⟨#[97, 46, 98, 46]⟩, .string bN, .string ⟨#[120]⟩] 9) = W5 := ⟨_, rfl⟩
  have HW5 := hid hW5
  have hs5 : W5.heap.size = w3.heap.size + 2 := by rw [← hW5]; simp
  rw [show (.cells [.string ⟨#[]⟩, .string ⟨#[97, 46, 98, 46]⟩, .string bN, .string ⟨#[120]⟩].toArray 9 : Obj) = .cells #[.string ⟨#[]⟩, .string ⟨#[97, 46, 98, 46]⟩, .string bN, .string ⟨#[120]⟩] 9 from rfl, hW5] at hr5 hrd5 hb5 hB5 hx5 hz5 hown5 hbw5
  clear hW5
  have HA5 := hid hA5
  have hle : ∀ l ∈ ([[], [97, 46, 98, 46], lst bN, [120]] : List Z.Str), l.length ≤ 100 := by
    intro l hl
    simp only [List.mem_cons, List.not_mem_nil, or_false] at hl
    rcases hl with rfl | rfl | rfl | rfl
    · simp
    · simp
    · rw [lst_length]; exact hN3
    · simp
  have HLE := hid hle
  have HRD5 := hid hrd5
  clear hA5 hle hx4 hz4 hown4 hbw4 hr4 hrd5
  have hof := of_any (w.heap.size + 1) q3 100 (w3.heap.size + 1 + 1) (some ⟨w3.heap.size + 1, 0, none⟩) 4 4 [[], [97, 46, 98, 46], lst bN, [120]] W5 hr5 (by omega) (by rw [owners_eq]; exact HRD5.out) (by omega) (by omega) (by omega) HA5.out HLE.out
  have HOF := hid hof
  clear hof
  go_wp2_with fail
  rw [HW5.out]
  refine HOF.out.mono ?_
  rintro e w6 ⟨ow, rfl, how, hr6, hb6⟩
  have hx6 := hx5.but hb6 (by omega)
  have hz6 := hz5.but hb6 (by omega)
  have hbw6 := hbw5.trans (hb6.below (by omega) (by omega))
  have hown6 := own_but hown5 hb6 (by omega)
  have hs6 : W5.heap.size ≤ w6.heap.size := hb6.size
  clear hr5 hb5 hB5 hx5 hz5 hown5 hbw5 hb6 HRD5 HA5 HLE HOF HW5 x0 x1 x2 x3 x4 x5
  obtain ⟨hr7, hrd7, hb7, hB7, hA7⟩ := with_row hr6 origins 9
  have hof2 := of_any (w.heap.size + 1) (q3 + 1) 100 (w6.heap.size + 1) (some ⟨w6.heap.size, 0, none⟩) 4 4 origins (w6.alloc (.cells (origins.map sv).toArray 9)).drew hr7.drew (by omega) hrd7.drew hB7 (by omega) (by omega) hA7 origins_le
  have hx7 := (hx6.alloc (.cells (origins.map sv).toArray 9)).drew
  have hz7 := (hz6.alloc (.cells (origins.map sv).toArray 9)).drew
  have hown7 := hown6.alloc (.cells (origins.map sv).toArray 9)
  have hbw7 := hbw6.alloc (by omega) (.cells (origins.map sv).toArray 9)
  rw [show (.cells (origins.map sv).toArray 9 : Obj) = (.cells #[.string ⟨#[97, 46, 98, 46]⟩, .string ⟨#[98, 46]⟩, .string ⟨#[46]⟩, .string ⟨#[97, 46, 98, 46]⟩] 9) from rfl] at hof2 hx7 hz7 hown7 hbw7
  have HOF2 := hid hof2
  clear hof2 hr7 hrd7 hb7 hB7 hA7
  obtain ⟨x0, x1, x2, x3, x4, x5⟩ := hx6.cells6
  obtain ⟨m0, m1, m2, m3, m4, m5⟩ := hx7.cells6
  go_wp2_with fail
  go_region_with (first
    | (go_at_call 51; refine HOF2.out.mono ?_; rintro e w8 ⟨ov, rfl, hov, hr8, hb8⟩; have hx8 := hx7.but hb8 (by omega); have hz8 := hz7.but hb8 (by omega); obtain ⟨p0, p1, p2, p3, p4, p5⟩ := hx8.cells6; obtain ⟨z0, z1, z2, z3, z4, z5⟩ := hz8.cells6; obtain ⟨f0, f1, f2, f3, f4, f5⟩ := hz8.free6))
  all_goals have hown8 := own_but (own_next hown7 (below_drewN (Below.refl _ _) 1)) hb8 (by omega)
  all_goals have hbw8 := (below_drewN hbw7 1).trans (hb8.below (by omega) (by simp; omega))
  all_goals have HB := hid hbw8
  all_goals have HO := hid hown8
  all_goals have HZ := hid hz8
  all_goals clear hbw8 hown8 hz8 hx8 hz7 hx7 hown7 hbw7 x0 x1 x2 x3 x4 x5 m0 m1 m2 m3 m4 m5 p0 p1 p2 p3 p4 p5 z0 z1 z2 z3 z4 z5 f0 f1 f2 f3 f4 f5 HOF2
  all_goals go_wp2
  all_goals exact ret_lineDrawn w.heap.size rfl rfl rfl rfl (six_set HZ.out _ _ _ _ _ _).cells6 ⟨bN, bT, bK, bA, bL, bC, bG, bX, bZ, ov, ow, rfl, own_mono (six_own HO.out (by omega) _ _ _ _ _ _) (by omega), by omega, hN3, hx3, hy3, hov, how, six_below HB.out (Nat.le_refl _) _ _ _ _ _ _⟩
end Go.Proofs.YtlknpipbjdecpaaGreatDoor

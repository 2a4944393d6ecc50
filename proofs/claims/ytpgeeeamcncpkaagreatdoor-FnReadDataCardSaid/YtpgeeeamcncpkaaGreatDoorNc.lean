/- What the draws of valid records return. -/
import Derived.Test.YtpgeeeamcncpkaaGreatDoorNa
import Derived.OneCell
namespace Go.Proofs.YtpgeeeamcncpkaaGreatDoor
open Go.RowKit
set_option maxRecDepth 100000
set_option linter.unusedVariables false

theorem Blk.but {w w' : World} {g k : Nat} {t : TypeId} {cs : List Value} (h : Blk w k t cs) (hb : But g w w') (hk : k ≠ g) : Blk w' k t cs := (hb.block k h.lt hk).trans h
theorem Rd.far {w : World} {g p k o : Nat} {u : Value} (h : Rd w g p) (hk : g < k) : Rd (w.setCell ⟨k, o, none⟩ u) g p := by
  obtain ⟨A, c, zs, hz, hg, hr⟩ := h
  exact ⟨A, c, zs, hz, (Below.heap_setCell w ⟨k, o, none⟩ u g (by show g ≠ k; omega)).trans hg, hr.keep fun q hq => World.cell?_of_block (Below.heap_setCell _ _ _ _ (by show q.block ≠ k; omega))⟩
theorem But.new {g k o : Nat} {a b : World} (h : But g a b) (hk : a.heap.size ≤ k) (u : Value) : But g a (b.setCell ⟨k, o, none⟩ u) :=
  ⟨h.os, h.tape, h.output, by have := h.size; simp [World.setCell]; omega, fun i hi hg => (Below.heap_setCell b ⟨k, o, none⟩ u i (by show i ≠ k; omega)).trans (h.block i hi hg)⟩
theorem own_but {w w' : World} {base g : Nat} {e : TypeId} {size : Nat} {v : Value} {n : Nat} {xs : List Value} (h : w.ownsRow base e size v n xs) (hb : But g w w') (hg : g < base) : w'.ownsRow base e size v n xs :=
  h.kept (row := some g) ⟨hb.os, hb.tape, hb.output, hb.size, fun k hk hne => hb.block k hk (fun e => hne (by rw [e]))⟩ (by
    cases hv : v.ownBlock with
    | none => exact Or.inl rfl
    | some k => exact Or.inr (fun e => by injection e with e; have := (h.lt k hv).1; omega))
theorem six_but {g k : Nat} {a b : World} (h : But g a b) (hk : a.heap.size ≤ k) (d0 d1 d2 d3 d4 d5 : Value) :
    But g a ((((((b.setCell ⟨k, 0, none⟩ d0).setCell ⟨k, 1, none⟩ d1).setCell ⟨k, 2, none⟩ d2).setCell ⟨k, 3, none⟩ d3).setCell ⟨k, 4, none⟩ d4).setCell ⟨k, 5, none⟩ d5) :=
  (((((h.new hk d0).new hk d1).new hk d2).new hk d3).new hk d4).new hk d5
theorem six_rd {w : World} {g p k : Nat} (h : Rd w g p) (hk : g < k) (d0 d1 d2 d3 d4 d5 : Value) :
    Rd ((((((w.setCell ⟨k, 0, none⟩ d0).setCell ⟨k, 1, none⟩ d1).setCell ⟨k, 2, none⟩ d2).setCell ⟨k, 3, none⟩ d3).setCell ⟨k, 4, none⟩ d4).setCell ⟨k, 5, none⟩ d5) g p :=
  (((((h.far hk).far hk).far hk).far hk).far hk).far hk
/-- Some record that is drawn from the source in block g. -/
def DrawOut (g p m : Nat) (w : World) (e : Ending) (w' : World) : Prop :=
  ∃ (N : ByteArray) (T K : Int) (A : Option Addr) (L c : Nat) (x y : ByteArray) (ns : List Int) (q : Nat), e = .returned (.agg #[.string N, .int .i64 T, .int .i64 K, .slice A L c, .string x, .string y]) ∧
    w'.ownsRow w.heap.size 3 1 (.slice A L c) L (ns.map iv) ∧ L ≤ m ∧ N.size ≤ 100 ∧ x.size ≤ 100 ∧ y.size ≤ 100 ∧ q ≤ p + 10 ∧ Rd w' g q ∧ But g w w'
def ttls : List Int := [0, 100000, 60, 300]
theorem ret_draw {a : Act} {W : World} {post : Ending → World → Prop} (b : Nat) {c0 c1 c2 c3 c4 c5 : Value} (hp : a.tmps[2]?.getD undef = .pointer (some ⟨b, 0, none⟩)) (hd : a.defers = [])
    (hB : W.cell? ⟨b, 0, none⟩ = some c0 ∧ W.cell? ⟨b, 1, none⟩ = some c1 ∧ W.cell? ⟨b, 2, none⟩ = some c2 ∧ W.cell? ⟨b, 3, none⟩ = some c3 ∧ W.cell? ⟨b, 4, none⟩ = some c4 ∧ W.cell? ⟨b, 5, none⟩ = some c5)
    (h : post (.returned (.agg #[c0, c1, c2, c3, c4, c5])) W) : bodyPost Tryz.prog Tryz.f41 post Exit.ret a W := by
  obtain ⟨h0, h1, h2, h3, h4, h5⟩ := hB
  exact bodyPost_ret (by simp [results, Tryz.results41, go_sem, hp, h0, h1, h2, h3, h4, h5]) hd h
set_option maxHeartbeats 8000000 in
theorem l2Draw_any (g p : Nat) (w : World) (hr : Rd w g p) (hp : p ≤ 900000) :
    Calls Tryz.prog 41 #[.pointer (some ⟨g, 0, none⟩)] w (DrawOut g p 90 w) := by
  have hgl := hr.lt
  have hr0 := hr.but ((Below.refl _ _).alloc (Nat.le_refl _) (.cells #[.string ⟨#[]⟩, .int .i64 0, .int .i64 0, .slice none 0 0, .string ⟨#[]⟩, .string ⟨#[]⟩] 25))
  have hz0 := Blk.new w 25 [.string ⟨#[]⟩, .int .i64 0, .int .i64 0, .slice none 0 0, .string ⟨#[]⟩, .string ⟨#[]⟩]
  have hb0 := (But.refl g w).alloc (.cells #[.string ⟨#[]⟩, .int .i64 0, .int .i64 0, .slice none 0 0, .string ⟨#[]⟩, .string ⟨#[]⟩] 25)
  obtain ⟨W, hW⟩ : ∃ W, W = w.alloc (.cells #[.string ⟨#[]⟩, .int .i64 0, .int .i64 0, .slice none 0 0, .string ⟨#[]⟩, .string ⟨#[]⟩] 25) := ⟨_, rfl⟩
  have hWs : W.heap.size = w.heap.size + 1 := by rw [hW]; simp
  have HW := hid hW
  replace hz0 : Blk W w.heap.size 25 [.string ⟨#[]⟩, .int .i64 0, .int .i64 0, .slice none 0 0, .string ⟨#[]⟩, .string ⟨#[]⟩] := by rw [hW]; exact hz0
  rw [← hW] at hr0 hb0
  clear hW
  obtain ⟨hr1, hrd1, hb1, hB1, hA1⟩ := with_row hr0 lineTexts 9
  have hz1 := hz0.alloc (.cells (lineTexts.map sv).toArray 9)
  have HA := hid hA1
  obtain ⟨V, hV⟩ : ∃ V, V = W.alloc (.cells (lineTexts.map sv).toArray 9) := ⟨_, rfl⟩
  have hVs : V.heap.size = W.heap.size + 1 := by rw [hV]; simp
  have HV := hid hV
  rw [← hV] at hr1 hrd1 hb1 hB1 hz1
  have HS1 := hid hWs
  have HS2 := hid hVs
  clear hV hA1 hr hWs hVs
  go_enter Tryz.func41, Tryz.ntmps41
  go_wp2_with fail
  refine (l2Lines_any _).mono ?_
  rintro e w1 ⟨rfl, hw1⟩
  rw [← HW.out, ← HV.out] at hw1
  subst hw1
  have hq : (w.alloc (.cells #[.string ⟨#[]⟩, .int .i64 0, .int .i64 0, .slice none 0 0, .string ⟨#[]⟩, .string ⟨#[]⟩] 25)).heap.size = W.heap.size := by rw [HW.out]
  rw [hq]
  clear hq
  go_wp2_with fail
  refine (of_any g p 40 _ _ 13 13 lineTexts _ (by exact hr1) (by omega) (by exact hrd1) (by exact hB1) (by omega) (by omega) HA.out lineTexts_le).mono ?_
  rintro e w2 ⟨s, rfl, hs, hr2, hb2⟩
  have hz2 := hz1.but hb2 (by omega)
  have hbw2 := hb0.trans (hb1.trans hb2)
  have hs2 : w.heap.size + 2 ≤ w2.heap.size := by have := hb2.size; have := HS1.out; have := HS2.out; omega
  clear hz1 hb0 hb1 hb2 hrd1 hr1 hr0 hz0 hB1
  have HS3 := hid hs2
  clear hs2
  go_wp2_with fail
  refine (l2Make_any s (by omega) w2).mono ?_
  rintro e w3 ⟨N, T, K, A, L, c, x, y, ns, rfl, hown, hL, hN, hxs, hy, hb3⟩
  have hs3 : w.heap.size + 2 ≤ w3.heap.size := by have := hb3.size; have := HS3.out; omega
  have hw2 : w.heap.size + 2 ≤ w2.heap.size := HS3.out
  have hr := (hr2.but hb3).but ((Below.refl _ _).alloc (Nat.le_refl _) (.cells #[.string N, .int .i64 T, .int .i64 K, .slice A L c, .string x, .string y] 25))
  have hz := (hz2.next hb3).alloc (.cells #[.string N, .int .i64 T, .int .i64 K, .slice A L c, .string x, .string y] 25)
  have hx : Blk (w3.alloc (.cells #[.string N, .int .i64 T, .int .i64 K, .slice A L c, .string x, .string y] 25)) w3.heap.size 25 [.string N, .int .i64 T, .int .i64 K, .slice A L c, .string x, .string y] := Blk.new w3 25 [.string N, .int .i64 T, .int .i64 K, .slice A L c, .string x, .string y]
  have hno : Value.ownBlock (.slice A L c) ≠ some w3.heap.size := fun e => by have := (hown.lt _ e).2; omega
  have ho := hown.alloc (.cells #[.string N, .int .i64 T, .int .i64 K, .slice A L c, .string x, .string y] 25)
  have hb := (hbw2.trans (But.of_below hb3)).alloc (.cells #[.string N, .int .i64 T, .int .i64 K, .slice A L c, .string x, .string y] 25)
  clear hr2 hz2 hown hb3 hbw2
  go_wp2_with fail
  refine (pick_any g (p + 1) 4 _ hr (by omega) (by omega) (by omega)).mono ?_
  rintro e w4 ⟨i, rfl, hi0, hi1, hr4, hb4⟩
  replace hz := hz.but hb4 (by omega)
  replace hx := hx.but hb4 (by omega)
  replace ho := own_but ho hb4 (by omega)
  replace hb := hb.trans hb4
  replace hr := hr4
  clear hr4 hb4
  by_cases hi : i = 0
  · subst hi
    obtain ⟨hr5, hrd5, hb5, hB5, hA5⟩ := with_ints hr ttls 3
    replace hz := hz.alloc (.cells (ttls.map iv).toArray 3)
    replace hx := hx.alloc (.cells (ttls.map iv).toArray 3)
    replace ho := ho.alloc (.cells (ttls.map iv).toArray 3)
    have HA5 := hid hA5
    clear hA5 hr
    go_wp2_with fail
    refine (num_draw g _ _ _ 4 4 ttls _ (by exact hr5) (by omega) (by exact hrd5) (by exact hB5) (by omega) (by omega) HA5.out).mono ?_
    rintro e w6 ⟨z, rfl, hzm, hr6, hb6⟩
    replace hz := hz.but hb6 (by omega)
    replace hx := hx.but hb6 (by omega)
    replace ho := own_but ho hb6 (by omega)
    replace hb := hb.trans (hb5.trans hb6)
    have hr := hr6
    clear hr6 hb6 hr5 hrd5 hb5 hB5
    obtain ⟨p0, p1, p2, p3, p4, p5⟩ := hx.cells6
    obtain ⟨f0, f1, f2, f3, f4, f5⟩ := hx.free6
    replace hx := hx.put 1 (.int .i64 z)
    replace hz := hz.far (p := ⟨w3.heap.size, 1, none⟩) (by show w.heap.size ≠ w3.heap.size; omega) (.int .i64 z)
    replace ho := ownsRow_setCell_other ho (a := ⟨w3.heap.size, 1, none⟩) hno (.int .i64 z)
    replace hb := hb.new (k := w3.heap.size) (o := 1) (by omega) (.int .i64 z)
    replace hr := hr.far (k := w3.heap.size) (o := 1) (u := .int .i64 z) (by omega)
    simp only [List.set_cons_zero, List.set_cons_succ] at hx
    clear hzm
    go_wp2_with fail
    refine (pick_any g _ 5 _ hr (by omega) (by omega) (by omega)).mono ?_
    rintro e w7 ⟨j, rfl, hj0, hj1, hr7, hb7⟩
    replace hz := hz.but hb7 (by omega)
    replace hx := hx.but hb7 (by omega)
    replace ho := own_but ho hb7 (by omega)
    replace hb := hb.trans hb7
    replace hr := hr7
    clear hr7 hb7
    by_cases hj : j = 0
    · subst hj
      go_wp2_with fail
      refine (l1Name_any g _ _ hr (by omega)).mono ?_
      rintro e w8 ⟨n8, rfl, hn8, hr8, hb8⟩
      replace hz := hz.but hb8 (by omega)
      replace hx := hx.but hb8 (by omega)
      replace ho := own_but ho hb8 (by omega)
      replace hb := hb.trans hb8
      replace hr := hr8
      clear hr8 hb8
      obtain ⟨a0, a1, a2, a3, a4, a5⟩ := hx.cells6
      obtain ⟨f0, f1, f2, f3, f4, f5⟩ := hx.free6
      replace hx := hx.put 0 (.string n8)
      replace hz := hz.far (p := ⟨w3.heap.size, 0, none⟩) (by show w.heap.size ≠ w3.heap.size; omega) (.string n8)
      replace ho := ownsRow_setCell_other ho (a := ⟨w3.heap.size, 0, none⟩) hno (.string n8)
      replace hb := hb.new (k := w3.heap.size) (o := 0) (by omega) (.string n8)
      replace hr := hr.far (k := w3.heap.size) (o := 0) (u := .string n8) (by omega)
      simp only [List.set_cons_zero] at hx
      obtain ⟨p0, p1, p2, p3, p4, p5⟩ := hx.cells6
      obtain ⟨r0, r1, r2, r3, r4, r5⟩ := hz.cells6
      obtain ⟨e0, e1, e2, e3, e4, e5⟩ := hz.free6
      have HZ := hid hz
      have HO := hid ho
      have HB := hid hb
      have HR := hid hr
      clear hz ho hb hr hx
      go_wp2
      exact ret_draw w.heap.size rfl rfl (six_set HZ.out _ _ _ _ _ _).cells6 ⟨_, _, _, _, _, _, _, _, ns, _, rfl, own_mono (six_own HO.out (by omega) _ _ _ _ _ _) (by omega), by omega, by omega, by omega, by omega, by omega, six_rd HR.out hgl _ _ _ _ _ _, six_but HB.out (Nat.le_refl _) _ _ _ _ _ _⟩
    · have hj' : (j == 0) = false := by simpa using hj
      clear hj
      obtain ⟨p0, p1, p2, p3, p4, p5⟩ := hx.cells6
      obtain ⟨r0, r1, r2, r3, r4, r5⟩ := hz.cells6
      obtain ⟨e0, e1, e2, e3, e4, e5⟩ := hz.free6
      have HZ := hid hz
      have HO := hid ho
      have HB := hid hb
      have HR := hid hr
      clear hz ho hb hr hx
      go_wp2
      exact ret_draw w.heap.size rfl rfl (six_set HZ.out _ _ _ _ _ _).cells6 ⟨_, _, _, _, _, _, _, _, ns, _, rfl, own_mono (six_own HO.out (by omega) _ _ _ _ _ _) (by omega), by omega, by omega, by omega, by omega, by omega, six_rd HR.out hgl _ _ _ _ _ _, six_but HB.out (Nat.le_refl _) _ _ _ _ _ _⟩
  · have hi' : (i == 0) = false := by simpa using hi
    clear hi
    go_wp2_with fail
    refine (pick_any g _ 5 _ hr (by omega) (by omega) (by omega)).mono ?_
    rintro e w7 ⟨j, rfl, hj0, hj1, hr7, hb7⟩
    replace hz := hz.but hb7 (by omega)
    replace hx := hx.but hb7 (by omega)
    replace ho := own_but ho hb7 (by omega)
    replace hb := hb.trans hb7
    replace hr := hr7
    clear hr7 hb7
    by_cases hj : j = 0
    · subst hj
      go_wp2_with fail
      refine (l1Name_any g _ _ hr (by omega)).mono ?_
      rintro e w8 ⟨n8, rfl, hn8, hr8, hb8⟩
      replace hz := hz.but hb8 (by omega)
      replace hx := hx.but hb8 (by omega)
      replace ho := own_but ho hb8 (by omega)
      replace hb := hb.trans hb8
      replace hr := hr8
      clear hr8 hb8
      obtain ⟨a0, a1, a2, a3, a4, a5⟩ := hx.cells6
      obtain ⟨f0, f1, f2, f3, f4, f5⟩ := hx.free6
      replace hx := hx.put 0 (.string n8)
      replace hz := hz.far (p := ⟨w3.heap.size, 0, none⟩) (by show w.heap.size ≠ w3.heap.size; omega) (.string n8)
      replace ho := ownsRow_setCell_other ho (a := ⟨w3.heap.size, 0, none⟩) hno (.string n8)
      replace hb := hb.new (k := w3.heap.size) (o := 0) (by omega) (.string n8)
      replace hr := hr.far (k := w3.heap.size) (o := 0) (u := .string n8) (by omega)
      simp only [List.set_cons_zero] at hx
      obtain ⟨p0, p1, p2, p3, p4, p5⟩ := hx.cells6
      obtain ⟨r0, r1, r2, r3, r4, r5⟩ := hz.cells6
      obtain ⟨e0, e1, e2, e3, e4, e5⟩ := hz.free6
      have HZ := hid hz
      have HO := hid ho
      have HB := hid hb
      have HR := hid hr
      clear hz ho hb hr hx
      go_wp2
      exact ret_draw w.heap.size rfl rfl (six_set HZ.out _ _ _ _ _ _).cells6 ⟨_, _, _, _, _, _, _, _, ns, _, rfl, own_mono (six_own HO.out (by omega) _ _ _ _ _ _) (by omega), by omega, by omega, by omega, by omega, by omega, six_rd HR.out hgl _ _ _ _ _ _, six_but HB.out (Nat.le_refl _) _ _ _ _ _ _⟩
    · have hj' : (j == 0) = false := by simpa using hj
      clear hj
      obtain ⟨p0, p1, p2, p3, p4, p5⟩ := hx.cells6
      obtain ⟨r0, r1, r2, r3, r4, r5⟩ := hz.cells6
      obtain ⟨e0, e1, e2, e3, e4, e5⟩ := hz.free6
      have HZ := hid hz
      have HO := hid ho
      have HB := hid hb
      have HR := hid hr
      clear hz ho hb hr hx
      go_wp2
      exact ret_draw w.heap.size rfl rfl (six_set HZ.out _ _ _ _ _ _).cells6 ⟨_, _, _, _, _, _, _, _, ns, _, rfl, own_mono (six_own HO.out (by omega) _ _ _ _ _ _) (by omega), by omega, by omega, by omega, by omega, by omega, six_rd HR.out hgl _ _ _ _ _ _, six_but HB.out (Nat.le_refl _) _ _ _ _ _ _⟩
end Go.Proofs.YtpgeeeamcncpkaaGreatDoor

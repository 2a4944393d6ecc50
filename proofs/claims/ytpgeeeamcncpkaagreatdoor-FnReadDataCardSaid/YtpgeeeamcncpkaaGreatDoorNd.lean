/- What the draws of records that may be wrong return. -/
import Derived.Test.YtpgeeeamcncpkaaGreatDoorNc
import Derived.Deep.RegionLaw
import Derived.Deep.RegionHeld3
namespace Go.Proofs.YtpgeeeamcncpkaaGreatDoor
open Go.RowKit
set_option maxRecDepth 100000
set_option linter.unusedVariables false

def wKinds : List Int := [0, 1, 2, 16, 99]
def wTtls : List Int := [-1, 100001]
def wNums : List Int := [0, 256]
def wTargets : List Z.Str := [[], [65, 46], [98, 46], [120]]
theorem wTargets_le : ∀ l ∈ wTargets, l.length ≤ 40 := by decide
def wTexts : List Z.Str := [[120], [34], [97, 32, 116, 101, 120, 116, 32, 116, 104, 97, 116, 32, 105, 115, 32, 116, 111, 111, 32, 108, 111, 110, 103]]
theorem wTexts_le : ∀ l ∈ wTexts, l.length ≤ 40 := by decide
def wBig : List Int := [-1, 256, 4294967295, 4294967296]
theorem But.undrew {g : Nat} {w w' : World} (h : But g w.drew w') : But g w w' := ⟨h.os, h.tape, h.output, h.size, h.block⟩
theorem Blk.grown {w w' : World} {g : Nat} {t : TypeId} {cs : List Value} {row : Option Nat} (h : Blk w g t cs) (hb : w.grownBy w' row) (hg : row ≠ some g) : Blk w' g t cs := (hb.block g h.lt (fun e => hg e.symm)).trans h
theorem But.grown {g : Nat} {a b c : World} {row : Option Nat} (h : But g a b) (hg : b.grownBy c row) (hr : ∀ k, row = some k → a.heap.size ≤ k) : But g a c :=
  ⟨hg.os.trans h.os, hg.tape.trans h.tape, hg.output.trans h.output, Nat.le_trans h.size hg.size, fun k hk hne => (hg.block k (by have := h.size; omega) (fun e => by have := hr k e.symm; omega)).trans (h.block k hk hne)⟩
theorem Rd.grown {w w' : World} {g p : Nat} {row : Option Nat} (h : Rd w g p) (hg : w.grownBy w' row) (hr : ∀ k, row = some k → g < k) : Rd w' g p := by
  have hl := h.lt
  obtain ⟨A, c, zs, hz, hh, hrd⟩ := h
  exact ⟨A, c, zs, hz, (hg.block g hl (fun e => by have := hr g e.symm; omega)).trans hh, hrd.keep fun q hq => World.cell?_of_block (hg.block q.block (by omega) (fun e => by have := hr _ e.symm; omega))⟩
theorem own_int {w : World} {base gg cap L : Nat} {zs : List Int} (h : w.ownsRow base 3 1 (.slice (some ⟨gg, 0, none⟩) L cap) L (zs.map iv)) {k : Nat} (hk : k < L) : w.cell? ⟨gg, k, none⟩ = some (.int .i64 (zs.getD k 0)) := by
  have hl : zs.length = L := by simpa using h.1
  rw [h.cellAt k (by omega), List.getElem?_map, List.getElem?_eq_getElem (by omega)]
  simp [iv, hl, hk]
theorem with_big {w : World} {g p : Nat} (hr : Rd w g p) :
    Rd (w.alloc (.cells #[.int .i64 (-1), .int .i64 256, .int .i64 4294967295, .int .i64 4294967296] 3)) g p ∧ Reads (w.alloc (.cells #[.int .i64 (-1), .int .i64 256, .int .i64 4294967295, .int .i64 4294967296] 3)) (w.heap.size + 1) (some ⟨w.heap.size, 0, none⟩) 4 (wBig.map iv) ∧
      But g w (w.alloc (.cells #[.int .i64 (-1), .int .i64 256, .int .i64 4294967295, .int .i64 4294967296] 3)) ∧ w.heap.size + 1 ≤ (w.alloc (.cells #[.int .i64 (-1), .int .i64 256, .int .i64 4294967295, .int .i64 4294967296] 3)).heap.size ∧ ∀ ad : Addr, some (⟨w.heap.size, 0, none⟩ : Addr) = some ad → ad.block ≠ g := by
  have h := with_ints hr wBig 3
  have e : (wBig.map iv).toArray = #[.int .i64 (-1), .int .i64 256, .int .i64 4294967295, .int .i64 4294967296] := by simp [wBig, iv]
  rw [e] at h
  exact h
theorem ret_wrong {a : Act} {W : World} {post : Ending → World → Prop} (b : Nat) {c0 c1 c2 c3 c4 c5 : Value} (hp : a.tmps[4]?.getD undef = .pointer (some ⟨b, 0, none⟩)) (hd : a.defers = [])
    (hB : W.cell? ⟨b, 0, none⟩ = some c0 ∧ W.cell? ⟨b, 1, none⟩ = some c1 ∧ W.cell? ⟨b, 2, none⟩ = some c2 ∧ W.cell? ⟨b, 3, none⟩ = some c3 ∧ W.cell? ⟨b, 4, none⟩ = some c4 ∧ W.cell? ⟨b, 5, none⟩ = some c5)
    (h : post (.returned (.agg #[c0, c1, c2, c3, c4, c5])) W) : bodyPost Tryz.prog Tryz.f74 post Exit.ret a W := by
  obtain ⟨h0, h1, h2, h3, h4, h5⟩ := hB
  exact bodyPost_ret (by simp [results, Tryz.results74, go_sem, hp, h0, h1, h2, h3, h4, h5]) hd h
set_option maxHeartbeats 8000000 in
theorem l2Wrong_any (g p m : Nat) (aN : ByteArray) (aT aK : Int) (aA : Option Addr) (aL aC : Nat) (aG aX : ByteArray) (aZ : List Int) (aB : Nat) (w : World) (hr : Rd w g p) (hp : p ≤ 900000) (hra : Reads w aB aA aL (aZ.map iv)) (hba : aB ≤ w.heap.size) (hla : aL ≤ 67108864) (hm : aL ≤ m) (hm9 : m ≤ 99) (h1 : aN.size ≤ 100) (h2 : aG.size ≤ 100) (h3 : aX.size ≤ 100) :
    Calls Tryz.prog 74 #[.pointer (some ⟨g, 0, none⟩), .agg #[.string aN, .int .i64 aT, .int .i64 aK, .slice aA aL aC, .string aG, .string aX]] w (DrawOut g p (m + 1) w) := by
  have hgl := hr.lt
  go_enter Tryz.func74, Tryz.ntmps74
  go_wp2_with fail
  have hbx : Below w.heap.size w ((w.alloc (.cells #[.string aN, .int .i64 aT, .int .i64 aK, .slice aA aL aC, .string aG, .string aX] 25)).alloc (.cells #[.string ⟨#[]⟩, .int .i64 0, .int .i64 0, .slice none 0 0, .string ⟨#[]⟩, .string ⟨#[]⟩] 25)) := by go_grown
  refine (l2Copy_any aN aT aK aA aL aC aG aX aZ aB _ (hra.below hbx hba) (by simp; omega) hla (by omega) h1 h2 h3).mono ?_
  rintro e w3 ⟨A, c, rfl, hown, hb3⟩
  have hz9 : Blk ((w.alloc (.cells #[.string aN, .int .i64 aT, .int .i64 aK, .slice aA aL aC, .string aG, .string aX] 25)).alloc (.cells #[.string ⟨#[]⟩, .int .i64 0, .int .i64 0, .slice none 0 0, .string ⟨#[]⟩, .string ⟨#[]⟩] 25)) (w.heap.size + 1) 25 [.string ⟨#[]⟩, .int .i64 0, .int .i64 0, .slice none 0 0, .string ⟨#[]⟩, .string ⟨#[]⟩] := by
    have := Blk.new (w.alloc (.cells #[.string aN, .int .i64 aT, .int .i64 aK, .slice aA aL aC, .string aG, .string aX] 25)) 25 [.string ⟨#[]⟩, .int .i64 0, .int .i64 0, .slice none 0 0, .string ⟨#[]⟩, .string ⟨#[]⟩]
    simpa using this
  have hs3 : w.heap.size + 2 ≤ w3.heap.size := by have := hb3.size; simp at this; omega
  have hr := ((hr.but hbx).but hb3).but ((Below.refl _ _).alloc (Nat.le_refl _) (.cells #[.string aN, .int .i64 aT, .int .i64 aK, .slice A aL c, .string aG, .string aX] 25))
  have hz := (hz9.next hb3).alloc (.cells #[.string aN, .int .i64 aT, .int .i64 aK, .slice A aL c, .string aG, .string aX] 25)
  have hx : Blk (w3.alloc (.cells #[.string aN, .int .i64 aT, .int .i64 aK, .slice A aL c, .string aG, .string aX] 25)) w3.heap.size 25 [.string aN, .int .i64 aT, .int .i64 aK, .slice A aL c, .string aG, .string aX] := Blk.new w3 25 [.string aN, .int .i64 aT, .int .i64 aK, .slice A aL c, .string aG, .string aX]
  have hno : Value.ownBlock (.slice A aL c) ≠ some w3.heap.size := fun e => by have := (hown.lt _ e).2; omega
  have ho := own_mono (hown.alloc (.cells #[.string aN, .int .i64 aT, .int .i64 aK, .slice A aL c, .string aG, .string aX] 25)) (base' := w.heap.size + 2) (by simp)
  have hb : But g w (w3.alloc (.cells #[.string aN, .int .i64 aT, .int .i64 aK, .slice A aL c, .string aG, .string aX] 25)) := (((But.of_below hbx)).trans (But.of_below hb3)).alloc (.cells #[.string aN, .int .i64 aT, .int .i64 aK, .slice A aL c, .string aG, .string aX] 25)
  clear hown hb3 hz9 hbx
  go_wp2_with fail
  refine (pick_any g p 20 _ hr (by omega) (by omega) (by omega)).mono ?_
  rintro e w4 ⟨i, rfl, hi0, hi1, hr4, hb4⟩
  replace hz := hz.but hb4 (by omega)
  replace hx := hx.but hb4 (by omega)
  replace ho := own_but ho hb4 (by omega)
  replace hb := hb.trans hb4
  replace hr := hr4
  clear hr4 hb4
  rcases (show i = 0 ∨ i = 1 ∨ i = 2 ∨ i = 3 ∨ i = 4 ∨ i = 5 ∨ 6 ≤ i by omega) with rfl | rfl | rfl | rfl | rfl | rfl | hi6
  · skip
    obtain ⟨hr5, hrd5, hb5, hB5, hA5⟩ := with_ints hr wKinds 3
    replace hz := hz.alloc ((.cells (wKinds.map iv).toArray 3))
    replace hx := hx.alloc ((.cells (wKinds.map iv).toArray 3))
    replace ho := ho.alloc ((.cells (wKinds.map iv).toArray 3))
    replace hb := hb.alloc ((.cells (wKinds.map iv).toArray 3))
    have HA5 := hid hA5
    clear hA5 hr hb5
    go_wp2_with fail
    refine (num_draw g _ _ _ 5 5 wKinds _ (by exact hr5) (by omega) (by exact hrd5) (by exact hB5) (by omega) (by omega) HA5.out).mono ?_
    rintro e w6 ⟨z, rfl, hzm, hr6, hb6⟩
    replace hz := hz.but hb6 (by omega)
    replace hx := hx.but hb6 (by omega)
    replace ho := own_but ho hb6 (by omega)
    replace hb := hb.trans hb6
    have hr := hr6
    clear hr6 hb6 hr5 hrd5 hB5 hzm
    obtain ⟨a0, a1, a2, a3, a4, a5⟩ := hx.cells6
    obtain ⟨f0, f1, f2, f3, f4, f5⟩ := hx.free6
    replace hx := hx.put 2 (.int .i64 z)
    replace hz := hz.far (p := ⟨w3.heap.size, 2, none⟩) (by show w.heap.size + 1 ≠ w3.heap.size; omega) (.int .i64 z)
    replace ho := ownsRow_setCell_other ho (a := ⟨w3.heap.size, 2, none⟩) hno (.int .i64 z)
    replace hb := hb.new (k := w3.heap.size) (o := 2) (by omega) (.int .i64 z)
    replace hr := hr.far (k := w3.heap.size) (o := 2) (u := .int .i64 z) (by omega)
    simp only [List.set_cons_zero, List.set_cons_succ] at hx
    obtain ⟨p0, p1, p2, p3, p4, p5⟩ := hx.cells6
    obtain ⟨r0, r1, r2, r3, r4, r5⟩ := hz.cells6
    obtain ⟨e0, e1, e2, e3, e4, e5⟩ := hz.free6
    have HZ := hid hz
    have HO := hid ho
    have HB := hid hb
    have HR := hid hr
    clear hz ho hb hr hx
    go_wp2
    exact ret_wrong (w.heap.size + 1) rfl rfl (six_set HZ.out _ _ _ _ _ _).cells6 ⟨_, _, _, _, _, _, _, _, aZ, _, rfl, own_mono (six_own HO.out (by omega) _ _ _ _ _ _) (by omega), by omega, by omega, by omega, by omega, by omega, six_rd HR.out (by omega) _ _ _ _ _ _, six_but HB.out (by omega) _ _ _ _ _ _⟩
  · skip
    obtain ⟨hr5, hrd5, hb5, hB5, hA5⟩ := with_ints hr wTtls 3
    replace hz := hz.alloc ((.cells (wTtls.map iv).toArray 3))
    replace hx := hx.alloc ((.cells (wTtls.map iv).toArray 3))
    replace ho := ho.alloc ((.cells (wTtls.map iv).toArray 3))
    replace hb := hb.alloc ((.cells (wTtls.map iv).toArray 3))
    have HA5 := hid hA5
    clear hA5 hr hb5
    go_wp2_with fail
    refine (num_draw g _ _ _ 2 2 wTtls _ (by exact hr5) (by omega) (by exact hrd5) (by exact hB5) (by omega) (by omega) HA5.out).mono ?_
    rintro e w6 ⟨z, rfl, hzm, hr6, hb6⟩
    replace hz := hz.but hb6 (by omega)
    replace hx := hx.but hb6 (by omega)
    replace ho := own_but ho hb6 (by omega)
    replace hb := hb.trans hb6
    have hr := hr6
    clear hr6 hb6 hr5 hrd5 hB5 hzm
    obtain ⟨a0, a1, a2, a3, a4, a5⟩ := hx.cells6
    obtain ⟨f0, f1, f2, f3, f4, f5⟩ := hx.free6
    replace hx := hx.put 1 (.int .i64 z)
    replace hz := hz.far (p := ⟨w3.heap.size, 1, none⟩) (by show w.heap.size + 1 ≠ w3.heap.size; omega) (.int .i64 z)
    replace ho := ownsRow_setCell_other ho (a := ⟨w3.heap.size, 1, none⟩) hno (.int .i64 z)
    replace hb := hb.new (k := w3.heap.size) (o := 1) (by omega) (.int .i64 z)
    replace hr := hr.far (k := w3.heap.size) (o := 1) (u := .int .i64 z) (by omega)
    simp only [List.set_cons_zero, List.set_cons_succ] at hx
    obtain ⟨p0, p1, p2, p3, p4, p5⟩ := hx.cells6
    obtain ⟨r0, r1, r2, r3, r4, r5⟩ := hz.cells6
    obtain ⟨e0, e1, e2, e3, e4, e5⟩ := hz.free6
    have HZ := hid hz
    have HO := hid ho
    have HB := hid hb
    have HR := hid hr
    clear hz ho hb hr hx
    go_wp2
    exact ret_wrong (w.heap.size + 1) rfl rfl (six_set HZ.out _ _ _ _ _ _).cells6 ⟨_, _, _, _, _, _, _, _, aZ, _, rfl, own_mono (six_own HO.out (by omega) _ _ _ _ _ _) (by omega), by omega, by omega, by omega, by omega, by omega, six_rd HR.out (by omega) _ _ _ _ _ _, six_but HB.out (by omega) _ _ _ _ _ _⟩
  · skip
    obtain ⟨i0, hi0, hz0, hz1, hz2⟩ := info_parts infoIntz
    obtain ⟨hr5, hrd5, hb5, hB5, hA5⟩ := with_ints hr wNums 3
    obtain ⟨p0, p1, p2, p3, p4, p5⟩ := hx.cells6
    have l4 := hx.lt
    have hzz := hz.alloc (.cells (wNums.map iv).toArray 3)
    have hxx := hx.alloc (.cells (wNums.map iv).toArray 3)
    have hoo := ho.alloc (.cells (wNums.map iv).toArray 3)
    have hbb := hb.alloc (.cells (wNums.map iv).toArray 3)
    obtain ⟨q0, q1, q2, q3, q4, q5⟩ := hxx.cells6
    have HA5 := hid hA5
    clear hA5 hr hb5
    go_wp2_with fail
    go_region_law ((first
      | (refine step_append_lies _ (by rfl) (.tmp 25) (.tmp 29) 23 (by rfl) (w.heap.size + 2) 3 i0 _ 1 8 Tryz.underlying23 hi0 hz0 hz1 hz2 rfl (by omega) (.slice A aL c) aL (aZ.map iv) (by rfl) (by first | exact ho6.alloc _ | exact (ho6.alloc _).drew) ⟨w6.heap.size, 0, none⟩ 1 1 [.int .i64 zz] (by rfl) (by rfl) (World.news_of_block (cs := #[.int .i64 zz]) (t := 3) (fr := (0, 0)) (heap_alloc_new w6 _)) (by simp [Value.oneCell']) (by omega) (by unfold maxLen; omega) (by omega) (by simp; omega) (w6.heap.size + 1) (by simp) ?_; intro gg cap w7 hown7 hgrow hat hlt; have hgr : (w6.alloc (.cells #[.int .i64 zz] 3)).grownBy w7 (Value.ownBlock (.slice A aL c)) := (by first | exact hgrow | exact ⟨hgrow.os, hgrow.tape, hgrow.output, hgrow.size, hgrow.block⟩); have hx7 := (hx6.alloc (.cells #[.int .i64 zz] 3)).grown hgr hno; have hz7 := (hz6.alloc (.cells #[.int .i64 zz] 3)).grown hgr (own_of_two ho6 (by omega)); obtain ⟨c0, c1, c2, c3, c4, c5⟩ := hx7.cells6; obtain ⟨f0, f1, f2, f3, f4, f5⟩ := hx7.free6)
      | (go_simp; go_wp2_with (go_at_call 45; refine (num_draw g _ _ _ 2 2 wNums _ (by exact hr5) (by omega) (by exact hrd5) (by exact hB5) (by omega) (by omega) HA5.out).mono ?_; rintro e w6 ⟨zz, rfl, hzm, hr6, hb6⟩; have hb6' : But g (w4.alloc (.cells (wNums.map iv).toArray 3)) w6 := (by first | exact hb6 | exact But.undrew hb6); have hz6 := hzz.but hb6' (by omega); have hx6 := hxx.but hb6' (by omega); have ho6 := own_but hoo hb6' (by omega); have hbb6 := hbb.trans hb6'; obtain ⟨a0, a1, a2, a3, a4, a5⟩ := hx6.cells6; have l6 := hx6.lt))))
    all_goals
      clear hz hx ho hb p0 p1 p2 p3 p4 p5 q0 q1 q2 q3 q4 q5 a0 a1 a2 a3 a4 a5 c0 c1 c2 c3 c4 c5 f0 f1 f2 f3 f4 f5 hrd5 hB5 hr5
      have hno7 : Value.ownBlock (.slice (some ⟨gg, 0, none⟩) (aL + 1) cap) ≠ some w3.heap.size := fun e => by
        have e2 : gg = w3.heap.size := by simpa [Value.ownBlock] using e
        subst e2
        rcases hat with h9 | h9
        · exact hno h9
        · omega
      have hx := hx7.put 3 (.slice (some ⟨gg, 0, none⟩) (aL + 1) cap)
      have hz := hz7.far (p := ⟨w3.heap.size, 3, none⟩) (by show w.heap.size + 1 ≠ w3.heap.size; omega) (.slice (some ⟨gg, 0, none⟩) (aL + 1) cap)
      have ho8 : w7.ownsRow (w.heap.size + 2) 3 1 (.slice (some ⟨gg, 0, none⟩) (aL + 1) cap) (aL + 1) ((aZ ++ [zz]).map iv) := by
        have h9 : (aZ ++ [zz]).map iv = aZ.map iv ++ [.int .i64 zz] := by simp [iv]
        rw [h9]
        exact hown7
      have ho := ownsRow_setCell_other ho8 (a := ⟨w3.heap.size, 3, none⟩) hno7 (.slice (some ⟨gg, 0, none⟩) (aL + 1) cap)
      have hb := ((hbb6.alloc (.cells #[.int .i64 zz] 3)).grown hgr (fun k hk => by have := (ho6.lt k hk).1; omega)).new (k := w3.heap.size) (o := 3) (by omega) (.slice (some ⟨gg, 0, none⟩) (aL + 1) cap)
      have hr := ((hr6.but ((Below.refl _ _).alloc (Nat.le_refl _) (.cells #[.int .i64 zz] 3))).grown hgr (fun k hk => by have := (ho6.lt k hk).1; omega)).far (k := w3.heap.size) (o := 3) (u := .slice (some ⟨gg, 0, none⟩) (aL + 1) cap) (by omega)
      simp only [List.set_cons_zero, List.set_cons_succ] at hx
      clear hx7 hz7 ho8 hown7 hgr hgrow hat hlt hz6 hx6 ho6 hbb6 hb6 hb6' hr6 hzz hxx hoo hbb hzm l4 l6
      obtain ⟨p0, p1, p2, p3, p4, p5⟩ := hx.cells6
      obtain ⟨r0, r1, r2, r3, r4, r5⟩ := hz.cells6
      obtain ⟨e0, e1, e2, e3, e4, e5⟩ := hz.free6
      have HZ := hid hz
      have HO := hid ho
      have HB := hid hb
      have HR := hid hr
      clear hz ho hb hr hx
      go_wp2
      exact ret_wrong (w.heap.size + 1) rfl rfl (six_set HZ.out _ _ _ _ _ _).cells6 ⟨_, _, _, _, _, _, _, _, (aZ ++ [zz]), _, rfl, own_mono (six_own HO.out (by omega) _ _ _ _ _ _) (by omega), by omega, by omega, by omega, by omega, by omega, six_rd HR.out (by omega) _ _ _ _ _ _, six_but HB.out (by omega) _ _ _ _ _ _⟩
  · skip
    obtain ⟨hr5, hrd5, hb5, hB5, hA5⟩ := with_row hr wTargets 9
    replace hz := hz.alloc ((.cells (wTargets.map sv).toArray 9))
    replace hx := hx.alloc ((.cells (wTargets.map sv).toArray 9))
    replace ho := ho.alloc ((.cells (wTargets.map sv).toArray 9))
    replace hb := hb.alloc ((.cells (wTargets.map sv).toArray 9))
    have HA5 := hid hA5
    clear hA5 hr hb5
    go_wp2_with fail
    refine (of_any g _ 40 _ _ 4 4 wTargets _ (by exact hr5) (by omega) (by exact hrd5) (by exact hB5) (by omega) (by omega) HA5.out wTargets_le).mono ?_
    rintro e w6 ⟨s6, rfl, hs6, hr6, hb6⟩
    replace hz := hz.but hb6 (by omega)
    replace hx := hx.but hb6 (by omega)
    replace ho := own_but ho hb6 (by omega)
    replace hb := hb.trans hb6
    have hr := hr6
    clear hr6 hb6 hr5 hrd5 hB5
    obtain ⟨a0, a1, a2, a3, a4, a5⟩ := hx.cells6
    obtain ⟨f0, f1, f2, f3, f4, f5⟩ := hx.free6
    replace hx := hx.put 4 (.string s6)
    replace hz := hz.far (p := ⟨w3.heap.size, 4, none⟩) (by show w.heap.size + 1 ≠ w3.heap.size; omega) (.string s6)
    replace ho := ownsRow_setCell_other ho (a := ⟨w3.heap.size, 4, none⟩) hno (.string s6)
    replace hb := hb.new (k := w3.heap.size) (o := 4) (by omega) (.string s6)
    replace hr := hr.far (k := w3.heap.size) (o := 4) (u := .string s6) (by omega)
    simp only [List.set_cons_zero, List.set_cons_succ] at hx
    obtain ⟨p0, p1, p2, p3, p4, p5⟩ := hx.cells6
    obtain ⟨r0, r1, r2, r3, r4, r5⟩ := hz.cells6
    obtain ⟨e0, e1, e2, e3, e4, e5⟩ := hz.free6
    have HZ := hid hz
    have HO := hid ho
    have HB := hid hb
    have HR := hid hr
    clear hz ho hb hr hx
    go_wp2
    exact ret_wrong (w.heap.size + 1) rfl rfl (six_set HZ.out _ _ _ _ _ _).cells6 ⟨_, _, _, _, _, _, _, _, aZ, _, rfl, own_mono (six_own HO.out (by omega) _ _ _ _ _ _) (by omega), by omega, by omega, by omega, by omega, by omega, six_rd HR.out (by omega) _ _ _ _ _ _, six_but HB.out (by omega) _ _ _ _ _ _⟩
  · skip
    obtain ⟨hr5, hrd5, hb5, hB5, hA5⟩ := with_row hr wTexts 9
    replace hz := hz.alloc ((.cells (wTexts.map sv).toArray 9))
    replace hx := hx.alloc ((.cells (wTexts.map sv).toArray 9))
    replace ho := ho.alloc ((.cells (wTexts.map sv).toArray 9))
    replace hb := hb.alloc ((.cells (wTexts.map sv).toArray 9))
    have HA5 := hid hA5
    clear hA5 hr hb5
    go_wp2_with fail
    refine (of_any g _ 40 _ _ 3 3 wTexts _ (by exact hr5) (by omega) (by exact hrd5) (by exact hB5) (by omega) (by omega) HA5.out wTexts_le).mono ?_
    rintro e w6 ⟨s6, rfl, hs6, hr6, hb6⟩
    replace hz := hz.but hb6 (by omega)
    replace hx := hx.but hb6 (by omega)
    replace ho := own_but ho hb6 (by omega)
    replace hb := hb.trans hb6
    have hr := hr6
    clear hr6 hb6 hr5 hrd5 hB5
    obtain ⟨a0, a1, a2, a3, a4, a5⟩ := hx.cells6
    obtain ⟨f0, f1, f2, f3, f4, f5⟩ := hx.free6
    replace hx := hx.put 5 (.string s6)
    replace hz := hz.far (p := ⟨w3.heap.size, 5, none⟩) (by show w.heap.size + 1 ≠ w3.heap.size; omega) (.string s6)
    replace ho := ownsRow_setCell_other ho (a := ⟨w3.heap.size, 5, none⟩) hno (.string s6)
    replace hb := hb.new (k := w3.heap.size) (o := 5) (by omega) (.string s6)
    replace hr := hr.far (k := w3.heap.size) (o := 5) (u := .string s6) (by omega)
    simp only [List.set_cons_zero, List.set_cons_succ] at hx
    obtain ⟨p0, p1, p2, p3, p4, p5⟩ := hx.cells6
    obtain ⟨r0, r1, r2, r3, r4, r5⟩ := hz.cells6
    obtain ⟨e0, e1, e2, e3, e4, e5⟩ := hz.free6
    have HZ := hid hz
    have HO := hid ho
    have HB := hid hb
    have HR := hid hr
    clear hz ho hb hr hx
    go_wp2
    exact ret_wrong (w.heap.size + 1) rfl rfl (six_set HZ.out _ _ _ _ _ _).cells6 ⟨_, _, _, _, _, _, _, _, aZ, _, rfl, own_mono (six_own HO.out (by omega) _ _ _ _ _ _) (by omega), by omega, by omega, by omega, by omega, by omega, six_rd HR.out (by omega) _ _ _ _ _ _, six_but HB.out (by omega) _ _ _ _ _ _⟩
  · skip
    by_cases h0 : aL = 0
    · have hl0 : decide (0 < aL) = false := by simp; omega
      have H0 := hid h0
      clear h0
      obtain ⟨b0, b1, b2, b3, b4, b5⟩ := hx.cells6
      obtain ⟨p0, p1, p2, p3, p4, p5⟩ := hx.cells6
      obtain ⟨r0, r1, r2, r3, r4, r5⟩ := hz.cells6
      obtain ⟨e0, e1, e2, e3, e4, e5⟩ := hz.free6
      have HZ := hid hz
      have HO := hid ho
      have HB := hid hb
      have HR := hid hr
      clear hz ho hb hr hx
      go_wp2
      exact ret_wrong (w.heap.size + 1) rfl rfl (six_set HZ.out _ _ _ _ _ _).cells6 ⟨_, _, _, _, _, _, _, _, aZ, _, rfl, own_mono (six_own HO.out (by omega) _ _ _ _ _ _) (by omega), by omega, by omega, by omega, by omega, by omega, six_rd HR.out (by omega) _ _ _ _ _ _, six_but HB.out (by omega) _ _ _ _ _ _⟩
    · obtain ⟨gg, cap, hA, hgb, hgl4⟩ := ho.form (by omega)
      have hA2 : A = some ⟨gg, 0, none⟩ := by injection hA
      subst hA2
      clear hA
      have hgx : gg ≠ w3.heap.size := fun e => hno (by rw [e]; rfl)
      have hl0 : decide (0 < aL) = true := by simp; omega
      obtain ⟨hrA, hrdA, hbA, hBA, hA5⟩ := with_big hr
      obtain ⟨p0, p1, p2, p3, p4, p5⟩ := hx.cells6
      have hxA := hx.alloc (.cells #[.int .i64 (-1), .int .i64 256, .int .i64 4294967295, .int .i64 4294967296] 3)
      obtain ⟨q0, q1, q2, q3, q4, q5⟩ := hxA.cells6
      have l4 := hx.lt
      have HA5 := hid hA5
      clear hA5
      go_wp2_with fail
      go_region_held3 (fun w' => w'.cell? ⟨w3.heap.size, 3, none⟩ = some (.slice (some ⟨gg, 0, none⟩) aL c))
        (first | exact p3 | exact q3 | exact a3 | exact d3 | go_keep)
        (first
        | (go_at_call 44; refine (pick_any g _ _ _ (by exact hr) (by omega) (by omega) (by omega)).mono ?_; rintro e w5 ⟨j, rfl, hj0, hj1, hr5, hb5⟩; obtain ⟨k, rfl⟩ := Int.eq_ofNat_of_zero_le hj0; have hb5' : But g w4 w5 := (by first | exact hb5 | exact But.undrew hb5); have hz5 := hz.but hb5' (by omega); have hx5 := hx.but hb5' (by omega); have ho5 := own_but ho hb5' (by omega); have hbb5 := hb.trans hb5'; have a3 := hx5.cells6.2.2.2.1; have l5 := hx5.lt; have hk : k < aL := (by omega); obtain ⟨hrB, hrdB, hbB, hBB, hAB⟩ := with_big hr5; have HAB := hid hAB; clear hAB)
        | (go_at_call 44; refine (pick_any g _ _ _ (by exact hrA) (by omega) (by omega) (by omega)).mono ?_; rintro e w5 ⟨j, rfl, hj0, hj1, hr5, hb5⟩; obtain ⟨k, rfl⟩ := Int.eq_ofNat_of_zero_le hj0; have hb5a : But g (w4.alloc (.cells #[.int .i64 (-1), .int .i64 256, .int .i64 4294967295, .int .i64 4294967296] 3)) w5 := (by first | exact hb5 | exact But.undrew hb5); have hb5' := hbA.trans hb5a; have hrdB := hb5a.reads hrdA hBA (fun _ => HA5.out); have hBB : w4.heap.size + 1 ≤ w5.heap.size := (by have := hb5a.size; omega); have hz5 := hz.but hb5' (by omega); have hx5 := hx.but hb5' (by omega); have ho5 := own_but ho hb5' (by omega); have hbb5 := hb.trans hb5'; have a3 := hx5.cells6.2.2.2.1; have l5 := hx5.lt; have hk : k < aL := (by omega); have hrB := hr5; have hbB := But.refl g w5; have HAB := HA5)
        | (go_at_call 45; refine (num_draw g _ _ _ 4 4 wBig _ (by exact hrB) (by omega) (by exact hrdB) (by exact hBB) (by omega) (by omega) HAB.out).mono ?_; rintro e w6 ⟨zz, rfl, hzm, hr6, hb6⟩; have hb6' : But g w5 w6 := (by first | exact hbB.trans hb6 | exact hbB.trans (But.undrew hb6)); have hz6 := hz5.but hb6' (by omega); have hx6 := hx5.but hb6' (by omega); have ho6 := own_but ho5 hb6' (by omega); have hbb6 := hbb5.trans hb6'; have hc6 : w6.cell? ⟨gg, k, none⟩ = some (.int .i64 (aZ.getD k 0)) := (own_int ho6 hk); have hf6 := ho6.frozenAt k; have d3 := hx6.cells6.2.2.2.1; have l6 := hx6.lt))
      all_goals
        clear hr hz hx ho hb p0 p1 p2 p3 p4 p5 q0 q1 q2 q3 q4 q5 a3 d3 hrB hrdB hbB hBB hrA hrdA hbA hBA hxA
        have hx := hx6.far (p := ⟨gg, k, none⟩) (Ne.symm hgx) (.int .i64 zz)
        have hz := hz6.far (p := ⟨gg, k, none⟩) (by show w.heap.size + 1 ≠ gg; omega) (.int .i64 zz)
        have ho9 := (ho6.stored k (.int .i64 zz)).1
        have hset : (aZ.map iv).set k (.int .i64 zz) = (aZ.set k zz).map iv := by rw [List.map_set]; rfl
        rw [hset] at ho9
        have ho := ho9
        have hb := hbb6.new (k := gg) (o := k) (by omega) (.int .i64 zz)
        have hr := hr6.far (k := gg) (o := k) (u := .int .i64 zz) (by omega)
        clear hset ho9 hx6 hz6 ho6 hbb6 hr6 hb6 hb6' hc6 hf6 hzm hz5 hx5 ho5 hbb5 hr5 hb5 hb5'
        obtain ⟨p0, p1, p2, p3, p4, p5⟩ := hx.cells6
        obtain ⟨r0, r1, r2, r3, r4, r5⟩ := hz.cells6
        obtain ⟨e0, e1, e2, e3, e4, e5⟩ := hz.free6
        have HZ := hid hz
        have HO := hid ho
        have HB := hid hb
        have HR := hid hr
        clear hz ho hb hr hx
        go_wp2
        exact ret_wrong (w.heap.size + 1) rfl rfl (six_set HZ.out _ _ _ _ _ _).cells6 ⟨_, _, _, _, _, _, _, _, (aZ.set k zz), _, rfl, own_mono (six_own HO.out (by omega) _ _ _ _ _ _) (by omega), by omega, by omega, by omega, by omega, by omega, six_rd HR.out (by omega) _ _ _ _ _ _, six_but HB.out (by omega) _ _ _ _ _ _⟩
  · have b0 : (i == 0) = false := by rw [beq_eq_false_iff_ne]; omega
    have b1 : (i == 1) = false := by rw [beq_eq_false_iff_ne]; omega
    have b2 : (i == 2) = false := by rw [beq_eq_false_iff_ne]; omega
    have b3 : (i == 3) = false := by rw [beq_eq_false_iff_ne]; omega
    have b4 : (i == 4) = false := by rw [beq_eq_false_iff_ne]; omega
    have b5 : (i == 5) = false := by rw [beq_eq_false_iff_ne]; omega
    obtain ⟨p0, p1, p2, p3, p4, p5⟩ := hx.cells6
    obtain ⟨r0, r1, r2, r3, r4, r5⟩ := hz.cells6
    obtain ⟨e0, e1, e2, e3, e4, e5⟩ := hz.free6
    have HZ := hid hz
    have HO := hid ho
    have HB := hid hb
    have HR := hid hr
    clear hz ho hb hr hx
    go_wp2
    exact ret_wrong (w.heap.size + 1) rfl rfl (six_set HZ.out _ _ _ _ _ _).cells6 ⟨_, _, _, _, _, _, _, _, aZ, _, rfl, own_mono (six_own HO.out (by omega) _ _ _ _ _ _) (by omega), by omega, by omega, by omega, by omega, by omega, six_rd HR.out (by omega) _ _ _ _ _ _, six_but HB.out (by omega) _ _ _ _ _ _⟩
end Go.Proofs.YtpgeeeamcncpkaaGreatDoor

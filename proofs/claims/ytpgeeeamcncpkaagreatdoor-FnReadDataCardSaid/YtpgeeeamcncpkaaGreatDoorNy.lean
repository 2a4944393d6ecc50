/- What DrawReadData returns. -/
import Derived.Test.YtpgeeeamcncpkaaGreatDoorNx
import Derived.Test.YtpgeeeamcncpkaaGreatDoorNw
import Derived.Test.YtpgeeeamcncpkaaGreatDoorSr
import Derived.Test.YtpgeeeamcncpkaaGreatDoorWm
import Derived.Test.YtpgeeeamcncpkaaGreatDoorTc
import Derived.Deep.Cut
import Derived.ArgAppend
import Derived.Laws.IdiomCopy
namespace Go.Proofs.YtpgeeeamcncpkaaGreatDoor
open Go.RowKit
set_option maxRecDepth 100000
set_option linter.unusedVariables false
set_option linter.unusedSimpArgs false
set_option maxHeartbeats 8000000 in
theorem DrawReadData_any (A : Option Addr) (c : Nat) (zs : List UInt8) (w : World) (hcode : Code w A c zs) :
    Calls Tryz.prog 14 #[.slice A zs.length c] w (DataDrawn w) := by
  go_enter Tryz.func14, Tryz.ntmps14
  go_wp2_with fail
  have hc0 := hcode.below ((Below.refl _ _).alloc (Nat.le_refl _) (.cells #[.string ⟨#[]⟩, .int .i64 0, .int .i64 0, .slice none 0 0, .string ⟨#[]⟩, .string ⟨#[]⟩] 25))
  refine (l13Open_any A c zs _ hc0.1 hc0.2.1 hc0.2.2.1 hc0.2.2.2).mono ?_
  rintro e w1 ⟨rfl, hr1, hb1⟩
  have hz := (Blk.new w 25 [.string ⟨#[]⟩, .int .i64 0, .int .i64 0, .slice none 0 0, .string ⟨#[]⟩, .string ⟨#[]⟩]).next hb1
  have hr : Rd w1 (w.heap.size + 1) 0 := by simpa using hr1
  have hbw : Below w.heap.size w w1 := ((Below.refl _ _).alloc (Nat.le_refl _) _).trans (hb1.mono (by simp))
  have hs1 : w.heap.size + 1 < w1.heap.size := hr.lt
  clear hr1 hb1 hc0
  go_wp2_with fail
  refine (l2Draw_any _ 0 w1 (by simpa using hr) (by omega)).mono ?_
  rintro e w2 ⟨bN, bT, bK, bA, bL, bC, bG, bX, bZ, q, rfl, hown, hL, hN, hx, hy, hq, hr2, hb2⟩
  have hz2 := hz.but hb2 (by omega)
  have hbw2 := hbw.trans (hb2.below (by omega) (by omega))
  have hs2 : w1.heap.size ≤ w2.heap.size := hb2.size
  have hr2' : Rd w2 (w.heap.size + 1) q := by simpa using hr2
  clear hz hbw hr hb2 hr2
  have hx3 : Blk (w2.alloc (.cells #[.string bN, .int .i64 bT, .int .i64 bK, .slice bA bL bC, .string bG, .string bX] 25)) w2.heap.size 25 [.string bN, .int .i64 bT, .int .i64 bK, .slice bA bL bC, .string bG, .string bX] := Blk.new w2 _ _
  have hz3 := hz2.alloc (.cells #[.string bN, .int .i64 bT, .int .i64 bK, .slice bA bL bC, .string bG, .string bX] 25)
  have hown3 := hown.alloc (.cells #[.string bN, .int .i64 bT, .int .i64 bK, .slice bA bL bC, .string bG, .string bX] 25)
  have hr3 := hr2'.but ((Below.refl _ _).alloc (Nat.le_refl _) (.cells #[.string bN, .int .i64 bT, .int .i64 bK, .slice bA bL bC, .string bG, .string bX] 25))
  have hbw3 := hbw2.alloc (by omega) (.cells #[.string bN, .int .i64 bT, .int .i64 bK, .slice bA bL bC, .string bG, .string bX] 25)
  obtain ⟨W3, hW3⟩ : ∃ W3, w2.alloc (.cells #[.string bN, .int .i64 bT, .int .i64 bK, .slice bA bL bC, .string bG, .string bX] 25) = W3 := ⟨_, rfl⟩
  have hs3 : W3.heap.size = w2.heap.size + 1 := by rw [← hW3]; simp
  rw [hW3] at hx3 hz3 hown3 hr3 hbw3
  have HW3 := hid hW3
  have hra := Reads.of_own hown3
  clear hW3 hz2 hown hr2' hbw2
  obtain ⟨x0, x1, x2, x3, x4, x5⟩ := hx3.cells6
  have hwl := WriteLine_d bN bT bK bA bL bC bG bX bZ _ ⟨#[97, 46, 98, 46]⟩ bN W3 hra (Nat.le_refl _) (by omega) (by omega) (by omega) (by omega) (by decide) (by omega)
  have HWL := hid hwl
  have hW3 := HW3.out
  clear hwl
  go_wp2_with fail
  clear hW3
  refine HWL.out.mono ?_
  rintro e w4 ⟨D, ok, rfl, hDs, hb4⟩
  have hx4 := hx3.next hb4
  have hz4 := hz3.next hb4
  have hown4 := own_next hown3 hb4
  have hr4 := hr3.but hb4
  have hbw4 := hbw3.trans (hb4.mono hbw3.size)
  have hs4 := hb4.size
  clear x0 x1 x2 x3 x4 x5 hx3 hz3 hown3 hr3 hbw3 hra HWL HW3 hb4
  go_wp2_with fail
  refine (FieldsOf_d D hDs _).mono ?_
  rintro e w5 ⟨FA, fc, fs, ok5, rfl, hownf, hfl, hfs, hb5⟩
  have hf5 : RowAt (w.heap.size + 1) w5 FA fc fs := RowAt.of_own hownf (by omega)
  have hx5 := hx4.next hb5
  have hz5 := hz4.next hb5
  have hown5 := own_next hown4 hb5
  have hr5 := hr4.but hb5
  have hbw5 := hbw4.trans (hb5.mono hbw4.size)
  have hs5 := hb5.size
  clear hx4 hz4 hown4 hr4 hbw4 hownf hb5
  go_upto_if 29 with fail
  go_cut [9] from 29 (fun v9 wc => ∃ (A9 : Option Addr) (c9 : Nat) (p : List Z.Str), v9 = .slice A9 p.length c9 ∧ wc = w5 ∧ RowAt (w.heap.size + 1) w5 A9 c9 p ∧ p.length ≤ 300 ∧ Hid (∀ f ∈ p, f.length ≤ 300))
  case first =>
    by_cases h2 : 2 < fs.length
    · obtain ⟨f, g2, r, rfl⟩ : ∃ f g2 r, fs = f :: g2 :: r := by
        match fs, h2 with
        | f :: g2 :: r, _ => exact ⟨f, g2, r, rfl⟩
      have hcap := hf5.1
      simp only [List.length_cons] at h2 hcap hfl
      have hc2 : fc ≠ 2 := by omega
      obtain ⟨k, off, cs, rfl, _⟩ := hf5.flds.2 (by simp)
      have hd := hf5.drop2
      have HFS := hid (show ∀ x ∈ r, x.length ≤ 300 from fun x hx => hfs.out x (List.mem_cons_of_mem _ (List.mem_cons_of_mem _ hx)))
      have q1 : decide ((2 : Int) < (((f :: g2 :: r).length : Nat) : Int)) = true := by simp; omega
      simp only [q1]
      have q2 : (2 : Nat) ≤ fc := by omega
      have HD := hid hd
      clear hd
      go_wp2
      go_meet
      exact ⟨_, _, r, rfl, rfl, HD.out, by omega, HFS⟩
    · have q1 : decide ((2 : Int) < (fs.length : Int)) = false := by simp; omega
      go_wp2
      go_meet
      exact ⟨FA, fc, fs, rfl, rfl, hf5, hfl, hfs⟩
  case rest =>
    obtain ⟨A9, c9, p, rfl, rfl, hf9, hpl, hps⟩ := hcut
    go_wp2_with fail
    refine (pick_any (w.heap.size + 1) q 16 _ hr5 (by omega) (by omega) (by omega)).mono ?_
    rintro e w6 ⟨i, rfl, hi0, hi1, hr6, hb6⟩
    have hx6 := hx5.but hb6 (by omega)
    have hz6 := hz5.but hb6 (by omega)
    have hown6 := own_but hown5 hb6 (by omega)
    have hf6 := hf9.but hb6
    have hs6 := hb6.size
    have hbw6 := hbw5.trans (hb6.below (by omega) (by omega))
    clear hx5 hz5 hown5 hf9 hb6 hbw5 hr5 hf5
    rcases (show i = 0 ∨ i = 1 ∨ i = 2 ∨ 3 ≤ i by omega) with rfl | rfl | rfl | hi3
    · obtain ⟨hr7, hrd7, hb7, hB7, hA7⟩ := with_ints hr6 rKinds 3
      have hnd := num_draw (w.heap.size + 1) (q + 1) (w6.heap.size + 1) (some ⟨w6.heap.size, 0, none⟩) 5 5 rKinds (w6.alloc (.cells (rKinds.map iv).toArray 3)) hr7 (by omega) hrd7 hB7 (by omega) (by omega) hA7
      have hx7 := hx6.alloc (.cells (rKinds.map iv).toArray 3)
      have hz7 := hz6.alloc (.cells (rKinds.map iv).toArray 3)
      have hown7 := hown6.alloc (.cells (rKinds.map iv).toArray 3)
      have hf7 := hf6.next ((Below.refl _ _).alloc (Nat.le_refl _) (.cells (rKinds.map iv).toArray 3))
      have hbw7 := hbw6.alloc (by omega) (.cells (rKinds.map iv).toArray 3)
      rw [show (.cells (rKinds.map iv).toArray 3 : Obj) = (.cells #[.int .i64 1, .int .i64 16, .int .i64 2, .int .i64 6, .int .i64 99] 3) from rfl] at hnd hx7 hz7 hown7 hf7 hbw7
      have HND := hid hnd
      clear hnd hr7 hrd7 hb7 hB7 hA7 hx6 hz6 hown6 hf6 hbw6
      go_wp2_with fail
      refine HND.out.mono ?_
      rintro e w8 ⟨kk, rfl, _, hr8, hb8⟩
      have hx8 := hx7.but hb8 (by omega)
      have hz8 := hz7.but hb8 (by omega)
      have hown8 := own_but hown7 hb8 (by omega)
      have hf8 := hf7.but hb8
      have hbw8 := hbw7.trans (hb8.below (by omega) (by simp; omega))
      have hs8 : w6.heap.size + 1 ≤ w8.heap.size := by have := hb8.size; simpa using this
      clear hx7 hz7 hown7 hf7 hbw7 hb8 HND
      obtain ⟨x0, x1, x2, x3, x4, x5⟩ := hx8.cells6
      obtain ⟨f0, f1, f2, f3, f4, f5⟩ := hx8.free6
      have hxE := hx8.put 2 (.int .i64 kk)
      have hzE := hz8.far (p := ⟨w2.heap.size, 2, none⟩) (by show w.heap.size ≠ w2.heap.size; omega) (.int .i64 kk)
      have hownE := own_putx hown8 hx8 (by decide) 2 (.int .i64 kk)
      have hfE := hf8.far hx8 (by decide) 2 (.int .i64 kk)
      have hrE := hr8.far (k := w2.heap.size) (o := 2) (u := .int .i64 kk) (by omega)
      have hbwE := hbw8.setCell (p := ⟨w2.heap.size, 2, none⟩) (by show w.heap.size ≤ w2.heap.size; omega) (.int .i64 kk)
      go_upto_region 14 with fail
      obtain ⟨We, hWe⟩ : ∃ We, w8.setCell ⟨w2.heap.size, 2, none⟩ (.int .i64 kk) = We := ⟨_, rfl⟩
      rw [hWe] at hxE hzE hownE hfE hrE hbwE ⊢
      clear hWe hx8 hz8 hown8 hf8 hbw8 hr8 x0 x1 x2 x3 x4 x5 f0 f1 f2 f3 f4 f5
      have hs9 : w2.heap.size < We.heap.size := hxE.lt
      have HPS : Hid (∀ f ∈ p, f.length ≤ 400) := hid (fun f hf => Nat.le_trans (hps.out f hf) (by omega))
      have hsE := hbwE.size
      obtain ⟨hr7, hrd7, hb7, hB7, hA7⟩ := with_row hrE rOrig 9
      have hof2 := of_any (w.heap.size + 1) (q + 1 + 1) 100 (We.heap.size + 1) (some ⟨We.heap.size, 0, none⟩) 4 4 rOrig (We.alloc (.cells (rOrig.map sv).toArray 9)).drew hr7.drew (by omega) hrd7.drew hB7 (by omega) (by omega) hA7 rOrig_le
      have hx7 := (hxE.alloc (.cells (rOrig.map sv).toArray 9)).drew
      have hz7 := (hzE.alloc (.cells (rOrig.map sv).toArray 9)).drew
      have hf7 := hfE.next ((Below.refl _ _).alloc (Nat.le_refl _) (.cells (rOrig.map sv).toArray 9))
      have hown7 := hownE.alloc (.cells (rOrig.map sv).toArray 9)
      have hbw7 := hbwE.alloc hsE (.cells (rOrig.map sv).toArray 9)
      rw [show (.cells (rOrig.map sv).toArray 9 : Obj) = (.cells #[.string ⟨#[97, 46, 98, 46]⟩, .string ⟨#[98, 46]⟩, .string ⟨#[97, 46, 98, 46]⟩, .string ⟨#[120]⟩] 9) from rfl] at hof2 hx7 hz7 hown7 hbw7 hf7
      have HOF2 := hid hof2
      clear hof2 hr7 hrd7 hb7 hB7 hA7
      obtain ⟨x0, x1, x2, x3, x4, x5⟩ := hxE.cells6
      obtain ⟨m0, m1, m2, m3, m4, m5⟩ := hx7.cells6
      go_wp2_with fail
      go_region_with (first
        | (go_at_call 46; refine HOF2.out.mono ?_; rintro e w8 ⟨ov, rfl, hov, hr8, hb8⟩; have hx8 := hx7.but hb8 (by omega); have hz8 := hz7.but hb8 (by omega); obtain ⟨p0, p1, p2, p3, p4, p5⟩ := hx8.cells6; obtain ⟨z0, z1, z2, z3, z4, z5⟩ := hz8.cells6; obtain ⟨f0, f1, f2, f3, f4, f5⟩ := hz8.free6))
      all_goals have hown8 := own_but (own_next hown7 (below_drewN (Below.refl _ _) 1)) hb8 (by omega)
      all_goals have hf8 := (hf7.next (below_drewN (Below.refl _ _) 1)).but hb8
      all_goals have hbw8 := (below_drewN hbw7 1).trans (hb8.below (by omega) (by simp; omega))
      all_goals have HB := hid hbw8
      all_goals have HO := hid hown8
      all_goals have HZ := hid hz8
      all_goals have HF := hid (hf8.far6 hz8 (by decide) (.string bN) (.int .i64 bT) (.int .i64 kk) (.slice bA bL bC) (.string bG) (.string bX))
      all_goals have HFL := hid hfE.1
      all_goals clear hbw8 hown8 hz8 hx8 hz7 hx7 hown7 hbw7 hf7 hf8 x0 x1 x2 x3 x4 x5 m0 m1 m2 m3 m4 m5 p0 p1 p2 p3 p4 p5 z0 z1 z2 z3 z4 z5 f0 f1 f2 f3 f4 f5 HOF2
      all_goals go_wp2
      all_goals exact ret_dataDrawn w.heap.size rfl rfl rfl rfl (six_set HZ.out _ _ _ _ _ _).cells6 ⟨bN, bT, _, bA, bL, bC, bG, bX, bZ, _, _, p, ov, rfl, own_mono (six_own HO.out (by omega) _ _ _ _ _ _) (by omega), by omega, hN, hx, hy, HF.out.flds.reads, HFL.out, by first | omega | (simp; done) | (simp; omega), HPS, hov, six_below HB.out (Nat.le_refl _) _ _ _ _ _ _⟩
    · obtain ⟨hr7, hrd7, hb7, hB7, hA7⟩ := with_row hr6 rMore 9
      have hnd := of_any (w.heap.size + 1) (q + 1) 100 (w6.heap.size + 1) (some ⟨w6.heap.size, 0, none⟩) 2 2 rMore (w6.alloc (.cells (rMore.map sv).toArray 9)) hr7 (by omega) hrd7 hB7 (by omega) (by omega) hA7 rMore_le
      have hx7 := hx6.alloc (.cells (rMore.map sv).toArray 9)
      have hz7 := hz6.alloc (.cells (rMore.map sv).toArray 9)
      have hown7 := hown6.alloc (.cells (rMore.map sv).toArray 9)
      have hf7 := hf6.next ((Below.refl _ _).alloc (Nat.le_refl _) (.cells (rMore.map sv).toArray 9))
      have hbw7 := hbw6.alloc (by omega) (.cells (rMore.map sv).toArray 9)
      rw [show (.cells (rMore.map sv).toArray 9 : Obj) = (.cells #[.string ⟨#[49]⟩, .string ⟨#[98, 46]⟩] 9) from rfl] at hnd hx7 hz7 hown7 hf7 hbw7
      have HND := hid hnd
      clear hnd hr7 hrd7 hb7 hB7 hA7 hx6 hz6 hown6 hf6 hbw6
      go_wp2_with fail
      refine HND.out.mono ?_
      rintro e w8 ⟨sx, rfl, hsx, hr8, hb8⟩
      have hx8 := hx7.but hb8 (by omega)
      have hz8 := hz7.but hb8 (by omega)
      have hown8 := own_but hown7 hb8 (by omega)
      have hf8 := hf7.but hb8
      have hbw8 := hbw7.trans (hb8.below (by omega) (by simp; omega))
      have hs8 : w6.heap.size + 1 ≤ w8.heap.size := by have := hb8.size; simpa using this
      have hxa := hx8.alloc (.cells #[.string sx] 9)
      have hza := hz8.alloc (.cells #[.string sx] 9)
      have howna := hown8.alloc (.cells #[.string sx] 9)
      have HF8 := hid hf8
      obtain ⟨i0, hi0, iz0, iz1, iz2⟩ := info_parts infoStrt
      clear hx7 hz7 hown7 hf7 hbw7 hb8 HND hx8 hz8 hown8 hf8
      go_wp2_with (at_builtin; refine wpList_app_at w8 (w.heap.size + 1) sx rfl (.tmp 42) (.tmp 46) _ rfl i0 _ 16 Tryz.underlying26 hi0 iz0 iz1 iz2 rfl A9 c9 p rfl rfl HF8.out (by omega) (by omega) (by omega) ?_; intro A7 c7 We hfE hkeep hlow; have hxE := hkeep _ _ _ (by decide) hxa; have hzE := hkeep _ _ _ (by decide) hza; have hownE := own_keep howna (by decide) hkeep; have hrE := hr8.low hlow; have hbwE := hbw8.trans (hlow.mono (by omega)); clear hkeep hlow hxa hza howna; have hfl7 : (p ++ [lst sx]).length = p.length + 1 := (by simp); rw [← hfl7])
      have hs9 : w2.heap.size < We.heap.size := hxE.lt
      have hpl7 : (p ++ [lst sx]).length ≤ 301 := by rw [List.length_append]; simp; omega
      have HPS : Hid (∀ f ∈ p ++ [lst sx], f.length ≤ 400) := hid (fun f hf => by
        rcases List.mem_append.1 hf with hf | hf
        · exact Nat.le_trans (hps.out f hf) (by omega)
        · rw [List.mem_singleton.1 hf, lst_length]; omega)
      have hsE := hbwE.size
      obtain ⟨hr7, hrd7, hb7, hB7, hA7⟩ := with_row hrE rOrig 9
      have hof2 := of_any (w.heap.size + 1) (q + 1 + 1) 100 (We.heap.size + 1) (some ⟨We.heap.size, 0, none⟩) 4 4 rOrig (We.alloc (.cells (rOrig.map sv).toArray 9)).drew hr7.drew (by omega) hrd7.drew hB7 (by omega) (by omega) hA7 rOrig_le
      have hx7 := (hxE.alloc (.cells (rOrig.map sv).toArray 9)).drew
      have hz7 := (hzE.alloc (.cells (rOrig.map sv).toArray 9)).drew
      have hf7 := hfE.next ((Below.refl _ _).alloc (Nat.le_refl _) (.cells (rOrig.map sv).toArray 9))
      have hown7 := hownE.alloc (.cells (rOrig.map sv).toArray 9)
      have hbw7 := hbwE.alloc hsE (.cells (rOrig.map sv).toArray 9)
      rw [show (.cells (rOrig.map sv).toArray 9 : Obj) = (.cells #[.string ⟨#[97, 46, 98, 46]⟩, .string ⟨#[98, 46]⟩, .string ⟨#[97, 46, 98, 46]⟩, .string ⟨#[120]⟩] 9) from rfl] at hof2 hx7 hz7 hown7 hbw7 hf7
      have HOF2 := hid hof2
      clear hof2 hr7 hrd7 hb7 hB7 hA7
      obtain ⟨x0, x1, x2, x3, x4, x5⟩ := hxE.cells6
      obtain ⟨m0, m1, m2, m3, m4, m5⟩ := hx7.cells6
      go_wp2_with fail
      go_region_with (first
        | (go_at_call 46; refine HOF2.out.mono ?_; rintro e w8 ⟨ov, rfl, hov, hr8, hb8⟩; have hx8 := hx7.but hb8 (by omega); have hz8 := hz7.but hb8 (by omega); obtain ⟨p0, p1, p2, p3, p4, p5⟩ := hx8.cells6; obtain ⟨z0, z1, z2, z3, z4, z5⟩ := hz8.cells6; obtain ⟨f0, f1, f2, f3, f4, f5⟩ := hz8.free6))
      all_goals have hown8 := own_but (own_next hown7 (below_drewN (Below.refl _ _) 1)) hb8 (by omega)
      all_goals have hf8 := (hf7.next (below_drewN (Below.refl _ _) 1)).but hb8
      all_goals have hbw8 := (below_drewN hbw7 1).trans (hb8.below (by omega) (by simp; omega))
      all_goals have HB := hid hbw8
      all_goals have HO := hid hown8
      all_goals have HZ := hid hz8
      all_goals have HF := hid (hf8.far6 hz8 (by decide) (.string bN) (.int .i64 bT) (.int .i64 bK) (.slice bA bL bC) (.string bG) (.string bX))
      all_goals have HFL := hid hfE.1
      all_goals clear hbw8 hown8 hz8 hx8 hz7 hx7 hown7 hbw7 hf7 hf8 x0 x1 x2 x3 x4 x5 m0 m1 m2 m3 m4 m5 p0 p1 p2 p3 p4 p5 z0 z1 z2 z3 z4 z5 f0 f1 f2 f3 f4 f5 HOF2
      all_goals go_wp2
      all_goals exact ret_dataDrawn w.heap.size rfl rfl rfl rfl (six_set HZ.out _ _ _ _ _ _).cells6 ⟨bN, bT, bK, bA, bL, bC, bG, bX, bZ, A7, c7, (p ++ [lst sx]), ov, (by rw [List.length_append]; rfl), own_mono (six_own HO.out (by omega) _ _ _ _ _ _) (by omega), by omega, hN, hx, hy, HF.out.flds.reads, HFL.out, by first | omega | (simp; done) | (simp; omega), HPS, hov, six_below HB.out (Nat.le_refl _) _ _ _ _ _ _⟩
    · have hxE0 := hx6.alloc (.cells #[] 9)
      have hzE0 := hz6.alloc (.cells #[] 9)
      have hownE0 := hown6.alloc (.cells #[] 9)
      have hrE0 := hr6.but ((Below.refl _ _).alloc (Nat.le_refl _) (.cells #[] 9))
      have hbwE0 := hbw6.alloc (by omega) (.cells #[] 9)
      have hfE0 : RowAt (w.heap.size + 1) (w6.alloc (.cells #[] 9)) (some ⟨w6.heap.size, 0, none⟩) 0 [] := ⟨Nat.le_refl _, Or.inr ⟨_, _, [], rfl, by omega, Blk.new w6 _ [], by simp, fun j u hu => by simp at hu⟩⟩
      clear hx6 hz6 hown6 hr6 hbw6 hf6
      go_upto_region 14 with fail
      obtain ⟨We, hWe⟩ : ∃ We, w6.alloc (.cells #[] 9) = We := ⟨_, rfl⟩
      rw [hWe] at hxE0 hzE0 hownE0 hrE0 hbwE0 hfE0 ⊢
      have hs9 : w6.heap.size < We.heap.size := by rw [← hWe]; simp
      clear hWe
      have hxE := hxE0
      have hzE := hzE0
      have hownE := hownE0
      have hrE := hrE0
      have hbwE := hbwE0
      have hfE := hfE0
      clear hxE0 hzE0 hownE0 hrE0 hbwE0 hfE0
      have HPS : Hid (∀ f ∈ ([] : List Z.Str), f.length ≤ 400) := hid (fun f hf => by cases hf)
      have hsE := hbwE.size
      obtain ⟨hr7, hrd7, hb7, hB7, hA7⟩ := with_row hrE rOrig 9
      have hof2 := of_any (w.heap.size + 1) (q + 1) 100 (We.heap.size + 1) (some ⟨We.heap.size, 0, none⟩) 4 4 rOrig (We.alloc (.cells (rOrig.map sv).toArray 9)).drew hr7.drew (by omega) hrd7.drew hB7 (by omega) (by omega) hA7 rOrig_le
      have hx7 := (hxE.alloc (.cells (rOrig.map sv).toArray 9)).drew
      have hz7 := (hzE.alloc (.cells (rOrig.map sv).toArray 9)).drew
      have hf7 := hfE.next ((Below.refl _ _).alloc (Nat.le_refl _) (.cells (rOrig.map sv).toArray 9))
      have hown7 := hownE.alloc (.cells (rOrig.map sv).toArray 9)
      have hbw7 := hbwE.alloc hsE (.cells (rOrig.map sv).toArray 9)
      rw [show (.cells (rOrig.map sv).toArray 9 : Obj) = (.cells #[.string ⟨#[97, 46, 98, 46]⟩, .string ⟨#[98, 46]⟩, .string ⟨#[97, 46, 98, 46]⟩, .string ⟨#[120]⟩] 9) from rfl] at hof2 hx7 hz7 hown7 hbw7 hf7
      have HOF2 := hid hof2
      clear hof2 hr7 hrd7 hb7 hB7 hA7
      obtain ⟨x0, x1, x2, x3, x4, x5⟩ := hxE.cells6
      obtain ⟨m0, m1, m2, m3, m4, m5⟩ := hx7.cells6
      go_wp2_with fail
      go_region_with (first
        | (go_at_call 46; refine HOF2.out.mono ?_; rintro e w8 ⟨ov, rfl, hov, hr8, hb8⟩; have hx8 := hx7.but hb8 (by omega); have hz8 := hz7.but hb8 (by omega); obtain ⟨p0, p1, p2, p3, p4, p5⟩ := hx8.cells6; obtain ⟨z0, z1, z2, z3, z4, z5⟩ := hz8.cells6; obtain ⟨f0, f1, f2, f3, f4, f5⟩ := hz8.free6))
      all_goals have hown8 := own_but (own_next hown7 (below_drewN (Below.refl _ _) 1)) hb8 (by omega)
      all_goals have hf8 := (hf7.next (below_drewN (Below.refl _ _) 1)).but hb8
      all_goals have hbw8 := (below_drewN hbw7 1).trans (hb8.below (by omega) (by simp; omega))
      all_goals have HB := hid hbw8
      all_goals have HO := hid hown8
      all_goals have HZ := hid hz8
      all_goals have HF := hid (hf8.far6 hz8 (by decide) (.string bN) (.int .i64 bT) (.int .i64 bK) (.slice bA bL bC) (.string bG) (.string bX))
      all_goals have HFL := hid hfE.1
      all_goals clear hbw8 hown8 hz8 hx8 hz7 hx7 hown7 hbw7 hf7 hf8 x0 x1 x2 x3 x4 x5 m0 m1 m2 m3 m4 m5 p0 p1 p2 p3 p4 p5 z0 z1 z2 z3 z4 z5 f0 f1 f2 f3 f4 f5 HOF2
      all_goals go_wp2
      all_goals exact ret_dataDrawn w.heap.size rfl rfl rfl rfl (six_set HZ.out _ _ _ _ _ _).cells6 ⟨bN, bT, _, bA, bL, bC, bG, bX, bZ, _, _, [], ov, rfl, own_mono (six_own HO.out (by omega) _ _ _ _ _ _) (by omega), by omega, hN, hx, hy, HF.out.flds.reads, HFL.out, by first | omega | (simp; done) | (simp; omega), HPS, hov, six_below HB.out (Nat.le_refl _) _ _ _ _ _ _⟩
    · have q0 : (i == 0) = false := by simp; omega
      have q1 : (i == 1) = false := by simp; omega
      have q2 : (i == 2) = false := by simp; omega
      go_upto_region 14 with fail
      obtain ⟨We, hWe⟩ : ∃ We, w6 = We := ⟨_, rfl⟩
      subst hWe
      have hxE := hx6
      have hzE := hz6
      have hownE := hown6
      have hrE := hr6
      have hbwE := hbw6
      have hfE := hf6
      clear hx6 hz6 hown6 hr6 hbw6 hf6
      have hs9 : w2.heap.size < w6.heap.size := hxE.lt
      have HPS : Hid (∀ f ∈ p, f.length ≤ 400) := hid (fun f hf => Nat.le_trans (hps.out f hf) (by omega))
      have hsE := hbwE.size
      obtain ⟨hr7, hrd7, hb7, hB7, hA7⟩ := with_row hrE rOrig 9
      have hof2 := of_any (w.heap.size + 1) (q + 1) 100 (w6.heap.size + 1) (some ⟨w6.heap.size, 0, none⟩) 4 4 rOrig (w6.alloc (.cells (rOrig.map sv).toArray 9)).drew hr7.drew (by omega) hrd7.drew hB7 (by omega) (by omega) hA7 rOrig_le
      have hx7 := (hxE.alloc (.cells (rOrig.map sv).toArray 9)).drew
      have hz7 := (hzE.alloc (.cells (rOrig.map sv).toArray 9)).drew
      have hf7 := hfE.next ((Below.refl _ _).alloc (Nat.le_refl _) (.cells (rOrig.map sv).toArray 9))
      have hown7 := hownE.alloc (.cells (rOrig.map sv).toArray 9)
      have hbw7 := hbwE.alloc hsE (.cells (rOrig.map sv).toArray 9)
      rw [show (.cells (rOrig.map sv).toArray 9 : Obj) = (.cells #[.string ⟨#[97, 46, 98, 46]⟩, .string ⟨#[98, 46]⟩, .string ⟨#[97, 46, 98, 46]⟩, .string ⟨#[120]⟩] 9) from rfl] at hof2 hx7 hz7 hown7 hbw7 hf7
      have HOF2 := hid hof2
      clear hof2 hr7 hrd7 hb7 hB7 hA7
      obtain ⟨x0, x1, x2, x3, x4, x5⟩ := hxE.cells6
      obtain ⟨m0, m1, m2, m3, m4, m5⟩ := hx7.cells6
      go_wp2_with fail
      go_region_with (first
        | (go_at_call 46; refine HOF2.out.mono ?_; rintro e w8 ⟨ov, rfl, hov, hr8, hb8⟩; have hx8 := hx7.but hb8 (by omega); have hz8 := hz7.but hb8 (by omega); obtain ⟨p0, p1, p2, p3, p4, p5⟩ := hx8.cells6; obtain ⟨z0, z1, z2, z3, z4, z5⟩ := hz8.cells6; obtain ⟨f0, f1, f2, f3, f4, f5⟩ := hz8.free6))
      all_goals have hown8 := own_but (own_next hown7 (below_drewN (Below.refl _ _) 1)) hb8 (by omega)
      all_goals have hf8 := (hf7.next (below_drewN (Below.refl _ _) 1)).but hb8
      all_goals have hbw8 := (below_drewN hbw7 1).trans (hb8.below (by omega) (by simp; omega))
      all_goals have HB := hid hbw8
      all_goals have HO := hid hown8
      all_goals have HZ := hid hz8
      all_goals have HF := hid (hf8.far6 hz8 (by decide) (.string bN) (.int .i64 bT) (.int .i64 bK) (.slice bA bL bC) (.string bG) (.string bX))
      all_goals have HFL := hid hfE.1
      all_goals clear hbw8 hown8 hz8 hx8 hz7 hx7 hown7 hbw7 hf7 hf8 x0 x1 x2 x3 x4 x5 m0 m1 m2 m3 m4 m5 p0 p1 p2 p3 p4 p5 z0 z1 z2 z3 z4 z5 f0 f1 f2 f3 f4 f5 HOF2
      all_goals go_wp2
      all_goals exact ret_dataDrawn w.heap.size rfl rfl rfl rfl (six_set HZ.out _ _ _ _ _ _).cells6 ⟨bN, bT, _, bA, bL, bC, bG, bX, bZ, _, _, p, ov, rfl, own_mono (six_own HO.out (by omega) _ _ _ _ _ _) (by omega), by omega, hN, hx, hy, HF.out.flds.reads, HFL.out, by first | omega | (simp; done) | (simp; omega), HPS, hov, six_below HB.out (Nat.le_refl _) _ _ _ _ _ _⟩
end Go.Proofs.YtpgeeeamcncpkaaGreatDoor

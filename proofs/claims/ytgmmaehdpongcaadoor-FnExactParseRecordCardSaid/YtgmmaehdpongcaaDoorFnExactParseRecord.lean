/- For all texts, ParseRecord answers as the model does, and its answer owns its memory, where the tables are as the programs' texts lay them. -/
import Derived.Test.YtgmmaehdpongcaaDoorTie
import Derived.Test.YtgmmaehdpongcaaDoorCards
import Derived.Test.YtgmmaehdpongcaaDoorHb
import Derived.Test.YtgmmaehdpongcaaDoorEa
import Derived.Test.YtgmmaehdpongcaaDoorSm
import Derived.Test.YtgmmaehdpongcaaDoorPd
import Derived.Outline
namespace Go.Proofs.YtgmmaehdpongcaaDoor.fnExactParseRecord
open Go.ChangeShapes Go.WideShapes Go.ChangeAt Go.RowKit
open Go.ChangeMaps (open_string shut_string)
set_option linter.unusedVariables false

theorem own : ownKnob Tryd.prog.godebug = none := by kernel_rfl
theorem laidOut : laidOutB Tryd.prog = true := by kernel_rfl

set_option maxRecDepth 100000 in
set_option maxHeartbeats 4000000 in
theorem walk (a0 : ByteArray) (w0 : a0.size ≤ maxLen) (w : World) (hk : KT w) (hm : MX w) :
    Calls Tryd.prog 7 #[.string a0] w fun e w' => e = .returned (.bool true) ∧ Below w.heap.size w w' := by
  unfold maxLen at w0
  by_cases hb0 : a0.size ≤ 1048576
  · obtain ⟨ok, hok⟩ : ∃ ok, (Z.parse (lst a0)).isSome = ok := ⟨_, rfl⟩
    go_enter Tryd.func7, Tryd.ntmps7
    go_wp2_with fail
    refine (ParseRecord_any a0 (by omega) _).mono ?_
    rintro e w1 ⟨aN, aT, aK, aA, aL, aC, aG, aX, aZ, rfl, hown1, hq1, hl1, hb1⟩
    rw [hok]
    have hx1 : Blk (w1.alloc (.cells #[.string aN, .int .i64 aT, .int .i64 aK, .slice aA aL aC, .string aG, .string aX] 25)) w1.heap.size 25 [.string aN, .int .i64 aT, .int .i64 aK, .slice aA aL aC, .string aG, .string aX] := Blk.new w1 25 [.string aN, .int .i64 aT, .int .i64 aK, .slice aA aL aC, .string aG, .string aX]
    have hbw1 : Below w.heap.size w (w1.alloc (.cells #[.string aN, .int .i64 aT, .int .i64 aK, .slice aA aL aC, .string aG, .string aX] 25)) := hb1.alloc hb1.size _
    have hr1 := (Reads.of_own hown1).alloc (Nat.le_refl _) (.cells #[.string aN, .int .i64 aT, .int .i64 aK, .slice aA aL aC, .string aG, .string aX] 25)
    have hlen1 := reads_len (Reads.of_own hown1)
    have hs1 := hb1.size
    clear hown1 hb1
    go_wp2_with fail
    refine (iParseRecord_any a0 (by omega) _ (hm.below hbw1) (hk.below hbw1)).mono ?_
    rintro e w2 ⟨bN, bT, bK, bA, bL, bC, bG, bX, bZ, rfl, hown2, hq2, hl2, hb2⟩
    rw [hok]
    have hlen2 := reads_len (Reads.of_own hown2)
    have he := hq1.symm.trans hq2
    simp only [Z.Rec.mk.injEq] at he
    obtain ⟨e1, rfl, rfl, rfl, e5, e6⟩ := he
    obtain rfl := lst_inj e1
    obtain rfl := lst_inj e5
    obtain rfl := lst_inj e6
    obtain rfl : aL = bL := hlen1.symm.trans hlen2
    have HQ1 := hid hq1
    have HQ2 := hid hq2
    clear hq1 hq2 e1 e5 e6 hlen1 hlen2
    have hx2 := (hx1.next hb2).alloc (.cells #[.string aN, .int .i64 aT, .int .i64 aK, .slice bA aL bC, .string aG, .string aX] 25)
    have hy2 : Blk (w2.alloc (.cells #[.string aN, .int .i64 aT, .int .i64 aK, .slice bA aL bC, .string aG, .string aX] 25)) w2.heap.size 25 [.string aN, .int .i64 aT, .int .i64 aK, .slice bA aL bC, .string aG, .string aX] := Blk.new w2 25 [.string aN, .int .i64 aT, .int .i64 aK, .slice bA aL bC, .string aG, .string aX]
    have hs2 := hb2.size
    simp only [World.alloc, Array.size_push] at hs2
    have hbw2 : Below w.heap.size w (w2.alloc (.cells #[.string aN, .int .i64 aT, .int .i64 aK, .slice bA aL bC, .string aG, .string aX] 25)) := (hbw1.trans (hb2.mono (by simp; omega))).alloc (by omega) _
    have hr2 := (hr1.below hb2 (by simp)).alloc (by omega) (.cells #[.string aN, .int .i64 aT, .int .i64 aK, .slice bA aL bC, .string aG, .string aX] 25)
    have hown2b := hown2.alloc (.cells #[.string aN, .int .i64 aT, .int .i64 aK, .slice bA aL bC, .string aG, .string aX] 25)
    have hrow := hown2.lt
    clear hx1 hbw1 hr1 hown2 hb2
    obtain ⟨p0, p1, p2, p3, p4, p5⟩ := hx2.cells6
    obtain ⟨q0, q1, q2, q3, q4, q5⟩ := hy2.cells6
    go_wp2_with fail
    refine (eqRecord_any aN aT aK bA aL bC aG aX aZ _ aA aC _ _ (Reads.of_own hown2b) (Nat.le_refl _) (by omega) hr2 (by simp; omega)).mono ?_
    rintro e w3 ⟨rfl, hb3⟩
    have hs3 := hb3.size
    simp only [World.alloc, Array.size_push] at hs3
    have hx3 := hx2.next hb3
    have hy3 := hy2.next hb3
    have hr3 := hr2.below hb3 (by simp; omega)
    have hown2c := own_next hown2b hb3
    have hbw3 := hbw2.trans (hb3.mono (by simp; omega))
    clear hx2 hy2 hr2 hown2b hbw2 hb3 p0 p1 p2 p3 p4 p5 q0 q1 q2 q3 q4 q5
    obtain ⟨p0, p1, p2, p3, p4, p5⟩ := hx3.cells6
    obtain ⟨q0, q1, q2, q3, q4, q5⟩ := hy3.cells6
    go_wp2_with fail
    refine (markRecord_any aN aT aK bA aL bC aG aX aZ _ 1 _ (by simp; omega) hown2c (by omega)).mono ?_
    rintro e w4 ⟨rfl, hown2d, hb4, hg4⟩
    have hx4 := hx3.below hb4 (by simp)
    have hy4 := hy3.grew hg4 (fun e => absurd (hrow _ e.symm).2 (by omega))
    have hr4 := hr3.below hb4 (by simp)
    have hs4 := hb4.size
    have hbw4 := hbw3.trans (hb4.mono (by simp; omega))
    clear hx3 hy3 hr3 hown2c hbw3 hb4 hg4 p0 p1 p2 p3 p4 p5 q0 q1 q2 q3 q4 q5
    obtain ⟨p0, p1, p2, p3, p4, p5⟩ := hx4.cells6
    obtain ⟨q0, q1, q2, q3, q4, q5⟩ := hy4.cells6
    go_wp2_with fail
    refine (heldRecord_any aN aT aK bA aL bC aG aX _ 1 _ (Reads.of_own hown2d) (Nat.le_refl _) (by omega)).mono ?_
    rintro e w5 ⟨rfl, hb5⟩
    have hx5 := hx4.next hb5
    have hy5 := hy4.next hb5
    have hr5 := hr4.below hb5 (by omega)
    have hown5 := own_next hown2d hb5
    have hs5 := hb5.size
    have hbw5 := hbw4.trans (hb5.mono (by omega))
    clear hx4 hy4 hr4 hown2d hbw4 hb5 p0 p1 p2 p3 p4 p5 q0 q1 q2 q3 q4 q5
    have hq0 : ¬ ((1 : Int) + (aL : Int)) < 0 := by omega
    go_wp2_with fail
    refine (iParseRecord_any a0 (by omega) _ (hm.below hbw5) (hk.below hbw5)).mono ?_
    rintro e w6 ⟨bN, bT, bK, dA, bL, dC, bG, bX, bZ, rfl, hown6, hq6, hl6, hb6⟩
    rw [hok]
    have hlen6 := reads_len (Reads.of_own hown6)
    have he := HQ1.out.symm.trans hq6
    simp only [Z.Rec.mk.injEq] at he
    obtain ⟨e1, rfl, rfl, rfl, e5, e6⟩ := he
    obtain rfl := lst_inj e1
    obtain rfl := lst_inj e5
    obtain rfl := lst_inj e6
    have hlen5 := reads_len hr5
    obtain rfl : aL = bL := hlen5.symm.trans hlen6
    clear hq6 e1 e5 e6 hlen5 hlen6
    have hs6 := hb6.size
    have hx6 := (hx5.next hb6).alloc (.cells #[.string aN, .int .i64 aT, .int .i64 aK, .slice dA aL dC, .string aG, .string aX] 25)
    have hy6 := (hy5.next hb6).alloc (.cells #[.string aN, .int .i64 aT, .int .i64 aK, .slice dA aL dC, .string aG, .string aX] 25)
    have hz6 : Blk (w6.alloc (.cells #[.string aN, .int .i64 aT, .int .i64 aK, .slice dA aL dC, .string aG, .string aX] 25)) w6.heap.size 25 [.string aN, .int .i64 aT, .int .i64 aK, .slice dA aL dC, .string aG, .string aX] := Blk.new w6 25 [.string aN, .int .i64 aT, .int .i64 aK, .slice dA aL dC, .string aG, .string aX]
    have hr6 := (hr5.below hb6 (by omega)).alloc (by omega) (.cells #[.string aN, .int .i64 aT, .int .i64 aK, .slice dA aL dC, .string aG, .string aX] 25)
    have hrh6 := (Reads.of_own hown6).alloc (Nat.le_refl _) (.cells #[.string aN, .int .i64 aT, .int .i64 aK, .slice dA aL dC, .string aG, .string aX] 25)
    have hown6b := (own_next hown5 hb6).alloc (.cells #[.string aN, .int .i64 aT, .int .i64 aK, .slice dA aL dC, .string aG, .string aX] 25)
    have hbw6 : Below w.heap.size w (w6.alloc (.cells #[.string aN, .int .i64 aT, .int .i64 aK, .slice dA aL dC, .string aG, .string aX] 25)) := (hbw5.trans (hb6.mono (by omega))).alloc (by omega) _
    clear hx5 hy5 hr5 hown5 hbw5 hb6 hown6
    obtain ⟨p0, p1, p2, p3, p4, p5⟩ := hx6.cells6
    obtain ⟨q0, q1, q2, q3, q4, q5⟩ := hy6.cells6
    obtain ⟨r0, r1, r2, r3, r4, r5⟩ := hz6.cells6
    go_wp2_with fail
    refine (eqRecord_any aN aT aK dA aL dC aG aX aZ _ aA aC _ _ hrh6 (by simp) (by omega) hr6 (by simp; omega)).mono ?_
    rintro e w7 ⟨rfl, hb7⟩
    have hs7 := hb7.size
    simp only [World.alloc, Array.size_push] at hs7
    have hy7 := hy6.next hb7
    have hown7 := own_next hown6b hb7
    have hbw7 := hbw6.trans (hb7.mono (by simp; omega))
    clear hx6 hy6 hz6 hr6 hrh6 hown6b hbw6 hb7 p0 p1 p2 p3 p4 p5 q0 q1 q2 q3 q4 q5 r0 r1 r2 r3 r4 r5
    obtain ⟨q0, q1, q2, q3, q4, q5⟩ := hy7.cells6
    go_wp2_with fail
    refine (heldRecord_any aN aT aK bA aL bC aG aX _ 1 _ (Reads.of_own hown7) (Nat.le_refl _) (by omega)).mono ?_
    rintro e w8 ⟨rfl, hb8⟩
    have hbw8 := hbw7.trans (hb8.mono (by omega))
    clear hy7 hown7 hbw7 hb8 q0 q1 q2 q3 q4 q5
    go_wp2
    go_ret
    exact ⟨rfl, hbw8⟩
  · go_enter Tryd.func7, Tryd.ntmps7
    go_wp2_with fail
    go_ret
    exact ⟨rfl, Below.refl _ _⟩

set_option maxRecDepth 100000 in
theorem lifted (os : Os) (started : os.Started) (H : Type) (enc : TypeId × Value → H) :
    ReturnsInHanded {} Tryd.checked os 7 .any (fun w args => (Rows.fnExactParseRecordSpec.pre enc Tryd.prog Tryd.f7 Rows.fnExactParseRecordRow.domain false w args ∧ laidMetH Tryd.prog [("unicode/utf8.acceptRanges", Rows.laid_unicode_utf8_acceptRanges), ("loop.example/zonefiles/impl.kindRows", Rows.laid_loop_example_zonefiles_impl_kindRows), ("unicode/utf8.first", Rows.laid_unicode_utf8_first)] w) ∧ sizedMet enc Tryd.prog Tryd.f7 (OpenSpec.ofChange Rows.fnExactParseRecordSpec) false w args)
      (Rows.fnExactParseRecordSpec.post enc Tryd.prog Tryd.f7 false true false false) := by
  refine returnsInHanded_and_shaped (C := Tryd.checked) (X := fun w _ => laidMetH Tryd.prog [("unicode/utf8.acceptRanges", Rows.laid_unicode_utf8_acceptRanges), ("loop.example/zonefiles/impl.kindRows", Rows.laid_loop_example_zonefiles_impl_kindRows), ("unicode/utf8.first", Rows.laid_unicode_utf8_first)] w) (fun _ _ _ hh h => h.of_heap hh) own started (by kernel_rfl) Tryd.func7
    (ChangeSpec.witness_shaped (enc := enc) (C := Tryd.checked) (os := os) (X := fun w _ => laidMetH Tryd.prog [("unicode/utf8.acceptRanges", Rows.laid_unicode_utf8_acceptRanges), ("loop.example/zonefiles/impl.kindRows", Rows.laid_loop_example_zonefiles_impl_kindRows), ("unicode/utf8.first", Rows.laid_unicode_utf8_first)] w) false (World.laidAll Tryd.prog os [("unicode/utf8.acceptRanges", Rows.laid_unicode_utf8_acceptRanges), ("loop.example/zonefiles/impl.kindRows", Rows.laid_loop_example_zonefiles_impl_kindRows), ("unicode/utf8.first", Rows.laid_unicode_utf8_first)]) #[.string ByteArray.empty] 8 (World.laidAll_os _ _ _)
      (World.shaped_of_ZipB (by kernel_rfl) (by kernel_rfl)) (by kernel_rfl) (by kernel_rfl) (by kernel_rfl)
      (by rw [MakeChecks.laidMetH_plain _ _ _ (by kernel_rfl)]; exact laidMet_laidAll _ (by kernel_rfl) (by kernel_rfl))) ?_
  intro W base args ds gs before hval0 hW hsh hL
  have hval : ∀ (j : Nat) t v, Tryd.f7.params[j]? = some t → args[j]? = some v → Value.okWide Tryd.prog W .any base t v := hval0
  have hW' := hW
  obtain ⟨p, q, hA0, hV, rfl, hfz, hnd⟩ := hW
  have hA : DataW.TrodAll enc Tryd.prog W 0 (fun _ => true) true Tryd.f7.params.toList args.toList ds p := hA0
  have hV1 : DataW.TrodVars enc Tryd.prog W (fun _ => true) ["loop.example/zonefiles/impl.kindRows"] gs q := hV
  clear hV
  have hV2 := hV1
  obtain ⟨g9, t9, cs9, f9, d9, p9, rfl, _, _, _, _, rfl⟩ := trodVars_one hV2
  rw [Tryd.params7] at hA hval
  obtain ⟨v0, vs0, d0, ds0, p0, q0, hargs, rfl, rfl, h0, r0⟩ := trodAll_cons hA
  obtain ⟨rfl, rfl, rfl⟩ := trodAll_nil r0
  obtain rfl : args = #[v0] := by cases args; simp_all
  have k0 := h0
  have lt0 : ∀ x ∈ p0, x.block < W.heap.size := by obtain ⟨m, hm⟩ := k0; exact DataW.trod_lt m _ _ _ hm
  obtain ⟨a0, rfl, e0, e0', w0⟩ := open_string Tryd.underlying9 (hval 0 9 v0 rfl rfl) h0
  have hlv := laid_vars (by kernel_rfl) hL
  have hk := kt_of_vars (laid_next hlv)
  have hm := mx_of_shaped hsh
  clear hA0 hval0
  refine (walk a0 w0 W   hk hm).mono fun e W' ⟨he, bel⟩ => ?_
  subst he
  exact ⟨_, rfl, _, _, _, [], _, _, hW', trodAll_mk1 (shut_bool Tryd.underlying4 _), (trodAll_cons_mk (Below.trod laidOut (by kernel_rfl) (of_decide_eq_true (by kernel_rfl)) k0 bel lt0) trodAll_mk0), bel.trodVars laidOut (by kernel_rfl) hV1, bel.frame _, fun h => by cases h⟩

theorem over : Rows.fnExactParseRecordRow.holds Tryd.pinned (OpenSpec.ofChange Rows.fnExactParseRecordSpec) :=
  OpenClaim.holds_of_wide 7 Tryd.f7 rfl rfl rfl rfl rfl rfl rfl ⟨rfl, rfl, rfl, rfl, rfl⟩ rfl rfl rfl rfl rfl (by kernel_rfl) Tryd.func7 (by kernel_rfl)
    (of_decide_eq_true (by kernel_rfl)) (by unfold Func.isWrapper; first | (rw [if_pos (by decide +kernel)]; kernel_rfl) | (rw [if_neg (by decide +kernel)]; exact ⟨rfl, rfl⟩))
    (fun os started H enc _ => lifted os started H enc)

theorem proved : Rows.FnExactParseRecordCardSaid :=
  Claim7.holds_tied_plain_at .later [] [.data, .data, .pinned] true (true, "fedccedac822d90a2a0aad532641127a99a3e79694b7978f8b319353a0145562") true over (fun _ h => by cases h) (by kernel_rfl) (fun _ h => by cases h) fnExactParseRecord_row_tie rfl ⟨rfl, rfl⟩ (by kernel_rfl) rfl
    (fun f fn hf hfn => by
      obtain rfl : f = 7 := Option.some.inj ((show Tryd.prog.funcNamed "loop.example/zonefiles/laws.FnExactParseRecord" = some 7 by kernel_rfl).symm.trans hf) |>.symm
      obtain rfl : fn = Tryd.f7 := (Option.some.inj (Tryd.func7.symm.trans hfn)).symm
      exact ⟨by kernel_rfl, fun j t ht => by
        rw [Tryd.params7] at ht
        have hm : t ∈ [9] := by simpa using Array.mem_of_getElem? ht
        have hall : ([9].all fun u => !Tryd.prog.wantsStandIn u) = true := by kernel_rfl
        exact (show Tryd.prog.wantsStandIn t = false by simpa using List.all_eq_true.1 hall t hm)⟩)
    (by kernel_rfl)
end Go.Proofs.YtgmmaehdpongcaaDoor.fnExactParseRecord

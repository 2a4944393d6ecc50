/- For every input, ParseRecord answers for a text that is drawn from it as the model does, and reads no text with a space more in front or behind, where the tables are as the programs' texts lay them. -/
import Derived.Test.YtgmmaehdpongcaaDoorTie
import Derived.Test.YtgmmaehdpongcaaDoorCards
import Derived.Test.YtgmmaehdpongcaaDoorHb
import Derived.Test.YtgmmaehdpongcaaDoorSm
import Derived.Test.YtgmmaehdpongcaaDoorPd
import Derived.Test.YtgmmaehdpongcaaDoorNt
import Derived.Test.YtgmmaehdpongcaaDoorH
import Derived.Outline
namespace Go.Proofs.YtgmmaehdpongcaaDoor.fnParsePrefix
open Go.ChangeShapes Go.WideShapes Go.ChangeAt Go.RowKit
open Go.ChangeMaps (open_string shut_string)
set_option linter.unusedVariables false

theorem own : ownKnob Tryd.prog.godebug = none := by kernel_rfl
theorem laidOut : laidOutB Tryd.prog = true := by kernel_rfl
theorem recSame_true (aN : ByteArray) (aT aK : Int) (aA : Option Addr) (aL aC : Nat) (aG aX : ByteArray) (aZ : List Int) (aB : Nat) (bA : Option Addr) (bC bB : Nat) (w : World) (hra : Reads w aB aA aL (aZ.map iv)) (hba : aB ≤ w.heap.size) (hla : aL ≤ 67108864) (hrb : Reads w bB bA aL (aZ.map iv)) (hbb : bB ≤ w.heap.size) (hs : Hid (Z.recSame (⟨lst aN, aT, aK, aZ, lst aG, lst aX⟩ : Z.Rec) (⟨lst aN, aT, aK, aZ, lst aG, lst aX⟩ : Z.Rec) = true)) :
    Calls Tryd.prog 21 #[.agg #[.string aN, .int .i64 aT, .int .i64 aK, .slice aA aL aC, .string aG, .string aX], .agg #[.string aN, .int .i64 aT, .int .i64 aK, .slice bA aL bC, .string aG, .string aX]] w fun e w' => e = .returned (.bool true) ∧ Below w.heap.size w w' := by
  have h := iRecordSame_any aN aT aK aA aL aC aG aX aZ aB aN aT aK bA aL bC aG aX aZ bB w hra hba hla hrb hbb hla
  rw [hs.out] at h
  exact h
theorem iParse_none (s : ByteArray) (hs : s.size ≤ 2000000) (w : World) (hm : MX w) (hk : KT w) (hn : Hid (Z.parse (lst s) = none)) :
    Calls Tryd.prog 19 #[.string s] w fun e w' => ∃ N T K A L c x y, e = .returned (.tuple #[.agg #[.string N, .int .i64 T, .int .i64 K, .slice A L c, .string x, .string y], .bool false]) ∧ Below w.heap.size w w' := by
  refine (iParseRecord_any s hs w hm hk).mono ?_
  rintro e w' ⟨N, T, K, A, L, c, x, y, ns, h, _, _, _, hb⟩
  rw [hn.out] at h
  exact ⟨_, _, _, _, _, _, _, _, h, hb⟩

set_option maxRecDepth 100000 in
set_option maxHeartbeats 4000000 in
theorem walk (a0 : Option Addr) (len0 cap0 : Nat) (z0 : List Int) (w : World) (w0 : IsRow .u8 w a0 len0 cap0 z0) (hk : KT w) (hm : MX w) :
    Calls Tryd.prog 4 #[.slice a0 len0 cap0] w fun e w' => e = .returned (.bool true) ∧ Below w.heap.size w w' := by
  have hc0 := row_cap w0
  unfold maxLen at hc0
  by_cases hb0 : len0 ≤ 1048576
  · obtain ⟨zs0, rfl, hcode0⟩ := code_of_row w0 hb0
    clear w0
    go_enter Tryd.func4, Tryd.ntmps4
    go_wp2_with fail
    refine (DrawParseRecord_any _ _ zs0 w hcode0).mono ?_
    rintro e w1 ⟨s, rfl, hs, hb1⟩
    obtain ⟨ok, hok⟩ : ∃ ok, (Z.parse (lst s)).isSome = ok := ⟨_, rfl⟩
    go_wp2_with fail
    refine (iParseRecord_any s (by omega) _ (hm.below hb1) (hk.below hb1)).mono ?_
    rintro e w2 ⟨aN, aT, aK, aA, aL, aC, aG, aX, aZ, rfl, hown1, hq1, hl1, hb2⟩
    rw [hok]
    have hx1 : Blk (w2.alloc (.cells #[.string aN, .int .i64 aT, .int .i64 aK, .slice aA aL aC, .string aG, .string aX] 25)) w2.heap.size 25 [.string aN, .int .i64 aT, .int .i64 aK, .slice aA aL aC, .string aG, .string aX] := Blk.new w2 25 [.string aN, .int .i64 aT, .int .i64 aK, .slice aA aL aC, .string aG, .string aX]
    have hbw2 : Below w.heap.size w (w2.alloc (.cells #[.string aN, .int .i64 aT, .int .i64 aK, .slice aA aL aC, .string aG, .string aX] 25)) := (hb1.trans (hb2.mono hb1.size)).alloc (by have := hb1.size; have := hb2.size; omega) _
    have hr1 := (Reads.of_own hown1).alloc (Nat.le_refl _) (.cells #[.string aN, .int .i64 aT, .int .i64 aK, .slice aA aL aC, .string aG, .string aX] 25)
    have hlen1 := reads_len (Reads.of_own hown1)
    clear hown1 hb1 hb2
    go_wp2_with fail
    refine (ParseRecord_any s (by omega) _).mono ?_
    rintro e w3 ⟨bN, bT, bK, bA, bL, bC, bG, bX, bZ, rfl, hown2, hq2, hl2, hb3⟩
    rw [hok]
    have hlen2 := reads_len (Reads.of_own hown2)
    have he := hq1.symm.trans hq2
    simp only [Z.Rec.mk.injEq] at he
    obtain ⟨e1, rfl, rfl, rfl, e5, e6⟩ := he
    obtain rfl := lst_inj e1
    obtain rfl := lst_inj e5
    obtain rfl := lst_inj e6
    obtain rfl : aL = bL := hlen1.symm.trans hlen2
    clear hq2 e1 e5 e6 hlen1 hlen2
    have hs3 := hb3.size
    simp only [World.alloc, Array.size_push] at hs3
    have hx3 := (hx1.next hb3).alloc (.cells #[.string aN, .int .i64 aT, .int .i64 aK, .slice bA aL bC, .string aG, .string aX] 25)
    have hy3 : Blk (w3.alloc (.cells #[.string aN, .int .i64 aT, .int .i64 aK, .slice bA aL bC, .string aG, .string aX] 25)) w3.heap.size 25 [.string aN, .int .i64 aT, .int .i64 aK, .slice bA aL bC, .string aG, .string aX] := Blk.new w3 25 [.string aN, .int .i64 aT, .int .i64 aK, .slice bA aL bC, .string aG, .string aX]
    have hr3 := (hr1.below hb3 (by simp)).alloc (by omega) (.cells #[.string aN, .int .i64 aT, .int .i64 aK, .slice bA aL bC, .string aG, .string aX] 25)
    have hrb3 := (Reads.of_own hown2).alloc (Nat.le_refl _) (.cells #[.string aN, .int .i64 aT, .int .i64 aK, .slice bA aL bC, .string aG, .string aX] 25)
    have hbs3 := hbw2.size
    simp only [World.alloc, Array.size_push] at hbs3
    have hbw3 : Below w.heap.size w (w3.alloc (.cells #[.string aN, .int .i64 aT, .int .i64 aK, .slice bA aL bC, .string aG, .string aX] 25)) := (hbw2.trans (hb3.mono (by simp; omega))).alloc (by omega) _
    clear hx1 hbw2 hr1 hown2 hb3
    obtain ⟨p0, p1, p2, p3, p4, p5⟩ := hx3.cells6
    obtain ⟨q0, q1, q2, q3, q4, q5⟩ := hy3.cells6
    have HS3 := hid (show Z.recSame (⟨lst aN, aT, aK, aZ, lst aG, lst aX⟩ : Z.Rec) (⟨lst aN, aT, aK, aZ, lst aG, lst aX⟩ : Z.Rec) = true from (Z.recSame_iff _ _).2 rfl)
    cases ok with
    | false =>
      have HOK := hid hok
      clear hok hq1
      go_wp2_with fail
      refine (recSame_true aN aT aK aA aL aC aG aX aZ _ bA bC _ _ hr3 (by simp; omega) (by omega) hrb3 (by simp) HS3).mono ?_
      rintro e w4 ⟨rfl, hb4⟩
      have hx4 := hx3.next hb4
      have hy4 := hy3.next hb4
      have hr4 := hr3.below hb4 (by simp; omega)
      have hrb4 := hrb3.below hb4 (by simp)
      have hs4 := hb4.size
      simp only [World.alloc, Array.size_push] at hs4
      have hbw4 := hbw3.trans (hb4.mono (by simp; omega))
      clear hx3 hy3 hr3 hrb3 hbw3 hb4 p0 p1 p2 p3 p4 p5 q0 q1 q2 q3 q4 q5
      obtain ⟨p0, p1, p2, p3, p4, p5⟩ := hx4.cells6
      obtain ⟨q0, q1, q2, q3, q4, q5⟩ := hy4.cells6
      go_wp2_with fail
      refine (recSame_true aN aT aK aA aL aC aG aX aZ _ bA bC _ _ hr4 (by omega) (by omega) hrb4 (by omega) HS3).mono ?_
      rintro e w5 ⟨rfl, hb5⟩
      have hbw5 := hbw4.trans (hb5.mono (by omega))
      clear hx4 hy4 hr4 hrb4 hbw4 hb5 p0 p1 p2 p3 p4 p5 q0 q1 q2 q3 q4 q5
      go_wp2
      go_ret
      exact ⟨rfl, hbw5⟩
    | true =>
      have hrec : Z.parse (lst s) = some (⟨lst aN, aT, aK, aZ, lst aG, lst aX⟩ : Z.Rec) := by
        cases hp : Z.parse (lst s) with
        | none => rw [hp] at hok; cases hok
        | some r => rw [hp] at hq1; exact congrArg some hq1
      have HV := hid (Z.parse_some hrec).1
      have eb : lst (s ++ ⟨#[32]⟩) = lst s ++ [32] := by rw [lst_append]; rfl
      have ef : lst (⟨#[32]⟩ ++ s) = 32 :: lst s := by rw [lst_append]; rfl
      have HB := hid (show Z.parse (lst (s ++ ⟨#[32]⟩)) = none by rw [eb]; exact Z.parse_behind (lst s))
      have HF := hid (show Z.parse (lst (⟨#[32]⟩ ++ s)) = none by rw [ef]; exact Z.parse_front (lst s))
      have sb : (s ++ ⟨#[32]⟩).size ≤ 2000000 := by rw [ByteArray.size_append]; show s.size + 1 ≤ _; omega
      have sf : (⟨#[32]⟩ ++ s).size ≤ 2000000 := by rw [ByteArray.size_append]; show 1 + s.size ≤ _; omega
      have SB := hid sb
      have SF := hid sf
      clear eb ef sb sf
      have a1 := add_run s ⟨#[32]⟩ (by show s.size + 1 ≤ _; omega)
      have a2 := add_run ⟨#[32]⟩ s (by show 1 + s.size ≤ _; omega)
      obtain ⟨hsz, _, hsg, hsx⟩ := Z.valid_sizes HV.out
      dsimp only at hsz hsg hsx
      rw [lst_length] at hsz hsg hsx
      have HOK := hid hok
      clear hok hq1 hrec
      go_wp2_with fail
      refine (recSame_true aN aT aK aA aL aC aG aX aZ _ bA bC _ _ hr3 (by simp; omega) (by omega) hrb3 (by simp) HS3).mono ?_
      rintro e w4 ⟨rfl, hb4⟩
      have hx4 := hx3.next hb4
      have hr4 := hr3.below hb4 (by simp; omega)
      have hs4 := hb4.size
      simp only [World.alloc, Array.size_push] at hs4
      have hbw4 := hbw3.trans (hb4.mono (by simp; omega))
      clear hx3 hy3 hr3 hrb3 hbw3 hb4 p0 p1 p2 p3 p4 p5 q0 q1 q2 q3 q4 q5
      obtain ⟨p0, p1, p2, p3, p4, p5⟩ := hx4.cells6
      go_wp2_with fail
      have uSB := SB.out
      have mSB := hm.below hbw4
      have kSB := hk.below hbw4
      have tSB := iParse_none (s ++ ⟨#[32]⟩) uSB _ mSB kSB HB
      refine tSB.mono ?_
      clear uSB mSB kSB tSB
      rintro e w5 ⟨cN, cT, cK, cA, cL, cC, cG, cX, rfl, hb5⟩
      have hs5 := hb5.size
      have hx5 := (hx4.next hb5).alloc (.cells #[.string cN, .int .i64 cT, .int .i64 cK, .slice cA cL cC, .string cG, .string cX] 25)
      have hr5 := (hr4.below hb5 (by omega)).alloc (by omega) (.cells #[.string cN, .int .i64 cT, .int .i64 cK, .slice cA cL cC, .string cG, .string cX] 25)
      have hbw5 := (hbw4.trans (hb5.mono (by omega))).alloc (by omega) (.cells #[.string cN, .int .i64 cT, .int .i64 cK, .slice cA cL cC, .string cG, .string cX] 25)
      clear hx4 hr4 hbw4 hb5 p0 p1 p2 p3 p4 p5
      obtain ⟨p0, p1, p2, p3, p4, p5⟩ := hx5.cells6
      go_wp2_with fail
      have uSF := SF.out
      have mSF := hm.below hbw5
      have kSF := hk.below hbw5
      have tSF := iParse_none (⟨#[32]⟩ ++ s) uSF _ mSF kSF HF
      refine tSF.mono ?_
      clear uSF mSF kSF tSF
      rintro e w6 ⟨dN, dT, dK, dA, dL, dC, dG, dX, rfl, hb6⟩
      have hs6 := hb6.size
      simp only [World.alloc, Array.size_push] at hs6
      have hx6 := (hx5.next hb6).alloc (.cells #[.string dN, .int .i64 dT, .int .i64 dK, .slice dA dL dC, .string dG, .string dX] 25)
      have hr6 := (hr5.below hb6 (by simp; omega)).alloc (by omega) (.cells #[.string dN, .int .i64 dT, .int .i64 dK, .slice dA dL dC, .string dG, .string dX] 25)
      have hbw6 := (hbw5.trans (hb6.mono (by simp; omega))).alloc (by omega) (.cells #[.string dN, .int .i64 dT, .int .i64 dK, .slice dA dL dC, .string dG, .string dX] 25)
      clear hx5 hr5 hbw5 hb6 p0 p1 p2 p3 p4 p5
      obtain ⟨p0, p1, p2, p3, p4, p5⟩ := hx6.cells6
      go_wp2_with fail
      refine (iRecordValid_v aN aT aK aA aL aC aG aX aZ _ _ hr6 (by simp; omega) (by omega) (by omega) (by omega) (by omega) true HV).mono ?_
      rintro e w7 ⟨rfl, hb7⟩
      have hbw7 := hbw6.trans (hb7.mono (by simp; omega))
      clear hx6 hr6 hbw6 hb7 p0 p1 p2 p3 p4 p5
      go_wp2
      go_ret
      exact ⟨rfl, hbw7⟩
  · go_enter Tryd.func4, Tryd.ntmps4
    go_wp2_with fail
    go_ret
    exact ⟨rfl, Below.refl _ _⟩

set_option maxRecDepth 100000 in
theorem lifted (os : Os) (started : os.Started) (H : Type) (enc : TypeId × Value → H) :
    ReturnsInHanded {} Tryd.checked os 4 .any (fun w args => (Rows.fnParsePrefixSpec.pre enc Tryd.prog Tryd.f4 Rows.fnParsePrefixRow.domain false w args ∧ laidMetH Tryd.prog [("unicode/utf8.acceptRanges", Rows.laid_unicode_utf8_acceptRanges), ("loop.example/zonefiles/impl.kindRows", Rows.laid_loop_example_zonefiles_impl_kindRows), ("unicode/utf8.first", Rows.laid_unicode_utf8_first)] w) ∧ sizedMet enc Tryd.prog Tryd.f4 (OpenSpec.ofChange Rows.fnParsePrefixSpec) false w args)
      (Rows.fnParsePrefixSpec.post enc Tryd.prog Tryd.f4 false true false false) := by
  refine returnsInHanded_and_shaped (C := Tryd.checked) (X := fun w _ => laidMetH Tryd.prog [("unicode/utf8.acceptRanges", Rows.laid_unicode_utf8_acceptRanges), ("loop.example/zonefiles/impl.kindRows", Rows.laid_loop_example_zonefiles_impl_kindRows), ("unicode/utf8.first", Rows.laid_unicode_utf8_first)] w) (fun _ _ _ hh h => h.of_heap hh) own started (by kernel_rfl) Tryd.func4
    (ChangeSpec.witness_shaped (enc := enc) (C := Tryd.checked) (os := os) (X := fun w _ => laidMetH Tryd.prog [("unicode/utf8.acceptRanges", Rows.laid_unicode_utf8_acceptRanges), ("loop.example/zonefiles/impl.kindRows", Rows.laid_loop_example_zonefiles_impl_kindRows), ("unicode/utf8.first", Rows.laid_unicode_utf8_first)] w) false (World.laidAll Tryd.prog os [("unicode/utf8.acceptRanges", Rows.laid_unicode_utf8_acceptRanges), ("loop.example/zonefiles/impl.kindRows", Rows.laid_loop_example_zonefiles_impl_kindRows), ("unicode/utf8.first", Rows.laid_unicode_utf8_first)]) #[.slice none 0 0] 8 (World.laidAll_os _ _ _)
      (World.shaped_of_ZipB (by kernel_rfl) (by kernel_rfl)) (by kernel_rfl) (by kernel_rfl) (by kernel_rfl)
      (by rw [MakeChecks.laidMetH_plain _ _ _ (by kernel_rfl)]; exact laidMet_laidAll _ (by kernel_rfl) (by kernel_rfl))) ?_
  intro W base args ds gs before hval0 hW hsh hL
  have hval : ∀ (j : Nat) t v, Tryd.f4.params[j]? = some t → args[j]? = some v → Value.okWide Tryd.prog W .any base t v := hval0
  have hW' := hW
  obtain ⟨p, q, hA0, hV, rfl, hfz, hnd⟩ := hW
  have hA : DataW.TrodAll enc Tryd.prog W 0 (fun _ => true) true Tryd.f4.params.toList args.toList ds p := hA0
  have hV1 : DataW.TrodVars enc Tryd.prog W (fun _ => true) ["loop.example/zonefiles/impl.kindRows"] gs q := hV
  clear hV
  have hV2 := hV1
  obtain ⟨g9, t9, cs9, f9, d9, p9, rfl, _, _, _, _, rfl⟩ := trodVars_one hV2
  rw [Tryd.params4] at hA hval
  obtain ⟨v0, vs0, d0, ds0, p0, q0, hargs, rfl, rfl, h0, r0⟩ := trodAll_cons hA
  obtain ⟨rfl, rfl, rfl⟩ := trodAll_nil r0
  obtain rfl : args = #[v0] := by cases args; simp_all
  have k0 := h0
  have lt0 : ∀ x ∈ p0, x.block < W.heap.size := by obtain ⟨m, hm⟩ := k0; exact DataW.trod_lt m _ _ _ hm
  obtain ⟨a0, len0, cap0, rfl⟩ := okWide_slice Tryd.underlying22 (hval 0 22 v0 rfl rfl)
  have h0b := h0
  obtain ⟨z0, w0⟩ : ∃ zs, IsRow .u8 W a0 len0 cap0 zs := by
    obtain ⟨fuel, hf⟩ := h0b
    rcases open_ints Tryd.underlying22 Tryd.underlying5 (by kernel_rfl) hf with ⟨hcs, _⟩ | ⟨x, l, c, zs, hcs, _, hl, hm, hz, _, hcell, hwz⟩
    · simp [Value.cells] at hcs
      obtain ⟨rfl, rfl, rfl⟩ := hcs
      exact ⟨[], .inl ⟨rfl, rfl, rfl, rfl⟩⟩
    · simp [Value.cells] at hcs
      obtain ⟨rfl, rfl, rfl⟩ := hcs
      exact ⟨zs, .inr ⟨_, rfl, hl, hm, by simpa using hz, hcell, hwz⟩⟩
  have hlv := laid_vars (by kernel_rfl) hL
  have hk := kt_of_vars (laid_next hlv)
  have hm := mx_of_shaped hsh
  clear hA0 hval0
  refine (walk a0 len0 cap0 z0 W w0  hk hm).mono fun e W' ⟨he, bel⟩ => ?_
  subst he
  exact ⟨_, rfl, _, _, _, [], _, _, hW', trodAll_mk1 (shut_bool Tryd.underlying4 _), (trodAll_cons_mk (Below.trod laidOut (by kernel_rfl) (of_decide_eq_true (by kernel_rfl)) k0 bel lt0) trodAll_mk0), bel.trodVars laidOut (by kernel_rfl) hV1, bel.frame _, fun h => by cases h⟩

theorem over : Rows.fnParsePrefixRow.holds Tryd.pinned (OpenSpec.ofChange Rows.fnParsePrefixSpec) :=
  OpenClaim.holds_of_wide 4 Tryd.f4 rfl rfl rfl rfl rfl rfl rfl ⟨rfl, rfl, rfl, rfl, rfl⟩ rfl rfl rfl rfl rfl (by kernel_rfl) Tryd.func4 (by kernel_rfl)
    (of_decide_eq_true (by kernel_rfl)) (by unfold Func.isWrapper; first | (rw [if_pos (by decide +kernel)]; kernel_rfl) | (rw [if_neg (by decide +kernel)]; exact ⟨rfl, rfl⟩))
    (fun os started H enc _ => lifted os started H enc)

theorem proved : Rows.FnParsePrefixCardSaid :=
  Claim7.holds_tied_plain_at .later [] [.data, .data, .pinned] true (true, "fedccedac822d90a2a0aad532641127a99a3e79694b7978f8b319353a0145562") true over (fun _ h => by cases h) (by kernel_rfl) (fun _ h => by cases h) fnParsePrefix_row_tie rfl ⟨rfl, rfl⟩ (by kernel_rfl) rfl
    (fun f fn hf hfn => by
      obtain rfl : f = 4 := Option.some.inj ((show Tryd.prog.funcNamed "loop.example/zonefiles/laws.FnParsePrefix" = some 4 by kernel_rfl).symm.trans hf) |>.symm
      obtain rfl : fn = Tryd.f4 := (Option.some.inj (Tryd.func4.symm.trans hfn)).symm
      exact ⟨by kernel_rfl, fun j t ht => by
        rw [Tryd.params4] at ht
        have hm : t ∈ [22] := by simpa using Array.mem_of_getElem? ht
        have hall : ([22].all fun u => !Tryd.prog.wantsStandIn u) = true := by kernel_rfl
        exact (show Tryd.prog.wantsStandIn t = false by simpa using List.all_eq_true.1 hall t hm)⟩)
    (by kernel_rfl)
end Go.Proofs.YtgmmaehdpongcaaDoor.fnParsePrefix

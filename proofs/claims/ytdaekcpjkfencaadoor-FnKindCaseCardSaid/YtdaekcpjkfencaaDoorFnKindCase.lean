/- For all draws, names of kinds have great letters, where the table of kinds is as the program's text lays it. -/
import Derived.Test.YtdaekcpjkfencaaDoorTie
import Derived.Test.YtdaekcpjkfencaaDoorCards
import Derived.Test.YtdaekcpjkfencaaDoorHa
import Derived.Test.YtdaekcpjkfencaaDoorSa
import Derived.Test.YtdaekcpjkfencaaDoorNa
import Derived.Test.YtdaekcpjkfencaaDoorH
namespace Go.Proofs.YtdaekcpjkfencaaDoor.fnKindCase
open Go.ChangeShapes Go.WideShapes Go.ChangeAt Go.RowKit
open Go.ChangeMaps (open_string shut_string)
set_option linter.unusedVariables false

theorem own : ownKnob Tryd.prog.godebug = none := by kernel_rfl
theorem laidOut : laidOutB Tryd.prog = true := by kernel_rfl

/-- The table of kinds lies in a later world, too. -/
def KTS (B : Nat) (w w1 : World) : Prop := Below B w w1 ∧ B ≤ w1.heap.size ∧ KT w1
theorem KTS.start {w : World} (h : KT w) : KTS w.heap.size w w := ⟨Below.refl _ _, Nat.le_refl _, h⟩
theorem KTS.kt {B : Nat} {w w1 : World} (h : KTS B w w1) : KT w1 := h.2.2
theorem KTS.next {B : Nat} {w w1 w2 : World} (h : KTS B w w1) (k : Below w1.heap.size w1 w2) : KTS B w w2 := ⟨below2' h.1 k h.2.1, Nat.le_trans h.2.1 k.size, h.2.2.below k⟩
theorem KTS.out {B : Nat} {w w1 : World} (h : KTS B w w1) : Below B w w1 := h.1

theorem ikn (z : Int) {s : ByteArray} (hz : bs (Z.kindName z) = s) {B : Nat} {w w1 : World} (h : KTS B w w1) :
    Calls Tryd.prog 8 #[.int .i64 z] w1 fun e w' => e = .returned (.string s) ∧ KTS B w w' :=
  (iKindName_any z w1 h.kt).mono fun e w' ⟨h1, h2⟩ => ⟨by rw [h1, hz], h.next h2⟩
theorem iko_some (s : ByteArray) {n : Int} (hn : Z.kindOf (lst s) = some n) {B : Nat} {w w1 : World} (h : KTS B w w1) :
    Calls Tryd.prog 10 #[.string s] w1 fun e w' => e = .returned (.tuple #[.int .i64 n, .bool true]) ∧ KTS B w w' :=
  (iKindOf_any s w1 h.kt).mono fun e w' ⟨h1, h2⟩ => ⟨by rw [h1, hn]; rfl, h.next h2⟩
theorem iko_none (s : ByteArray) (hn : Z.kindOf (lst s) = none) {B : Nat} {w w1 : World} (h : KTS B w w1) :
    Calls Tryd.prog 10 #[.string s] w1 fun e w' => e = .returned (.tuple #[.int .i64 0, .bool false]) ∧ KTS B w w' :=
  (iKindOf_any s w1 h.kt).mono fun e w' ⟨h1, h2⟩ => ⟨by rw [h1, hn]; rfl, h.next h2⟩

theorem skn (z : Int) {s : ByteArray} (hz : bs (Z.kindName z) = s) {B : Nat} {w w1 : World} (h : KTS B w w1) :
    Calls Tryd.prog 9 #[.int .i64 z] w1 fun e w' => e = .returned (.string s) ∧ KTS B w w' :=
  (KindName_any z w1).mono fun e w' ⟨h1, h2⟩ => ⟨by rw [h1, hz], h.next h2⟩
theorem sko_some (s : ByteArray) {n : Int} (hn : Z.kindOf (lst s) = some n) {B : Nat} {w w1 : World} (h : KTS B w w1) :
    Calls Tryd.prog 12 #[.string s] w1 fun e w' => e = .returned (.tuple #[.int .i64 n, .bool true]) ∧ KTS B w w' :=
  (KindOf_any s w1).mono fun e w' ⟨h1, h2⟩ => ⟨by rw [h1, hn]; rfl, h.next h2⟩
theorem sko_none (s : ByteArray) (hn : Z.kindOf (lst s) = none) {B : Nat} {w w1 : World} (h : KTS B w w1) :
    Calls Tryd.prog 12 #[.string s] w1 fun e w' => e = .returned (.tuple #[.int .i64 0, .bool false]) ∧ KTS B w w' :=
  (KindOf_any s w1).mono fun e w' ⟨h1, h2⟩ => ⟨by rw [h1, hn]; rfl, h.next h2⟩

theorem of_or (x : ByteArray) : Z.kindOf (lst x) = none ∨ (x = ⟨#[65]⟩ ∧ Z.kindOf (lst ⟨#[65]⟩) = some 1 ∧ bs (Z.kindName 1) = ⟨#[65]⟩) ∨ (x = ⟨#[78, 83]⟩ ∧ Z.kindOf (lst ⟨#[78, 83]⟩) = some 2 ∧ bs (Z.kindName 2) = ⟨#[78, 83]⟩) ∨ (x = ⟨#[67, 78, 65, 77, 69]⟩ ∧ Z.kindOf (lst ⟨#[67, 78, 65, 77, 69]⟩) = some 5 ∧ bs (Z.kindName 5) = ⟨#[67, 78, 65, 77, 69]⟩) ∨ (x = ⟨#[83, 79, 65]⟩ ∧ Z.kindOf (lst ⟨#[83, 79, 65]⟩) = some 6 ∧ bs (Z.kindName 6) = ⟨#[83, 79, 65]⟩) ∨ (x = ⟨#[80, 84, 82]⟩ ∧ Z.kindOf (lst ⟨#[80, 84, 82]⟩) = some 12 ∧ bs (Z.kindName 12) = ⟨#[80, 84, 82]⟩) ∨ (x = ⟨#[77, 88]⟩ ∧ Z.kindOf (lst ⟨#[77, 88]⟩) = some 15 ∧ bs (Z.kindName 15) = ⟨#[77, 88]⟩) ∨ (x = ⟨#[84, 88, 84]⟩ ∧ Z.kindOf (lst ⟨#[84, 88, 84]⟩) = some 16 ∧ bs (Z.kindName 16) = ⟨#[84, 88, 84]⟩) := by
  cases h : Z.kindOf (lst x) with
  | none => exact .inl rfl
  | some n =>
    have e := (Z.kindOf_name h).1
    have hx : x = bs (Z.kindName n) := by rw [e, bs_lst]
    have hk : Z.isKind n := Z.kindName_ne.1 (by rw [e]; exact (Z.kindOf_name h).2)
    subst hx
    refine .inr ?_
    rcases hk with rfl | rfl | rfl | rfl | rfl | rfl | rfl
    · refine .inl ⟨rfl, by decide, rfl⟩
    · refine .inr (.inl ⟨rfl, by decide, rfl⟩)
    · refine .inr (.inr (.inl ⟨rfl, by decide, rfl⟩))
    · refine .inr (.inr (.inr (.inl ⟨rfl, by decide, rfl⟩)))
    · refine .inr (.inr (.inr (.inr (.inl ⟨rfl, by decide, rfl⟩))))
    · refine .inr (.inr (.inr (.inr (.inr (.inl ⟨rfl, by decide, rfl⟩)))))
    · refine .inr (.inr (.inr (.inr (.inr (.inr (⟨rfl, by decide, rfl⟩))))))

set_option maxHeartbeats 4000000 in
theorem walk (a0 : Option Addr) (len0 cap0 : Nat) (z0 : List Int) (w : World) (w0 : IsRow .u8 w a0 len0 cap0 z0) (hk : KT w) :
    Calls Tryd.prog 6 #[.slice a0 len0 cap0] w fun e w' => e = .returned (.bool true) ∧ Below w.heap.size w w' := by
  have hc0 := row_cap w0
  unfold maxLen at hc0
  by_cases hb0 : len0 ≤ 1048576
  · obtain ⟨zs0, rfl, hcode0⟩ := code_of_row w0 hb0
    clear w0
    go_enter Tryd.func6, Tryd.ntmps6
    go_wp2_with fail
    refine (DrawKindOf_any _ _ zs0 w hcode0).mono ?_
    rintro e v1 ⟨x, rfl, hx, hbv1⟩
    have hs1 : KTS w.heap.size w v1 := (KTS.start hk).next hbv1
    clear hk hbv1
    rcases of_or x with ho | ⟨rfl, ho, hn⟩ | ⟨rfl, ho, hn⟩ | ⟨rfl, ho, hn⟩ | ⟨rfl, ho, hn⟩ | ⟨rfl, ho, hn⟩ | ⟨rfl, ho, hn⟩ | ⟨rfl, ho, hn⟩
    · go_wp2_with (first | (go_at_call 8; refine (ikn _ (by assumption) (by assumption)).mono ?_; rintro e w2 ⟨rfl, hs⟩) | (go_at_call 10; first | (refine (iko_some _ (by assumption) (by assumption)).mono ?_; rintro e w2 ⟨rfl, hs⟩) | (refine (iko_none _ (by assumption) (by assumption)).mono ?_; rintro e w2 ⟨rfl, hs⟩)) | (go_at_call 9; refine (skn _ (by assumption) (by assumption)).mono ?_; rintro e w2 ⟨rfl, hs⟩) | (go_at_call 12; first | (refine (sko_some _ (by assumption) (by assumption)).mono ?_; rintro e w2 ⟨rfl, hs⟩) | (refine (sko_none _ (by assumption) (by assumption)).mono ?_; rintro e w2 ⟨rfl, hs⟩)))
      all_goals go_ret
      all_goals exact ⟨rfl, KTS.out (by assumption)⟩
    all_goals clear hx
    all_goals go_wp2_with (first | (go_at_call 8; refine (ikn _ (by assumption) (by assumption)).mono ?_; rintro e w2 ⟨rfl, hs⟩) | (go_at_call 10; first | (refine (iko_some _ (by assumption) (by assumption)).mono ?_; rintro e w2 ⟨rfl, hs⟩) | (refine (iko_none _ (by assumption) (by assumption)).mono ?_; rintro e w2 ⟨rfl, hs⟩)) | (go_at_call 9; refine (skn _ (by assumption) (by assumption)).mono ?_; rintro e w2 ⟨rfl, hs⟩) | (go_at_call 12; first | (refine (sko_some _ (by assumption) (by assumption)).mono ?_; rintro e w2 ⟨rfl, hs⟩) | (refine (sko_none _ (by assumption) (by assumption)).mono ?_; rintro e w2 ⟨rfl, hs⟩)))
    all_goals (refine wp_loop_rounds 6 ?_; repeat any_goals (rw [rounds_succ]; go_wp2_with (first | (go_at_call 8; refine (ikn _ (by assumption) (by assumption)).mono ?_; rintro e w2 ⟨rfl, hs⟩) | (go_at_call 10; first | (refine (iko_some _ (by assumption) (by assumption)).mono ?_; rintro e w2 ⟨rfl, hs⟩) | (refine (iko_none _ (by assumption) (by assumption)).mono ?_; rintro e w2 ⟨rfl, hs⟩)) | (go_at_call 9; refine (skn _ (by assumption) (by assumption)).mono ?_; rintro e w2 ⟨rfl, hs⟩) | (go_at_call 12; first | (refine (sko_some _ (by assumption) (by assumption)).mono ?_; rintro e w2 ⟨rfl, hs⟩) | (refine (sko_none _ (by assumption) (by assumption)).mono ?_; rintro e w2 ⟨rfl, hs⟩)))))
    all_goals go_ret
    all_goals exact ⟨rfl, KTS.out (by assumption)⟩
  · go_enter Tryd.func6, Tryd.ntmps6
    go_wp2_with fail
    go_ret
    exact ⟨rfl, Below.refl _ _⟩

set_option maxRecDepth 100000 in
theorem lifted (os : Os) (started : os.Started) (H : Type) (enc : TypeId × Value → H) :
    ReturnsInHanded {} Tryd.checked os 6 .any (fun w args => (Rows.fnKindCaseSpec.pre enc Tryd.prog Tryd.f6 Rows.fnKindCaseRow.domain false w args ∧ laidMetH Tryd.prog [("loop.example/zonefiles/impl.kindRows", Rows.laid_loop_example_zonefiles_impl_kindRows)] w) ∧ sizedMet enc Tryd.prog Tryd.f6 (OpenSpec.ofChange Rows.fnKindCaseSpec) false w args)
      (Rows.fnKindCaseSpec.post enc Tryd.prog Tryd.f6 false true false false) := by
  refine returnsInHanded_of_change_and (C := Tryd.checked) (X := fun w _ => laidMetH Tryd.prog [("loop.example/zonefiles/impl.kindRows", Rows.laid_loop_example_zonefiles_impl_kindRows)] w) (fun _ _ _ hh h => h.of_heap hh) own started (by kernel_rfl) Tryd.func6
    (ChangeSpec.witness_shaped (enc := enc) (C := Tryd.checked) (os := os) (X := fun w _ => laidMetH Tryd.prog [("loop.example/zonefiles/impl.kindRows", Rows.laid_loop_example_zonefiles_impl_kindRows)] w) false (World.laidAll Tryd.prog os [("loop.example/zonefiles/impl.kindRows", Rows.laid_loop_example_zonefiles_impl_kindRows)]) #[.slice none 0 0] 8 (World.laidAll_os _ _ _)
      (World.shaped_of_ZipB (by kernel_rfl) (by kernel_rfl)) (by kernel_rfl) (by kernel_rfl) (by kernel_rfl)
      (by rw [MakeChecks.laidMetH_plain _ _ _ (by kernel_rfl)]; exact laidMet_laidAll _ (by kernel_rfl) (by kernel_rfl))) ?_
  intro W base args ds gs before hval0 hW hc _ hL _
  have hval : ∀ (j : Nat) t v, Tryd.f6.params[j]? = some t → args[j]? = some v → Value.okWide Tryd.prog W .any base t v := hval0
  have hW' := hW
  obtain ⟨p, q, hA0, hV, rfl, hfz, hnd⟩ := hW
  have hA : DataW.TrodAll enc Tryd.prog W 0 (fun _ => true) true Tryd.f6.params.toList args.toList ds p := hA0
  have hV1 : DataW.TrodVars enc Tryd.prog W (fun _ => true) ["loop.example/zonefiles/impl.kindRows"] gs q := hV
  clear hV
  have hV2 := hV1
  obtain ⟨g9, t9, cs9, f9, d9, p9, rfl, _, _, _, _, rfl⟩ := trodVars_one hV2
  rw [Tryd.params6] at hA hval
  obtain ⟨v0, vs0, d0, ds0, p0, q0, hargs, rfl, rfl, h0, r0⟩ := trodAll_cons hA
  obtain ⟨rfl, rfl, rfl⟩ := trodAll_nil r0
  obtain rfl : args = #[v0] := by cases args; simp_all
  have k0 := h0
  have lt0 : ∀ x ∈ p0, x.block < W.heap.size := by obtain ⟨m, hm⟩ := k0; exact DataW.trod_lt m _ _ _ hm
  obtain ⟨a0, len0, cap0, rfl⟩ := okWide_slice Tryd.underlying22 (hval 0 22 v0 rfl rfl)
  have h0b := h0
  obtain ⟨z0, w0⟩ : ∃ zs, IsRow .u8 W a0 len0 cap0 zs := by
    obtain ⟨fuel, hf⟩ := h0b
    rcases open_ints Tryd.underlying22 Tryd.underlying5 (by kernel_rfl) hf with ⟨hcs, _⟩ | ⟨x, l, c, zs, hcs, _, hl, hm, hz, _, hcell, hwz⟩
    · simp [Value.cells] at hcs
      obtain ⟨rfl, rfl, rfl⟩ := hcs
      exact ⟨[], .inl ⟨rfl, rfl, rfl, rfl⟩⟩
    · simp [Value.cells] at hcs
      obtain ⟨rfl, rfl, rfl⟩ := hcs
      exact ⟨zs, .inr ⟨_, rfl, hl, hm, by simpa using hz, hcell, hwz⟩⟩
  have hk := kt_of_laid1 hL
  clear hA0 hval0
  refine (walk a0 len0 cap0 z0 W w0  hk).mono fun e W' ⟨he, bel⟩ => ?_
  subst he
  exact ⟨_, rfl, _, _, _, [], _, _, hW', trodAll_mk1 (shut_bool Tryd.underlying4 _), (trodAll_cons_mk (Below.trod laidOut (by kernel_rfl) (of_decide_eq_true (by kernel_rfl)) k0 bel lt0) trodAll_mk0), bel.trodVars laidOut (by kernel_rfl) hV1, bel.frame _, fun h => by cases h⟩

theorem over : Rows.fnKindCaseRow.holds Tryd.pinned (OpenSpec.ofChange Rows.fnKindCaseSpec) :=
  OpenClaim.holds_of_wide 6 Tryd.f6 rfl rfl rfl rfl rfl rfl rfl ⟨rfl, rfl, rfl, rfl, rfl⟩ rfl rfl rfl rfl rfl (by kernel_rfl) Tryd.func6 (by kernel_rfl)
    (of_decide_eq_true (by kernel_rfl)) (by unfold Func.isWrapper; first | (rw [if_pos (by decide +kernel)]; kernel_rfl) | (rw [if_neg (by decide +kernel)]; exact ⟨rfl, rfl⟩))
    (fun os started H enc _ => lifted os started H enc)

theorem proved : Rows.FnKindCaseCardSaid :=
  Claim7.holds_tied_plain_at .later [] [.data] true (true, "6efbfde653c6c64d50aef1e36ef589175806e09bcd9806039276fd53c994e60c") true over (fun _ h => by cases h) (by kernel_rfl) (fun _ h => by cases h) fnKindCase_row_tie rfl ⟨rfl, rfl⟩ (by kernel_rfl) rfl
    (fun f fn hf hfn => by
      obtain rfl : f = 6 := Option.some.inj ((show Tryd.prog.funcNamed "loop.example/zonefiles/laws.FnKindCase" = some 6 by kernel_rfl).symm.trans hf) |>.symm
      obtain rfl : fn = Tryd.f6 := (Option.some.inj (Tryd.func6.symm.trans hfn)).symm
      exact ⟨by kernel_rfl, fun j t ht => by
        rw [Tryd.params6] at ht
        have hm : t ∈ [22] := by simpa using Array.mem_of_getElem? ht
        have hall : ([22].all fun u => !Tryd.prog.wantsStandIn u) = true := by kernel_rfl
        exact (show Tryd.prog.wantsStandIn t = false by simpa using List.all_eq_true.1 hall t hm)⟩)
    (by kernel_rfl)
end Go.Proofs.YtdaekcpjkfencaaDoor.fnKindCase

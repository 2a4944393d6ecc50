/- For all records, FormatRecord answers as the model does, and leaves what it was given as it was, where the tables are as the programs' texts lay them. -/
import Derived.Test.YtgmmaehdpongcaaDoorTie
import Derived.Test.YtgmmaehdpongcaaDoorCards
import Derived.Test.YtgmmaehdpongcaaDoorHb
import Derived.Test.YtgmmaehdpongcaaDoorGa
import Derived.Test.YtgmmaehdpongcaaDoorFr
import Derived.Test.YtgmmaehdpongcaaDoorSi
import Derived.Deep.RegionHeld3
import Derived.Outline
namespace Go.Proofs.YtgmmaehdpongcaaDoor.fnExactFormatRecord
open Go.ChangeShapes Go.WideShapes Go.ChangeAt Go.RowKit
open Go.ChangeMaps (open_string shut_string)
set_option linter.unusedVariables false

theorem own : ownKnob Tryd.prog.godebug = none := by kernel_rfl
theorem laidOut : laidOutB Tryd.prog = true := by kernel_rfl
theorem FormatRecord_eq' (aN : ByteArray) (aT aK : Int) (aA : Option Addr) (aL aC : Nat) (aG aX : ByteArray) (aZ : List Int) (aB : Nat) (w : World) (hra : Reads w aB aA aL (aZ.map iv)) (hba : aB ≤ w.heap.size) (hla : aL ≤ 67108864) (hsa : aN.size ≤ 67108864) (hga : aG.size ≤ 67108864) (hxa : aX.size ≤ 67108864) (D : ByteArray) (hD : Hid (bs (Z.format (⟨lst aN, aT, aK, aZ, lst aG, lst aX⟩ : Z.Rec)) = D)) :
    Calls Tryd.prog 14 #[.agg #[.string aN, .int .i64 aT, .int .i64 aK, .slice aA aL aC, .string aG, .string aX]] w fun e w' => e = .returned (.string D) ∧ Below w.heap.size w w' := by
  have h := FormatRecord_any aN aT aK aA aL aC aG aX aZ aB w hra hba hla hsa hga hxa
  rw [hD.out] at h
  exact h
theorem iFormatRecord_eq' (aN : ByteArray) (aT aK : Int) (aA : Option Addr) (aL aC : Nat) (aG aX : ByteArray) (aZ : List Int) (aB : Nat) (w : World) (hra : Reads w aB aA aL (aZ.map iv)) (hba : aB ≤ w.heap.size) (hla : aL ≤ 67108864) (hsa : aN.size ≤ 67108864) (hga : aG.size ≤ 67108864) (hxa : aX.size ≤ 67108864) (hk : KT w) (ht : PT w) (D : ByteArray) (hD : Hid (bs (Z.format (⟨lst aN, aT, aK, aZ, lst aG, lst aX⟩ : Z.Rec)) = D)) :
    Calls Tryd.prog 13 #[.agg #[.string aN, .int .i64 aT, .int .i64 aK, .slice aA aL aC, .string aG, .string aX]] w fun e w' => e = .returned (.string D) ∧ Below w.heap.size w w' := by
  have h := iFormatRecord_any aN aT aK aA aL aC aG aX aZ aB w hra hba hla hsa hga hxa hk ht
  rw [hD.out] at h
  exact h
theorem cells12c {w W : World} {b b' : Nat} {c0 c1 c2 c3 c4 c5 d0 d1 d2 d3 d4 d5 : Value} {P : Prop} (h : Held w W b [c0, c1, c2, c3, c4, c5]) (k : Held w W b' [d0, d1, d2, d3, d4, d5]) (hp : P) :
    Held w W b [c0, c1, c2, c3, c4, c5] ∧ Held w W b' [d0, d1, d2, d3, d4, d5] ∧ P ∧ W.cell? ⟨b, 0, none⟩ = some c0 ∧ W.cell? ⟨b, 1, none⟩ = some c1 ∧ W.cell? ⟨b, 2, none⟩ = some c2 ∧ W.cell? ⟨b, 3, none⟩ = some c3 ∧ W.cell? ⟨b, 4, none⟩ = some c4 ∧ W.cell? ⟨b, 5, none⟩ = some c5 ∧
    W.cell? ⟨b', 0, none⟩ = some d0 ∧ W.cell? ⟨b', 1, none⟩ = some d1 ∧ W.cell? ⟨b', 2, none⟩ = some d2 ∧ W.cell? ⟨b', 3, none⟩ = some d3 ∧ W.cell? ⟨b', 4, none⟩ = some d4 ∧ W.cell? ⟨b', 5, none⟩ = some d5 := by
  obtain ⟨h0, h1, h2, h3, h4, h5⟩ := h.cells6
  obtain ⟨k0, k1, k2, k3, k4, k5⟩ := k.cells6
  exact ⟨h, k, hp, h0, h1, h2, h3, h4, h5, k0, k1, k2, k3, k4, k5⟩

set_option maxRecDepth 100000 in
set_option maxHeartbeats 8000000 in
theorem walk (v0 : Value) (w : World) (i0 : RecIn w v0) (hk : KT w) (ht : PT w) :
    Calls Tryd.prog 6 #[v0] w fun e w' => e = .returned (.bool true) ∧ Below w.heap.size w w' := by
  obtain ⟨aN, aT, aK, aA, aL, aC, aG, aX, rfl, m1, m2, m3, m4, m5, aZ, hra⟩ := i0
  have hx0 := Held.box w [.string aN, .int .i64 aT, .int .i64 aK, .slice aA aL aC, .string aG, .string aX] 38
  obtain ⟨D, hD⟩ : ∃ D, bs (Z.format (⟨lst aN, aT, aK, aZ, lst aG, lst aX⟩ : Z.Rec)) = D := ⟨_, rfl⟩
  have HD := hid hD
  clear hD
  go_enter Tryd.func6, Tryd.ntmps6
  go_wp2_with fail
  refine (szRecord_any _ _ _ _ _ _ _ _ [] 0 1048576 _ m1 (by omega) m2 m3 (by omega) (by omega)).mono ?_
  rintro e w1 ⟨k1, rfl, hk1, hb1⟩
  have hx1 := hx0.next hb1
  obtain ⟨p0, p1, p2, p3, p4, p5⟩ := hx1.cells6
  by_cases hk1n : k1 < 0
  · go_wp2
    go_ret
    exact ⟨rfl, hx1.1⟩
  · obtain ⟨g1, g2⟩ := hk1.out
    have g3 := g2 (by omega)
    clear g2 hk1 m1 m2 m3 m4
    have la : aL ≤ 1048576 := by omega
    have la6 : aL ≤ 67108864 := by omega
    have s1 : aN.size ≤ 67108864 := by omega
    have s2 : aG.size ≤ 67108864 := by omega
    have s3 : aX.size ≤ 67108864 := by omega
    clear hx0 hb1
    go_wp2_with fail
    refine (toRecord_law hra hx1 la).mono ?_
    rintro e w11 ⟨A1, c1, rfl, hr1, hb11⟩
    have hx4 := hx1.next hb11
    clear p0 p1 p2 p3 p4 p5 hx1
    obtain ⟨p0, p1, p2, p3, p4, p5⟩ := hx4.cells6
    have lx4 := hx4.2.2.1
    clear hb11
    go_wp2_with fail
    refine (FormatRecord_eq' aN aT aK A1 aL c1 aG aX aZ _ w11 hr1 (Nat.le_refl _) la6 s1 s2 s3 D HD).mono ?_
    rintro e w2 ⟨rfl, hb2⟩
    have hx5 := hx4.next hb2
    clear p0 p1 p2 p3 p4 p5 hx4 hr1
    obtain ⟨p0, p1, p2, p3, p4, p5⟩ := hx5.cells6
    clear hb2 lx4
    go_wp2_with fail
    refine (toRecord_law hra hx5 la).mono ?_
    rintro e w12 ⟨A2, c2, rfl, hr2, hb12⟩
    have hx6 := hx5.next hb12
    have lx6 := hx6.2.2.1
    clear p0 p1 p2 p3 p4 p5 hx5 hb12
    obtain ⟨p0, p1, p2, p3, p4, p5⟩ := hx6.cells6
    have hx7 := hx6.alloc (.cells [.string aN, .int .i64 aT, .int .i64 aK, .slice A2 aL c2, .string aG, .string aX].toArray 25)
    have hz7 := hx6.again (cs' := [.string aN, .int .i64 aT, .int .i64 aK, .slice A2 aL c2, .string aG, .string aX]) 25 w12.heap.size rfl
    have hr7 := readsAlloc hr2 (.cells [.string aN, .int .i64 aT, .int .i64 aK, .slice A2 aL c2, .string aG, .string aX].toArray 25)
    obtain ⟨t0, t1, t2, t3, t4, t5⟩ := hz7.cells6
    go_wp2_with fail
    refine (iFormatRecord_eq' aN aT aK A2 aL c2 aG aX aZ _ _ hr7 (Nat.le_refl _) la6 s1 s2 s3 (hk.below hx7.1) (ht.below hx7.1) D HD).mono ?_
    rintro e w13 ⟨rfl, hb13⟩
    have hx8 := hx7.next hb13
    have hz8 := hz7.next hb13
    have hr8 := readsNow hr7 hb13
    clear lx6 hx6 hx7 hz7 hr2 hr7 hb13 t0 t1 t2 t3 t4 t5 p0 p1 p2 p3 p4 p5
    go_wp2_with fail
    go_region_held3 (fun w' => Held w w' w.heap.size [.string aN, .int .i64 aT, .int .i64 aK, .slice aA aL aC, .string aG, .string aX] ∧ Held w w' w12.heap.size [.string aN, .int .i64 aT, .int .i64 aK, .slice A2 aL c2, .string aG, .string aX] ∧ Reads w' w'.heap.size A2 aL (aZ.map iv) ∧ w'.cell? ⟨w.heap.size, 0, none⟩ = some (.string aN) ∧ w'.cell? ⟨w.heap.size, 1, none⟩ = some (.int .i64 aT) ∧ w'.cell? ⟨w.heap.size, 2, none⟩ = some (.int .i64 aK) ∧ w'.cell? ⟨w.heap.size, 3, none⟩ = some (.slice aA aL aC) ∧ w'.cell? ⟨w.heap.size, 4, none⟩ = some (.string aG) ∧ w'.cell? ⟨w.heap.size, 5, none⟩ = some (.string aX) ∧ w'.cell? ⟨w12.heap.size, 0, none⟩ = some (.string aN) ∧ w'.cell? ⟨w12.heap.size, 1, none⟩ = some (.int .i64 aT) ∧ w'.cell? ⟨w12.heap.size, 2, none⟩ = some (.int .i64 aK) ∧ w'.cell? ⟨w12.heap.size, 3, none⟩ = some (.slice A2 aL c2) ∧ w'.cell? ⟨w12.heap.size, 4, none⟩ = some (.string aG) ∧ w'.cell? ⟨w12.heap.size, 5, none⟩ = some (.string aX))
      (first | exact cells12c (by assumption) (by assumption) (by assumption) | exact cells12c (Held.drewN (by assumption) 1) (Held.drewN (by assumption) 1) (Reads.drew (by assumption)) | (go_split_ands; exact cells12c (Held.next (by assumption) hb9) (Held.next (by assumption) hb9) (readsNow (by assumption) hb9)))
      (first
        | (go_at_call 27; go_split_ands; refine (toRecord_law (by assumption) (by assumption) (by assumption)).mono ?_; rintro e w9 ⟨A9, c9, rfl, hr9, hb9⟩)
        | (go_at_call 28; go_split_ands; refine (eqRecord_law (by first | assumption | exact readsNow (by assumption) (by assumption)) (by first | assumption | exact readsNow (by assumption) (by assumption)) (by assumption)).mono ?_; rintro e w14 ⟨rfl, hb9⟩))
    all_goals go_split_ands
    all_goals (have hh9 : Held w w14 w.heap.size [.string aN, .int .i64 aT, .int .i64 aK, .slice aA aL aC, .string aG, .string aX] := by assumption)
    all_goals go_wp2
    all_goals go_ret
    all_goals exact ⟨rfl, hh9.1⟩

set_option maxRecDepth 100000 in
theorem lifted (os : Os) (started : os.Started) (H : Type) (enc : TypeId × Value → H) :
    ReturnsInHanded {} Tryd.checked os 6 .any (fun w args => (Rows.fnExactFormatRecordSpec.pre enc Tryd.prog Tryd.f6 Rows.fnExactFormatRecordRow.domain false w args ∧ laidMetH Tryd.prog [("math/bits.deBruijn32tab", Rows.laid_math_bits_deBruijn32tab), ("math/bits.deBruijn64tab", Rows.laid_math_bits_deBruijn64tab), ("internal/strconv.uint64pow10", Rows.laid_internal_strconv_uint64pow10), ("loop.example/zonefiles/impl.kindRows", Rows.laid_loop_example_zonefiles_impl_kindRows)] w) ∧ sizedMet enc Tryd.prog Tryd.f6 (OpenSpec.ofChange Rows.fnExactFormatRecordSpec) false w args)
      (Rows.fnExactFormatRecordSpec.post enc Tryd.prog Tryd.f6 false true false false) := by
  refine returnsInHanded_and_shaped (C := Tryd.checked) (X := fun w _ => laidMetH Tryd.prog [("math/bits.deBruijn32tab", Rows.laid_math_bits_deBruijn32tab), ("math/bits.deBruijn64tab", Rows.laid_math_bits_deBruijn64tab), ("internal/strconv.uint64pow10", Rows.laid_internal_strconv_uint64pow10), ("loop.example/zonefiles/impl.kindRows", Rows.laid_loop_example_zonefiles_impl_kindRows)] w) (fun _ _ _ hh h => h.of_heap hh) own started (by kernel_rfl) Tryd.func6
    (ChangeSpec.witness_shaped (enc := enc) (C := Tryd.checked) (os := os) (X := fun w _ => laidMetH Tryd.prog [("math/bits.deBruijn32tab", Rows.laid_math_bits_deBruijn32tab), ("math/bits.deBruijn64tab", Rows.laid_math_bits_deBruijn64tab), ("internal/strconv.uint64pow10", Rows.laid_internal_strconv_uint64pow10), ("loop.example/zonefiles/impl.kindRows", Rows.laid_loop_example_zonefiles_impl_kindRows)] w) false (World.laidAll Tryd.prog os [("math/bits.deBruijn32tab", Rows.laid_math_bits_deBruijn32tab), ("math/bits.deBruijn64tab", Rows.laid_math_bits_deBruijn64tab), ("internal/strconv.uint64pow10", Rows.laid_internal_strconv_uint64pow10), ("loop.example/zonefiles/impl.kindRows", Rows.laid_loop_example_zonefiles_impl_kindRows)]) #[.agg #[.string ByteArray.empty, .int .i64 0, .int .i64 0, .slice none 0 0, .string ByteArray.empty, .string ByteArray.empty]] 8 (World.laidAll_os _ _ _)
      (World.shaped_of_ZipB (by kernel_rfl) (by kernel_rfl)) (by kernel_rfl) (by kernel_rfl) (by kernel_rfl)
      (by rw [MakeChecks.laidMetH_plain _ _ _ (by kernel_rfl)]; exact laidMet_laidAll _ (by kernel_rfl) (by kernel_rfl))) ?_
  intro W base args ds gs before hval0 hW hsh hL
  have hval : ∀ (j : Nat) t v, Tryd.f6.params[j]? = some t → args[j]? = some v → Value.okWide Tryd.prog W .any base t v := hval0
  have hW' := hW
  obtain ⟨p, q, hA0, hV, rfl, hfz, hnd⟩ := hW
  have hA : DataW.TrodAll enc Tryd.prog W 0 (fun _ => true) true Tryd.f6.params.toList args.toList ds p := hA0
  have hV1 : DataW.TrodVars enc Tryd.prog W (fun _ => true) ["loop.example/zonefiles/impl.kindRows"] gs q := hV
  clear hV
  have hV2 := hV1
  obtain ⟨g9, t9, cs9, f9, d9, p9, rfl, _, _, _, _, rfl⟩ := trodVars_one hV2
  rw [Tryd.params6] at hA hval
  obtain ⟨v0, vs0, d0, ds0, p0, q0, hargs, rfl, rfl, h0, r0⟩ := trodAll_cons hA
  obtain ⟨rfl, rfl, rfl⟩ := trodAll_nil r0
  obtain rfl : args = #[v0] := by cases args; simp_all
  have k0 := h0
  have lt0 : ∀ x ∈ p0, x.block < W.heap.size := by obtain ⟨m, hm⟩ := k0; exact DataW.trod_lt m _ _ _ hm
  have i0 := open_rec (hval 0 38 v0 rfl rfl) h0
  have hlv := laid_vars (by kernel_rfl) hL
  have hk := kt_of_vars (laid_next (laid_next (laid_next hlv)))
  have ht := pt_of_vars (laid_next (laid_next hlv))
  clear hA0 hval0
  refine (walk v0 W  i0 hk ht).mono fun e W' ⟨he, bel⟩ => ?_
  subst he
  exact ⟨_, rfl, _, _, _, [], _, _, hW', trodAll_mk1 (shut_bool Tryd.underlying4 _), (trodAll_cons_mk (Below.trod laidOut (by kernel_rfl) (of_decide_eq_true (by kernel_rfl)) k0 bel lt0) trodAll_mk0), bel.trodVars laidOut (by kernel_rfl) hV1, bel.frame _, fun h => by cases h⟩

theorem over : Rows.fnExactFormatRecordRow.holds Tryd.pinned (OpenSpec.ofChange Rows.fnExactFormatRecordSpec) :=
  OpenClaim.holds_of_wide 6 Tryd.f6 rfl rfl rfl rfl rfl rfl rfl ⟨rfl, rfl, rfl, rfl, rfl⟩ rfl rfl rfl rfl rfl (by kernel_rfl) Tryd.func6 (by kernel_rfl)
    (of_decide_eq_true (by kernel_rfl)) (by unfold Func.isWrapper; first | (rw [if_pos (by decide +kernel)]; kernel_rfl) | (rw [if_neg (by decide +kernel)]; exact ⟨rfl, rfl⟩))
    (fun os started H enc _ => lifted os started H enc)

theorem proved : Rows.FnExactFormatRecordCardSaid :=
  Claim7.holds_tied_plain_at .later [] [.data, .data, .data, .data] true (true, "fedccedac822d90a2a0aad532641127a99a3e79694b7978f8b319353a0145562") true over (fun _ h => by cases h) (by kernel_rfl) (fun _ h => by cases h) fnExactFormatRecord_row_tie rfl ⟨rfl, rfl⟩ (by kernel_rfl) rfl
    (fun f fn hf hfn => by
      obtain rfl : f = 6 := Option.some.inj ((show Tryd.prog.funcNamed "loop.example/zonefiles/laws.FnExactFormatRecord" = some 6 by kernel_rfl).symm.trans hf) |>.symm
      obtain rfl : fn = Tryd.f6 := (Option.some.inj (Tryd.func6.symm.trans hfn)).symm
      exact ⟨by kernel_rfl, fun j t ht => by
        rw [Tryd.params6] at ht
        have hm : t ∈ [38] := by simpa using Array.mem_of_getElem? ht
        have hall : ([38].all fun u => !Tryd.prog.wantsStandIn u) = true := by kernel_rfl
        exact (show Tryd.prog.wantsStandIn t = false by simpa using List.all_eq_true.1 hall t hm)⟩)
    (by kernel_rfl)
end Go.Proofs.YtgmmaehdpongcaaDoor.fnExactFormatRecord

/- For all lists of records and all origins, WriteMaster answers as the model does, and leaves what it was given as it was, where the tables are as the programs' texts lay them. -/
import Derived.Test.YtlknpipbjdecpaaDoorTie
import Derived.Test.YtlknpipbjdecpaaDoorCards
import Derived.Test.YtlknpipbjdecpaaDoorHb
import Derived.Test.YtlknpipbjdecpaaDoorRo
import Derived.Test.YtlknpipbjdecpaaDoorWq
import Derived.Outline
namespace Go.Proofs.YtlknpipbjdecpaaDoor.fnExactWriteMaster
open Go.ChangeShapes Go.WideShapes Go.ChangeAt Go.RowKit
open Go.ChangeMaps (open_string shut_string)
set_option linter.unusedVariables false

theorem own : ownKnob Tryd.prog.godebug = none := by kernel_rfl
theorem laidOut : laidOutB Tryd.prog = true := by kernel_rfl
theorem len_of {rs os : List RV} {n : Nat} (h : os.map RV.z = rs.map RV.z) (hl : rs.length = n) : os.length = n := by
  have := congrArg List.length h
  simp only [List.length_map] at this
  omega
theorem fineOf {rs os : List RV} {n n' : Nat} {B B' : Nat} {A A' : Option Addr} {w w' : World} (h : os.map RV.z = rs.map RV.z) (ho : Recs w' B' A' n' os) (hr : Recs w B A n rs) (hs : Hid (∀ r ∈ rs, r.small)) : Hid (∀ x ∈ os, x.fine) := hid (fun x hx => by
  have hm : x.z ∈ rs.map RV.z := by rw [← h]; exact List.mem_map_of_mem hx
  obtain ⟨r, hr9, e⟩ := List.mem_map.1 hm
  have h1 := hs.out r hr9
  have l1 := reads_len (ho.2.2 x hx)
  have l2 := reads_len (hr.2.2 r hr9)
  simp only [RV.z, Z.Rec.mk.injEq] at e
  obtain ⟨e1, _, _, e4, e5, e6⟩ := e
  have s1 := congrArg ByteArray.size (lst_inj e1)
  have s5 := congrArg ByteArray.size (lst_inj e5)
  have s6 := congrArg ByteArray.size (lst_inj e6)
  rw [← e4] at l1
  unfold RV.small at h1
  unfold RV.fine
  omega)
theorem WriteMaster_eq (rs os : List RV) (B : Nat) (A : Option Addr) (n c : Nat) (or : ByteArray) (w : World) (hr : Recs w B A n os) (hB : B ≤ w.heap.size) (hn : n ≤ 1048576) (hors : or.size ≤ 67108864) (hf : Hid (∀ r ∈ os, r.fine)) (hz : os.map RV.z = rs.map RV.z) (D : ByteArray) (ok : Bool) (hD : Hid (bs ((Z.writeMaster (rs.map RV.z) (lst or)).getD []) = D)) (hok : Hid ((Z.writeMaster (rs.map RV.z) (lst or)).isSome = ok)) :
    Calls Tryd.prog 6 #[.slice A n c, .string or] w fun e w' => e = .returned (.tuple #[.string D, .bool ok]) ∧ Below w.heap.size w w' := by
  have h := WriteMaster_any os B A n c or w hr hB hn hors hf
  rw [hz] at h
  unfold rOpt at h
  rw [hD.out, hok.out] at h
  exact h
theorem iWriteMaster_eq (rs os : List RV) (B : Nat) (A : Option Addr) (n c : Nat) (or : ByteArray) (w : World) (hr : Recs w B A n os) (hB : B ≤ w.heap.size) (hn : n ≤ 1048576) (hors : or.size ≤ 67108864) (hf : Hid (∀ r ∈ os, r.fine)) (hk : KT w) (ht : PT w) (hz : os.map RV.z = rs.map RV.z) (D : ByteArray) (ok : Bool) (hD : Hid (bs ((Z.writeMaster (rs.map RV.z) (lst or)).getD []) = D)) (hok : Hid ((Z.writeMaster (rs.map RV.z) (lst or)).isSome = ok)) :
    Calls Tryd.prog 8 #[.slice A n c, .string or] w fun e w' => e = .returned (.tuple #[.string D, .bool ok]) ∧ Below w.heap.size w w' := by
  have h := iWriteMaster_any os B A n c or w hr hB hn hors hf hk ht
  rw [hz] at h
  unfold rOpt at h
  rw [hD.out, hok.out] at h
  exact h

set_option maxRecDepth 100000 in
set_option maxHeartbeats 8000000 in
theorem walk (v0 : Value) (a1 : ByteArray) (w1 : a1.size ≤ maxLen) (w : World) (i0 : RecsIn w v0) (hk : KT w) (ht : PT w) :
    Calls Tryd.prog 3 #[v0, .string a1] w fun e w' => e = .returned (.bool true) ∧ Below w.heap.size w w' := by
  unfold maxLen at w1
  obtain ⟨A, n, c, rs, rfl, hnc, hcm, hr, hfit⟩ := i0
  have hlen := hr.2.1
  by_cases hb1 : a1.size ≤ 1048576
  · obtain ⟨D, hD⟩ : ∃ D, bs ((Z.writeMaster (rs.map RV.z) (lst a1)).getD []) = D := ⟨_, rfl⟩
    obtain ⟨ok, hok⟩ : ∃ ok, (Z.writeMaster (rs.map RV.z) (lst a1)).isSome = ok := ⟨_, rfl⟩
    have HD := hid hD
    have HOK := hid hok
    have HFIT := hid hfit
    clear hD hok hfit
    go_enter Tryd.func3, Tryd.ntmps3
    go_wp2_with fail
    refine (szRecordS_any rs w.heap.size A n c w hr (Nat.le_refl _) (by omega) HFIT).mono ?_
    rintro e v1 ⟨k1, rfl, hk1, bw⟩
    by_cases hneg : k1 < 0
    · go_wp2
      go_ret
      exact ⟨rfl, bw⟩
    have hk2 : n ≤ 1048576 ∧ ∀ r ∈ rs, r.small := by
      rcases hk1.out with h | h
      · exact absurd h hneg
      · exact h.2
    have hn := hk2.1
    have HSM := hid hk2.2
    clear hk1 hk2
    have HL : Hid (∀ r ∈ rs, r.L ≤ 1048576) := hid (fun r hr9 => by have := HSM.out r hr9; unfold RV.small at this; omega)
    go_wp2_with fail
    refine (toRecordS_own rs w.heap.size A n c _ (hr.below bw (Nat.le_refl _)) bw.size hn HL).mono ?_
    rintro e v2 ⟨os2, rfl, hz2, hblk2, hrow2, hb2⟩
    have R2 := recs_of hblk2 (len_of hz2 hlen) hrow2
    have F2 := fineOf hz2 R2 hr HSM
    replace bw := bw.trans (hb2.mono bw.size)
    clear hblk2 hrow2 hb2
    go_wp2_with fail
    refine (WriteMaster_eq rs os2 v2.heap.size _ n n a1 _ R2 (Nat.le_refl _) hn (by omega) F2 hz2 D ok HD HOK).mono ?_
    rintro e v3 ⟨rfl, hb3⟩
    replace bw := bw.trans (hb3.mono bw.size)
    clear hb3 R2 F2 hz2
    go_wp2_with fail
    refine (toRecordS_own rs w.heap.size A n c _ (hr.below bw (Nat.le_refl _)) bw.size hn HL).mono ?_
    rintro e v4 ⟨os4, rfl, hz4, hblk4, hrow4, hb4⟩
    have R4 := recs_of hblk4 (len_of hz4 hlen) hrow4
    have F4 := fineOf hz4 R4 hr HSM
    replace bw := bw.trans (hb4.mono bw.size)
    clear hblk4 hrow4 hb4
    go_wp2_with fail
    refine (iWriteMaster_eq rs os4 v4.heap.size _ n n a1 _ R4 (Nat.le_refl _) hn (by omega) F4 (hk.below bw) (ht.below bw) hz4 D ok HD HOK).mono ?_
    rintro e v5 ⟨rfl, hb5⟩
    replace bw := bw.trans (hb5.mono bw.size)
    have R5 := R4.below hb5 (Nat.le_refl _)
    have hs5 := hb5.size
    go_wp2_with fail
    refine (toRecordS_own rs w.heap.size A n c _ (hr.below bw (Nat.le_refl _)) bw.size hn HL).mono ?_
    rintro e v6 ⟨os6, rfl, hz6, hblk6, hrow6, hb6⟩
    have R6 := recs_of hblk6 (len_of hz6 hlen) hrow6
    have hs6 := hb6.size
    replace bw := bw.trans (hb6.mono bw.size)
    replace R5 := R5.below hb6 hs5
    have F5 : ∀ (k : Nat) (r : RV), os4[k]? = some r → r.L ≤ 67108864 := fun k r h => (F4.out r (List.mem_of_getElem? h)).2.1
    clear hblk6 hrow6 hb6
    go_wp2_with fail
    refine (eqRecordS_any os4 os6 (hz6.trans hz4.symm) v4.heap.size v6.heap.size _ _ n n n _ R5 R6 (by omega) (Nat.le_refl _) hn F5).mono ?_
    rintro e v7 ⟨rfl, hb7⟩
    go_wp2
    go_ret
    exact ⟨rfl, bw.trans (hb7.mono bw.size)⟩
  · go_enter Tryd.func3, Tryd.ntmps3
    go_wp2_with fail
    go_ret
    exact ⟨rfl, Below.refl _ _⟩

set_option maxRecDepth 100000 in
theorem lifted (os : Os) (started : os.Started) (H : Type) (enc : TypeId × Value → H) :
    ReturnsInHanded {} Tryd.checked os 3 .any (fun w args => (Rows.fnExactWriteMasterSpec.pre enc Tryd.prog Tryd.f3 Rows.fnExactWriteMasterRow.domain false w args ∧ laidMetH Tryd.prog [("math/bits.deBruijn32tab", Rows.laid_math_bits_deBruijn32tab), ("math/bits.deBruijn64tab", Rows.laid_math_bits_deBruijn64tab), ("internal/strconv.uint64pow10", Rows.laid_internal_strconv_uint64pow10), ("loop.example/zonefiles/impl.kindRows", Rows.laid_loop_example_zonefiles_impl_kindRows)] w) ∧ sizedMet enc Tryd.prog Tryd.f3 (OpenSpec.ofChange Rows.fnExactWriteMasterSpec) false w args)
      (Rows.fnExactWriteMasterSpec.post enc Tryd.prog Tryd.f3 false true false false) := by
  refine returnsInHanded_and_shaped (C := Tryd.checked) (X := fun w _ => laidMetH Tryd.prog [("math/bits.deBruijn32tab", Rows.laid_math_bits_deBruijn32tab), ("math/bits.deBruijn64tab", Rows.laid_math_bits_deBruijn64tab), ("internal/strconv.uint64pow10", Rows.laid_internal_strconv_uint64pow10), ("loop.example/zonefiles/impl.kindRows", Rows.laid_loop_example_zonefiles_impl_kindRows)] w) (fun _ _ _ hh h => h.of_heap hh) own started (by kernel_rfl) Tryd.func3
    (ChangeSpec.witness_shaped (enc := enc) (C := Tryd.checked) (os := os) (X := fun w _ => laidMetH Tryd.prog [("math/bits.deBruijn32tab", Rows.laid_math_bits_deBruijn32tab), ("math/bits.deBruijn64tab", Rows.laid_math_bits_deBruijn64tab), ("internal/strconv.uint64pow10", Rows.laid_internal_strconv_uint64pow10), ("loop.example/zonefiles/impl.kindRows", Rows.laid_loop_example_zonefiles_impl_kindRows)] w) false (World.laidAll Tryd.prog os [("math/bits.deBruijn32tab", Rows.laid_math_bits_deBruijn32tab), ("math/bits.deBruijn64tab", Rows.laid_math_bits_deBruijn64tab), ("internal/strconv.uint64pow10", Rows.laid_internal_strconv_uint64pow10), ("loop.example/zonefiles/impl.kindRows", Rows.laid_loop_example_zonefiles_impl_kindRows)]) #[.slice none 0 0, .string ByteArray.empty] 8 (World.laidAll_os _ _ _)
      (World.shaped_of_ZipB (by kernel_rfl) (by kernel_rfl)) (by kernel_rfl) (by kernel_rfl) (by kernel_rfl)
      (by rw [MakeChecks.laidMetH_plain _ _ _ (by kernel_rfl)]; exact laidMet_laidAll _ (by kernel_rfl) (by kernel_rfl))) ?_
  intro W base args ds gs before hval0 hW hsh hL
  have hval : ∀ (j : Nat) t v, Tryd.f3.params[j]? = some t → args[j]? = some v → Value.okWide Tryd.prog W .any base t v := hval0
  have hW' := hW
  obtain ⟨p, q, hA0, hV, rfl, hfz, hnd⟩ := hW
  have hA : DataW.TrodAll enc Tryd.prog W 0 (fun _ => true) true Tryd.f3.params.toList args.toList ds p := hA0
  have hV1 : DataW.TrodVars enc Tryd.prog W (fun _ => true) ["loop.example/zonefiles/impl.kindRows"] gs q := hV
  clear hV
  have hV2 := hV1
  obtain ⟨g9, t9, cs9, f9, d9, p9, rfl, _, _, _, _, rfl⟩ := trodVars_one hV2
  rw [Tryd.params3] at hA hval
  obtain ⟨v0, vs0, d0, ds0, p0, q0, hargs, rfl, rfl, h0, r0⟩ := trodAll_cons hA
  obtain ⟨v1, vs1, d1, ds1, p1, q1, rfl, rfl, rfl, h1, r1⟩ := trodAll_cons r0
  obtain ⟨rfl, rfl, rfl⟩ := trodAll_nil r1
  obtain rfl : args = #[v0, v1] := by cases args; simp_all
  have k0 := h0
  have lt0 : ∀ x ∈ p0, x.block < W.heap.size := by obtain ⟨m, hm⟩ := k0; exact DataW.trod_lt m _ _ _ hm
  have i0 := open_recs (hval 0 22 v0 rfl rfl) h0
  have k1 := h1
  have lt1 : ∀ x ∈ p1, x.block < W.heap.size := by obtain ⟨m, hm⟩ := k1; exact DataW.trod_lt m _ _ _ hm
  obtain ⟨a1, rfl, e1, e1', w1⟩ := open_string Tryd.underlying9 (hval 1 9 v1 rfl rfl) h1
  have hlv := laid_vars (by kernel_rfl) hL
  have hk := kt_of_vars (laid_next (laid_next (laid_next hlv)))
  have ht := pt_of_vars (laid_next (laid_next hlv))
  clear hA0 hval0
  refine (walk v0 a1 w1 W  i0 hk ht).mono fun e W' ⟨he, bel⟩ => ?_
  subst he
  exact ⟨_, rfl, _, _, _, [], _, _, hW', trodAll_mk1 (shut_bool Tryd.underlying4 _), (trodAll_cons_mk (Below.trod laidOut (by kernel_rfl) (of_decide_eq_true (by kernel_rfl)) k0 bel lt0) (trodAll_cons_mk (Below.trod laidOut (by kernel_rfl) (of_decide_eq_true (by kernel_rfl)) k1 bel lt1) trodAll_mk0)), bel.trodVars laidOut (by kernel_rfl) hV1, bel.frame _, fun h => by cases h⟩

theorem over : Rows.fnExactWriteMasterRow.holds Tryd.pinned (OpenSpec.ofChange Rows.fnExactWriteMasterSpec) :=
  OpenClaim.holds_of_wide 3 Tryd.f3 rfl rfl rfl rfl rfl rfl rfl ⟨rfl, rfl, rfl, rfl, rfl⟩ rfl rfl rfl rfl rfl (by kernel_rfl) Tryd.func3 (by kernel_rfl)
    (of_decide_eq_true (by kernel_rfl)) (by unfold Func.isWrapper; first | (rw [if_pos (by decide +kernel)]; kernel_rfl) | (rw [if_neg (by decide +kernel)]; exact ⟨rfl, rfl⟩))
    (fun os started H enc _ => lifted os started H enc)

theorem proved : Rows.FnExactWriteMasterCardSaid :=
  Claim7.holds_tied_plain_at .later [] [.data, .data, .data, .data] true (true, "6da953c78a288e3ff8980937564e0ef55620fe8f1f8a3197faf907ed9acf984e") true over (fun _ h => by cases h) (by kernel_rfl) (fun _ h => by cases h) fnExactWriteMaster_row_tie rfl ⟨rfl, rfl⟩ (by kernel_rfl) rfl
    (fun f fn hf hfn => by
      obtain rfl : f = 3 := Option.some.inj ((show Tryd.prog.funcNamed "loop.example/zonefiles/laws.FnExactWriteMaster" = some 3 by kernel_rfl).symm.trans hf) |>.symm
      obtain rfl : fn = Tryd.f3 := (Option.some.inj (Tryd.func3.symm.trans hfn)).symm
      exact ⟨by kernel_rfl, fun j t ht => by
        rw [Tryd.params3] at ht
        have hm : t ∈ [22, 9] := by simpa using Array.mem_of_getElem? ht
        have hall : ([22, 9].all fun u => !Tryd.prog.wantsStandIn u) = true := by kernel_rfl
        exact (show Tryd.prog.wantsStandIn t = false by simpa using List.all_eq_true.1 hall t hm)⟩)
    (by kernel_rfl)
end Go.Proofs.YtlknpipbjdecpaaDoor.fnExactWriteMaster

/- For every input, of a valid record that is drawn from it the time can be changed: the record stays valid, its data stay the same, its text changes, and it comes behind where the time is greater, where the tables are as the programs' texts lay them. -/
import Derived.Test.YtgmmaehdpongcaaDoorTie
import Derived.Test.YtgmmaehdpongcaaDoorCards
import Derived.Test.YtgmmaehdpongcaaDoorHb
import Derived.Test.YtgmmaehdpongcaaDoorFw
import Derived.Deep.RegionHeld3
import Derived.Outline
namespace Go.Proofs.YtgmmaehdpongcaaDoor.fnRecordTtl
open Go.ChangeShapes Go.WideShapes Go.ChangeAt Go.RowKit
open Go.ChangeMaps (open_string shut_string)
set_option linter.unusedVariables false

theorem own : ownKnob Tryd.prog.godebug = none := by kernel_rfl
theorem laidOut : laidOutB Tryd.prog = true := by kernel_rfl
theorem One.drewN {w W : World} {p : Nat} {aN : ByteArray} {aT aK : Int} {aA : Option Addr} {aL aC : Nat} {aG aX : ByteArray} {aZ : List Int} (h : One w W p aN aT aK aA aL aC aG aX aZ) (n : Nat) : One w (W.drewN n) p aN aT aK aA aL aC aG aX aZ := h.next (below_drewN (Below.refl _ _) n)
theorem two_ones {w W : World} {p q : Nat} {aN : ByteArray} {aT aK : Int} {aA : Option Addr} {aL aC : Nat} {aG aX : ByteArray} {aZ : List Int} {bN : ByteArray} {bT bK : Int} {bA : Option Addr} {bL bC : Nat} {bG bX : ByteArray} {bZ : List Int} (h : One w W p aN aT aK aA aL aC aG aX aZ) (k : One w W q bN bT bK bA bL bC bG bX bZ) :
    One w W p aN aT aK aA aL aC aG aX aZ ∧ One w W q bN bT bK bA bL bC bG bX bZ ∧ W.cell? ⟨p, 0, none⟩ = some (.string aN) ∧ W.cell? ⟨p, 1, none⟩ = some (.int .i64 aT) ∧ W.cell? ⟨p, 2, none⟩ = some (.int .i64 aK) ∧ W.cell? ⟨p, 3, none⟩ = some (.slice aA aL aC) ∧ W.cell? ⟨p, 4, none⟩ = some (.string aG) ∧ W.cell? ⟨p, 5, none⟩ = some (.string aX) ∧
    W.cell? ⟨q, 0, none⟩ = some (.string bN) ∧ W.cell? ⟨q, 1, none⟩ = some (.int .i64 bT) ∧ W.cell? ⟨q, 2, none⟩ = some (.int .i64 bK) ∧ W.cell? ⟨q, 3, none⟩ = some (.slice bA bL bC) ∧ W.cell? ⟨q, 4, none⟩ = some (.string bG) ∧ W.cell? ⟨q, 5, none⟩ = some (.string bX) := by
  obtain ⟨h0, h1, h2, h3, h4, h5⟩ := h.cells
  obtain ⟨k0, k1, k2, k3, k4, k5⟩ := k.cells
  exact ⟨h, k, h0, h1, h2, h3, h4, h5, k0, k1, k2, k3, k4, k5⟩

set_option maxRecDepth 100000 in
set_option maxHeartbeats 4000000 in
theorem walk (a0 : Option Addr) (len0 cap0 : Nat) (z0 : List Int) (w : World) (w0 : IsRow .u8 w a0 len0 cap0 z0) (hk : KT w) (ht : PT w) :
    Calls Tryd.prog 3 #[.slice a0 len0 cap0] w fun e w' => e = .returned (.bool true) ∧ Below w.heap.size w w' := by
  have hc0 := row_cap w0
  unfold maxLen at hc0
  by_cases hb0 : len0 ≤ 1048576
  · obtain ⟨zs0, rfl, hcode0⟩ := code_of_row w0 hb0
    clear w0
    go_enter Tryd.func3, Tryd.ntmps3
    go_wp2_with fail
    refine (DrawFormatRecord_any _ _ zs0 w hcode0).mono ?_
    rintro e v1 ⟨aN, aT, aK, aA, aL, aC, aG, aX, aZ, rfl, ho1, hl1, s1, s2, s3, hbv1⟩
    have hp := one_new (aT := aT) (aK := aK) hbv1 ho1 hl1 s1 s2 s3
    clear ho1 hl1 s1 s2 s3 hbv1
    obtain ⟨c0, c1, c2, c3, c4, c5⟩ := hp.cells
    obtain ⟨D, hD⟩ : ∃ D, bs (Z.format (⟨lst aN, aT, aK, aZ, lst aG, lst aX⟩ : Z.Rec)) = D := ⟨_, rfl⟩
    cases hv : Z.recValid (⟨lst aN, aT, aK, aZ, lst aG, lst aX⟩ : Z.Rec) with
    | false =>
      have hD0 : D = ⟨#[]⟩ := by rw [← hD, Z.format_nil.2 hv]; rfl
      subst hD0
      have HD := hid hD
      clear hD hv
      go_wp2_with fail
      refine (io_FormatRecord hp hk ht _ HD).mono ?_
      rintro e w2 ⟨rfl, hb9⟩
      replace hp := hp.next hb9
      clear hb9 c0 c1 c2 c3 c4 c5
      obtain ⟨c0, c1, c2, c3, c4, c5⟩ := hp.cells
      go_wp2_with fail
      refine (so_FormatRecord hp _ HD).mono ?_
      rintro e w3 ⟨rfl, hb9⟩
      replace hp := hp.next hb9
      clear hb9 c0 c1 c2 c3 c4 c5
      obtain ⟨c0, c1, c2, c3, c4, c5⟩ := hp.cells
      go_wp2_with fail
      refine (so_FormatRecord hp _ HD).mono ?_
      rintro e w4 ⟨rfl, hb9⟩
      replace hp := hp.next hb9
      clear hb9 c0 c1 c2 c3 c4 c5
      obtain ⟨c0, c1, c2, c3, c4, c5⟩ := hp.cells
      go_wp2
      go_ret
      exact ⟨rfl, hp.below⟩
    | true =>
      have hne : lst D ≠ [] := by
        intro e
        rw [← hD, lst_bs] at e
        have := Z.format_nil.1 e
        rw [hv] at this
        cases this
      have q1 : D.toList.isEmpty = false := by
        rw [toList_lst]
        cases hl : lst D with
        | nil => exact absurd hl hne
        | cons => rfl
      obtain ⟨_, hT0, hT1, _, _, _⟩ := Z.recValid_iff.1 hv
      dsimp only at hT0 hT1
      have HD := hid hD
      have HV := hid hv
      clear hD hv hne
      go_wp2_with fail
      refine (io_FormatRecord hp hk ht _ HD).mono ?_
      rintro e w2 ⟨rfl, hb9⟩
      replace hp := hp.next hb9
      clear hb9 c0 c1 c2 c3 c4 c5
      obtain ⟨c0, c1, c2, c3, c4, c5⟩ := hp.cells
      go_wp2_with fail
      refine (so_FormatRecord hp _ HD).mono ?_
      rintro e w3 ⟨rfl, hb9⟩
      replace hp := hp.next hb9
      clear hb9 c0 c1 c2 c3 c4 c5
      obtain ⟨c0, c1, c2, c3, c4, c5⟩ := hp.cells
      obtain ⟨m0, m1, m2, m3, m4, m5⟩ := (hp.alloc (.cells #[.string aN, .int .i64 aT, .int .i64 aK, .slice aA aL aC, .string aG, .string aX] 25)).cells
      obtain ⟨T', hT'⟩ : ∃ T', (aT + 1) % 100001 = T' := ⟨_, rfl⟩
      have t0 : 0 ≤ T' := by omega
      have t1 : T' ≤ 100000 := by omega
      have t2 : T' ≠ aT := by omega
      obtain ⟨D', hD'⟩ : ∃ D', bs (Z.format (⟨lst aN, T', aK, aZ, lst aG, lst aX⟩ : Z.Rec)) = D' := ⟨_, rfl⟩
      have HVX := hid (show Z.recValid (⟨lst aN, T', aK, aZ, lst aG, lst aX⟩ : Z.Rec) = true from Z.valid_ttl HV.out t0 t1)
      have HSD := hid (show Z.sameData (⟨lst aN, T', aK, aZ, lst aG, lst aX⟩ : Z.Rec) (⟨lst aN, aT, aK, aZ, lst aG, lst aX⟩ : Z.Rec) = true from Z.same_ttl (⟨lst aN, aT, aK, aZ, lst aG, lst aX⟩ : Z.Rec) T')
      have HBF := hid (show Z.recBefore (⟨lst aN, aT, aK, aZ, lst aG, lst aX⟩ : Z.Rec) (⟨lst aN, T', aK, aZ, lst aG, lst aX⟩ : Z.Rec) = decide (aT < T') from Z.before_ttl HV.out t0 t1)
      have q2 : (D'.toList == D.toList) = false := by
        rw [eq_toList, ← hD', ← HD.out, lst_bs, lst_bs]
        exact decide_eq_false (Z.format_ttl HV.out t0 t1 t2)
      have HDX := hid hD'
      have HT2 := hid t2
      have hp4 := hp.alloc (.cells #[.string aN, .int .i64 T', .int .i64 aK, .slice aA aL aC, .string aG, .string aX] 25)
      have hx4 := one_copy hp aN T' aK hp.2.2.2.2.2.1
      clear hD' t2 hp
      go_wp2_with fail
      clear m0 m1 m2 m3 m4 m5 c0 c1 c2 c3 c4 c5
      go_region_held3 (fun w' => One w w' v1.heap.size aN aT aK aA aL aC aG aX aZ ∧ One w w' w3.heap.size aN T' aK aA aL aC aG aX aZ ∧ w'.cell? ⟨v1.heap.size, 0, none⟩ = some (.string aN) ∧ w'.cell? ⟨v1.heap.size, 1, none⟩ = some (.int .i64 aT) ∧ w'.cell? ⟨v1.heap.size, 2, none⟩ = some (.int .i64 aK) ∧ w'.cell? ⟨v1.heap.size, 3, none⟩ = some (.slice aA aL aC) ∧ w'.cell? ⟨v1.heap.size, 4, none⟩ = some (.string aG) ∧ w'.cell? ⟨v1.heap.size, 5, none⟩ = some (.string aX) ∧ w'.cell? ⟨w3.heap.size, 0, none⟩ = some (.string aN) ∧ w'.cell? ⟨w3.heap.size, 1, none⟩ = some (.int .i64 T') ∧ w'.cell? ⟨w3.heap.size, 2, none⟩ = some (.int .i64 aK) ∧ w'.cell? ⟨w3.heap.size, 3, none⟩ = some (.slice aA aL aC) ∧ w'.cell? ⟨w3.heap.size, 4, none⟩ = some (.string aG) ∧ w'.cell? ⟨w3.heap.size, 5, none⟩ = some (.string aX))
        (first | exact two_ones (by assumption) (by assumption) | exact two_ones (One.drewN (by assumption) 1) (One.drewN (by assumption) 1) | (go_split_ands; exact two_ones (One.next (by assumption) hb9) (One.next (by assumption) hb9)))
        (first
          | (go_at_call 15; go_split_ands; refine (io_RecordValid (show One w _ w3.heap.size aN T' aK aA aL aC aG aX aZ from by assumption) _ HVX).mono ?_; rintro e w9 ⟨rfl, hb9⟩)
          | (go_at_call 16; go_split_ands; refine (ip_SameData (pair_of (show One w _ w3.heap.size aN T' aK aA aL aC aG aX aZ from by assumption) (show One w _ v1.heap.size aN aT aK aA aL aC aG aX aZ from by assumption)) _ HSD).mono ?_; rintro e w9 ⟨rfl, hb9⟩)
          | (go_at_call 13; go_split_ands; refine (io_FormatRecord (show One w _ w3.heap.size aN T' aK aA aL aC aG aX aZ from by assumption) hk ht _ HDX).mono ?_; rintro e w9 ⟨rfl, hb9⟩)
          | (go_at_call 17; go_split_ands; refine (ip_RecordBefore (pair_of (show One w _ v1.heap.size aN aT aK aA aL aC aG aX aZ from by assumption) (show One w _ w3.heap.size aN T' aK aA aL aC aG aX aZ from by assumption)) _ HBF).mono ?_; rintro e w9 ⟨rfl, hb9⟩))
      all_goals go_split_ands
      all_goals (have hh9 : One w w9 v1.heap.size aN aT aK aA aL aC aG aX aZ := by assumption)
      all_goals go_wp2
      all_goals go_ret
      all_goals exact ⟨ret_bool (by simp), hh9.below⟩
  · go_enter Tryd.func3, Tryd.ntmps3
    go_wp2_with fail
    go_ret
    exact ⟨rfl, Below.refl _ _⟩

set_option maxRecDepth 100000 in
theorem lifted (os : Os) (started : os.Started) (H : Type) (enc : TypeId × Value → H) :
    ReturnsInHanded {} Tryd.checked os 3 .any (fun w args => (Rows.fnRecordTtlSpec.pre enc Tryd.prog Tryd.f3 Rows.fnRecordTtlRow.domain false w args ∧ laidMetH Tryd.prog [("math/bits.deBruijn32tab", Rows.laid_math_bits_deBruijn32tab), ("math/bits.deBruijn64tab", Rows.laid_math_bits_deBruijn64tab), ("internal/strconv.uint64pow10", Rows.laid_internal_strconv_uint64pow10), ("loop.example/zonefiles/impl.kindRows", Rows.laid_loop_example_zonefiles_impl_kindRows)] w) ∧ sizedMet enc Tryd.prog Tryd.f3 (OpenSpec.ofChange Rows.fnRecordTtlSpec) false w args)
      (Rows.fnRecordTtlSpec.post enc Tryd.prog Tryd.f3 false true false false) := by
  refine returnsInHanded_and_shaped (C := Tryd.checked) (X := fun w _ => laidMetH Tryd.prog [("math/bits.deBruijn32tab", Rows.laid_math_bits_deBruijn32tab), ("math/bits.deBruijn64tab", Rows.laid_math_bits_deBruijn64tab), ("internal/strconv.uint64pow10", Rows.laid_internal_strconv_uint64pow10), ("loop.example/zonefiles/impl.kindRows", Rows.laid_loop_example_zonefiles_impl_kindRows)] w) (fun _ _ _ hh h => h.of_heap hh) own started (by kernel_rfl) Tryd.func3
    (ChangeSpec.witness_shaped (enc := enc) (C := Tryd.checked) (os := os) (X := fun w _ => laidMetH Tryd.prog [("math/bits.deBruijn32tab", Rows.laid_math_bits_deBruijn32tab), ("math/bits.deBruijn64tab", Rows.laid_math_bits_deBruijn64tab), ("internal/strconv.uint64pow10", Rows.laid_internal_strconv_uint64pow10), ("loop.example/zonefiles/impl.kindRows", Rows.laid_loop_example_zonefiles_impl_kindRows)] w) false (World.laidAll Tryd.prog os [("math/bits.deBruijn32tab", Rows.laid_math_bits_deBruijn32tab), ("math/bits.deBruijn64tab", Rows.laid_math_bits_deBruijn64tab), ("internal/strconv.uint64pow10", Rows.laid_internal_strconv_uint64pow10), ("loop.example/zonefiles/impl.kindRows", Rows.laid_loop_example_zonefiles_impl_kindRows)]) #[.slice none 0 0] 8 (World.laidAll_os _ _ _)
      (World.shaped_of_ZipB (by kernel_rfl) (by kernel_rfl)) (by kernel_rfl) (by kernel_rfl) (by kernel_rfl)
      (by rw [MakeChecks.laidMetH_plain _ _ _ (by kernel_rfl)]; exact laidMet_laidAll _ (by kernel_rfl) (by kernel_rfl))) ?_
  intro W base args ds gs before hval0 hW hsh hL
  have hval : ∀ (j : Nat) t v, Tryd.f3.params[j]? = some t → args[j]? = some v → Value.okWide Tryd.prog W .any base t v := hval0
  have hW' := hW
  obtain ⟨p, q, hA0, hV, rfl, hfz, hnd⟩ := hW
  have hA : DataW.TrodAll enc Tryd.prog W 0 (fun _ => true) true Tryd.f3.params.toList args.toList ds p := hA0
  have hV1 : DataW.TrodVars enc Tryd.prog W (fun _ => true) ["loop.example/zonefiles/impl.kindRows"] gs q := hV
  clear hV
  have hV2 := hV1
  obtain ⟨g9, t9, cs9, f9, d9, p9, rfl, _, _, _, _, rfl⟩ := trodVars_one hV2
  rw [Tryd.params3] at hA hval
  obtain ⟨v0, vs0, d0, ds0, p0, q0, hargs, rfl, rfl, h0, r0⟩ := trodAll_cons hA
  obtain ⟨rfl, rfl, rfl⟩ := trodAll_nil r0
  obtain rfl : args = #[v0] := by cases args; simp_all
  have k0 := h0
  have lt0 : ∀ x ∈ p0, x.block < W.heap.size := by obtain ⟨m, hm⟩ := k0; exact DataW.trod_lt m _ _ _ hm
  obtain ⟨a0, len0, cap0, rfl⟩ := okWide_slice Tryd.underlying22 (hval 0 22 v0 rfl rfl)
  have h0b := h0
  obtain ⟨z0, w0⟩ : ∃ zs, IsRow .u8 W a0 len0 cap0 zs := by
    obtain ⟨fuel, hf⟩ := h0b
    rcases open_ints Tryd.underlying22 Tryd.underlying5 (by kernel_rfl) hf with ⟨hcs, _⟩ | ⟨x, l, c, zs, hcs, _, hl, hm, hz, _, hcell, hwz⟩
    · simp [Value.cells] at hcs
      obtain ⟨rfl, rfl, rfl⟩ := hcs
      exact ⟨[], .inl ⟨rfl, rfl, rfl, rfl⟩⟩
    · simp [Value.cells] at hcs
      obtain ⟨rfl, rfl, rfl⟩ := hcs
      exact ⟨zs, .inr ⟨_, rfl, hl, hm, by simpa using hz, hcell, hwz⟩⟩
  have hlv := laid_vars (by kernel_rfl) hL
  have hk := kt_of_vars (laid_next (laid_next (laid_next hlv)))
  have ht := pt_of_vars (laid_next (laid_next hlv))
  clear hA0 hval0
  refine (walk a0 len0 cap0 z0 W w0  hk ht).mono fun e W' ⟨he, bel⟩ => ?_
  subst he
  exact ⟨_, rfl, _, _, _, [], _, _, hW', trodAll_mk1 (shut_bool Tryd.underlying4 _), (trodAll_cons_mk (Below.trod laidOut (by kernel_rfl) (of_decide_eq_true (by kernel_rfl)) k0 bel lt0) trodAll_mk0), bel.trodVars laidOut (by kernel_rfl) hV1, bel.frame _, fun h => by cases h⟩

theorem over : Rows.fnRecordTtlRow.holds Tryd.pinned (OpenSpec.ofChange Rows.fnRecordTtlSpec) :=
  OpenClaim.holds_of_wide 3 Tryd.f3 rfl rfl rfl rfl rfl rfl rfl ⟨rfl, rfl, rfl, rfl, rfl⟩ rfl rfl rfl rfl rfl (by kernel_rfl) Tryd.func3 (by kernel_rfl)
    (of_decide_eq_true (by kernel_rfl)) (by unfold Func.isWrapper; first | (rw [if_pos (by decide +kernel)]; kernel_rfl) | (rw [if_neg (by decide +kernel)]; exact ⟨rfl, rfl⟩))
    (fun os started H enc _ => lifted os started H enc)

theorem proved : Rows.FnRecordTtlCardSaid :=
  Claim7.holds_tied_plain_at .later [] [.data, .data, .data, .data] true (true, "fedccedac822d90a2a0aad532641127a99a3e79694b7978f8b319353a0145562") true over (fun _ h => by cases h) (by kernel_rfl) (fun _ h => by cases h) fnRecordTtl_row_tie rfl ⟨rfl, rfl⟩ (by kernel_rfl) rfl
    (fun f fn hf hfn => by
      obtain rfl : f = 3 := Option.some.inj ((show Tryd.prog.funcNamed "loop.example/zonefiles/laws.FnRecordTtl" = some 3 by kernel_rfl).symm.trans hf) |>.symm
      obtain rfl : fn = Tryd.f3 := (Option.some.inj (Tryd.func3.symm.trans hfn)).symm
      exact ⟨by kernel_rfl, fun j t ht => by
        rw [Tryd.params3] at ht
        have hm : t ∈ [22] := by simpa using Array.mem_of_getElem? ht
        have hall : ([22].all fun u => !Tryd.prog.wantsStandIn u) = true := by kernel_rfl
        exact (show Tryd.prog.wantsStandIn t = false by simpa using List.all_eq_true.1 hall t hm)⟩)
    (by kernel_rfl)
end Go.Proofs.YtgmmaehdpongcaaDoor.fnRecordTtl

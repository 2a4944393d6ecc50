/- For every input, WriteLine answers for a record, an origin and an owner that are drawn from it as the model does, and the line that it writes is read back as the record, where the tables are as the programs' texts lay them. -/
import Derived.Test.YtlknpipbjdecpaaGreatDoorTie
import Derived.Test.YtlknpipbjdecpaaGreatDoorCards
import Derived.Test.YtlknpipbjdecpaaGreatDoorHb
import Derived.Test.YtlknpipbjdecpaaGreatDoorWm
import Derived.Test.YtlknpipbjdecpaaGreatDoorNw
import Derived.Test.YtlknpipbjdecpaaGreatDoorSz
import Derived.Outline
namespace Go.Proofs.YtlknpipbjdecpaaGreatDoor.fnWriteLine
open Go.ChangeShapes Go.WideShapes Go.ChangeAt Go.RowKit
open Go.ChangeMaps (open_string shut_string)
set_option linter.unusedVariables false

theorem own : ownKnob Tryz.prog.godebug = none := by kernel_rfl
theorem laidOut : laidOutB Tryz.prog = true := by kernel_rfl
theorem WriteLine_eq (aN : ByteArray) (aT aK : Int) (aA : Option Addr) (aL aC : Nat) (aG aX : ByteArray) (aZ : List Int) (aB : Nat) (or ow : ByteArray) (w : World) (hra : Reads w aB aA aL (aZ.map iv)) (hba : aB ≤ w.heap.size) (hla : aL ≤ 67108864) (hsa : aN.size ≤ 67108864) (hga : aG.size ≤ 67108864) (hxa : aX.size ≤ 67108864) (hors : or.size ≤ 67108864) (how : ow.size ≤ 67108864) (D : ByteArray) (ok : Bool) (hD : Hid (bs ((Z.writeLine (⟨lst aN, aT, aK, aZ, lst aG, lst aX⟩ : Z.Rec) (lst or) (lst ow)).getD []) = D)) (hok : Hid ((Z.writeLine (⟨lst aN, aT, aK, aZ, lst aG, lst aX⟩ : Z.Rec) (lst or) (lst ow)).isSome = ok)) :
    Calls Tryz.prog 31 #[.agg #[.string aN, .int .i64 aT, .int .i64 aK, .slice aA aL aC, .string aG, .string aX], .string or, .string ow] w fun e w' => e = .returned (.tuple #[.string D, .bool ok]) ∧ Below w.heap.size w w' := by
  have h := WriteLine_any aN aT aK aA aL aC aG aX aZ aB or ow w hra hba hla hsa hga hxa hors how
  unfold rOpt at h
  rw [hD.out, hok.out] at h
  exact h
theorem iWriteLine_eq (aN : ByteArray) (aT aK : Int) (aA : Option Addr) (aL aC : Nat) (aG aX : ByteArray) (aZ : List Int) (aB : Nat) (or ow : ByteArray) (w : World) (hra : Reads w aB aA aL (aZ.map iv)) (hba : aB ≤ w.heap.size) (hla : aL ≤ 67108864) (hsa : aN.size ≤ 67108864) (hga : aG.size ≤ 67108864) (hxa : aX.size ≤ 67108864) (hors : or.size ≤ 67108864) (how : ow.size ≤ 67108864) (hkt : KT w) (hpt : PT w) (D : ByteArray) (ok : Bool) (hD : Hid (bs ((Z.writeLine (⟨lst aN, aT, aK, aZ, lst aG, lst aX⟩ : Z.Rec) (lst or) (lst ow)).getD []) = D)) (hok : Hid ((Z.writeLine (⟨lst aN, aT, aK, aZ, lst aG, lst aX⟩ : Z.Rec) (lst or) (lst ow)).isSome = ok)) :
    Calls Tryz.prog 20 #[.agg #[.string aN, .int .i64 aT, .int .i64 aK, .slice aA aL aC, .string aG, .string aX], .string or, .string ow] w fun e w' => e = .returned (.tuple #[.string D, .bool ok]) ∧ Below w.heap.size w w' := by
  have h := iWriteLine_any aN aT aK aA aL aC aG aX aZ aB or ow w hra hba hla hsa hga hxa hors how hkt hpt
  unfold rOpt at h
  rw [hD.out, hok.out] at h
  exact h
theorem recSame_true (aN : ByteArray) (aT aK : Int) (aA : Option Addr) (aL aC : Nat) (aG aX : ByteArray) (aZ : List Int) (aB : Nat) (bA : Option Addr) (bC bB : Nat) (w : World) (hra : Reads w aB aA aL (aZ.map iv)) (hba : aB ≤ w.heap.size) (hla : aL ≤ 67108864) (hrb : Reads w bB bA aL (aZ.map iv)) (hbb : bB ≤ w.heap.size) :
    Calls Tryz.prog 14 #[.agg #[.string aN, .int .i64 aT, .int .i64 aK, .slice aA aL aC, .string aG, .string aX], .agg #[.string aN, .int .i64 aT, .int .i64 aK, .slice bA aL bC, .string aG, .string aX]] w fun e w' => e = .returned (.bool true) ∧ Below w.heap.size w w' := by
  have h := iRecordSame_any aN aT aK aA aL aC aG aX aZ aB aN aT aK bA aL bC aG aX aZ bB w hra hba hla hrb hbb hla
  rw [(Z.recSame_iff _ _).2 rfl] at h
  exact h
theorem wrote {r : Z.Rec} {o ow : Z.Str} {D : ByteArray} (hok : (Z.writeLine r o ow).isSome = true) (hD : bs ((Z.writeLine r o ow).getD []) = D) : Z.recValid r = true ∧ Z.valid o = true ∧ (ow = [] ∨ Z.valid ow = true) ∧ lst D = Z.lineText r o ow := by
  unfold Z.writeLine at hok hD
  split at hok
  · rename_i h
    rw [if_pos h] at hD
    simp only [Bool.and_eq_true, Bool.or_eq_true, decide_eq_true_eq] at h
    exact ⟨h.1.1, h.1.2, h.2, by rw [← hD]; exact lst_bs _⟩
  · simp at hok
theorem wrote_read {r : Z.Rec} {o ow : Z.Str} {D : ByteArray} (t : Int) (ht0 : -1 ≤ t) (ht : t ≤ 100000) (hok : (Z.writeLine r o ow).isSome = true) (hD : bs ((Z.writeLine r o ow).getD []) = D) : Z.readLine ⟨o, t, ow⟩ (lst D) = some (⟨o, t, r.name⟩, some r) := by
  obtain ⟨h1, h2, h3, h4⟩ := wrote hok hD
  rw [h4]
  refine Z.readLine_line (s := ⟨o, t, ow⟩) h1 ?_
  unfold Z.stOk
  simp [h2, ht0, ht]
  exact h3
theorem line_size {r : Z.Rec} {o ow : Z.Str} {D : ByteArray} (hok : (Z.writeLine r o ow).isSome = true) (hD : bs ((Z.writeLine r o ow).getD []) = D) : D.size ≤ 300 := by
  obtain ⟨h1, h2, h3, h4⟩ := wrote hok hD
  rw [← lst_length, h4]
  exact Z.line_len h1 h2 ow

set_option maxRecDepth 100000 in
set_option maxHeartbeats 8000000 in
theorem walk (a0 : Option Addr) (len0 cap0 : Nat) (z0 : List Int) (w : World) (w0 : IsRow .u8 w a0 len0 cap0 z0) (hk : KT w) (ht : PT w) (hm : MX w) :
    Calls Tryz.prog 6 #[.slice a0 len0 cap0] w fun e w' => e = .returned (.bool true) ∧ Below w.heap.size w w' := by
  have hc0 := row_cap w0
  unfold maxLen at hc0
  by_cases hb0 : len0 ≤ 1048576
  · obtain ⟨zs0, rfl, hcode0⟩ := code_of_row w0 hb0
    clear w0
    go_enter Tryz.func6, Tryz.ntmps6
    go_wp2_with fail
    refine (DrawWriteLine_any _ _ zs0 w hcode0).mono ?_
    rintro e v1 ⟨aN, aT, aK, aA, aL, aC, aG, aX, aZ, o, ow, rfl, Or, la, s1, s2, s3, so, sw, bw⟩
    have Lr := Or.lt
    try simp only [World.alloc, Array.size_push] at Lr
    replace Or := Or.alloc (.cells #[.string aN, .int .i64 aT, .int .i64 aK, .slice aA aL aC, .string aG, .string aX] 25)
    replace bw := bw.alloc bw.size (.cells #[.string aN, .int .i64 aT, .int .i64 aK, .slice aA aL aC, .string aG, .string aX] 25)
    have Br : Blk (v1.alloc (.cells #[.string aN, .int .i64 aT, .int .i64 aK, .slice aA aL aC, .string aG, .string aX] 25)) v1.heap.size 25 [.string aN, .int .i64 aT, .int .i64 aK, .slice aA aL aC, .string aG, .string aX] := Blk.new v1 25 [.string aN, .int .i64 aT, .int .i64 aK, .slice aA aL aC, .string aG, .string aX]
    obtain ⟨cr0, cr1, cr2, cr3, cr4, cr5⟩ := Br.cells6
    obtain ⟨D, hD⟩ : ∃ D, bs ((Z.writeLine (⟨lst aN, aT, aK, aZ, lst aG, lst aX⟩ : Z.Rec) (lst o) (lst ow)).getD []) = D := ⟨_, rfl⟩
    obtain ⟨ok, hok⟩ : ∃ ok, (Z.writeLine (⟨lst aN, aT, aK, aZ, lst aG, lst aX⟩ : Z.Rec) (lst o) (lst ow)).isSome = ok := ⟨_, rfl⟩
    have HD := hid hD
    have HOK := hid hok
    clear hD hok
    cases ok with
    | false =>
      go_wp2_with fail
      refine (iWriteLine_eq aN aT aK aA aL aC aG aX aZ _ o ow _ (Reads.of_own Or) (Nat.le_refl _) (by omega) (by omega) (by omega) (by omega) (by omega) (by omega) (hk.below bw) (ht.below bw) D false HD HOK).mono ?_
      rintro e v2 ⟨rfl, hb2⟩
      clear cr0 cr1 cr2 cr3 cr4 cr5
      have hs11 := hb2.size
      try simp only [World.alloc, Array.size_push] at hs11
      replace Br := Br.next hb2
      replace Or := own_next Or hb2
      replace bw := bw.trans (hb2.mono bw.size)
      clear hb2
      obtain ⟨cr0, cr1, cr2, cr3, cr4, cr5⟩ := Br.cells6
      go_wp2_with fail
      refine (WriteLine_eq aN aT aK aA aL aC aG aX aZ _ o ow _ (Reads.of_own Or) (Nat.le_refl _) (by omega) (by omega) (by omega) (by omega) (by omega) (by omega) D false HD HOK).mono ?_
      rintro e v3 ⟨rfl, hb3⟩
      clear cr0 cr1 cr2 cr3 cr4 cr5
      have hs12 := hb3.size
      try simp only [World.alloc, Array.size_push] at hs12
      replace Br := Br.next hb3
      replace Or := own_next Or hb3
      replace bw := bw.trans (hb3.mono bw.size)
      clear hb3
      obtain ⟨cr0, cr1, cr2, cr3, cr4, cr5⟩ := Br.cells6
      go_wp2
      go_ret
      exact ⟨ret_bool (by simp), bw⟩
    | true =>
      go_wp2_with fail
      refine (iWriteLine_eq aN aT aK aA aL aC aG aX aZ _ o ow _ (Reads.of_own Or) (Nat.le_refl _) (by omega) (by omega) (by omega) (by omega) (by omega) (by omega) (hk.below bw) (ht.below bw) D true HD HOK).mono ?_
      rintro e v2 ⟨rfl, hb2⟩
      clear cr0 cr1 cr2 cr3 cr4 cr5
      have hs11 := hb2.size
      try simp only [World.alloc, Array.size_push] at hs11
      replace Br := Br.next hb2
      replace Or := own_next Or hb2
      replace bw := bw.trans (hb2.mono bw.size)
      clear hb2
      obtain ⟨cr0, cr1, cr2, cr3, cr4, cr5⟩ := Br.cells6
      go_wp2_with fail
      refine (WriteLine_eq aN aT aK aA aL aC aG aX aZ _ o ow _ (Reads.of_own Or) (Nat.le_refl _) (by omega) (by omega) (by omega) (by omega) (by omega) (by omega) D true HD HOK).mono ?_
      rintro e v3 ⟨rfl, hb3⟩
      clear cr0 cr1 cr2 cr3 cr4 cr5
      have hs12 := hb3.size
      try simp only [World.alloc, Array.size_push] at hs12
      replace Br := Br.next hb3
      replace Or := own_next Or hb3
      replace bw := bw.trans (hb3.mono bw.size)
      clear hb3
      obtain ⟨cr0, cr1, cr2, cr3, cr4, cr5⟩ := Br.cells6
      have HRL := hid (wrote_read (-1) (by omega) (by omega) HOK.out HD.out)
      have HLS := hid (line_size HOK.out HD.out)
      have hrd5 := iReadLine_some o ow D (-1) _ (hm.below bw) (hk.below bw) (by omega) (by omega) (by have := HLS.out; omega) _ _ HRL.out
      go_wp2_with fail
      refine hrd5.mono ?_
      clear hrd5
      rintro e v5 ⟨o5, w5, xN, xT, xK, xA, xL, xC, xG, xX, xZ, rfl, hst5, he9, Ox, hb5⟩
      clear cr0 cr1 cr2 cr3 cr4 cr5
      have hs13 := hb5.size
      try simp only [World.alloc, Array.size_push] at hs13
      replace Br := Br.next hb5
      replace Or := own_next Or hb5
      replace bw := bw.trans (hb5.mono bw.size)
      clear hb5
      have Lx := Ox.lt
      try simp only [World.alloc, Array.size_push] at Lx
      simp only [Z.St.mk.injEq] at hst5
      obtain ⟨t1, _, t3⟩ := hst5
      obtain rfl := lst_inj t1
      obtain rfl := lst_inj t3
      clear t1 t3
      simp only [Z.Rec.mk.injEq] at he9
      obtain ⟨e1, rfl, rfl, rfl, e5, e6⟩ := he9
      obtain rfl := lst_inj e1
      obtain rfl := lst_inj e5
      obtain rfl := lst_inj e6
      have hl1 := reads_len (Reads.of_own Or)
      have hl2 := reads_len (Reads.of_own Ox)
      obtain rfl : aL = xL := hl1.symm.trans hl2
      clear e1 e5 e6 hl1 hl2
      have Bn : Blk (v5.alloc (.cells #[.string o, .int .i64 (-1), .string aN] 46)) v5.heap.size 46 [.string o, .int .i64 (-1), .string aN] := Blk.new v5 _ _
      replace Br := Br.alloc (.cells #[.string o, .int .i64 (-1), .string aN] 46)
      replace Or := Or.alloc (.cells #[.string o, .int .i64 (-1), .string aN] 46)
      replace Ox := Ox.alloc (.cells #[.string o, .int .i64 (-1), .string aN] 46)
      replace bw := bw.alloc bw.size (.cells #[.string o, .int .i64 (-1), .string aN] 46)
      have Bx : Blk ((v5.alloc (.cells #[.string o, .int .i64 (-1), .string aN] 46)).alloc (.cells #[.string aN, .int .i64 aT, .int .i64 aK, .slice xA aL xC, .string aG, .string aX] 25)) (v5.heap.size + 1) 25 [.string aN, .int .i64 aT, .int .i64 aK, .slice xA aL xC, .string aG, .string aX] := by
        have h9 := Blk.new (v5.alloc (.cells #[.string o, .int .i64 (-1), .string aN] 46)) 25 [.string aN, .int .i64 aT, .int .i64 aK, .slice xA aL xC, .string aG, .string aX]
        simpa using h9
      replace Bn := Bn.alloc (.cells #[.string aN, .int .i64 aT, .int .i64 aK, .slice xA aL xC, .string aG, .string aX] 25)
      replace Br := Br.alloc (.cells #[.string aN, .int .i64 aT, .int .i64 aK, .slice xA aL xC, .string aG, .string aX] 25)
      replace Or := Or.alloc (.cells #[.string aN, .int .i64 aT, .int .i64 aK, .slice xA aL xC, .string aG, .string aX] 25)
      replace Ox := Ox.alloc (.cells #[.string aN, .int .i64 aT, .int .i64 aK, .slice xA aL xC, .string aG, .string aX] 25)
      replace bw := bw.alloc bw.size (.cells #[.string aN, .int .i64 aT, .int .i64 aK, .slice xA aL xC, .string aG, .string aX] 25)
      obtain ⟨cr0, cr1, cr2, cr3, cr4, cr5⟩ := Br.cells6
      obtain ⟨cx0, cx1, cx2, cx3, cx4, cx5⟩ := Bx.cells6
      go_wp2_with fail
      refine (recSame_true aN aT aK xA aL xC aG aX aZ _ aA aC _ _ (Reads.of_own Ox) (Nat.le_refl _) (by omega) (Reads.of_own Or) (Nat.le_refl _)).mono ?_
      rintro e v7 ⟨rfl, hb7⟩
      replace Bn := Bn.next hb7
      clear cr0 cr1 cr2 cr3 cr4 cr5 cx0 cx1 cx2 cx3 cx4 cx5
      have hs14 := hb7.size
      try simp only [World.alloc, Array.size_push] at hs14
      replace Br := Br.next hb7
      replace Bx := Bx.next hb7
      replace Or := own_next Or hb7
      replace Ox := own_next Ox hb7
      replace bw := bw.trans (hb7.mono bw.size)
      clear hb7
      obtain ⟨cr0, cr1, cr2, cr3, cr4, cr5⟩ := Br.cells6
      obtain ⟨cx0, cx1, cx2, cx3, cx4, cx5⟩ := Bx.cells6
      have n0 := Bn.cell 0
      have n1 := Bn.cell 1
      have n2 := Bn.cell 2
      simp only [List.getElem?_cons_zero, List.getElem?_cons_succ] at n0 n1 n2
      have q1 : (o.toList == o.toList) = true := by simp
      have q2 : (aN.toList == aN.toList) = true := by simp
      go_wp2
      all_goals go_ret
      all_goals exact ⟨ret_bool (by simp), bw⟩
  · go_enter Tryz.func6, Tryz.ntmps6
    go_wp2_with fail
    go_ret
    exact ⟨rfl, Below.refl _ _⟩

set_option maxRecDepth 100000 in
theorem lifted (os : Os) (started : os.Started) (H : Type) (enc : TypeId × Value → H) :
    ReturnsInHanded {} Tryz.checked os 6 .any (fun w args => (Rows.fnWriteLineSpec.pre enc Tryz.prog Tryz.f6 Rows.fnWriteLineRow.domain false w args ∧ laidMetH Tryz.prog [("math/bits.deBruijn32tab", Rows.laid_math_bits_deBruijn32tab), ("math/bits.deBruijn64tab", Rows.laid_math_bits_deBruijn64tab), ("internal/strconv.uint64pow10", Rows.laid_internal_strconv_uint64pow10), ("unicode/utf8.acceptRanges", Rows.laid_unicode_utf8_acceptRanges), ("loop.example/zonefiles/impl.kindRows", Rows.laid_loop_example_zonefiles_impl_kindRows), ("unicode/utf8.first", Rows.laid_unicode_utf8_first)] w) ∧ sizedMet enc Tryz.prog Tryz.f6 (OpenSpec.ofChange Rows.fnWriteLineSpec) false w args)
      (Rows.fnWriteLineSpec.post enc Tryz.prog Tryz.f6 false true false false) := by
  refine returnsInHanded_and_shaped (C := Tryz.checked) (X := fun w _ => laidMetH Tryz.prog [("math/bits.deBruijn32tab", Rows.laid_math_bits_deBruijn32tab), ("math/bits.deBruijn64tab", Rows.laid_math_bits_deBruijn64tab), ("internal/strconv.uint64pow10", Rows.laid_internal_strconv_uint64pow10), ("unicode/utf8.acceptRanges", Rows.laid_unicode_utf8_acceptRanges), ("loop.example/zonefiles/impl.kindRows", Rows.laid_loop_example_zonefiles_impl_kindRows), ("unicode/utf8.first", Rows.laid_unicode_utf8_first)] w) (fun _ _ _ hh h => h.of_heap hh) own started (by kernel_rfl) Tryz.func6
    (ChangeSpec.witness_shaped (enc := enc) (C := Tryz.checked) (os := os) (X := fun w _ => laidMetH Tryz.prog [("math/bits.deBruijn32tab", Rows.laid_math_bits_deBruijn32tab), ("math/bits.deBruijn64tab", Rows.laid_math_bits_deBruijn64tab), ("internal/strconv.uint64pow10", Rows.laid_internal_strconv_uint64pow10), ("unicode/utf8.acceptRanges", Rows.laid_unicode_utf8_acceptRanges), ("loop.example/zonefiles/impl.kindRows", Rows.laid_loop_example_zonefiles_impl_kindRows), ("unicode/utf8.first", Rows.laid_unicode_utf8_first)] w) false (World.laidAll Tryz.prog os [("math/bits.deBruijn32tab", Rows.laid_math_bits_deBruijn32tab), ("math/bits.deBruijn64tab", Rows.laid_math_bits_deBruijn64tab), ("internal/strconv.uint64pow10", Rows.laid_internal_strconv_uint64pow10), ("unicode/utf8.acceptRanges", Rows.laid_unicode_utf8_acceptRanges), ("loop.example/zonefiles/impl.kindRows", Rows.laid_loop_example_zonefiles_impl_kindRows), ("unicode/utf8.first", Rows.laid_unicode_utf8_first)]) #[.slice none 0 0] 8 (World.laidAll_os _ _ _)
      (World.shaped_of_ZipB (by kernel_rfl) (by kernel_rfl)) (by kernel_rfl) (by kernel_rfl) (by kernel_rfl)
      (by rw [MakeChecks.laidMetH_plain _ _ _ (by kernel_rfl)]; exact laidMet_laidAll _ (by kernel_rfl) (by kernel_rfl))) ?_
  intro W base args ds gs before hval0 hW hsh hL
  have hval : ∀ (j : Nat) t v, Tryz.f6.params[j]? = some t → args[j]? = some v → Value.okWide Tryz.prog W .any base t v := hval0
  have hW' := hW
  obtain ⟨p, q, hA0, hV, rfl, hfz, hnd⟩ := hW
  have hA : DataW.TrodAll enc Tryz.prog W 0 (fun _ => true) true Tryz.f6.params.toList args.toList ds p := hA0
  have hV1 : DataW.TrodVars enc Tryz.prog W (fun _ => true) ["loop.example/zonefiles/impl.kindRows"] gs q := hV
  clear hV
  have hV2 := hV1
  obtain ⟨g9, t9, cs9, f9, d9, p9, rfl, _, _, _, _, rfl⟩ := trodVars_one hV2
  rw [Tryz.params6] at hA hval
  obtain ⟨v0, vs0, d0, ds0, p0, q0, hargs, rfl, rfl, h0, r0⟩ := trodAll_cons hA
  obtain ⟨rfl, rfl, rfl⟩ := trodAll_nil r0
  obtain rfl : args = #[v0] := by cases args; simp_all
  have k0 := h0
  have lt0 : ∀ x ∈ p0, x.block < W.heap.size := by obtain ⟨m, hm⟩ := k0; exact DataW.trod_lt m _ _ _ hm
  obtain ⟨a0, len0, cap0, rfl⟩ := okWide_slice Tryz.underlying22 (hval 0 22 v0 rfl rfl)
  have h0b := h0
  obtain ⟨z0, w0⟩ : ∃ zs, IsRow .u8 W a0 len0 cap0 zs := by
    obtain ⟨fuel, hf⟩ := h0b
    rcases open_ints Tryz.underlying22 Tryz.underlying5 (by kernel_rfl) hf with ⟨hcs, _⟩ | ⟨x, l, c, zs, hcs, _, hl, hm, hz, _, hcell, hwz⟩
    · simp [Value.cells] at hcs
      obtain ⟨rfl, rfl, rfl⟩ := hcs
      exact ⟨[], .inl ⟨rfl, rfl, rfl, rfl⟩⟩
    · simp [Value.cells] at hcs
      obtain ⟨rfl, rfl, rfl⟩ := hcs
      exact ⟨zs, .inr ⟨_, rfl, hl, hm, by simpa using hz, hcell, hwz⟩⟩
  have hlv := laid_vars (by kernel_rfl) hL
  have hk := kt_of_vars (laid_next (laid_next (laid_next (laid_next hlv))))
  have ht := pt_of_vars (laid_next (laid_next hlv))
  have hm := mx_of_shaped hsh
  clear hA0 hval0
  refine (walk a0 len0 cap0 z0 W w0  hk ht hm).mono fun e W' ⟨he, bel⟩ => ?_
  subst he
  exact ⟨_, rfl, _, _, _, [], _, _, hW', trodAll_mk1 (shut_bool Tryz.underlying4 _), (trodAll_cons_mk (Below.trod laidOut (by kernel_rfl) (of_decide_eq_true (by kernel_rfl)) k0 bel lt0) trodAll_mk0), bel.trodVars laidOut (by kernel_rfl) hV1, bel.frame _, fun h => by cases h⟩

theorem over : Rows.fnWriteLineRow.holds Tryz.pinned (OpenSpec.ofChange Rows.fnWriteLineSpec) :=
  OpenClaim.holds_of_wide 6 Tryz.f6 rfl rfl rfl rfl rfl rfl rfl ⟨rfl, rfl, rfl, rfl, rfl⟩ rfl rfl rfl rfl rfl (by kernel_rfl) Tryz.func6 (by kernel_rfl)
    (of_decide_eq_true (by kernel_rfl)) (by unfold Func.isWrapper; first | (rw [if_pos (by decide +kernel)]; kernel_rfl) | (rw [if_neg (by decide +kernel)]; exact ⟨rfl, rfl⟩))
    (fun os started H enc _ => lifted os started H enc)

theorem proved : Rows.FnWriteLineCardSaid :=
  Claim7.holds_tied_plain_at .later [] [.data, .data, .data, .data, .data, .pinned] true (true, "0d21dc787af3e05ac654a6e5a4dee672a1b5db9686d7007c513d93a9f07c4000") true over (fun _ h => by cases h) (by kernel_rfl) (fun _ h => by cases h) fnWriteLine_row_tie rfl ⟨rfl, rfl⟩ (by kernel_rfl) rfl
    (fun f fn hf hfn => by
      obtain rfl : f = 6 := Option.some.inj ((show Tryz.prog.funcNamed "loop.example/zonefiles/laws.FnWriteLine" = some 6 by kernel_rfl).symm.trans hf) |>.symm
      obtain rfl : fn = Tryz.f6 := (Option.some.inj (Tryz.func6.symm.trans hfn)).symm
      exact ⟨by kernel_rfl, fun j t ht => by
        rw [Tryz.params6] at ht
        have hm : t ∈ [22] := by simpa using Array.mem_of_getElem? ht
        have hall : ([22].all fun u => !Tryz.prog.wantsStandIn u) = true := by kernel_rfl
        exact (show Tryz.prog.wantsStandIn t = false by simpa using List.all_eq_true.1 hall t hm)⟩)
    (by kernel_rfl)
end Go.Proofs.YtlknpipbjdecpaaGreatDoor.fnWriteLine

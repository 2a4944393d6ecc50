/- For every input, FieldsOf answers for a line that is drawn from it as the model does, and each of its fields has no quotes or begins and ends with one and has no other, where the tables are as the programs' texts lay them. -/
import Derived.Test.YtlknpipbjdecpaaDoorTie
import Derived.Test.YtlknpipbjdecpaaDoorCards
import Derived.Test.YtlknpipbjdecpaaDoorHb
import Derived.Test.YtlknpipbjdecpaaDoorTc
import Derived.Test.YtlknpipbjdecpaaDoorA
import Derived.Test.YtlknpipbjdecpaaDoorSk
import Derived.Test.YtlknpipbjdecpaaDoorNt
import Derived.Outline
namespace Go.Proofs.YtlknpipbjdecpaaDoor.fnFieldsQuote
open Go.ChangeShapes Go.WideShapes Go.ChangeAt Go.RowKit
open Go.ChangeMaps (open_string shut_string)
set_option linter.unusedVariables false

theorem own : ownKnob Tryd.prog.godebug = none := by kernel_rfl
theorem laidOut : laidOutB Tryd.prog = true := by kernel_rfl
theorem FieldsOf_eq (s : ByteArray) (hs : s.size ≤ 67108860) (fs : List Z.Str) (b : Bool) (hfs : Hid ((Z.fields (lst s)).getD [] = fs)) (hb : Hid ((Z.fields (lst s)).isSome = b)) (w : World) :
    Calls Tryd.prog 12 #[.string s] w fun e w' => ∃ A q, e = .returned (.tuple #[.slice A fs.length q, .bool b]) ∧ w'.ownsRow w.heap.size 9 1 (.slice A fs.length q) fs.length (fs.map sv) ∧ Below w.heap.size w w' := by
  refine (FieldsOf_any s (by omega) w).mono ?_
  rintro e w' ⟨A, n, q, rfl, rfl, ho, hw⟩
  rw [hfs.out] at ho ⊢
  rw [hb.out]
  exact ⟨A, q, rfl, ho, hw⟩
theorem iFieldsOf_eq (s : ByteArray) (hs : s.size ≤ 67108860) (fs : List Z.Str) (b : Bool) (hfs : Hid ((Z.fields (lst s)).getD [] = fs)) (hb : Hid ((Z.fields (lst s)).isSome = b)) (w : World) (hm : MX w) :
    Calls Tryd.prog 11 #[.string s] w fun e w' => ∃ A q, e = .returned (.tuple #[.slice A fs.length q, .bool b]) ∧ w'.ownsRow w.heap.size 9 1 (.slice A fs.length q) fs.length (fs.map sv) ∧ Below w.heap.size w w' := by
  refine (iFieldsOf_any s hs w hm).mono ?_
  rintro e w' ⟨A, n, q, rfl, rfl, ho, hw⟩
  rw [hfs.out] at ho ⊢
  rw [hb.out]
  exact ⟨A, q, rfl, ho, hw⟩
theorem fields_count {s : ByteArray} : ((Z.fields (lst s)).getD []).length ≤ s.size := by
  cases h : Z.fields (lst s) with
  | none => exact Nat.zero_le _
  | some fs =>
    have := fieldsN_length _ _ _ h
    rwa [lst_length] at this
theorem fieldsN_le : ∀ (n : Nat) (s : Z.Str) (fs : List Z.Str), Z.fieldsN n s = some fs → ∀ f ∈ fs, f.length ≤ s.length := by
  intro n
  induction n with
  | zero =>
    intro s fs h
    match s with
    | [] => simp [Z.fieldsN] at h; subst h; intro f hf; cases hf
    | _ :: _ => simp [Z.fieldsN] at h
  | succ n ih =>
    intro s fs h
    match s with
    | [] => simp [Z.fieldsN] at h; subst h; intro f hf; cases hf
    | c :: r =>
      simp only [Z.fieldsN] at h
      split at h
      · intro f hf
        have := ih _ _ h f hf
        simp; omega
      · split at h
        · split at h
          · cases h
          · split at h
            · rename_i x t hd _
              have hl : (r.takeWhile (· != 34)).length + (t.length + 1) = r.length := by
                have := congrArg List.length (List.takeWhile_append_dropWhile (p := (· != 34)) (l := r))
                rw [hd] at this
                simpa using this
              cases e : Z.fieldsN n t with
              | none => rw [e] at h; cases h
              | some gs =>
                rw [e] at h
                simp at h
                subst h
                intro f hf
                rcases List.mem_cons.1 hf with rfl | hf
                · simp; omega
                · have := ih _ _ e f hf
                  simp; omega
            · cases h
        · split at h
          · cases h
          · have hl : (r.takeWhile (fun x => !Z.isSep x)).length + (r.dropWhile (fun x => !Z.isSep x)).length = r.length := by
              have := congrArg List.length (List.takeWhile_append_dropWhile (p := fun x => !Z.isSep x) (l := r))
              rw [List.length_append] at this
              exact this
            cases e : Z.fieldsN n (r.dropWhile (fun x => !Z.isSep x)) with
            | none => rw [e] at h; cases h
            | some gs =>
              rw [e] at h
              simp at h
              subst h
              intro f hf
              rcases List.mem_cons.1 hf with rfl | hf
              · simp; omega
              · have := ih _ _ e f hf
                simp; omega
theorem zf_same (xs : List Z.Str) (B : Nat) (A A2 : Option Addr) (c c2 : Nat) (w : World) (hr1 : Reads w B A xs.length (xs.map sv)) (hr2 : Reads w B A2 xs.length (xs.map sv)) (hx : xs.length ≤ 67108864) :
    Calls Tryd.prog 13 #[.slice A xs.length c, .slice A2 xs.length c2] w fun e w' => e = .returned (.bool true) ∧ ∃ q, w.drewN q = w' := by
  refine (zfTexts_any xs xs B A A2 _ _ c c2 w hr1 hr2 hx hx).mono ?_
  rintro e w' ⟨rfl, q, rfl⟩
  exact ⟨ret_bool (by simp), q, rfl⟩
theorem q34 {c : UInt8} : ((c.toNat : Int) = 34) ↔ c = 34 := by
  rw [← UInt8.toNat_inj]; simp; omega
def cnt (x : ByteArray) (j : Nat) : Nat := ((lst x).take j).count 34
theorem cnt_zero (x : ByteArray) : cnt x 0 = 0 := rfl
theorem cnt_le (x : ByteArray) (j : Nat) : cnt x j ≤ j := by
  have h1 := List.count_le_length (a := (34 : UInt8)) (l := (lst x).take j)
  have h2 := List.length_take_le j (lst x)
  unfold cnt; omega
theorem cnt_all (x : ByteArray) : cnt x x.size = (lst x).count 34 := by unfold cnt; rw [← lst_length, List.take_length]
theorem cnt_next (x : ByteArray) {j : Nat} (c : UInt8) (hc : (lst x)[j]? = some c) : cnt x (j + 1) = cnt x j + if c = 34 then 1 else 0 := by
  unfold cnt
  rw [List.take_add_one, hc, List.count_append]
  by_cases h : c = 34
  · simp [h]
  · simp [h]
theorem cnt_yes (x : ByteArray) {j : Nat} (hj : j < x.size) (h : (x[j].toNat : Int) = 34) : cnt x (j + 1) = cnt x j + 1 := by
  rw [cnt_next x x[j] (by rw [List.getElem?_eq_getElem (by rw [lst_length]; exact hj), lst_get x j hj]), if_pos (q34.1 h)]
theorem cnt_no (x : ByteArray) {j : Nat} (hj : j < x.size) (h : ¬ (x[j].toNat : Int) = 34) : cnt x (j + 1) = cnt x j := by
  rw [cnt_next x x[j] (by rw [List.getElem?_eq_getElem (by rw [lst_length]; exact hj), lst_get x j hj]), if_neg (fun e => h (q34.2 e))]
  rfl
theorem atom_parts {x : ByteArray} (h : Z.Atom (lst x)) : ∃ m, ∃ hm : x.size = m + 1, (((x[0]'(by omega)).toNat : Int) = 34 ∧ (lst x).count 34 = 2 ∧ ((x[m]'(by omega)).toNat : Int) = 34) ∨ (¬ ((x[0]'(by omega)).toNat : Int) = 34 ∧ (lst x).count 34 = 0) := by
  have hne := h.ne
  have hs : 0 < x.size := by
    rcases Nat.eq_zero_or_pos x.size with e | e
    · exact absurd (List.eq_nil_of_length_eq_zero (by rw [lst_length]; exact e)) hne
    · exact e
  have h0 : (lst x).head? = some x[0] := by rw [List.head?_eq_getElem?, List.getElem?_eq_getElem (by rw [lst_length]; exact hs), lst_get x 0 hs]
  refine ⟨x.size - 1, by omega, ?_⟩
  have hl : (lst x).getLast? = some x[x.size - 1] := by
    rw [List.getLast?_eq_getElem?, lst_length, List.getElem?_eq_getElem (by rw [lst_length]; omega), lst_get x (x.size - 1) (by omega)]
  rcases Z.atom_quotes h with ⟨a, b, c⟩ | ⟨a, b, _⟩
  · left
    rw [h0] at a
    rw [hl] at c
    exact ⟨q34.2 (Option.some.inj a), b, q34.2 (Option.some.inj c)⟩
  · right
    rw [h0] at a
    exact ⟨fun e => a (congrArg some (q34.1 e)), b⟩

set_option maxRecDepth 100000 in
set_option maxHeartbeats 4000000 in
theorem walk (a0 : Option Addr) (len0 cap0 : Nat) (z0 : List Int) (w : World) (w0 : IsRow .u8 w a0 len0 cap0 z0) (hm : MX w) :
    Calls Tryd.prog 4 #[.slice a0 len0 cap0] w fun e w' => e = .returned (.bool true) ∧ Below w.heap.size w w' := by
  have hc0 := row_cap w0
  unfold maxLen at hc0
  by_cases hb0 : len0 ≤ 1048576
  · obtain ⟨zs0, rfl, hcode0⟩ := code_of_row w0 hb0
    clear w0
    go_enter Tryd.func4, Tryd.ntmps4
    go_wp2_with fail
    refine (DrawFieldsOf_any _ _ zs0 w hcode0).mono ?_
    rintro e w1 ⟨s, rfl, hs, hb1⟩
    have hs1 := (Since.start w).next hb1
    clear hb1 hcode0
    obtain ⟨fs, hfs⟩ : ∃ fs, (Z.fields (lst s)).getD [] = fs := ⟨_, rfl⟩
    obtain ⟨b, hb⟩ : ∃ b, (Z.fields (lst s)).isSome = b := ⟨_, rfl⟩
    have hcl : fs.length ≤ 100 := by rw [← hfs]; exact Nat.le_trans fields_count (by omega)
    have HFS := hid hfs
    have HB := hid hb
    clear hfs hb
    cases b with
    | false =>
      go_wp2_with fail
      refine (iFieldsOf_eq s (by omega) fs false HFS HB _ (hm.below hs1.1)).mono ?_
      rintro e v1 ⟨A1, c1, rfl, hown1, hb1⟩
      have hs2 := hs1.next hb1
      go_wp2_with fail
      refine (FieldsOf_eq s (by omega) fs false HFS HB _).mono ?_
      rintro e v2 ⟨A2, c2, rfl, hown2, hb2⟩
      have hs3 := hs2.next hb2
      have hr1 := ((Reads.of_own hown1).below hb2 (Nat.le_refl _)).more hb2.size
      have hr2 := Reads.of_own hown2
      clear hown1 hown2 hb1 hb2
      go_wp2_with fail
      refine (zf_same fs _ A1 A2 c1 c2 v2 hr1 hr2 (by omega)).mono ?_
      rintro e v3 ⟨rfl, q1, rfl⟩
      go_wp2_with fail
      refine (zf_same fs _ A1 A2 c1 c2 (v2.drewN q1) (hr1.below (below_drewN (Below.refl v2.heap.size v2) q1) (Nat.le_refl _)) (hr2.below (below_drewN (Below.refl v2.heap.size v2) q1) (Nat.le_refl _)) (by omega)).mono ?_
      rintro e v4 ⟨rfl, q2, rfl⟩
      go_wp2_with fail
      all_goals go_ret
      all_goals exact ⟨rfl, (hs3.drewN _).1⟩
    | true =>
      have hz : Z.fields (lst s) = some fs := by
        have h1 := HB.out
        have h2 := HFS.out
        cases h : Z.fields (lst s) with
        | none => rw [h] at h1; cases h1
        | some gs => rw [h] at h2; exact congrArg some h2
      have HAT := hid (Z.fields_atoms hz)
      have HLE : Hid (∀ f ∈ fs, f.length ≤ 100) := hid fun f hf => Nat.le_trans (fieldsN_le _ _ _ hz f hf) (by rw [lst_length]; omega)
      clear hz
      go_wp2_with fail
      refine (iFieldsOf_eq s (by omega) fs true HFS HB _ (hm.below hs1.1)).mono ?_
      rintro e v1 ⟨A1, c1, rfl, hown1, hb1⟩
      have hs2 := hs1.next hb1
      go_wp2_with fail
      refine (FieldsOf_eq s (by omega) fs true HFS HB _).mono ?_
      rintro e v2 ⟨A2, c2, rfl, hown2, hb2⟩
      have hs3 := hs2.next hb2
      have hr1 := ((Reads.of_own hown1).below hb2 (Nat.le_refl _)).more hb2.size
      have hr2 := Reads.of_own hown2
      clear hown1 hown2 hb1 hb2
      go_wp2_with fail
      refine (zf_same fs _ A1 A2 c1 c2 v2 hr1 hr2 (by omega)).mono ?_
      rintro e v3 ⟨rfl, q1, rfl⟩
      have hr3 := hr1.below (below_drewN (Below.refl v2.heap.size v2) q1) (Nat.le_refl _)
      have hs4 := hs3.drewN q1
      obtain ⟨W, hW⟩ : ∃ W, v2.drewN q1 = W := ⟨_, rfl⟩
      rw [hW] at hr3 hs4 ⊢
      clear hr1 hr2 hs3 hW
      go_wp2_with fail
      go_loopw [8] (fun i wr => ∃ k : Nat, k ≤ fs.length ∧ i = .int .i64 k ∧ wr = W) (fun i _ => fs.length - (intOf i).toNat)
      case atStart => exact ⟨0, Nat.zero_le _, rfl, rfl⟩
      case round =>
        obtain ⟨k, hk, rfl, rfl⟩ := hrel
        by_cases hlt : k < fs.length
        · obtain ⟨ad, x, rfl, hab, hx, hcell⟩ := reads_str hr3 hlt
          have hmem : fs.getD k [] ∈ fs := by simp [List.getD, List.getElem?_eq_getElem hlt]
          have hxs : x.size ≤ 100 := by rw [← lst_length, hx]; exact HLE.out _ hmem
          obtain ⟨m, hsz, hparts⟩ := atom_parts (x := x) (by rw [hx]; exact HAT.out _ hmem)
          have HP := hid hparts
          have p1 : 0 ≤ (k : Int) := by omega
          have q1 : (k : Int) < fs.length := by omega
          clear hmem hx hparts
          go_wp2_with fail
          go_loopw [10, 11] (fun q j v => ∃ jj : Nat, jj ≤ x.size ∧ j = .int .i64 jj ∧ q = .int .i64 (cnt x jj : Nat) ∧ v = wr) (fun _ j _ => x.size - (intOf j).toNat)
          case atStart => exact ⟨0, Nat.zero_le _, rfl, rfl, rfl⟩
          case round =>
            obtain ⟨j, hj, rfl, rfl, rfl⟩ := hrel
            by_cases hlj : j < x.size
            · have hcl9 := cnt_le x j
              by_cases hq : (x[j].toNat : Int) = 34
              · have q3 : ((x[j].toNat : Int) == 34) = true := by simpa using hq
                have HC := hid (cnt_yes x hlj hq)
                clear hq
                go_wp2_with fail
                refine ⟨⟨j + 1, by omega, by go_num, by rw [HC.out]; go_num, trivial⟩, by simp [intOf]; omega⟩
              · have q3 : ((x[j].toNat : Int) == 34) = false := by simpa using hq
                have HC := hid (cnt_no x hlj hq)
                clear hq
                go_wp2_with fail
                refine ⟨⟨j + 1, by omega, by go_num, by rw [HC.out], trivial⟩, by simp [intOf]; omega⟩
            · obtain rfl : j = x.size := by omega
              have hca := cnt_all x
              rcases HP.out with ⟨h0, h2, h3⟩ | ⟨h0, h2⟩
              · have e0 : ((x[0].toNat : Int) == 34) = true := by simpa using h0
                have e1 : ((x[m].toNat : Int) != 34) = false := by simp [h3]
                have e2 : cnt x x.size = 2 := hca.trans h2
                rw [e2]
                have e3 : (x.size : Int) - 1 = (m : Int) := by omega
                clear h0 h2 h3 hca
                go_wp2_with fail
                all_goals refine ⟨⟨k + 1, by omega, by go_num, trivial⟩, by simp [intOf]; omega⟩
              · have e0 : ((x[0].toNat : Int) == 34) = false := by simpa using h0
                have e1 : ((x[0].toNat : Int) != 34) = true := by simpa using h0
                have e2 : cnt x x.size = 0 := hca.trans h2
                rw [e2]
                clear h0 h2 hca
                go_wp2_with fail
                all_goals refine ⟨⟨k + 1, by omega, by go_num, trivial⟩, by simp [intOf]; omega⟩
        · go_wp2_with fail
          all_goals go_ret
          all_goals exact ⟨rfl, hs4.1⟩
  · go_enter Tryd.func4, Tryd.ntmps4
    go_wp2_with fail
    go_ret
    exact ⟨rfl, Below.refl _ _⟩

set_option maxRecDepth 100000 in
theorem lifted (os : Os) (started : os.Started) (H : Type) (enc : TypeId × Value → H) :
    ReturnsInHanded {} Tryd.checked os 4 .any (fun w args => (Rows.fnFieldsQuoteSpec.pre enc Tryd.prog Tryd.f4 Rows.fnFieldsQuoteRow.domain false w args ∧ laidMetH Tryd.prog [("unicode/utf8.acceptRanges", Rows.laid_unicode_utf8_acceptRanges), ("unicode/utf8.first", Rows.laid_unicode_utf8_first)] w) ∧ sizedMet enc Tryd.prog Tryd.f4 (OpenSpec.ofChange Rows.fnFieldsQuoteSpec) false w args)
      (Rows.fnFieldsQuoteSpec.post enc Tryd.prog Tryd.f4 false true false false) := by
  refine returnsInHanded_and_shaped (C := Tryd.checked) (X := fun w _ => laidMetH Tryd.prog [("unicode/utf8.acceptRanges", Rows.laid_unicode_utf8_acceptRanges), ("unicode/utf8.first", Rows.laid_unicode_utf8_first)] w) (fun _ _ _ hh h => h.of_heap hh) own started (by kernel_rfl) Tryd.func4
    (ChangeSpec.witness_shaped (enc := enc) (C := Tryd.checked) (os := os) (X := fun w _ => laidMetH Tryd.prog [("unicode/utf8.acceptRanges", Rows.laid_unicode_utf8_acceptRanges), ("unicode/utf8.first", Rows.laid_unicode_utf8_first)] w) false (World.laidAll Tryd.prog os [("unicode/utf8.acceptRanges", Rows.laid_unicode_utf8_acceptRanges), ("unicode/utf8.first", Rows.laid_unicode_utf8_first)]) #[.slice none 0 0] 8 (World.laidAll_os _ _ _)
      (World.shaped_of_ZipB (by kernel_rfl) (by kernel_rfl)) (by kernel_rfl) (by kernel_rfl) (by kernel_rfl)
      (by rw [MakeChecks.laidMetH_plain _ _ _ (by kernel_rfl)]; exact laidMet_laidAll _ (by kernel_rfl) (by kernel_rfl))) ?_
  intro W base args ds gs before hval0 hW hsh hL
  have hval : ∀ (j : Nat) t v, Tryd.f4.params[j]? = some t → args[j]? = some v → Value.okWide Tryd.prog W .any base t v := hval0
  have hW' := hW
  obtain ⟨p, q, hA0, hV, rfl, hfz, hnd⟩ := hW
  have hA : DataW.TrodAll enc Tryd.prog W 0 (fun _ => true) true Tryd.f4.params.toList args.toList ds p := hA0
  have hV1 : DataW.TrodVars enc Tryd.prog W (fun _ => true) [] gs q := hV
  clear hV
  obtain ⟨rfl, rfl⟩ := trodVars_none hV1
  rw [Tryd.params4] at hA hval
  obtain ⟨v0, vs0, d0, ds0, p0, q0, hargs, rfl, rfl, h0, r0⟩ := trodAll_cons hA
  obtain ⟨rfl, rfl, rfl⟩ := trodAll_nil r0
  obtain rfl : args = #[v0] := by cases args; simp_all
  have k0 := h0
  have lt0 : ∀ x ∈ p0, x.block < W.heap.size := by obtain ⟨m, hm⟩ := k0; exact DataW.trod_lt m _ _ _ hm
  obtain ⟨a0, len0, cap0, rfl⟩ := okWide_slice Tryd.underlying30 (hval 0 30 v0 rfl rfl)
  have h0b := h0
  obtain ⟨z0, w0⟩ : ∃ zs, IsRow .u8 W a0 len0 cap0 zs := by
    obtain ⟨fuel, hf⟩ := h0b
    rcases open_ints Tryd.underlying30 Tryd.underlying5 (by kernel_rfl) hf with ⟨hcs, _⟩ | ⟨x, l, c, zs, hcs, _, hl, hm, hz, _, hcell, hwz⟩
    · simp [Value.cells] at hcs
      obtain ⟨rfl, rfl, rfl⟩ := hcs
      exact ⟨[], .inl ⟨rfl, rfl, rfl, rfl⟩⟩
    · simp [Value.cells] at hcs
      obtain ⟨rfl, rfl, rfl⟩ := hcs
      exact ⟨zs, .inr ⟨_, rfl, hl, hm, by simpa using hz, hcell, hwz⟩⟩
  have hlv := laid_vars (by kernel_rfl) hL
  have hm := mx_of_shaped hsh
  clear hA0 hval0
  refine (walk a0 len0 cap0 z0 W w0  hm).mono fun e W' ⟨he, bel⟩ => ?_
  subst he
  exact ⟨_, rfl, _, _, _, [], _, [], hW', trodAll_mk1 (shut_bool Tryd.underlying4 _), (trodAll_cons_mk (Below.trod laidOut (by kernel_rfl) (of_decide_eq_true (by kernel_rfl)) k0 bel lt0) trodAll_mk0), rfl, bel.frame _, fun h => by cases h⟩

theorem over : Rows.fnFieldsQuoteRow.holds Tryd.pinned (OpenSpec.ofChange Rows.fnFieldsQuoteSpec) :=
  OpenClaim.holds_of_wide 4 Tryd.f4 rfl rfl rfl rfl rfl rfl rfl ⟨rfl, rfl, rfl, rfl, rfl⟩ rfl rfl rfl rfl rfl (by kernel_rfl) Tryd.func4 (by kernel_rfl)
    (of_decide_eq_true (by kernel_rfl)) (by unfold Func.isWrapper; first | (rw [if_pos (by decide +kernel)]; kernel_rfl) | (rw [if_neg (by decide +kernel)]; exact ⟨rfl, rfl⟩))
    (fun os started H enc _ => lifted os started H enc)

theorem proved : Rows.FnFieldsQuoteCardSaid :=
  Claim7.holds_tied_plain_at .later [] [.data, .pinned] true (true, "6da953c78a288e3ff8980937564e0ef55620fe8f1f8a3197faf907ed9acf984e") true over (fun _ h => by cases h) (by kernel_rfl) (fun _ h => by cases h) fnFieldsQuote_row_tie rfl ⟨rfl, rfl⟩ (by kernel_rfl) rfl
    (fun f fn hf hfn => by
      obtain rfl : f = 4 := Option.some.inj ((show Tryd.prog.funcNamed "loop.example/zonefiles/laws.FnFieldsQuote" = some 4 by kernel_rfl).symm.trans hf) |>.symm
      obtain rfl : fn = Tryd.f4 := (Option.some.inj (Tryd.func4.symm.trans hfn)).symm
      exact ⟨by kernel_rfl, fun j t ht => by
        rw [Tryd.params4] at ht
        have hm : t ∈ [30] := by simpa using Array.mem_of_getElem? ht
        have hall : ([30].all fun u => !Tryd.prog.wantsStandIn u) = true := by kernel_rfl
        exact (show Tryd.prog.wantsStandIn t = false by simpa using List.all_eq_true.1 hall t hm)⟩)
    (by kernel_rfl)
end Go.Proofs.YtlknpipbjdecpaaDoor.fnFieldsQuote

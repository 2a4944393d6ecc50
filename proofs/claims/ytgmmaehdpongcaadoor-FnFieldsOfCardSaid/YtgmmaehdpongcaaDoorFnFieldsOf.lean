/- For every input, FieldsOf answers for a line that is drawn from it as the model does, and reads its fields again when they are put together with spaces, where the tables are as the programs' texts lay them. -/
import Derived.Test.YtgmmaehdpongcaaDoorTie
import Derived.Test.YtgmmaehdpongcaaDoorCards
import Derived.Test.YtgmmaehdpongcaaDoorHb
import Derived.Test.YtgmmaehdpongcaaDoorTc
import Derived.Test.YtgmmaehdpongcaaDoorA
import Derived.Test.YtgmmaehdpongcaaDoorSk
import Derived.Test.YtgmmaehdpongcaaDoorNt
import Derived.Outline
namespace Go.Proofs.YtgmmaehdpongcaaDoor.fnFieldsOf
open Go.ChangeShapes Go.WideShapes Go.ChangeAt Go.RowKit
open Go.ChangeMaps (open_string shut_string)
set_option linter.unusedVariables false

theorem own : ownKnob Tryd.prog.godebug = none := by kernel_rfl
theorem laidOut : laidOutB Tryd.prog = true := by kernel_rfl
theorem FieldsOf_eq (s : ByteArray) (hs : s.size ≤ 67108860) (fs : List Z.Str) (b : Bool) (hfs : Hid ((Z.fields (lst s)).getD [] = fs)) (hb : Hid ((Z.fields (lst s)).isSome = b)) (w : World) :
    Calls Tryd.prog 24 #[.string s] w fun e w' => ∃ A q, e = .returned (.tuple #[.slice A fs.length q, .bool b]) ∧ w'.ownsRow w.heap.size 9 1 (.slice A fs.length q) fs.length (fs.map sv) ∧ Below w.heap.size w w' := by
  refine (FieldsOf_any s (by omega) w).mono ?_
  rintro e w' ⟨A, n, q, rfl, rfl, ho, hw⟩
  rw [hfs.out] at ho ⊢
  rw [hb.out]
  exact ⟨A, q, rfl, ho, hw⟩
theorem iFieldsOf_eq (s : ByteArray) (hs : s.size ≤ 67108860) (fs : List Z.Str) (b : Bool) (hfs : Hid ((Z.fields (lst s)).getD [] = fs)) (hb : Hid ((Z.fields (lst s)).isSome = b)) (w : World) (hm : MX w) :
    Calls Tryd.prog 23 #[.string s] w fun e w' => ∃ A q, e = .returned (.tuple #[.slice A fs.length q, .bool b]) ∧ w'.ownsRow w.heap.size 9 1 (.slice A fs.length q) fs.length (fs.map sv) ∧ Below w.heap.size w w' := by
  refine (iFieldsOf_any s hs w hm).mono ?_
  rintro e w' ⟨A, n, q, rfl, rfl, ho, hw⟩
  rw [hfs.out] at ho ⊢
  rw [hb.out]
  exact ⟨A, q, rfl, ho, hw⟩
theorem fields_count {s : ByteArray} : ((Z.fields (lst s)).getD []).length ≤ s.size := by
  cases h : Z.fields (lst s) with
  | none => exact Nat.zero_le _
  | some fs =>
    have := fieldsN_length _ _ _ h
    rwa [lst_length] at this
theorem fieldsN_le : ∀ (n : Nat) (s : Z.Str) (fs : List Z.Str), Z.fieldsN n s = some fs → ∀ f ∈ fs, f.length ≤ s.length := by
  intro n
  induction n with
  | zero =>
    intro s fs h
    match s with
    | [] => simp [Z.fieldsN] at h; subst h; intro f hf; cases hf
    | _ :: _ => simp [Z.fieldsN] at h
  | succ n ih =>
    intro s fs h
    match s with
    | [] => simp [Z.fieldsN] at h; subst h; intro f hf; cases hf
    | c :: r =>
      simp only [Z.fieldsN] at h
      split at h
      · intro f hf
        have := ih _ _ h f hf
        simp; omega
      · split at h
        · split at h
          · cases h
          · split at h
            · rename_i x t hd _
              have hl : (r.takeWhile (· != 34)).length + (t.length + 1) = r.length := by
                have := congrArg List.length (List.takeWhile_append_dropWhile (p := (· != 34)) (l := r))
                rw [hd] at this
                simpa using this
              cases e : Z.fieldsN n t with
              | none => rw [e] at h; cases h
              | some gs =>
                rw [e] at h
                simp at h
                subst h
                intro f hf
                rcases List.mem_cons.1 hf with rfl | hf
                · simp; omega
                · have := ih _ _ e f hf
                  simp; omega
            · cases h
        · split at h
          · cases h
          · have hl : (r.takeWhile (fun x => !Z.isSep x)).length + (r.dropWhile (fun x => !Z.isSep x)).length = r.length := by
              have := congrArg List.length (List.takeWhile_append_dropWhile (p := fun x => !Z.isSep x) (l := r))
              rw [List.length_append] at this
              exact this
            cases e : Z.fieldsN n (r.dropWhile (fun x => !Z.isSep x)) with
            | none => rw [e] at h; cases h
            | some gs =>
              rw [e] at h
              simp at h
              subst h
              intro f hf
              rcases List.mem_cons.1 hf with rfl | hf
              · simp; omega
              · have := ih _ _ e f hf
                simp; omega
theorem zf_same (xs : List Z.Str) (B : Nat) (A A2 : Option Addr) (c c2 : Nat) (w : World) (hr1 : Reads w B A xs.length (xs.map sv)) (hr2 : Reads w B A2 xs.length (xs.map sv)) (hx : xs.length ≤ 67108864) :
    Calls Tryd.prog 25 #[.slice A xs.length c, .slice A2 xs.length c2] w fun e w' => e = .returned (.bool true) ∧ ∃ q, w.drewN q = w' := by
  refine (zfTexts_any xs xs B A A2 _ _ c c2 w hr1 hr2 hx hx).mono ?_
  rintro e w' ⟨rfl, q, rfl⟩
  exact ⟨ret_bool (by simp), q, rfl⟩
theorem lst_spaces (t x : ByteArray) (fs : List Z.Str) (k : Nat) (ht : lst t = ((fs.take k).map (fun f => f ++ [32, 32])).flatten) (hlt : k < fs.length) (hx : lst x = fs.getD k []) :
    lst (t ++ x ++ ⟨#[32, 32]⟩) = ((fs.take (k + 1)).map (fun f => f ++ [32, 32])).flatten := by
  rw [lst_append, lst_append, ht, hx, List.take_add_one, List.getElem?_eq_getElem hlt]
  have e : fs.getD k [] = fs[k] := by simp [List.getD, List.getElem?_eq_getElem hlt]
  rw [e]
  simp only [Option.toList_some, List.map_append, List.flatten_append, List.map_cons, List.map_nil, List.flatten_cons, List.flatten_nil, List.append_nil, List.append_assoc]
  rfl
theorem not_empty {x : ByteArray} (h : lst x ≠ []) : x.toList.isEmpty = false := by
  rw [toList_lst]
  cases h2 : lst x with
  | nil => exact absurd h2 h
  | cons a b => rfl

set_option maxRecDepth 100000 in
set_option maxHeartbeats 4000000 in
theorem walk (a0 : Option Addr) (len0 cap0 : Nat) (z0 : List Int) (w : World) (w0 : IsRow .u8 w a0 len0 cap0 z0) (hm : MX w) :
    Calls Tryd.prog 5 #[.slice a0 len0 cap0] w fun e w' => e = .returned (.bool true) ∧ Below w.heap.size w w' := by
  have hc0 := row_cap w0
  unfold maxLen at hc0
  by_cases hb0 : len0 ≤ 1048576
  · obtain ⟨zs0, rfl, hcode0⟩ := code_of_row w0 hb0
    clear w0
    go_enter Tryd.func5, Tryd.ntmps5
    go_wp2_with fail
    refine (DrawFieldsOf_any _ _ zs0 w hcode0).mono ?_
    rintro e w1 ⟨s, rfl, hs, hb1⟩
    have hs1 := (Since.start w).next hb1
    clear hb1 hcode0
    obtain ⟨fs, hfs⟩ : ∃ fs, (Z.fields (lst s)).getD [] = fs := ⟨_, rfl⟩
    obtain ⟨b, hb⟩ : ∃ b, (Z.fields (lst s)).isSome = b := ⟨_, rfl⟩
    have hcl : fs.length ≤ 100 := by rw [← hfs]; exact Nat.le_trans fields_count (by omega)
    have HFS := hid hfs
    have HB := hid hb
    clear hfs hb
    cases b with
    | false =>
      go_wp2_with fail
      refine (iFieldsOf_eq s (by omega) fs false HFS HB _ (hm.below hs1.1)).mono ?_
      rintro e v1 ⟨A1, c1, rfl, hown1, hb1⟩
      have hs2 := hs1.next hb1
      go_wp2_with fail
      refine (FieldsOf_eq s (by omega) fs false HFS HB _).mono ?_
      rintro e v2 ⟨A2, c2, rfl, hown2, hb2⟩
      have hs3 := hs2.next hb2
      have hr1 := ((Reads.of_own hown1).below hb2 (Nat.le_refl _)).more hb2.size
      have hr2 := Reads.of_own hown2
      clear hown1 hown2 hb1 hb2
      go_wp2_with fail
      refine (zf_same fs _ A1 A2 c1 c2 v2 hr1 hr2 (by omega)).mono ?_
      rintro e v3 ⟨rfl, q1, rfl⟩
      go_wp2_with fail
      refine (zf_same fs _ A1 A2 c1 c2 (v2.drewN q1) (hr1.below (below_drewN (Below.refl v2.heap.size v2) q1) (Nat.le_refl _)) (hr2.below (below_drewN (Below.refl v2.heap.size v2) q1) (Nat.le_refl _)) (by omega)).mono ?_
      rintro e v4 ⟨rfl, q2, rfl⟩
      go_wp2_with fail
      all_goals go_ret
      all_goals exact ⟨rfl, (hs3.drewN _).1⟩
    | true =>
      have hz : Z.fields (lst s) = some fs := by
        have h1 := HB.out
        have h2 := HFS.out
        cases h : Z.fields (lst s) with
        | none => rw [h] at h1; cases h1
        | some gs => rw [h] at h2; exact congrArg some h2
      have HAT := hid (Z.fields_atoms hz)
      have HLE : Hid (∀ f ∈ fs, f.length ≤ 100) := hid fun f hf => Nat.le_trans (fieldsN_le _ _ _ hz f hf) (by rw [lst_length]; omega)
      clear hz
      go_wp2_with fail
      refine (iFieldsOf_eq s (by omega) fs true HFS HB _ (hm.below hs1.1)).mono ?_
      rintro e v1 ⟨A1, c1, rfl, hown1, hb1⟩
      have hs2 := hs1.next hb1
      go_wp2_with fail
      refine (FieldsOf_eq s (by omega) fs true HFS HB _).mono ?_
      rintro e v2 ⟨A2, c2, rfl, hown2, hb2⟩
      have hs3 := hs2.next hb2
      have hr1 := ((Reads.of_own hown1).below hb2 (Nat.le_refl _)).more hb2.size
      have hr2 := Reads.of_own hown2
      clear hown1 hown2 hb1 hb2
      go_wp2_with fail
      refine (zf_same fs _ A1 A2 c1 c2 v2 hr1 hr2 (by omega)).mono ?_
      rintro e v3 ⟨rfl, q1, rfl⟩
      have hr3 := hr1.below (below_drewN (Below.refl v2.heap.size v2) q1) (Nat.le_refl _)
      have hs4 := hs3.drewN q1
      have hsz : (v2.drewN q1).heap.size = v2.heap.size := by simp
      obtain ⟨W, hW⟩ : ∃ W, v2.drewN q1 = W := ⟨_, rfl⟩
      rw [hW] at hr3 hs4 hsz ⊢
      clear hr1 hr2 hs3 hW
      go_wp2_with fail
      go_loopw [8, 9] (fun x i wr => ∃ (k : Nat) (t : ByteArray), k ≤ fs.length ∧ i = .int .i64 k ∧ x = .string t ∧ Hid (lst t = ((fs.take k).map (fun f => f ++ [32, 32])).flatten) ∧ t.size ≤ 102 * k ∧ wr = W) (fun _ i _ => fs.length - (intOf i).toNat)
      case atStart => exact ⟨0, ⟨#[]⟩, Nat.zero_le _, rfl, rfl, hid rfl, Nat.le_refl _, rfl⟩
      case round =>
        obtain ⟨k, t, hk, rfl, rfl, ht, hts, rfl⟩ := hrel
        by_cases hlt : k < fs.length
        · obtain ⟨ad, x, rfl, hab, hx, hcell⟩ := reads_str hr3 hlt
          have hmem : fs.getD k [] ∈ fs := by simp [List.getD, List.getElem?_eq_getElem hlt]
          have hxs : x.size ≤ 100 := by rw [← lst_length, hx]; exact HLE.out _ hmem
          have hxn := not_empty (x := x) (by rw [hx]; exact (HAT.out _ hmem).ne)
          have Hn := hid (lst_spaces t x fs k ht.out hlt hx)
          have a1 := add_run t x (by omega)
          have a2 := add_run (t ++ x) ⟨#[32, 32]⟩ (by rw [ByteArray.size_append]; show _ + 2 ≤ _; omega)
          have hsn : (t ++ x ++ ⟨#[32, 32]⟩).size ≤ 102 * (k + 1) := by rw [ByteArray.size_append, ByteArray.size_append]; show _ + 2 ≤ _; omega
          have p1 : 0 ≤ (k : Int) := by omega
          have q1 : (k : Int) < fs.length := by omega
          clear hmem hx
          go_wp2_with fail
          refine ⟨⟨k + 1, _, by omega, by go_num, rfl, Hn, hsn, trivial⟩, by simp [intOf]; omega⟩
        · have hke : k = fs.length := by omega
          have hz : Z.fields (lst t) = some fs := by
            have := ht.out
            rw [hke, List.take_length] at this
            rw [this]
            exact Z.fields_again HAT.out
          have HF2 : Hid ((Z.fields (lst t)).getD [] = fs) := hid (by rw [hz]; rfl)
          have HB2 : Hid ((Z.fields (lst t)).isSome = true) := hid (by rw [hz]; rfl)
          clear hz
          go_wp2_with fail
          refine (iFieldsOf_eq t (by omega) fs true HF2 HB2 _ (hm.below hs4.1)).mono ?_
          rintro e v5 ⟨A5, c5, rfl, hown5, hb5⟩
          have hs5 := hs4.next hb5
          have hr5 := (hr3.below hb5 (by omega)).more (Nat.le_trans (by omega) hb5.size)
          have hr6 := Reads.of_own hown5
          have hr7 := hr3.below hb5 (by omega)
          go_wp2_with fail
          refine (zf_same fs _ A5 A1 c5 c1 v5 hr6 (hr7.more (by have := hb5.size; omega)) (by omega)).mono ?_
          rintro e v6 ⟨rfl, q6, rfl⟩
          have hsf := hs5.drewN q6
          go_wp2_with fail
          all_goals go_ret
          all_goals exact ⟨rfl, hsf.1⟩
  · go_enter Tryd.func5, Tryd.ntmps5
    go_wp2_with fail
    go_ret
    exact ⟨rfl, Below.refl _ _⟩

set_option maxRecDepth 100000 in
theorem lifted (os : Os) (started : os.Started) (H : Type) (enc : TypeId × Value → H) :
    ReturnsInHanded {} Tryd.checked os 5 .any (fun w args => (Rows.fnFieldsOfSpec.pre enc Tryd.prog Tryd.f5 Rows.fnFieldsOfRow.domain false w args ∧ laidMetH Tryd.prog [("unicode/utf8.acceptRanges", Rows.laid_unicode_utf8_acceptRanges), ("unicode/utf8.first", Rows.laid_unicode_utf8_first)] w) ∧ sizedMet enc Tryd.prog Tryd.f5 (OpenSpec.ofChange Rows.fnFieldsOfSpec) false w args)
      (Rows.fnFieldsOfSpec.post enc Tryd.prog Tryd.f5 false true false false) := by
  refine returnsInHanded_and_shaped (C := Tryd.checked) (X := fun w _ => laidMetH Tryd.prog [("unicode/utf8.acceptRanges", Rows.laid_unicode_utf8_acceptRanges), ("unicode/utf8.first", Rows.laid_unicode_utf8_first)] w) (fun _ _ _ hh h => h.of_heap hh) own started (by kernel_rfl) Tryd.func5
    (ChangeSpec.witness_shaped (enc := enc) (C := Tryd.checked) (os := os) (X := fun w _ => laidMetH Tryd.prog [("unicode/utf8.acceptRanges", Rows.laid_unicode_utf8_acceptRanges), ("unicode/utf8.first", Rows.laid_unicode_utf8_first)] w) false (World.laidAll Tryd.prog os [("unicode/utf8.acceptRanges", Rows.laid_unicode_utf8_acceptRanges), ("unicode/utf8.first", Rows.laid_unicode_utf8_first)]) #[.slice none 0 0] 8 (World.laidAll_os _ _ _)
      (World.shaped_of_ZipB (by kernel_rfl) (by kernel_rfl)) (by kernel_rfl) (by kernel_rfl) (by kernel_rfl)
      (by rw [MakeChecks.laidMetH_plain _ _ _ (by kernel_rfl)]; exact laidMet_laidAll _ (by kernel_rfl) (by kernel_rfl))) ?_
  intro W base args ds gs before hval0 hW hsh hL
  have hval : ∀ (j : Nat) t v, Tryd.f5.params[j]? = some t → args[j]? = some v → Value.okWide Tryd.prog W .any base t v := hval0
  have hW' := hW
  obtain ⟨p, q, hA0, hV, rfl, hfz, hnd⟩ := hW
  have hA : DataW.TrodAll enc Tryd.prog W 0 (fun _ => true) true Tryd.f5.params.toList args.toList ds p := hA0
  have hV1 : DataW.TrodVars enc Tryd.prog W (fun _ => true) [] gs q := hV
  clear hV
  obtain ⟨rfl, rfl⟩ := trodVars_none hV1
  rw [Tryd.params5] at hA hval
  obtain ⟨v0, vs0, d0, ds0, p0, q0, hargs, rfl, rfl, h0, r0⟩ := trodAll_cons hA
  obtain ⟨rfl, rfl, rfl⟩ := trodAll_nil r0
  obtain rfl : args = #[v0] := by cases args; simp_all
  have k0 := h0
  have lt0 : ∀ x ∈ p0, x.block < W.heap.size := by obtain ⟨m, hm⟩ := k0; exact DataW.trod_lt m _ _ _ hm
  obtain ⟨a0, len0, cap0, rfl⟩ := okWide_slice Tryd.underlying22 (hval 0 22 v0 rfl rfl)
  have h0b := h0
  obtain ⟨z0, w0⟩ : ∃ zs, IsRow .u8 W a0 len0 cap0 zs := by
    obtain ⟨fuel, hf⟩ := h0b
    rcases open_ints Tryd.underlying22 Tryd.underlying5 (by kernel_rfl) hf with ⟨hcs, _⟩ | ⟨x, l, c, zs, hcs, _, hl, hm, hz, _, hcell, hwz⟩
    · simp [Value.cells] at hcs
      obtain ⟨rfl, rfl, rfl⟩ := hcs
      exact ⟨[], .inl ⟨rfl, rfl, rfl, rfl⟩⟩
    · simp [Value.cells] at hcs
      obtain ⟨rfl, rfl, rfl⟩ := hcs
      exact ⟨zs, .inr ⟨_, rfl, hl, hm, by simpa using hz, hcell, hwz⟩⟩
  have hlv := laid_vars (by kernel_rfl) hL
  have hm := mx_of_shaped hsh
  clear hA0 hval0
  refine (walk a0 len0 cap0 z0 W w0  hm).mono fun e W' ⟨he, bel⟩ => ?_
  subst he
  exact ⟨_, rfl, _, _, _, [], _, [], hW', trodAll_mk1 (shut_bool Tryd.underlying4 _), (trodAll_cons_mk (Below.trod laidOut (by kernel_rfl) (of_decide_eq_true (by kernel_rfl)) k0 bel lt0) trodAll_mk0), rfl, bel.frame _, fun h => by cases h⟩

theorem over : Rows.fnFieldsOfRow.holds Tryd.pinned (OpenSpec.ofChange Rows.fnFieldsOfSpec) :=
  OpenClaim.holds_of_wide 5 Tryd.f5 rfl rfl rfl rfl rfl rfl rfl ⟨rfl, rfl, rfl, rfl, rfl⟩ rfl rfl rfl rfl rfl (by kernel_rfl) Tryd.func5 (by kernel_rfl)
    (of_decide_eq_true (by kernel_rfl)) (by unfold Func.isWrapper; first | (rw [if_pos (by decide +kernel)]; kernel_rfl) | (rw [if_neg (by decide +kernel)]; exact ⟨rfl, rfl⟩))
    (fun os started H enc _ => lifted os started H enc)

theorem proved : Rows.FnFieldsOfCardSaid :=
  Claim7.holds_tied_plain_at .later [] [.data, .pinned] true (true, "fedccedac822d90a2a0aad532641127a99a3e79694b7978f8b319353a0145562") true over (fun _ h => by cases h) (by kernel_rfl) (fun _ h => by cases h) fnFieldsOf_row_tie rfl ⟨rfl, rfl⟩ (by kernel_rfl) rfl
    (fun f fn hf hfn => by
      obtain rfl : f = 5 := Option.some.inj ((show Tryd.prog.funcNamed "loop.example/zonefiles/laws.FnFieldsOf" = some 5 by kernel_rfl).symm.trans hf) |>.symm
      obtain rfl : fn = Tryd.f5 := (Option.some.inj (Tryd.func5.symm.trans hfn)).symm
      exact ⟨by kernel_rfl, fun j t ht => by
        rw [Tryd.params5] at ht
        have hm : t ∈ [22] := by simpa using Array.mem_of_getElem? ht
        have hall : ([22].all fun u => !Tryd.prog.wantsStandIn u) = true := by kernel_rfl
        exact (show Tryd.prog.wantsStandIn t = false by simpa using List.all_eq_true.1 hall t hm)⟩)
    (by kernel_rfl)
end Go.Proofs.YtgmmaehdpongcaaDoor.fnFieldsOf

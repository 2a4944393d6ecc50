/- For all lines, FieldsOf answers as the model does, and its answer owns its memory, where the tables are as the programs' texts lay them. -/
import Derived.Test.YtgmmaehdpongcaaDoorTie
import Derived.Test.YtgmmaehdpongcaaDoorCards
import Derived.Test.YtgmmaehdpongcaaDoorHb
import Derived.Test.YtgmmaehdpongcaaDoorTc
import Derived.Test.YtgmmaehdpongcaaDoorN
import Derived.Outline
namespace Go.Proofs.YtgmmaehdpongcaaDoor.fnExactFieldsOf
open Go.ChangeShapes Go.WideShapes Go.ChangeAt Go.RowKit
open Go.ChangeMaps (open_string shut_string)
set_option linter.unusedVariables false

theorem own : ownKnob Tryd.prog.godebug = none := by kernel_rfl
theorem laidOut : laidOutB Tryd.prog = true := by kernel_rfl
theorem FieldsOf_eq (s : ByteArray) (hs : s.size ≤ 67108860) (fs : List Z.Str) (b : Bool) (hfs : Hid ((Z.fields (lst s)).getD [] = fs)) (hb : Hid ((Z.fields (lst s)).isSome = b)) (w : World) :
    Calls Tryd.prog 24 #[.string s] w fun e w' => ∃ A q, e = .returned (.tuple #[.slice A fs.length q, .bool b]) ∧ w'.ownsRow w.heap.size 9 1 (.slice A fs.length q) fs.length (fs.map sv) ∧ Below w.heap.size w w' := by
  refine (FieldsOf_any s (by omega) w).mono ?_
  rintro e w' ⟨A, n, q, rfl, rfl, ho, hw⟩
  rw [hfs.out] at ho ⊢
  rw [hb.out]
  exact ⟨A, q, rfl, ho, hw⟩
theorem iFieldsOf_eq (s : ByteArray) (hs : s.size ≤ 67108860) (fs : List Z.Str) (b : Bool) (hfs : Hid ((Z.fields (lst s)).getD [] = fs)) (hb : Hid ((Z.fields (lst s)).isSome = b)) (w : World) (hm : MX w) :
    Calls Tryd.prog 23 #[.string s] w fun e w' => ∃ A q, e = .returned (.tuple #[.slice A fs.length q, .bool b]) ∧ w'.ownsRow w.heap.size 9 1 (.slice A fs.length q) fs.length (fs.map sv) ∧ Below w.heap.size w w' := by
  refine (iFieldsOf_any s hs w hm).mono ?_
  rintro e w' ⟨A, n, q, rfl, rfl, ho, hw⟩
  rw [hfs.out] at ho ⊢
  rw [hb.out]
  exact ⟨A, q, rfl, ho, hw⟩
theorem fields_count {s : ByteArray} : ((Z.fields (lst s)).getD []).length ≤ s.size := by
  cases h : Z.fields (lst s) with
  | none => exact Nat.zero_le _
  | some fs =>
    have := fieldsN_length _ _ _ h
    rwa [lst_length] at this
theorem eqStrS (xs : List Z.Str) (B : Nat) (A A2 : Option Addr) (c c2 : Nat) (w : World) (hr1 : Reads w B A xs.length (xs.map sv)) (hr2 : Reads w B A2 xs.length (xs.map sv)) (hx : xs.length ≤ 67108864) :
    Calls Tryd.prog 31 #[.slice A xs.length c, .slice A2 xs.length c2] w fun e w' => e = .returned (.bool true) ∧ ∃ q, w.drewN q = w' := by
  refine (eqStringS_any xs xs B A A2 _ _ c c2 w hr1 hr2 hx hx).mono ?_
  rintro e w' ⟨rfl, q, rfl⟩
  exact ⟨ret_bool (by simp), q, rfl⟩

set_option maxRecDepth 100000 in
set_option maxHeartbeats 2000000 in
theorem walk (a0 : ByteArray) (w0 : a0.size ≤ maxLen) (w : World) (hm : MX w) :
    Calls Tryd.prog 8 #[.string a0] w fun e w' => e = .returned (.bool true) ∧ Below w.heap.size w w' := by
  unfold maxLen at w0
  by_cases hb0 : a0.size ≤ 1048576
  · obtain ⟨fs, hfs⟩ : ∃ fs, (Z.fields (lst a0)).getD [] = fs := ⟨_, rfl⟩
    obtain ⟨b, hb⟩ : ∃ b, (Z.fields (lst a0)).isSome = b := ⟨_, rfl⟩
    have hcl : fs.length ≤ 1048576 := by rw [← hfs]; exact Nat.le_trans fields_count hb0
    have HFS := hid hfs
    have HB := hid hb
    clear hfs hb
    have hs1 : Since w.heap.size w w := Since.start w
    go_enter Tryd.func8, Tryd.ntmps8
    go_wp2_with fail
    refine (FieldsOf_eq a0 (by omega) fs b HFS HB _).mono ?_
    rintro e v1 ⟨A1, c1, rfl, hown1, hb1⟩
    have hs2 := hs1.next hb1
    go_wp2_with fail
    refine (iFieldsOf_eq a0 (by omega) fs b HFS HB _ (hm.below hs2.1)).mono ?_
    rintro e v2 ⟨A2, c2, rfl, hown2, hb2⟩
    have hs3 := hs2.next hb2
    have hr1 := (Reads.of_own hown1).below hb2 (Nat.le_refl _)
    have hr2 := Reads.of_own hown2
    have hv1 := hb2.size
    go_wp2_with fail
    refine (eqStrS fs _ A2 A1 c2 c1 v2 hr2 (hr1.more hb2.size) (by omega)).mono ?_
    rintro e v3 ⟨rfl, q1, rfl⟩
    go_wp2_with fail
    refine (markStringS_any _ v1.heap.size A2 _ c2 1 (v2.drewN q1) hown2 (by omega) (by omega)).mono ?_
    rintro e v4 ⟨rfl, hown4, hb4⟩
    have hs4 : Below w.heap.size w v4 := (below_drewN hs3.1 q1).trans (hb4.mono hs2.2)
    have hr1b := (Reads.of_own hown1).below (hb2.trans (below_drewN (Below.refl v1.heap.size v2) q1) |>.trans hb4) (Nat.le_refl _)
    have hv4 : v1.heap.size ≤ v4.heap.size := by have := hb4.size; simp at this; omega
    have hw4 : w.heap.size ≤ v4.heap.size := by have := hs2.2; omega
    clear hown2 hr1 hr2
    have hq0 : ¬ ((1 : Int) + (fs.length : Int)) < 0 := by omega
    go_wp2_with fail
    refine (heldStringS_any v1.heap.size A2 _ c2 1 v4 hown4 (by omega) (by omega)).mono ?_
    rintro e v5 ⟨rfl, hb5⟩
    have hs5 : Since w.heap.size w v5 := ⟨below2' hs4 hb5 hw4, by have := hb5.size; omega⟩
    have hr1c := hr1b.below hb5 hv4
    have hown5 := own_below hown4 hb5
    have hv5 := hb5.size
    clear hown4 hr1b
    go_wp2_with fail
    refine (iFieldsOf_eq a0 (by omega) fs b HFS HB _ (hm.below hs5.1)).mono ?_
    rintro e v6 ⟨A6, c6, rfl, hown6, hb6⟩
    have hs6 := hs5.next hb6
    have hr6 := Reads.of_own hown6
    have hr1d := hr1c.below hb6 (by omega)
    have hown7 := own_below hown5 hb6
    have hv6 := hb6.size
    clear hown5 hr1c
    go_wp2_with fail
    refine (eqStrS fs _ A6 A1 c6 c1 v6 hr6 (hr1d.more (by omega)) (by omega)).mono ?_
    rintro e v7 ⟨rfl, q2, rfl⟩
    go_wp2_with fail
    refine (heldStringS_any v1.heap.size A2 _ c2 1 (v6.drewN q2) hown7 (by omega) (by omega)).mono ?_
    rintro e v8 ⟨rfl, hb8⟩
    have hs8 := (hs6.drewN q2).next hb8
    go_wp2_with fail
    all_goals go_ret
    all_goals exact ⟨rfl, And.left (by assumption)⟩
  · go_enter Tryd.func8, Tryd.ntmps8
    go_wp2_with fail
    go_ret
    exact ⟨rfl, Below.refl _ _⟩

set_option maxRecDepth 100000 in
theorem lifted (os : Os) (started : os.Started) (H : Type) (enc : TypeId × Value → H) :
    ReturnsInHanded {} Tryd.checked os 8 .any (fun w args => (Rows.fnExactFieldsOfSpec.pre enc Tryd.prog Tryd.f8 Rows.fnExactFieldsOfRow.domain false w args ∧ laidMetH Tryd.prog [("unicode/utf8.acceptRanges", Rows.laid_unicode_utf8_acceptRanges), ("unicode/utf8.first", Rows.laid_unicode_utf8_first)] w) ∧ sizedMet enc Tryd.prog Tryd.f8 (OpenSpec.ofChange Rows.fnExactFieldsOfSpec) false w args)
      (Rows.fnExactFieldsOfSpec.post enc Tryd.prog Tryd.f8 false true false false) := by
  refine returnsInHanded_and_shaped (C := Tryd.checked) (X := fun w _ => laidMetH Tryd.prog [("unicode/utf8.acceptRanges", Rows.laid_unicode_utf8_acceptRanges), ("unicode/utf8.first", Rows.laid_unicode_utf8_first)] w) (fun _ _ _ hh h => h.of_heap hh) own started (by kernel_rfl) Tryd.func8
    (ChangeSpec.witness_shaped (enc := enc) (C := Tryd.checked) (os := os) (X := fun w _ => laidMetH Tryd.prog [("unicode/utf8.acceptRanges", Rows.laid_unicode_utf8_acceptRanges), ("unicode/utf8.first", Rows.laid_unicode_utf8_first)] w) false (World.laidAll Tryd.prog os [("unicode/utf8.acceptRanges", Rows.laid_unicode_utf8_acceptRanges), ("unicode/utf8.first", Rows.laid_unicode_utf8_first)]) #[.string ByteArray.empty] 8 (World.laidAll_os _ _ _)
      (World.shaped_of_ZipB (by kernel_rfl) (by kernel_rfl)) (by kernel_rfl) (by kernel_rfl) (by kernel_rfl)
      (by rw [MakeChecks.laidMetH_plain _ _ _ (by kernel_rfl)]; exact laidMet_laidAll _ (by kernel_rfl) (by kernel_rfl))) ?_
  intro W base args ds gs before hval0 hW hsh hL
  have hval : ∀ (j : Nat) t v, Tryd.f8.params[j]? = some t → args[j]? = some v → Value.okWide Tryd.prog W .any base t v := hval0
  have hW' := hW
  obtain ⟨p, q, hA0, hV, rfl, hfz, hnd⟩ := hW
  have hA : DataW.TrodAll enc Tryd.prog W 0 (fun _ => true) true Tryd.f8.params.toList args.toList ds p := hA0
  have hV1 : DataW.TrodVars enc Tryd.prog W (fun _ => true) [] gs q := hV
  clear hV
  obtain ⟨rfl, rfl⟩ := trodVars_none hV1
  rw [Tryd.params8] at hA hval
  obtain ⟨v0, vs0, d0, ds0, p0, q0, hargs, rfl, rfl, h0, r0⟩ := trodAll_cons hA
  obtain ⟨rfl, rfl, rfl⟩ := trodAll_nil r0
  obtain rfl : args = #[v0] := by cases args; simp_all
  have k0 := h0
  have lt0 : ∀ x ∈ p0, x.block < W.heap.size := by obtain ⟨m, hm⟩ := k0; exact DataW.trod_lt m _ _ _ hm
  obtain ⟨a0, rfl, e0, e0', w0⟩ := open_string Tryd.underlying9 (hval 0 9 v0 rfl rfl) h0
  have hlv := laid_vars (by kernel_rfl) hL
  have hm := mx_of_shaped hsh
  clear hA0 hval0
  refine (walk a0 w0 W   hm).mono fun e W' ⟨he, bel⟩ => ?_
  subst he
  exact ⟨_, rfl, _, _, _, [], _, [], hW', trodAll_mk1 (shut_bool Tryd.underlying4 _), (trodAll_cons_mk (Below.trod laidOut (by kernel_rfl) (of_decide_eq_true (by kernel_rfl)) k0 bel lt0) trodAll_mk0), rfl, bel.frame _, fun h => by cases h⟩

theorem over : Rows.fnExactFieldsOfRow.holds Tryd.pinned (OpenSpec.ofChange Rows.fnExactFieldsOfSpec) :=
  OpenClaim.holds_of_wide 8 Tryd.f8 rfl rfl rfl rfl rfl rfl rfl ⟨rfl, rfl, rfl, rfl, rfl⟩ rfl rfl rfl rfl rfl (by kernel_rfl) Tryd.func8 (by kernel_rfl)
    (of_decide_eq_true (by kernel_rfl)) (by unfold Func.isWrapper; first | (rw [if_pos (by decide +kernel)]; kernel_rfl) | (rw [if_neg (by decide +kernel)]; exact ⟨rfl, rfl⟩))
    (fun os started H enc _ => lifted os started H enc)

theorem proved : Rows.FnExactFieldsOfCardSaid :=
  Claim7.holds_tied_plain_at .later [] [.data, .pinned] true (true, "fedccedac822d90a2a0aad532641127a99a3e79694b7978f8b319353a0145562") true over (fun _ h => by cases h) (by kernel_rfl) (fun _ h => by cases h) fnExactFieldsOf_row_tie rfl ⟨rfl, rfl⟩ (by kernel_rfl) rfl
    (fun f fn hf hfn => by
      obtain rfl : f = 8 := Option.some.inj ((show Tryd.prog.funcNamed "loop.example/zonefiles/laws.FnExactFieldsOf" = some 8 by kernel_rfl).symm.trans hf) |>.symm
      obtain rfl : fn = Tryd.f8 := (Option.some.inj (Tryd.func8.symm.trans hfn)).symm
      exact ⟨by kernel_rfl, fun j t ht => by
        rw [Tryd.params8] at ht
        have hm : t ∈ [9] := by simpa using Array.mem_of_getElem? ht
        have hall : ([9].all fun u => !Tryd.prog.wantsStandIn u) = true := by kernel_rfl
        exact (show Tryd.prog.wantsStandIn t = false by simpa using List.all_eq_true.1 hall t hm)⟩)
    (by kernel_rfl)
end Go.Proofs.YtgmmaehdpongcaaDoor.fnExactFieldsOf

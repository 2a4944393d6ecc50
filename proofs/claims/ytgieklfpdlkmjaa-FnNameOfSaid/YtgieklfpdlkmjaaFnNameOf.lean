/- For every two inputs, a name that is drawn from the first one is made of its labels, and labels that are drawn from the second one are those of the name that is made of them. -/
import Derived.Test.YtgieklfpdlkmjaaRows
import Derived.Test.YtgieklfpdlkmjaaR
import Derived.WalkKit
import Derived.ProofKit
import Derived.OpenShut
import Derived.ShutString
import Derived.ChangeOld
import Derived.Below
namespace Go.Proofs.Ytgieklfpdlkmjaa.fnNameOf
open Go.ChangeShapes Go.WideShapes Go.ChangeAt Go.RowKit
open Go.ChangeMaps (open_string shut_string)
set_option linter.unusedVariables false

theorem own : ownKnob Try.prog.godebug = none := by kernel_rfl
theorem laidOut : laidOutB Try.prog = true := by kernel_rfl

theorem labels_piece (s : ByteArray) : ∀ l ∈ Z.labels (lst s), List.length l ≤ 60 := by
  intro l hl
  unfold Z.labels at hl
  split at hl
  · rename_i h
    have h1 := Z.labs_piece (lst s) l hl
    have h2 := (Z.valid_len h).2
    omega
  · cases hl
theorem joined_bound {L : Nat} {ls : List Z.Str} (h : ∀ l ∈ ls, List.length l ≤ L) : (Z.joined ls).length ≤ (L + 1) * ls.length := by
  induction ls with
  | nil => simp [Z.joined]
  | cons a r ih =>
    have h3 := h a (by simp)
    have h4 := ih (fun l hl => h l (by simp [hl]))
    rw [Z.joined_cons, List.length_append, List.length_cons, List.length_cons, Nat.mul_succ]
    omega
theorem own_plain {w : World} {base : Nat} {e : TypeId} {A : Option Addr} {n c : Nat} {xs : List Value} (h : w.ownsRow base e 1 (.slice A n c) n xs) : 0 < n → Plain w A := fun hn => by
  obtain ⟨g, cap, hv, _, hg⟩ := h.form hn
  injection hv with hA
  exact ⟨g, 0, hA, hg⟩

set_option maxHeartbeats 2000000 in
theorem walk (a0 : Option Addr) (len0 cap0 : Nat) (z0 : List Int) (a1 : Option Addr) (len1 cap1 : Nat) (z1 : List Int) (w : World) (w0 : IsRow .u8 w a0 len0 cap0 z0) (w1 : IsRow .u8 w a1 len1 cap1 z1) :
    Calls Try.prog 3 #[.slice a0 len0 cap0, .slice a1 len1 cap1] w fun e w' => e = .returned (.bool true) ∧ Below w.heap.size w w' := by
  have hc0 := row_cap w0
  have hc1 := row_cap w1
  unfold maxLen at hc0 hc1
  by_cases hb0 : len0 ≤ 1048576
  · by_cases hb1 : len1 ≤ 1048576
    · obtain ⟨zs0, rfl, hcode0⟩ := code_of_row w0 hb0
      obtain ⟨zs1, rfl, hcode1⟩ := code_of_row w1 hb1
      clear w0 w1
      go_enter Try.func3, Try.ntmps3
      go_wp2_with fail
      refine (DrawLabelsOf_any _ _ zs0 w hcode0).mono ?_
      rintro e v1 ⟨a, rfl, ha, hbv1⟩
      have hs1 : Since w.heap.size w v1 := (Since.start w).next hbv1
      have hcl := labels_count a
      have HLB : Hid (∀ l ∈ Z.labels (lst a), List.length l ≤ 67108864) := hid (fun l hl => by have := labels_piece a l hl; omega)
      cases hv : Z.valid (lst a) with
      | true =>
        have HN : Hid (Z.nameOf (Z.labels (lst a)) = some (lst a)) := hid (Z.nameOf_labels hv)
        go_wp2_with fail
        refine (iLabelsOf_any a (by unfold maxLen; omega) v1).mono ?_
        rintro e v3 ⟨A3, c3, rfl, hown3, hb3⟩
        have hs3 := hs1.next hb3
        go_wp2_with fail
        refine (LabelsOf_any a (by omega) v3).mono ?_
        rintro e v5 ⟨A5, c5, rfl, hown5, hb5⟩
        have hs5 := hs3.next hb5
        have hown3b := own_below hown3 hb5
        have hr3 := (Reads.of_own hown3).below hb5 (Nat.le_refl _)
        have hr5 := Reads.of_own hown5
        have hcap3 := (own_cap hown3).1
        go_wp2_with fail
        refine (zfTexts_any _ _ _ A3 A5 _ _ c3 c5 v5 (hr3.more hb5.size) hr5 (by omega) (by omega)).mono ?_
        rintro e v6 ⟨rfl, q6, rfl⟩
        have hs6 := hs5.drewN q6
        clear hown3 hown5 hr3 hr5
        go_wp2_with fail
        refine (iNameValid_any a (by unfold maxLen; omega) _).mono ?_
        rintro e v7 ⟨rfl, hb7⟩
        have hs7 := hs6.next hb7
        have hown7 := own_below (w := v5.drewN q6) hown3b hb7
        go_wp2_with fail
        refine (NameValid_any a (by unfold maxLen; omega) v7).mono ?_
        rintro e v8 ⟨rfl, hb8⟩
        have hs8 := hs7.next hb8
        have hown8 := own_below hown7 hb8
        have hpl8 := hid (own_plain hown8)
        clear hown7 hown3b hb7 hb8 hb3 hb5 hs3 hs5 hs6 hs7
        go_wp2_with fail
        refine (iNameOf_any (Z.labels (lst a)) v8.heap.size A3 _ c3 v8 (Reads.of_own hown8) (Nat.le_refl _) hpl8.out hcap3 (by omega) HLB.out).mono ?_
        rintro e v9 ⟨he9, hb9⟩
        rw [ret_rOpt_some HN.out] at he9
        subst he9
        have hs9 := hs8.next hb9
        clear hown8 hb9 hs8 hpl8
        go_wp2_with fail
        refine (DrawNameOf_any _ _ zs1 v9 (hcode1.since hs9)).mono ?_
        rintro e v10 ⟨A10, c10, ls, rfl, hown10, hl9, hle, hb10⟩
        have hs10 := hs9.next hb10
        have hlb : Hid (∀ l ∈ ls, List.length l ≤ 67108864) := hid (fun l hl => by have := hle.out l hl; omega)
        have hjl : Hid (ls.length ≤ 8 → (Z.joined ls).length ≤ 33554432) := hid (fun _ => by have := joined_bound (L := 12) hle.out; omega)
        have hcap10 := (own_cap hown10).1
        have hpl10 := hid (own_plain hown10)
        rcases opt_text (L := 60) (o := Z.nameOf ls) (fun x hx => nameOf_len hx) with m0 | ⟨x, m0, m1⟩
        · go_wp2_with fail
          refine (iNameOf_any ls v10.heap.size A10 _ c10 v10 (Reads.of_own hown10) (Nat.le_refl _) hpl10.out hcap10 (by omega) hlb.out).mono ?_
          rintro e v11 ⟨he11, hb11⟩
          rw [ret_rOpt_none m0] at he11
          subst he11
          have hs11 := hs10.next hb11
          have hown11 := own_below hown10 hb11
          go_wp2_with fail
          refine (NameOf_any ls v11.heap.size A10 _ c10 v11 (Reads.of_own hown11) (by omega) hjl.out).mono ?_
          rintro e v12 ⟨he12, hb12⟩
          rw [ret_rOpt_none m0] at he12
          subst he12
          have hs12 := hs11.next hb12
          go_wp2_with fail
          refine (i_NameValid a (by omega) hs12).mono ?_
          rintro e v13 ⟨rfl, hs13⟩
          go_wp2_with fail
          go_ret
          exact ⟨rfl, And.left (by assumption)⟩
        · have hlx : Hid (Z.labels (lst x) = ls) := hid (Z.labels_nameOf m0).2.1
          go_wp2_with fail
          refine (iNameOf_any ls v10.heap.size A10 _ c10 v10 (Reads.of_own hown10) (Nat.le_refl _) hpl10.out hcap10 (by omega) hlb.out).mono ?_
          rintro e v11 ⟨he11, hb11⟩
          rw [ret_rOpt_some m0] at he11
          subst he11
          have hs11 := hs10.next hb11
          have hown11 := own_below hown10 hb11
          go_wp2_with fail
          refine (NameOf_any ls v11.heap.size A10 _ c10 v11 (Reads.of_own hown11) (by omega) hjl.out).mono ?_
          rintro e v12 ⟨he12, hb12⟩
          rw [ret_rOpt_some m0] at he12
          subst he12
          have hs12 := hs11.next hb12
          have hown12 := own_below hown11 hb12
          go_wp2_with fail
          refine (iLabelsOf_any x (by unfold maxLen; omega) v12).mono ?_
          rintro e v13 ⟨A13, c13, he13, hown13, hb13⟩
          rw [hlx.out] at he13 hown13
          subst he13
          have hs13 := hs12.next hb13
          have hr13 := Reads.of_own hown13
          have hr12 := (Reads.of_own hown12).below hb13 (Nat.le_refl _)
          go_wp2_with fail
          refine (zfTexts_any ls ls _ A13 A10 _ _ c13 c10 v13 hr13 (hr12.more hb13.size) (by omega) (by omega)).mono ?_
          rintro e v14 ⟨rfl, q14, rfl⟩
          have hs14 := hs13.drewN q14
          go_wp2_with fail
          refine (i_NameValid a (by omega) hs14).mono ?_
          rintro e v15 ⟨rfl, hs15⟩
          go_wp2_with fail
          go_ret
          exact ⟨rfl, And.left (by assumption)⟩
      | false =>
        have HN : Hid (Z.nameOf (Z.labels (lst a)) = some (lst ⟨#[46]⟩)) := hid (by unfold Z.labels; rw [hv, if_neg (by decide)]; decide)
        go_wp2_with fail
        refine (iLabelsOf_any a (by unfold maxLen; omega) v1).mono ?_
        rintro e v3 ⟨A3, c3, rfl, hown3, hb3⟩
        have hs3 := hs1.next hb3
        go_wp2_with fail
        refine (LabelsOf_any a (by omega) v3).mono ?_
        rintro e v5 ⟨A5, c5, rfl, hown5, hb5⟩
        have hs5 := hs3.next hb5
        have hown3b := own_below hown3 hb5
        have hr3 := (Reads.of_own hown3).below hb5 (Nat.le_refl _)
        have hr5 := Reads.of_own hown5
        have hcap3 := (own_cap hown3).1
        go_wp2_with fail
        refine (zfTexts_any _ _ _ A3 A5 _ _ c3 c5 v5 (hr3.more hb5.size) hr5 (by omega) (by omega)).mono ?_
        rintro e v6 ⟨rfl, q6, rfl⟩
        have hs6 := hs5.drewN q6
        clear hown3 hown5 hr3 hr5
        go_wp2_with fail
        refine (iNameValid_any a (by unfold maxLen; omega) _).mono ?_
        rintro e v7 ⟨rfl, hb7⟩
        have hs7 := hs6.next hb7
        have hown7 := own_below (w := v5.drewN q6) hown3b hb7
        go_wp2_with fail
        refine (NameValid_any a (by unfold maxLen; omega) v7).mono ?_
        rintro e v8 ⟨rfl, hb8⟩
        have hs8 := hs7.next hb8
        have hown8 := own_below hown7 hb8
        have hpl8 := hid (own_plain hown8)
        clear hown7 hown3b hb7 hb8 hb3 hb5 hs3 hs5 hs6 hs7
        go_wp2_with fail
        refine (iNameOf_any (Z.labels (lst a)) v8.heap.size A3 _ c3 v8 (Reads.of_own hown8) (Nat.le_refl _) hpl8.out hcap3 (by omega) HLB.out).mono ?_
        rintro e v9 ⟨he9, hb9⟩
        rw [ret_rOpt_some HN.out] at he9
        subst he9
        have hs9 := hs8.next hb9
        clear hown8 hb9 hs8 hpl8
        go_wp2_with fail
        refine (DrawNameOf_any _ _ zs1 v9 (hcode1.since hs9)).mono ?_
        rintro e v10 ⟨A10, c10, ls, rfl, hown10, hl9, hle, hb10⟩
        have hs10 := hs9.next hb10
        have hlb : Hid (∀ l ∈ ls, List.length l ≤ 67108864) := hid (fun l hl => by have := hle.out l hl; omega)
        have hjl : Hid (ls.length ≤ 8 → (Z.joined ls).length ≤ 33554432) := hid (fun _ => by have := joined_bound (L := 12) hle.out; omega)
        have hcap10 := (own_cap hown10).1
        have hpl10 := hid (own_plain hown10)
        rcases opt_text (L := 60) (o := Z.nameOf ls) (fun x hx => nameOf_len hx) with m0 | ⟨x, m0, m1⟩
        · go_wp2_with fail
          refine (iNameOf_any ls v10.heap.size A10 _ c10 v10 (Reads.of_own hown10) (Nat.le_refl _) hpl10.out hcap10 (by omega) hlb.out).mono ?_
          rintro e v11 ⟨he11, hb11⟩
          rw [ret_rOpt_none m0] at he11
          subst he11
          have hs11 := hs10.next hb11
          have hown11 := own_below hown10 hb11
          go_wp2_with fail
          refine (NameOf_any ls v11.heap.size A10 _ c10 v11 (Reads.of_own hown11) (by omega) hjl.out).mono ?_
          rintro e v12 ⟨he12, hb12⟩
          rw [ret_rOpt_none m0] at he12
          subst he12
          have hs12 := hs11.next hb12
          go_wp2_with fail
          refine (i_NameValid a (by omega) hs12).mono ?_
          rintro e v13 ⟨rfl, hs13⟩
          go_wp2_with fail
          go_ret
          exact ⟨rfl, And.left (by assumption)⟩
        · have hlx : Hid (Z.labels (lst x) = ls) := hid (Z.labels_nameOf m0).2.1
          go_wp2_with fail
          refine (iNameOf_any ls v10.heap.size A10 _ c10 v10 (Reads.of_own hown10) (Nat.le_refl _) hpl10.out hcap10 (by omega) hlb.out).mono ?_
          rintro e v11 ⟨he11, hb11⟩
          rw [ret_rOpt_some m0] at he11
          subst he11
          have hs11 := hs10.next hb11
          have hown11 := own_below hown10 hb11
          go_wp2_with fail
          refine (NameOf_any ls v11.heap.size A10 _ c10 v11 (Reads.of_own hown11) (by omega) hjl.out).mono ?_
          rintro e v12 ⟨he12, hb12⟩
          rw [ret_rOpt_some m0] at he12
          subst he12
          have hs12 := hs11.next hb12
          have hown12 := own_below hown11 hb12
          go_wp2_with fail
          refine (iLabelsOf_any x (by unfold maxLen; omega) v12).mono ?_
          rintro e v13 ⟨A13, c13, he13, hown13, hb13⟩
          rw [hlx.out] at he13 hown13
          subst he13
          have hs13 := hs12.next hb13
          have hr13 := Reads.of_own hown13
          have hr12 := (Reads.of_own hown12).below hb13 (Nat.le_refl _)
          go_wp2_with fail
          refine (zfTexts_any ls ls _ A13 A10 _ _ c13 c10 v13 hr13 (hr12.more hb13.size) (by omega) (by omega)).mono ?_
          rintro e v14 ⟨rfl, q14, rfl⟩
          have hs14 := hs13.drewN q14
          go_wp2_with fail
          refine (i_NameValid a (by omega) hs14).mono ?_
          rintro e v15 ⟨rfl, hs15⟩
          go_wp2_with fail
          go_ret
          exact ⟨rfl, And.left (by assumption)⟩
    · go_enter Try.func3, Try.ntmps3
      go_wp2_with fail
      go_ret
      exact ⟨rfl, Below.refl _ _⟩
  · go_enter Try.func3, Try.ntmps3
    go_wp2_with fail
    go_ret
    exact ⟨rfl, Below.refl _ _⟩

set_option maxRecDepth 100000 in
theorem lifted (os : Os) (started : os.Started) (H : Type) (enc : TypeId × Value → H) :
    ReturnsInHanded {} Try.checked os 3 .any (Rows.fnNameOfSpec.pre6 enc Try.prog Try.f3 Rows.fnNameOfRow.domain false) (Rows.fnNameOfSpec.post enc Try.prog Try.f3 false true false false) := by
  refine returnsInHanded_of_change (C := Try.checked) own started (by kernel_rfl) Try.func3
    (ChangeSpec.witness6 (enc := enc) (C := Try.checked) false ⟨#[], #[.slice none 0 0, .slice none 0 0], []⟩ 8 (by kernel_rfl) (by kernel_rfl) (by kernel_rfl) (by kernel_rfl)) ?_
  intro W base args ds gs before hval0 hW hcnd _
  have hval : ∀ (j : Nat) t v, Try.f3.params[j]? = some t → args[j]? = some v → Value.okWide Try.prog W .any base t v := hval0
  have hW' := hW
  obtain ⟨p, q, hA0, hV, rfl, hfz, hnd⟩ := hW
  have hA : DataW.TrodAll enc Try.prog W 0 (fun _ => true) true Try.f3.params.toList args.toList ds p := hA0
  rw [Try.params3] at hA hval
  obtain ⟨v0, vs0, d0, ds0, p0, q0, hargs, rfl, rfl, h0, r0⟩ := trodAll_cons hA
  obtain ⟨v1, vs1, d1, ds1, p1, q1, rfl, rfl, rfl, h1, r1⟩ := trodAll_cons r0
  obtain ⟨rfl, rfl, rfl⟩ := trodAll_nil r1
  obtain rfl : args = #[v0, v1] := by cases args; simp_all
  obtain ⟨rfl, rfl⟩ := trodVars_none hV
  obtain ⟨a0, len0, cap0, rfl⟩ := okWide_slice Try.underlying22 (hval 0 22 v0 rfl rfl)
  have k0 := h0
  have lt0 : ∀ x ∈ p0, x.block < W.heap.size := by obtain ⟨m, hm⟩ := k0; exact DataW.trod_lt m _ _ _ hm
  obtain ⟨z0, w0⟩ : ∃ zs, IsRow .u8 W a0 len0 cap0 zs := by
    obtain ⟨fuel, hf⟩ := h0
    rcases open_ints Try.underlying22 Try.underlying5 (by kernel_rfl) hf with ⟨hcs, _⟩ | ⟨x, l, c, zs, hcs, _, hl, hm, hz, _, hcell, hwz⟩
    · simp [Value.cells] at hcs
      obtain ⟨rfl, rfl, rfl⟩ := hcs
      exact ⟨[], .inl ⟨rfl, rfl, rfl, rfl⟩⟩
    · simp [Value.cells] at hcs
      obtain ⟨rfl, rfl, rfl⟩ := hcs
      exact ⟨zs, .inr ⟨_, rfl, hl, hm, by simpa using hz, hcell, hwz⟩⟩
  obtain ⟨a1, len1, cap1, rfl⟩ := okWide_slice Try.underlying22 (hval 1 22 v1 rfl rfl)
  have k1 := h1
  have lt1 : ∀ x ∈ p1, x.block < W.heap.size := by obtain ⟨m, hm⟩ := k1; exact DataW.trod_lt m _ _ _ hm
  obtain ⟨z1, w1⟩ : ∃ zs, IsRow .u8 W a1 len1 cap1 zs := by
    obtain ⟨fuel, hf⟩ := h1
    rcases open_ints Try.underlying22 Try.underlying5 (by kernel_rfl) hf with ⟨hcs, _⟩ | ⟨x, l, c, zs, hcs, _, hl, hm, hz, _, hcell, hwz⟩
    · simp [Value.cells] at hcs
      obtain ⟨rfl, rfl, rfl⟩ := hcs
      exact ⟨[], .inl ⟨rfl, rfl, rfl, rfl⟩⟩
    · simp [Value.cells] at hcs
      obtain ⟨rfl, rfl, rfl⟩ := hcs
      exact ⟨zs, .inr ⟨_, rfl, hl, hm, by simpa using hz, hcell, hwz⟩⟩
  clear hA0 hval0
  refine (walk a0 len0 cap0 z0 a1 len1 cap1 z1 W w0 w1).mono fun e W' ⟨he, bel⟩ => ?_
  subst he
  exact ⟨_, rfl, _, _, _, [], _, [], hW', trodAll_mk1 (shut_bool Try.underlying4 _), (trodAll_cons_mk (Below.trod laidOut (by kernel_rfl) (of_decide_eq_true (by kernel_rfl)) k0 bel lt0) (trodAll_cons_mk (Below.trod laidOut (by kernel_rfl) (of_decide_eq_true (by kernel_rfl)) k1 bel lt1) trodAll_mk0)), rfl, bel.frame _, fun h => by cases h⟩

theorem over : Rows.fnNameOfRow.holds Try.pinned (OpenSpec.ofChange Rows.fnNameOfSpec) :=
  OpenClaim.holds_of_wide 3 Try.f3 rfl rfl rfl rfl rfl rfl rfl ⟨rfl, rfl, rfl, rfl, rfl⟩ rfl rfl rfl rfl rfl (by kernel_rfl) Try.func3 (by kernel_rfl)
    (of_decide_eq_true (by kernel_rfl)) (by unfold Func.isWrapper; first | (rw [if_pos (by decide +kernel)]; kernel_rfl) | (rw [if_neg (by decide +kernel)]; exact ⟨rfl, rfl⟩))
    (fun os started H enc _ => lifted os started H enc)

theorem proved : Rows.FnNameOfSaid := over
end Go.Proofs.Ytgieklfpdlkmjaa.fnNameOf

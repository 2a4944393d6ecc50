/- For every input, the labels of a valid name that is drawn from it are short, and there are few. -/
import Derived.Test.YtgieklfpdlkmjaaRows
import Derived.Test.YtgieklfpdlkmjaaA
import Derived.WalkKit
import Derived.ProofKit
import Derived.OpenShut
import Derived.ShutString
import Derived.ChangeOld
import Derived.Below
namespace Go.Proofs.Ytgieklfpdlkmjaa.fnNameLabels
open Go.ChangeShapes Go.WideShapes Go.ChangeAt Go.RowKit
open Go.ChangeMaps (open_string shut_string)
set_option linter.unusedVariables false

theorem own : ownKnob Try.prog.godebug = none := by kernel_rfl
theorem laidOut : laidOutB Try.prog = true := by kernel_rfl

set_option maxHeartbeats 2000000 in
theorem walk (a0 : Option Addr) (len0 cap0 : Nat) (z0 : List Int) (w : World) (w0 : IsRow .u8 w a0 len0 cap0 z0) :
    Calls Try.prog 14 #[.slice a0 len0 cap0] w fun e w' => e = .returned (.bool true) ∧ Below w.heap.size w w' := by
  have hc0 := row_cap w0
  unfold maxLen at hc0
  by_cases hb0 : len0 ≤ 1048576
  · obtain ⟨zs0, rfl, hcode0⟩ := code_of_row w0 hb0
    clear w0
    go_enter Try.func14, Try.ntmps14
    go_wp2_with fail
    refine (DrawNameValid_any _ _ zs0 w hcode0).mono ?_
    rintro e v1 ⟨a, rfl, ha, hbv1⟩
    have hs1 : Since w.heap.size w v1 := (Since.start w).next hbv1
    have hcl := labels_count a
    cases hv : Z.valid (lst a) with
    | false =>
      have hl0 : Z.labels (lst a) = [] := by unfold Z.labels; rw [hv]; rfl
      have hl1 : Hid ((Z.labels (lst a)).length = 0) := hid (by rw [hl0]; rfl)
      clear hl0
      go_wp2_with fail
      refine (iNameValid_any a (by unfold maxLen; omega) v1).mono ?_
      rintro e v2 ⟨rfl, hb2⟩
      have hs2 := hs1.next hb2
      go_wp2_with fail
      refine (iLabelsOf_any a (by unfold maxLen; omega) v2).mono ?_
      rintro e v3 ⟨A3, c3, rfl, hown3, hb3⟩
      have hs3 := hs2.next hb3
      go_wp2_with fail
      refine (NameValid_any a (by unfold maxLen; omega) v3).mono ?_
      rintro e v4 ⟨rfl, hb4⟩
      have hs4 := hs3.next hb4
      have hown4 := own_below hown3 hb4
      go_wp2_with fail
      refine (LabelsOf_any a (by omega) v4).mono ?_
      rintro e v5 ⟨A5, c5, rfl, hown5, hb5⟩
      have hs5 := hs4.next hb5
      have hr3 := (Reads.of_own hown4).below hb5 (Nat.le_refl _)
      have hr5 := Reads.of_own hown5
      have hv5 := hb5.size
      clear hown3 hown4 hown5 hs2 hs3 hs4 hb2 hb3 hb4 hb5
      go_wp2_with fail
      refine (zfTexts_any _ _ _ A3 A5 _ _ c3 c5 v5 (hr3.more hv5) hr5 (by omega) (by omega)).mono ?_
      rintro e v6 ⟨rfl, q6, rfl⟩
      have hs6 := hs5.drewN q6
      clear hs5 hr5
      have hl2 := hl1.out
      go_wp2_with fail
      refine (NameValid_any a (by unfold maxLen; omega) _).mono ?_
      rintro e v7 ⟨rfl, hb7⟩
      go_wp2_with fail
      go_ret
      exact ⟨rfl, (hs6.next hb7).1⟩
    | true =>
      have hok := Z.valid_iff.1 hv
      have h8 : (Z.labels (lst a)).length ≤ 8 := by rw [labels_valid hv]; exact hok.2.2.2.2
      have h60 : a.size ≤ 60 := by rw [← lst_length]; exact hok.2.1
      have hpos := Z.okLabs_pos hok.2.2.2.1
      rw [← labels_valid hv] at hpos
      have HP := hid hpos
      have hsum := Z.name_sum hv
      rw [← labels_valid hv, lst_length] at hsum
      have HS := hid hsum
      clear hok hpos hsum
      go_wp2_with fail
      refine (iNameValid_any a (by unfold maxLen; omega) v1).mono ?_
      rintro e v2 ⟨rfl, hb2⟩
      have hs2 := hs1.next hb2
      go_wp2_with fail
      refine (iLabelsOf_any a (by unfold maxLen; omega) v2).mono ?_
      rintro e v3 ⟨A3, c3, rfl, hown3, hb3⟩
      have hs3 := hs2.next hb3
      go_wp2_with fail
      refine (NameValid_any a (by unfold maxLen; omega) v3).mono ?_
      rintro e v4 ⟨rfl, hb4⟩
      have hs4 := hs3.next hb4
      have hown4 := own_below hown3 hb4
      go_wp2_with fail
      refine (LabelsOf_any a (by omega) v4).mono ?_
      rintro e v5 ⟨A5, c5, rfl, hown5, hb5⟩
      have hs5 := hs4.next hb5
      have hr3 := (Reads.of_own hown4).below hb5 (Nat.le_refl _)
      have hr5 := Reads.of_own hown5
      have hv5 := hb5.size
      clear hown3 hown4 hown5 hs2 hs3 hs4 hb2 hb3 hb4 hb5
      go_wp2_with fail
      refine (zfTexts_any _ _ _ A3 A5 _ _ c3 c5 v5 (hr3.more hv5) hr5 (by omega) (by omega)).mono ?_
      rintro e v6 ⟨rfl, q6, rfl⟩
      have hs6 := hs5.drewN q6
      clear hs5 hr5
      go_wp2_with fail
      go_loop [6, 7] (fun sm i => ∃ (k t : Nat), k ≤ (Z.labels (lst a)).length ∧ i = .int .i64 k ∧ sm = .int .i64 (t : Int) ∧ t ≤ 11 * k ∧ Hid (t = (((Z.labels (lst a)).take k).map (fun l => l.length + 1)).sum)) (fun _ i => (Z.labels (lst a)).length - (intOf i).toNat)
      case atStart => exact ⟨0, 0, Nat.zero_le _, rfl, rfl, by omega, hid (by simp)⟩
      case round =>
        obtain ⟨k, t, hk, rfl, rfl, ht, hts⟩ := hrel
        by_cases hlt : k < (Z.labels (lst a)).length
        · obtain ⟨ad, x, rfl, hab, hx, hcell⟩ := reads_str hr3 hlt
          have hxm : lst x ∈ Z.labels (lst a) := by rw [hx]; simp [hlt]
          have hxl := HP.out _ hxm
          rw [lst_length] at hxl
          have hts2 : Hid (t + x.size + 1 = (((Z.labels (lst a)).take (k + 1)).map (fun l => l.length + 1)).sum) := hid (by
            have e : (Z.labels (lst a)).getD k [] = (Z.labels (lst a))[k] := by simp [hlt]
            rw [e] at hx
            rw [List.take_succ_eq_append_getElem hlt, List.map_append, List.sum_append, ← hts.out, ← hx]
            simp [lst_length]; omega)
          have hcell0 : k = 0 → v5.cell? ad = some (.string x) := fun e => by subst e; simpa [Addr.add] using hcell
          clear hx hxm
          go_wp2_with fail
          all_goals exact ⟨⟨k + 1, t + x.size + 1, by omega, by go_num, by go_num, by omega, hts2⟩, by simp [intOf]; omega⟩
        · have hsz : Hid ((t : Int) = (a.size : Int) ∨ lst a = [46]) := hid (by
            have e : (Z.labels (lst a)).take k = Z.labels (lst a) := List.take_of_length_le (by omega)
            have h1 := hts.out
            rw [e] at h1
            rcases HS.out with h2 | h2
            · left; omega
            · right; exact h2)
          by_cases hq : (t : Int) = (a.size : Int)
          · have hq1 : ((t : Int) == (a.size : Int)) = true := by rw [beq_iff_eq]; exact hq
            clear hq
            go_wp2_with fail
            go_ret
            exact ⟨rfl, hs6.1⟩
          · have hq1 : ((t : Int) == (a.size : Int)) = false := by rw [beq_eq_false_iff_ne]; exact hq
            have hq2 : (a.toList == [46]) = true := by
              rw [root_iff]
              rcases hsz.out with h | h
              · exact absurd h hq
              · simp [h]
            clear hq
            go_wp2_with fail
            go_ret
            exact ⟨rfl, hs6.1⟩
  · go_enter Try.func14, Try.ntmps14
    go_wp2_with fail
    go_ret
    exact ⟨rfl, Below.refl _ _⟩

set_option maxRecDepth 100000 in
theorem lifted (os : Os) (started : os.Started) (H : Type) (enc : TypeId × Value → H) :
    ReturnsInHanded {} Try.checked os 14 .any (Rows.fnNameLabelsSpec.pre6 enc Try.prog Try.f14 Rows.fnNameLabelsRow.domain false) (Rows.fnNameLabelsSpec.post enc Try.prog Try.f14 false true false false) := by
  refine returnsInHanded_of_change (C := Try.checked) own started (by kernel_rfl) Try.func14
    (ChangeSpec.witness6 (enc := enc) (C := Try.checked) false ⟨#[], #[.slice none 0 0], []⟩ 8 (by kernel_rfl) (by kernel_rfl) (by kernel_rfl) (by kernel_rfl)) ?_
  intro W base args ds gs before hval0 hW hcnd _
  have hval : ∀ (j : Nat) t v, Try.f14.params[j]? = some t → args[j]? = some v → Value.okWide Try.prog W .any base t v := hval0
  have hW' := hW
  obtain ⟨p, q, hA0, hV, rfl, hfz, hnd⟩ := hW
  have hA : DataW.TrodAll enc Try.prog W 0 (fun _ => true) true Try.f14.params.toList args.toList ds p := hA0
  rw [Try.params14] at hA hval
  obtain ⟨v0, vs0, d0, ds0, p0, q0, hargs, rfl, rfl, h0, r0⟩ := trodAll_cons hA
  obtain ⟨rfl, rfl, rfl⟩ := trodAll_nil r0
  obtain rfl : args = #[v0] := by cases args; simp_all
  obtain ⟨rfl, rfl⟩ := trodVars_none hV
  obtain ⟨a0, len0, cap0, rfl⟩ := okWide_slice Try.underlying22 (hval 0 22 v0 rfl rfl)
  have k0 := h0
  have lt0 : ∀ x ∈ p0, x.block < W.heap.size := by obtain ⟨m, hm⟩ := k0; exact DataW.trod_lt m _ _ _ hm
  obtain ⟨z0, w0⟩ : ∃ zs, IsRow .u8 W a0 len0 cap0 zs := by
    obtain ⟨fuel, hf⟩ := h0
    rcases open_ints Try.underlying22 Try.underlying5 (by kernel_rfl) hf with ⟨hcs, _⟩ | ⟨x, l, c, zs, hcs, _, hl, hm, hz, _, hcell, hwz⟩
    · simp [Value.cells] at hcs
      obtain ⟨rfl, rfl, rfl⟩ := hcs
      exact ⟨[], .inl ⟨rfl, rfl, rfl, rfl⟩⟩
    · simp [Value.cells] at hcs
      obtain ⟨rfl, rfl, rfl⟩ := hcs
      exact ⟨zs, .inr ⟨_, rfl, hl, hm, by simpa using hz, hcell, hwz⟩⟩
  clear hA0 hval0
  refine (walk a0 len0 cap0 z0 W w0).mono fun e W' ⟨he, bel⟩ => ?_
  subst he
  exact ⟨_, rfl, _, _, _, [], _, [], hW', trodAll_mk1 (shut_bool Try.underlying4 _), (trodAll_cons_mk (Below.trod laidOut (by kernel_rfl) (of_decide_eq_true (by kernel_rfl)) k0 bel lt0) trodAll_mk0), rfl, bel.frame _, fun h => by cases h⟩

theorem over : Rows.fnNameLabelsRow.holds Try.pinned (OpenSpec.ofChange Rows.fnNameLabelsSpec) :=
  OpenClaim.holds_of_wide 14 Try.f14 rfl rfl rfl rfl rfl rfl rfl ⟨rfl, rfl, rfl, rfl, rfl⟩ rfl rfl rfl rfl rfl (by kernel_rfl) Try.func14 (by kernel_rfl)
    (of_decide_eq_true (by kernel_rfl)) (by unfold Func.isWrapper; first | (rw [if_pos (by decide +kernel)]; kernel_rfl) | (rw [if_neg (by decide +kernel)]; exact ⟨rfl, rfl⟩))
    (fun os started H enc _ => lifted os started H enc)

theorem proved : Rows.FnNameLabelsSaid := over
end Go.Proofs.Ytgieklfpdlkmjaa.fnNameLabels

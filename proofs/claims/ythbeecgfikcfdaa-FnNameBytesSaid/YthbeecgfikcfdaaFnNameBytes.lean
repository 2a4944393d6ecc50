/- For every input, the bytes of a name that is drawn from it are as many as its letters and one more, and the last is 0; they are the model's. -/
import Derived.Test.YthbeecgfikcfdaaRows
import Derived.Test.YthbeecgfikcfdaaKc
import Derived.WalkKit
import Derived.ProofKit
import Derived.OpenShut
import Derived.ShutString
import Derived.ChangeOld
import Derived.Below
namespace Go.Proofs.Ythbeecgfikcfdaa.fnNameBytes
open Go.ChangeShapes Go.WideShapes Go.ChangeAt Go.RowKit
open Go.ChangeMaps (open_string shut_string)
set_option linter.unusedVariables false

theorem own : ownKnob Try.prog.godebug = none := by kernel_rfl
theorem laidOut : laidOutB Try.prog = true := by kernel_rfl

set_option maxHeartbeats 2000000 in
theorem walk (a0 : Option Addr) (len0 cap0 : Nat) (z0 : List Int) (w : World) (w0 : IsRow .u8 w a0 len0 cap0 z0) :
    Calls Try.prog 4 #[.slice a0 len0 cap0] w fun e w' => e = .returned (.bool true) ∧ Below w.heap.size w w' := by
  have hc0 := row_cap w0
  unfold maxLen at hc0
  by_cases hb0 : len0 ≤ 1048576
  · obtain ⟨zs0, rfl, hcode0⟩ := code_of_row w0 hb0
    clear w0
    go_enter Try.func4, Try.ntmps4
    go_wp2_with fail
    refine (DrawPackName_any _ _ zs0 w hcode0).mono ?_
    rintro e v1 ⟨a, rfl, ha, hbv1⟩
    obtain ⟨xs, hx0⟩ : ∃ xs, packOut (lst a) = xs := ⟨_, rfl⟩
    obtain ⟨n, hn0⟩ : ∃ n, xs.length = n := ⟨_, rfl⟩
    have HX := hid hx0
    have HN := hid hn0
    cases hv : Z.valid (lst a) with
    | false =>
      have HV := hid hv
      clear hx0 hn0 hv
      go_wp2_with fail
      refine (iPackName_v a xs n false HX HN HV (by omega) _).mono ?_
      rintro e v2 ⟨A2, c2, rfl, hown2, hb2⟩
      go_wp2_with fail
      refine (PackName_v a xs n false HX HN HV (by omega) _).mono ?_
      rintro e v3 ⟨A3, c3, rfl, hown3, hb3⟩
      have hown4 := own_next hown2 hb3
      have hb4 := (hbv1.trans (hb2.mono hbv1.size)).trans (hb3.mono (by have := hbv1.size; have := hb2.size; omega))
      have q1 := conv_own Try.underlying22 Try.underlying5 Try.underlying9 hown4
      have q2 := conv_own Try.underlying22 Try.underlying5 Try.underlying9 hown3
      clear hown2 hown3 hown4
      go_wp2_with fail
      all_goals go_ret
      all_goals exact ⟨rfl, hb4⟩
    | true =>
      obtain ⟨ys, hys⟩ := packOut_last hv
      rw [hx0] at hys
      have hlen := packOut_length hv
      rw [hx0, hn0, lst_length] at hlen
      have HYS := hid hys
      have HV := hid hv
      clear hx0 hn0 hys hv
      by_cases hr : lst a = [46]
      · rw [if_pos hr] at hlen
        have hq : (a.toList == [46]) = true := by rw [root_iff]; simpa using hr
        obtain ⟨m, hm⟩ : ∃ m : Nat, m = 0 := ⟨0, rfl⟩
        have hnm : n = m + 1 := by omega
        subst hlen
        have hm0 : m = 0 := hm
        clear hr hnm hm
        subst hm0
        go_wp2_with fail
        refine (iPackName_v a xs 1 true HX HN HV (by omega) _).mono ?_
        rintro e v2 ⟨A2, c2, rfl, hown2, hb2⟩
        go_wp2_with fail
        refine (PackName_v a xs 1 true HX HN HV (by omega) _).mono ?_
        rintro e v3 ⟨A3, c3, rfl, hown3, hb3⟩
        have hown4 := own_next hown2 hb3
        have hb4 := (hbv1.trans (hb2.mono hbv1.size)).trans (hb3.mono (by have := hbv1.size; have := hb2.size; omega))
        have q1 := conv_own Try.underlying22 Try.underlying5 Try.underlying9 hown4
        have q2 := conv_own Try.underlying22 Try.underlying5 Try.underlying9 hown3
        obtain ⟨g, cap, hvv, hbg, hgl⟩ := hown4.form (by omega)
        injection hvv with hA _ hC
        subst hA
        subst hC
        have hc5 : v3.cell? ⟨g, 0, none⟩ = some (.int .u8 0) := by
          rw [hown4.cellAt 0 (by omega), HYS.out, List.getElem?_map]
          have : (ys ++ [(0 : UInt8)])[0]? = some 0 := by
            have h9 := HN.out
            rw [HYS.out, List.length_append, List.length_singleton] at h9
            rw [List.getElem?_append_right (by omega), show 0 - ys.length = 0 by omega]
            rfl
          rw [this]
          rfl
        clear hown2 hown3 hown4
        go_wp2_with fail
        all_goals go_ret
        all_goals exact ⟨rfl, hb4⟩
      · rw [if_neg hr] at hlen
        have hq : (a.toList == [46]) = false := by rw [root_iff]; simpa using hr
        obtain ⟨m, hm⟩ : ∃ m : Nat, m = a.size := ⟨_, rfl⟩
        have hw1 : IntKind.i64.wrap ((n : Int) - 1) = (m : Int) := by rw [IntWalk.i64_in _ (by omega)]; omega
        have hw2 : (n : Int) - 1 = (m : Int) := by omega
        have hw3 : (a.size : Int) + 1 = (n : Int) := by omega
        have hm0 : 0 ≤ (m : Int) := by omega
        have hm1 : (m : Int) < n := by omega
        have HM := hid hm
        have HL := hid hlen
        clear hr hlen hm
        go_wp2_with fail
        refine (iPackName_v a xs n true HX HN HV (by omega) _).mono ?_
        rintro e v2 ⟨A2, c2, rfl, hown2, hb2⟩
        go_wp2_with fail
        refine (PackName_v a xs n true HX HN HV (by omega) _).mono ?_
        rintro e v3 ⟨A3, c3, rfl, hown3, hb3⟩
        have hown4 := own_next hown2 hb3
        have hb4 := (hbv1.trans (hb2.mono hbv1.size)).trans (hb3.mono (by have := hbv1.size; have := hb2.size; omega))
        have q1 := conv_own Try.underlying22 Try.underlying5 Try.underlying9 hown4
        have q2 := conv_own Try.underlying22 Try.underlying5 Try.underlying9 hown3
        obtain ⟨g, cap, hvv, hbg, hgl⟩ := hown4.form (by have := HL.out; omega)
        injection hvv with hA _ hC
        subst hA
        subst hC
        have hc5 : v3.cell? ⟨g, m, none⟩ = some (.int .u8 0) := by
          rw [hown4.cellAt m (by have := HL.out; have := HM.out; omega), HYS.out, List.getElem?_map]
          have : (ys ++ [(0 : UInt8)])[m]? = some 0 := by
            have h9 := HN.out
            rw [HYS.out, List.length_append, List.length_singleton] at h9
            rw [List.getElem?_append_right (by omega), show m - ys.length = 0 by omega]
            rfl
          rw [this]
          rfl
        clear hown2 hown3 hown4
        go_wp2_with fail
        all_goals go_ret
        all_goals exact ⟨rfl, hb4⟩
  · go_enter Try.func4, Try.ntmps4
    go_wp2_with fail
    go_ret
    exact ⟨rfl, Below.refl _ _⟩

set_option maxRecDepth 100000 in
theorem lifted (os : Os) (started : os.Started) (H : Type) (enc : TypeId × Value → H) :
    ReturnsInHanded {} Try.checked os 4 .any (Rows.fnNameBytesSpec.pre6 enc Try.prog Try.f4 Rows.fnNameBytesRow.domain false) (Rows.fnNameBytesSpec.post enc Try.prog Try.f4 false true false false) := by
  refine returnsInHanded_of_change (C := Try.checked) own started (by kernel_rfl) Try.func4
    (ChangeSpec.witness6 (enc := enc) (C := Try.checked) false ⟨#[], #[.slice none 0 0], []⟩ 8 (by kernel_rfl) (by kernel_rfl) (by kernel_rfl) (by kernel_rfl)) ?_
  intro W base args ds gs before hval0 hW hcnd _
  have hval : ∀ (j : Nat) t v, Try.f4.params[j]? = some t → args[j]? = some v → Value.okWide Try.prog W .any base t v := hval0
  have hW' := hW
  obtain ⟨p, q, hA0, hV, rfl, hfz, hnd⟩ := hW
  have hA : DataW.TrodAll enc Try.prog W 0 (fun _ => true) true Try.f4.params.toList args.toList ds p := hA0
  rw [Try.params4] at hA hval
  obtain ⟨v0, vs0, d0, ds0, p0, q0, hargs, rfl, rfl, h0, r0⟩ := trodAll_cons hA
  obtain ⟨rfl, rfl, rfl⟩ := trodAll_nil r0
  obtain rfl : args = #[v0] := by cases args; simp_all
  obtain ⟨rfl, rfl⟩ := trodVars_none hV
  obtain ⟨a0, len0, cap0, rfl⟩ := okWide_slice Try.underlying22 (hval 0 22 v0 rfl rfl)
  have k0 := h0
  have lt0 : ∀ x ∈ p0, x.block < W.heap.size := by obtain ⟨m, hm⟩ := k0; exact DataW.trod_lt m _ _ _ hm
  obtain ⟨z0, w0⟩ : ∃ zs, IsRow .u8 W a0 len0 cap0 zs := by
    obtain ⟨fuel, hf⟩ := h0
    rcases open_ints Try.underlying22 Try.underlying5 (by kernel_rfl) hf with ⟨hcs, _⟩ | ⟨x, l, c, zs, hcs, _, hl, hm, hz, _, hcell, hwz⟩
    · simp [Value.cells] at hcs
      obtain ⟨rfl, rfl, rfl⟩ := hcs
      exact ⟨[], .inl ⟨rfl, rfl, rfl, rfl⟩⟩
    · simp [Value.cells] at hcs
      obtain ⟨rfl, rfl, rfl⟩ := hcs
      exact ⟨zs, .inr ⟨_, rfl, hl, hm, by simpa using hz, hcell, hwz⟩⟩
  clear hA0 hval0
  refine (walk a0 len0 cap0 z0 W w0).mono fun e W' ⟨he, bel⟩ => ?_
  subst he
  exact ⟨_, rfl, _, _, _, [], _, [], hW', trodAll_mk1 (shut_bool Try.underlying4 _), (trodAll_cons_mk (Below.trod laidOut (by kernel_rfl) (of_decide_eq_true (by kernel_rfl)) k0 bel lt0) trodAll_mk0), rfl, bel.frame _, fun h => by cases h⟩

theorem over : Rows.fnNameBytesRow.holds Try.pinned (OpenSpec.ofChange Rows.fnNameBytesSpec) :=
  OpenClaim.holds_of_wide 4 Try.f4 rfl rfl rfl rfl rfl rfl rfl ⟨rfl, rfl, rfl, rfl, rfl⟩ rfl rfl rfl rfl rfl (by kernel_rfl) Try.func4 (by kernel_rfl)
    (of_decide_eq_true (by kernel_rfl)) (by unfold Func.isWrapper; first | (rw [if_pos (by decide +kernel)]; kernel_rfl) | (rw [if_neg (by decide +kernel)]; exact ⟨rfl, rfl⟩))
    (fun os started H enc _ => lifted os started H enc)

theorem proved : Rows.FnNameBytesSaid := over
end Go.Proofs.Ythbeecgfikcfdaa.fnNameBytes

/- For all texts, PackName answers as the model does; its answer is memory of its own, which no later call writes into. -/
import Derived.Test.YthbeecgfikcfdaaRows
import Derived.Test.YthbeecgfikcfdaaKe
import Derived.WalkKit
import Derived.ProofKit
import Derived.OpenShut
import Derived.ShutString
namespace Go.Proofs.Ythbeecgfikcfdaa.fnExactPackName
open Go.ChangeShapes Go.WideShapes Go.ChangeAt Go.RowKit
open Go.ChangeMaps (open_string shut_string)
set_option linter.unusedVariables false      -- a walk need not use every 'w<i>' (that an integer argument fits its kind)

theorem own : ownKnob Try.prog.godebug = none := by kernel_rfl

set_option maxHeartbeats 2000000 in
theorem walk (a0 : ByteArray) (w0 : a0.size ≤ maxLen) (w : World) :
    Calls Try.prog 5 #[.string a0] w fun e w' => e = .returned (.bool true) ∧ Below w.heap.size w w' := by
  unfold maxLen at w0
  by_cases hb0 : a0.size ≤ 1048576
  · obtain ⟨xs, hx0⟩ : ∃ xs, packOut (lst a0) = xs := ⟨_, rfl⟩
    obtain ⟨n, hn0⟩ : ∃ n, xs.length = n := ⟨_, rfl⟩
    obtain ⟨ok, hv0⟩ : ∃ ok, Z.valid (lst a0) = ok := ⟨_, rfl⟩
    have hn61 : n ≤ 61 := by
      rw [← hn0, ← hx0]
      cases hv : Z.valid (lst a0) with
      | false => rw [packOut_bad hv]; simp
      | true =>
        rw [packOut_length hv]
        have := (Z.valid_iff.1 hv).2.1
        split <;> omega
    have HX := hid hx0
    have HN := hid hn0
    have HV := hid hv0
    clear hx0 hn0 hv0
    go_enter Try.func5, Try.ntmps5
    go_wp2_with fail
    refine (PackName_v a0 xs n ok HX HN HV (by omega) _).mono ?_
    rintro e v1 ⟨A1, c1, rfl, hown1, hb1⟩
    go_wp2_with fail
    refine (iPackName_v a0 xs n ok HX HN HV (by omega) _).mono ?_
    rintro e v2 ⟨A2, c2, rfl, hown2, hb2⟩
    have hr1 := (Reads.of_own hown1).below hb2 (Nat.le_refl _)
    have hr2 := Reads.of_own hown2
    have bw2 := hb1.trans (hb2.mono hb1.size)
    have sz1 := hb1.size
    have sz2 := hb2.size
    clear hown1 hb1
    go_wp2_with fail
    refine (eqByteS_any xs _ _ A2 A1 n c2 c1 v2 hr2 hr1 (by omega)).mono ?_
    rintro e v3 ⟨rfl, hb3⟩
    have hown3 := own_next hown2 hb3
    have hr13 := hr1.below hb3 sz2
    have bw3 := bw2.trans (hb3.mono (by omega))
    have sz3 := hb3.size
    clear hown2 hr1 hr2 hb3 bw2 hb2
    go_wp2_with fail
    refine (markByteS_any xs v1.heap.size A2 n c2 1 v3 hown3 (by omega)).mono ?_
    rintro e v4 ⟨rfl, hown4, hb4⟩
    have hr14 := hr13.below hb4 (Nat.le_refl _)
    have sz4 := hb4.size
    have bw4 := bw3.trans (hb4.mono (by omega))
    clear hown3 hr13 hb4 bw3
    go_wp2_with fail
    refine (heldByteS_any _ A2 n c2 1 v4 (Reads.of_own hown4) (by omega)).mono ?_
    rintro e v5 ⟨rfl, q1, rfl⟩
    have hown5 := own_next hown4 (below_drewN (Below.refl _ _) q1)
    have hr15 := hr14.below (below_drewN (Below.refl _ _) q1) (show v1.heap.size ≤ v4.heap.size by omega)
    have bw5 := below_drewN bw4 q1
    have sz5 : v4.heap.size ≤ (v4.drewN q1).heap.size := Nat.le_refl _
    clear hown4 hr14 bw4
    go_wp2_with fail
    refine (iPackName_v a0 xs n ok HX HN HV (by omega) _).mono ?_
    rintro e v6 ⟨A6, c6, rfl, hown6, hb6⟩
    have hr6 := Reads.of_own hown6
    have hr16 := hr15.below hb6 (show v1.heap.size ≤ (v4.drewN q1).heap.size by omega)
    have hown7 := own_next hown5 hb6
    have bw6 := bw5.trans (hb6.mono (by omega))
    have sz6 := hb6.size
    clear hown5 hown6 hr15 bw5 hb6
    go_wp2_with fail
    refine (eqByteS_any xs _ _ A6 A1 n c6 c1 v6 hr6 hr16 (by omega)).mono ?_
    rintro e v7 ⟨rfl, hb7⟩
    have hown8 := own_next hown7 hb7
    have bw7 := bw6.trans (hb7.mono (by omega))
    clear hown7 hr6 hr16 hb7
    go_wp2_with fail
    refine (heldByteS_any _ A2 n c2 1 v7 (Reads.of_own hown8) (by omega)).mono ?_
    rintro e v8 ⟨rfl, q2, rfl⟩
    go_wp2_with fail
    all_goals go_ret
    all_goals exact ⟨rfl, below_drewN bw7 q2⟩
  · go_enter Try.func5, Try.ntmps5
    go_wp2_with fail
    go_ret
    exact ⟨rfl, Below.refl _ _⟩

set_option maxRecDepth 100000 in
theorem lifted (os : Os) (started : os.Started) (H : Type) (enc : TypeId × Value → H) :
    ReturnsInHanded {} Try.checked os 5 .any (Rows.fnExactPackNameSpec.pre6 enc Try.prog Try.f5 Rows.fnExactPackNameRow.domain false) (Rows.fnExactPackNameSpec.post enc Try.prog Try.f5 false true false false) := by
  refine returnsInHanded_of_change (C := Try.checked) own started (by kernel_rfl) Try.func5
    (ChangeSpec.witness6 (enc := enc) (C := Try.checked) false ⟨#[], #[.string ByteArray.empty], []⟩ 8 (by kernel_rfl) (by kernel_rfl) (by kernel_rfl) (by kernel_rfl)) ?_
  intro W base args ds gs before hval0 hW hcnd _
  have hval : ∀ (j : Nat) t v, Try.f5.params[j]? = some t → args[j]? = some v → Value.okWide Try.prog W .any base t v := hval0
  have hW' := hW
  obtain ⟨p, q, hA0, hV, rfl, hfz, hnd⟩ := hW
  have hA : DataW.TrodAll enc Try.prog W 0 (fun _ => true) true Try.f5.params.toList args.toList ds p := hA0
  rw [Try.params5] at hA hval
  obtain ⟨v0, vs0, d0, ds0, p0, q0, hargs, rfl, rfl, h0, r0⟩ := trodAll_cons hA
  obtain ⟨rfl, rfl, rfl⟩ := trodAll_nil r0
  obtain rfl : args = #[v0] := by cases args; simp_all
  obtain ⟨rfl, rfl⟩ := trodVars_none hV
  obtain ⟨a0, rfl, rfl, rfl, w0⟩ := open_string Try.underlying9 (hval 0 9 v0 rfl rfl) h0
  clear hA0 hval0
  simp only [List.append_nil] at hW'
  refine (walk a0 w0 W).mono fun e W' ⟨he, hg⟩ => ?_
  subst he
  exact ⟨_, rfl, _, _, _, [], [], [], hW', (trodAll_cons_mk (shut_bool Try.underlying4 _) trodAll_mk0), (trodAll_cons_mk (shut_string Try.underlying9 w0) trodAll_mk0), rfl, hg.frame _, fun h => by cases h⟩

theorem over : Rows.fnExactPackNameRow.holds Try.pinned (OpenSpec.ofChange Rows.fnExactPackNameSpec) :=
  OpenClaim.holds_of_wide 5 Try.f5 rfl rfl rfl rfl rfl rfl rfl ⟨rfl, rfl, rfl, rfl, rfl⟩ rfl rfl rfl rfl rfl (by kernel_rfl) Try.func5 (by kernel_rfl)
    (of_decide_eq_true (by kernel_rfl)) (by unfold Func.isWrapper; first | (rw [if_pos (by decide +kernel)]; kernel_rfl) | (rw [if_neg (by decide +kernel)]; exact ⟨rfl, rfl⟩))
    (fun os started H enc _ => lifted os started H enc)

theorem proved : Rows.FnExactPackNameSaid :=
  over
end Go.Proofs.Ythbeecgfikcfdaa.fnExactPackName

/- For every input, a valid record that is drawn from it is valid with another valid name, and is ordered by it, the root in front of all. -/
import Derived.Test.YtaiijnaockbahaaRows
import Derived.Test.YtaiijnaockbahaaNf
import Derived.WalkKit
import Derived.ProofKit
import Derived.OpenShut
import Derived.ShutString
import Derived.ChangeOld
import Derived.Below
namespace Go.Proofs.Ytaiijnaockbahaa.fnRecordMove
open Go.ChangeShapes Go.WideShapes Go.ChangeAt Go.RowKit
open Go.ChangeMaps (open_string shut_string)
set_option linter.unusedVariables false

theorem own : ownKnob Try.prog.godebug = none := by kernel_rfl
theorem laidOut : laidOutB Try.prog = true := by kernel_rfl

set_option maxHeartbeats 2000000 in
theorem walk (a0 : Option Addr) (len0 cap0 : Nat) (z0 : List Int) (w : World) (w0 : IsRow .u8 w a0 len0 cap0 z0) :
    Calls Try.prog 8 #[.slice a0 len0 cap0] w fun e w' => e = .returned (.bool true) ∧ Below w.heap.size w w' := by
  have hc0 := row_cap w0
  unfold maxLen at hc0
  by_cases hb0 : len0 ≤ 1048576
  · obtain ⟨zs0, rfl, hcode0⟩ := code_of_row w0 hb0
    clear w0
    go_enter Try.func8, Try.ntmps8
    go_wp2_with fail
    refine (DrawRecordValid_any _ _ zs0 w hcode0).mono ?_
    rintro e v1 ⟨aN, aT, aK, aA, aL, aC, aG, aX, aZ, rfl, ho1, hl1, s1, s2, s3, hbv1⟩
    have hp := one_new (aT := aT) (aK := aK) hbv1 ho1 hl1 s1 s2 s3
    clear ho1 hl1 s1 s2 s3 hbv1
    obtain ⟨c0, c1, c2, c3, c4, c5⟩ := hp.cells
    obtain ⟨VA, hVA⟩ : ∃ v : Bool, Z.recValid (⟨lst aN, aT, aK, aZ, lst aG, lst aX⟩ : Z.Rec) = v := ⟨_, rfl⟩
    have HVA := hid hVA
    cases VA with
    | false =>
      clear hVA
      go_wp2_with (first | (go_at_call 13; first | (((with_reducible refine (io_RecordValid hp _ HVA).mono ?_)); rintro e w2 ⟨rfl, hb9⟩; have hp2 := hp.next hb9; clear hb9; clear c0 c1 c2 c3 c4 c5 hp; have hp := hp2; clear hp2; obtain ⟨c0, c1, c2, c3, c4, c5⟩ := hp.cells)) | (go_at_call 21; first | (((with_reducible refine (so_RecordValid hp _ HVA).mono ?_)); rintro e w2 ⟨rfl, hb9⟩; have hp2 := hp.next hb9; clear hb9; clear c0 c1 c2 c3 c4 c5 hp; have hp := hp2; clear hp2; obtain ⟨c0, c1, c2, c3, c4, c5⟩ := hp.cells)))
      all_goals go_ret
      all_goals exact ⟨rfl, hp.below⟩
    | true =>
      have e1 : lst (⟨#[46]⟩ : ByteArray) = [46] := rfl
      have e2 : lst (⟨#[122, 122, 46]⟩ : ByteArray) = [122, 122, 46] := rfl
      have HVX := hid (show Z.recValid (⟨lst (⟨#[46]⟩ : ByteArray), aT, aK, aZ, lst aG, lst aX⟩ : Z.Rec) = true from Z.valid_name hVA (n := [46]) (by decide))
      have HVY := hid (show Z.recValid (⟨lst (⟨#[122, 122, 46]⟩ : ByteArray), aT, aK, aZ, lst aG, lst aX⟩ : Z.Rec) = true from Z.valid_name hVA (n := [122, 122, 46]) Z.valid_zz)
      have HXY := hid (show Z.recBefore (⟨lst (⟨#[46]⟩ : ByteArray), aT, aK, aZ, lst aG, lst aX⟩ : Z.Rec) (⟨lst (⟨#[122, 122, 46]⟩ : ByteArray), aT, aK, aZ, lst aG, lst aX⟩ : Z.Rec) = true from (Z.before_move hVA (n := [46]) (m := [122, 122, 46]) (by decide) Z.valid_zz (by decide)).trans Z.root_zz)
      have HQ := hid (eq_toList aN (⟨#[46]⟩ : ByteArray))
      have hvn := (Z.recValid_iff.1 hVA).1
      dsimp only at hvn
      have HXR := hid (show ¬ lst aN = [46] → Z.recBefore (⟨lst (⟨#[46]⟩ : ByteArray), aT, aK, aZ, lst aG, lst aX⟩ : Z.Rec) (⟨lst aN, aT, aK, aZ, lst aG, lst aX⟩ : Z.Rec) = true from fun h => (Z.before_move hVA (n := [46]) (m := lst aN) (by decide) hvn (fun e => h e.symm)).trans (Z.root_before hvn h))
      have HVN := hid hvn
      clear hVA hvn e1 e2
      go_wp2_with fail
      refine (io_RecordValid hp _ HVA).mono ?_
      rintro e w2 ⟨rfl, hb9⟩
      replace hp := hp.next hb9
      clear hb9 c0 c1 c2 c3 c4 c5
      obtain ⟨c0, c1, c2, c3, c4, c5⟩ := hp.cells
      go_wp2_with fail
      refine (so_RecordValid hp _ HVA).mono ?_
      rintro e w3 ⟨rfl, hb9⟩
      replace hp := hp.next hb9
      clear hb9 c0 c1 c2 c3 c4 c5
      obtain ⟨c0, c1, c2, c3, c4, c5⟩ := hp.cells
      have hx := (one_copy hp (⟨#[46]⟩ : ByteArray) aT aK (by decide)).alloc (.cells #[.string (⟨#[122, 122, 46]⟩ : ByteArray), .int .i64 aT, .int .i64 aK, .slice aA aL aC, .string aG, .string aX] 25)
      have hy := one_copy (hp.alloc (.cells #[.string (⟨#[46]⟩ : ByteArray), .int .i64 aT, .int .i64 aK, .slice aA aL aC, .string aG, .string aX] 25)) (⟨#[122, 122, 46]⟩ : ByteArray) aT aK (by decide)
      obtain ⟨m0, m1, m2, m3, m4, m5⟩ := (hp.alloc (.cells #[.string (⟨#[46]⟩ : ByteArray), .int .i64 aT, .int .i64 aK, .slice aA aL aC, .string aG, .string aX] 25)).cells
      replace hp := (hp.alloc (.cells #[.string (⟨#[46]⟩ : ByteArray), .int .i64 aT, .int .i64 aK, .slice aA aL aC, .string aG, .string aX] 25)).alloc (.cells #[.string (⟨#[122, 122, 46]⟩ : ByteArray), .int .i64 aT, .int .i64 aK, .slice aA aL aC, .string aG, .string aX] 25)
      rw [show (w3.alloc (.cells #[.string (⟨#[46]⟩ : ByteArray), .int .i64 aT, .int .i64 aK, .slice aA aL aC, .string aG, .string aX] 25)).heap.size = w3.heap.size + 1 by simp] at hy
      obtain ⟨k0, k1, k2, k3, k4, k5⟩ := hp.cells
      obtain ⟨d0, d1, d2, d3, d4, d5⟩ := hx.cells
      obtain ⟨g0, g1, g2, g3, g4, g5⟩ := hy.cells
      by_cases hq : lst aN = [46]
      · have q1 : (aN.toList == [46]) = true := by rw [toList_lst]; simpa using hq
        have HHQ := hid hq
        clear hq HXR
        go_wp2_with (first | (go_at_call 13; first | (((with_reducible refine (io_RecordValid hx _ HVX).mono ?_)); rintro e w2 ⟨rfl, hb9⟩; clear k0 k1 k2 k3 k4 k5 d0 d1 d2 d3 d4 d5 g0 g1 g2 g3 g4 g5; replace hp := hp.next hb9; replace hx := hx.next hb9; replace hy := hy.next hb9; clear hb9; obtain ⟨k0, k1, k2, k3, k4, k5⟩ := hp.cells; obtain ⟨d0, d1, d2, d3, d4, d5⟩ := hx.cells; obtain ⟨g0, g1, g2, g3, g4, g5⟩ := hy.cells) | (((with_reducible refine (io_RecordValid hy _ HVY).mono ?_)); rintro e w2 ⟨rfl, hb9⟩; clear k0 k1 k2 k3 k4 k5 d0 d1 d2 d3 d4 d5 g0 g1 g2 g3 g4 g5; replace hp := hp.next hb9; replace hx := hx.next hb9; replace hy := hy.next hb9; clear hb9; obtain ⟨k0, k1, k2, k3, k4, k5⟩ := hp.cells; obtain ⟨d0, d1, d2, d3, d4, d5⟩ := hx.cells; obtain ⟨g0, g1, g2, g3, g4, g5⟩ := hy.cells)) | (go_at_call 11; first | (((with_reducible refine (ip_RecordBefore (pair_of hx hp) _ HXR).mono ?_)); rintro e w2 ⟨rfl, hb9⟩; clear k0 k1 k2 k3 k4 k5 d0 d1 d2 d3 d4 d5 g0 g1 g2 g3 g4 g5; replace hp := hp.next hb9; replace hx := hx.next hb9; replace hy := hy.next hb9; clear hb9; obtain ⟨k0, k1, k2, k3, k4, k5⟩ := hp.cells; obtain ⟨d0, d1, d2, d3, d4, d5⟩ := hx.cells; obtain ⟨g0, g1, g2, g3, g4, g5⟩ := hy.cells) | (((with_reducible refine (ip_RecordBefore (pair_of hx hy) _ HXY).mono ?_)); rintro e w2 ⟨rfl, hb9⟩; clear k0 k1 k2 k3 k4 k5 d0 d1 d2 d3 d4 d5 g0 g1 g2 g3 g4 g5; replace hp := hp.next hb9; replace hx := hx.next hb9; replace hy := hy.next hb9; clear hb9; obtain ⟨k0, k1, k2, k3, k4, k5⟩ := hp.cells; obtain ⟨d0, d1, d2, d3, d4, d5⟩ := hx.cells; obtain ⟨g0, g1, g2, g3, g4, g5⟩ := hy.cells)))
        all_goals go_ret
        all_goals exact ⟨rfl, hp.below⟩
      · have q1 : (aN.toList == [46]) = false := by rw [toList_lst]; simpa using hq
        have HXR := hid (HXR.out hq)
        have HHQ := hid hq
        clear hq
        go_wp2_with (first | (go_at_call 13; first | (((with_reducible refine (io_RecordValid hx _ HVX).mono ?_)); rintro e w2 ⟨rfl, hb9⟩; clear k0 k1 k2 k3 k4 k5 d0 d1 d2 d3 d4 d5 g0 g1 g2 g3 g4 g5; replace hp := hp.next hb9; replace hx := hx.next hb9; replace hy := hy.next hb9; clear hb9; obtain ⟨k0, k1, k2, k3, k4, k5⟩ := hp.cells; obtain ⟨d0, d1, d2, d3, d4, d5⟩ := hx.cells; obtain ⟨g0, g1, g2, g3, g4, g5⟩ := hy.cells) | (((with_reducible refine (io_RecordValid hy _ HVY).mono ?_)); rintro e w2 ⟨rfl, hb9⟩; clear k0 k1 k2 k3 k4 k5 d0 d1 d2 d3 d4 d5 g0 g1 g2 g3 g4 g5; replace hp := hp.next hb9; replace hx := hx.next hb9; replace hy := hy.next hb9; clear hb9; obtain ⟨k0, k1, k2, k3, k4, k5⟩ := hp.cells; obtain ⟨d0, d1, d2, d3, d4, d5⟩ := hx.cells; obtain ⟨g0, g1, g2, g3, g4, g5⟩ := hy.cells)) | (go_at_call 11; first | (((with_reducible refine (ip_RecordBefore (pair_of hx hp) _ HXR).mono ?_)); rintro e w2 ⟨rfl, hb9⟩; clear k0 k1 k2 k3 k4 k5 d0 d1 d2 d3 d4 d5 g0 g1 g2 g3 g4 g5; replace hp := hp.next hb9; replace hx := hx.next hb9; replace hy := hy.next hb9; clear hb9; obtain ⟨k0, k1, k2, k3, k4, k5⟩ := hp.cells; obtain ⟨d0, d1, d2, d3, d4, d5⟩ := hx.cells; obtain ⟨g0, g1, g2, g3, g4, g5⟩ := hy.cells) | (((with_reducible refine (ip_RecordBefore (pair_of hx hy) _ HXY).mono ?_)); rintro e w2 ⟨rfl, hb9⟩; clear k0 k1 k2 k3 k4 k5 d0 d1 d2 d3 d4 d5 g0 g1 g2 g3 g4 g5; replace hp := hp.next hb9; replace hx := hx.next hb9; replace hy := hy.next hb9; clear hb9; obtain ⟨k0, k1, k2, k3, k4, k5⟩ := hp.cells; obtain ⟨d0, d1, d2, d3, d4, d5⟩ := hx.cells; obtain ⟨g0, g1, g2, g3, g4, g5⟩ := hy.cells)))
        all_goals go_ret
        all_goals exact ⟨rfl, hp.below⟩
  · go_enter Try.func8, Try.ntmps8
    go_wp2_with fail
    go_ret
    exact ⟨rfl, Below.refl _ _⟩

set_option maxRecDepth 100000 in
theorem lifted (os : Os) (started : os.Started) (H : Type) (enc : TypeId × Value → H) :
    ReturnsInHanded {} Try.checked os 8 .any (Rows.fnRecordMoveSpec.pre6 enc Try.prog Try.f8 Rows.fnRecordMoveRow.domain false) (Rows.fnRecordMoveSpec.post enc Try.prog Try.f8 false true false false) := by
  refine returnsInHanded_of_change (C := Try.checked) own started (by kernel_rfl) Try.func8
    (ChangeSpec.witness6 (enc := enc) (C := Try.checked) false ⟨#[], #[.slice none 0 0], []⟩ 8 (by kernel_rfl) (by kernel_rfl) (by kernel_rfl) (by kernel_rfl)) ?_
  intro W base args ds gs before hval0 hW hcnd _
  have hval : ∀ (j : Nat) t v, Try.f8.params[j]? = some t → args[j]? = some v → Value.okWide Try.prog W .any base t v := hval0
  have hW' := hW
  obtain ⟨p, q, hA0, hV, rfl, hfz, hnd⟩ := hW
  have hA : DataW.TrodAll enc Try.prog W 0 (fun _ => true) true Try.f8.params.toList args.toList ds p := hA0
  rw [Try.params8] at hA hval
  obtain ⟨v0, vs0, d0, ds0, p0, q0, hargs, rfl, rfl, h0, r0⟩ := trodAll_cons hA
  obtain ⟨rfl, rfl, rfl⟩ := trodAll_nil r0
  obtain rfl : args = #[v0] := by cases args; simp_all
  obtain ⟨rfl, rfl⟩ := trodVars_none hV
  obtain ⟨a0, len0, cap0, rfl⟩ := okWide_slice Try.underlying22 (hval 0 22 v0 rfl rfl)
  have k0 := h0
  have lt0 : ∀ x ∈ p0, x.block < W.heap.size := by obtain ⟨m, hm⟩ := k0; exact DataW.trod_lt m _ _ _ hm
  obtain ⟨z0, w0⟩ : ∃ zs, IsRow .u8 W a0 len0 cap0 zs := by
    obtain ⟨fuel, hf⟩ := h0
    rcases open_ints Try.underlying22 Try.underlying5 (by kernel_rfl) hf with ⟨hcs, _⟩ | ⟨x, l, c, zs, hcs, _, hl, hm, hz, _, hcell, hwz⟩
    · simp [Value.cells] at hcs
      obtain ⟨rfl, rfl, rfl⟩ := hcs
      exact ⟨[], .inl ⟨rfl, rfl, rfl, rfl⟩⟩
    · simp [Value.cells] at hcs
      obtain ⟨rfl, rfl, rfl⟩ := hcs
      exact ⟨zs, .inr ⟨_, rfl, hl, hm, by simpa using hz, hcell, hwz⟩⟩
  clear hA0 hval0
  refine (walk a0 len0 cap0 z0 W w0).mono fun e W' ⟨he, bel⟩ => ?_
  subst he
  exact ⟨_, rfl, _, _, _, [], _, [], hW', trodAll_mk1 (shut_bool Try.underlying4 _), (trodAll_cons_mk (Below.trod laidOut (by kernel_rfl) (of_decide_eq_true (by kernel_rfl)) k0 bel lt0) trodAll_mk0), rfl, bel.frame _, fun h => by cases h⟩

theorem over : Rows.fnRecordMoveRow.holds Try.pinned (OpenSpec.ofChange Rows.fnRecordMoveSpec) :=
  OpenClaim.holds_of_wide 8 Try.f8 rfl rfl rfl rfl rfl rfl rfl ⟨rfl, rfl, rfl, rfl, rfl⟩ rfl rfl rfl rfl rfl (by kernel_rfl) Try.func8 (by kernel_rfl)
    (of_decide_eq_true (by kernel_rfl)) (by unfold Func.isWrapper; first | (rw [if_pos (by decide +kernel)]; kernel_rfl) | (rw [if_neg (by decide +kernel)]; exact ⟨rfl, rfl⟩))
    (fun os started H enc _ => lifted os started H enc)

theorem proved : Rows.FnRecordMoveSaid := over
end Go.Proofs.Ytaiijnaockbahaa.fnRecordMove

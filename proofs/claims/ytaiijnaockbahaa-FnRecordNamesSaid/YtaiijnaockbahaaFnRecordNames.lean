/- For every input, of two valid records that are drawn from it the one whose name is in front is in front, and where the names are equal the one of the lesser kind; the order is the model's. -/
import Derived.Test.YtaiijnaockbahaaRows
import Derived.Test.YtaiijnaockbahaaNf
import Derived.WalkKit
import Derived.ProofKit
import Derived.OpenShut
import Derived.ShutString
import Derived.ChangeOld
import Derived.Below
namespace Go.Proofs.Ytaiijnaockbahaa.fnRecordNames
open Go.ChangeShapes Go.WideShapes Go.ChangeAt Go.RowKit
open Go.ChangeMaps (open_string shut_string)
set_option linter.unusedVariables false

theorem own : ownKnob Try.prog.godebug = none := by kernel_rfl
theorem laidOut : laidOutB Try.prog = true := by kernel_rfl

set_option maxHeartbeats 2000000 in
theorem walk (a0 : Option Addr) (len0 cap0 : Nat) (z0 : List Int) (w : World) (w0 : IsRow .u8 w a0 len0 cap0 z0) :
    Calls Try.prog 4 #[.slice a0 len0 cap0] w fun e w' => e = .returned (.bool true) ∧ Below w.heap.size w w' := by
  have hc0 := row_cap w0
  unfold maxLen at hc0
  by_cases hb0 : len0 ≤ 1048576
  · obtain ⟨zs0, rfl, hcode0⟩ := code_of_row w0 hb0
    clear w0
    go_enter Try.func4, Try.ntmps4
    go_wp2_with fail
    refine (DrawRecordBefore_any _ _ zs0 w hcode0).mono ?_
    rintro e v1 ⟨aN, aT, aK, aA, aL, aC, aG, aX, aZ, bN, bT, bK, bA, bL, bC, bG, bX, bZ, rfl, ho1, ho2, hl1, hl2, s1, s2, s3, s4, s5, s6, hbv1⟩
    have hp := pair_new (aT := aT) (aK := aK) (bT := bT) (bK := bK) hbv1 ho1 ho2 hl1 hl2 s1 s2 s3 s4 s5 s6
    clear ho1 ho2 hl1 hl2 s1 s2 s3 s4 s5 s6 hbv1
    obtain ⟨c0, c1, c2, c3, c4, c5⟩ := hp.a.cells
    obtain ⟨d0, d1, d2, d3, d4, d5⟩ := hp.b.cells
    obtain ⟨X, hX⟩ : ∃ v : Bool, Z.recBefore (⟨lst aN, aT, aK, aZ, lst aG, lst aX⟩ : Z.Rec) (⟨lst bN, bT, bK, bZ, lst bG, lst bX⟩ : Z.Rec) = v := ⟨_, rfl⟩
    obtain ⟨VA, hVA⟩ : ∃ v : Bool, Z.recValid (⟨lst aN, aT, aK, aZ, lst aG, lst aX⟩ : Z.Rec) = v := ⟨_, rfl⟩
    obtain ⟨VB, hVB⟩ : ∃ v : Bool, Z.recValid (⟨lst bN, bT, bK, bZ, lst bG, lst bX⟩ : Z.Rec) = v := ⟨_, rfl⟩
    obtain ⟨N, hN⟩ : ∃ v : Bool, Z.before (lst aN) (lst bN) = v := ⟨_, rfl⟩
    have HX := hid hX
    have HVA := hid hVA
    have HVB := hid hVB
    have HN := hid hN
    have hsa := hp.a.2.2.2.2.2.1
    have hsb := hp.b.2.2.2.2.2.1
    have HQ := hid (eq_toList aN bN)
    have hxv : X = true → VA = true ∧ VB = true := fun h => by have := Z.recBefore_iff.1 (hX.trans h); exact ⟨hVA.symm.trans this.1, hVB.symm.trans this.2.1⟩
    have hnm : VA = true → VB = true → ¬ lst aN = lst bN → X = N := fun h1 h2 h3 => by rw [← hX, ← hN]; exact Z.recBefore_names (hVA.trans h1) (hVB.trans h2) h3
    have hkd : VA = true → VB = true → lst aN = lst bN → ¬ aK = bK → X = decide (aK < bK) := fun h1 h2 h3 h4 => by rw [← hX]; exact Z.recBefore_kinds (hVA.trans h1) (hVB.trans h2) h3 h4
    have HXV := hid hxv
    have HNM := hid hnm
    have HKD := hid hkd
    clear hX hVA hVB hN hxv hnm hkd
    cases VA with
    | false =>
      have e1 : X = false := by cases X with
        | false => rfl
        | true => exact absurd (HXV.out rfl).1 (by decide)
      subst e1
      go_wp2_with (first | (go_at_call 11; first | (((with_reducible refine (ip_RecordBefore hp _ HX).mono ?_)); rintro e w2 ⟨rfl, hb9⟩; have hp2 := hp.next hb9; clear hb9; clear c0 c1 c2 c3 c4 c5 d0 d1 d2 d3 d4 d5 hp; have hp := hp2; clear hp2; obtain ⟨c0, c1, c2, c3, c4, c5⟩ := hp.a.cells; obtain ⟨d0, d1, d2, d3, d4, d5⟩ := hp.b.cells)) | (go_at_call 12; first | (((with_reducible refine (sp_RecordBefore hp _ HX).mono ?_)); rintro e w2 ⟨rfl, hb9⟩; have hp2 := hp.next hb9; clear hb9; clear c0 c1 c2 c3 c4 c5 d0 d1 d2 d3 d4 d5 hp; have hp := hp2; clear hp2; obtain ⟨c0, c1, c2, c3, c4, c5⟩ := hp.a.cells; obtain ⟨d0, d1, d2, d3, d4, d5⟩ := hp.b.cells)) | (go_at_call 13; first | (((with_reducible refine (io_RecordValid hp.a _ HVA).mono ?_)); rintro e w2 ⟨rfl, hb9⟩; have hp2 := hp.next hb9; clear hb9; clear c0 c1 c2 c3 c4 c5 d0 d1 d2 d3 d4 d5 hp; have hp := hp2; clear hp2; obtain ⟨c0, c1, c2, c3, c4, c5⟩ := hp.a.cells; obtain ⟨d0, d1, d2, d3, d4, d5⟩ := hp.b.cells) | (((with_reducible refine (io_RecordValid hp.b _ HVB).mono ?_)); rintro e w2 ⟨rfl, hb9⟩; have hp2 := hp.next hb9; clear hb9; clear c0 c1 c2 c3 c4 c5 d0 d1 d2 d3 d4 d5 hp; have hp := hp2; clear hp2; obtain ⟨c0, c1, c2, c3, c4, c5⟩ := hp.a.cells; obtain ⟨d0, d1, d2, d3, d4, d5⟩ := hp.b.cells)) | (go_at_call 15; ((refine (nb_eq _ _ hsa hsb _ HN _).mono ?_)); rintro e w2 ⟨rfl, hb9⟩; have hp2 := hp.next hb9; clear hb9; clear c0 c1 c2 c3 c4 c5 d0 d1 d2 d3 d4 d5 hp; have hp := hp2; clear hp2; obtain ⟨c0, c1, c2, c3, c4, c5⟩ := hp.a.cells; obtain ⟨d0, d1, d2, d3, d4, d5⟩ := hp.b.cells))
      all_goals go_ret
      all_goals exact ⟨rfl, hp.1.1⟩
    | true =>
      cases VB with
      | false =>
        have e1 : X = false := by cases X with
          | false => rfl
          | true => exact absurd (HXV.out rfl).2 (by decide)
        subst e1
        go_wp2_with (first | (go_at_call 11; first | (((with_reducible refine (ip_RecordBefore hp _ HX).mono ?_)); rintro e w2 ⟨rfl, hb9⟩; have hp2 := hp.next hb9; clear hb9; clear c0 c1 c2 c3 c4 c5 d0 d1 d2 d3 d4 d5 hp; have hp := hp2; clear hp2; obtain ⟨c0, c1, c2, c3, c4, c5⟩ := hp.a.cells; obtain ⟨d0, d1, d2, d3, d4, d5⟩ := hp.b.cells)) | (go_at_call 12; first | (((with_reducible refine (sp_RecordBefore hp _ HX).mono ?_)); rintro e w2 ⟨rfl, hb9⟩; have hp2 := hp.next hb9; clear hb9; clear c0 c1 c2 c3 c4 c5 d0 d1 d2 d3 d4 d5 hp; have hp := hp2; clear hp2; obtain ⟨c0, c1, c2, c3, c4, c5⟩ := hp.a.cells; obtain ⟨d0, d1, d2, d3, d4, d5⟩ := hp.b.cells)) | (go_at_call 13; first | (((with_reducible refine (io_RecordValid hp.a _ HVA).mono ?_)); rintro e w2 ⟨rfl, hb9⟩; have hp2 := hp.next hb9; clear hb9; clear c0 c1 c2 c3 c4 c5 d0 d1 d2 d3 d4 d5 hp; have hp := hp2; clear hp2; obtain ⟨c0, c1, c2, c3, c4, c5⟩ := hp.a.cells; obtain ⟨d0, d1, d2, d3, d4, d5⟩ := hp.b.cells) | (((with_reducible refine (io_RecordValid hp.b _ HVB).mono ?_)); rintro e w2 ⟨rfl, hb9⟩; have hp2 := hp.next hb9; clear hb9; clear c0 c1 c2 c3 c4 c5 d0 d1 d2 d3 d4 d5 hp; have hp := hp2; clear hp2; obtain ⟨c0, c1, c2, c3, c4, c5⟩ := hp.a.cells; obtain ⟨d0, d1, d2, d3, d4, d5⟩ := hp.b.cells)) | (go_at_call 15; ((refine (nb_eq _ _ hsa hsb _ HN _).mono ?_)); rintro e w2 ⟨rfl, hb9⟩; have hp2 := hp.next hb9; clear hb9; clear c0 c1 c2 c3 c4 c5 d0 d1 d2 d3 d4 d5 hp; have hp := hp2; clear hp2; obtain ⟨c0, c1, c2, c3, c4, c5⟩ := hp.a.cells; obtain ⟨d0, d1, d2, d3, d4, d5⟩ := hp.b.cells))
        all_goals go_ret
        all_goals exact ⟨rfl, hp.1.1⟩
      | true =>
        by_cases hq : lst aN = lst bN
        · have q1 : (aN.toList == bN.toList) = true := by rw [HQ.out]; simpa using hq
          by_cases hk : aK = bK
          · have q2 : (aK == bK) = true := by simpa using hk
            have HHK := hid hk
            have HHQ := hid hq
            clear hk hq
            cases X
            · go_wp2_with (first | (go_at_call 11; first | (((with_reducible refine (ip_RecordBefore hp _ HX).mono ?_)); rintro e w2 ⟨rfl, hb9⟩; have hp2 := hp.next hb9; clear hb9; clear c0 c1 c2 c3 c4 c5 d0 d1 d2 d3 d4 d5 hp; have hp := hp2; clear hp2; obtain ⟨c0, c1, c2, c3, c4, c5⟩ := hp.a.cells; obtain ⟨d0, d1, d2, d3, d4, d5⟩ := hp.b.cells)) | (go_at_call 12; first | (((with_reducible refine (sp_RecordBefore hp _ HX).mono ?_)); rintro e w2 ⟨rfl, hb9⟩; have hp2 := hp.next hb9; clear hb9; clear c0 c1 c2 c3 c4 c5 d0 d1 d2 d3 d4 d5 hp; have hp := hp2; clear hp2; obtain ⟨c0, c1, c2, c3, c4, c5⟩ := hp.a.cells; obtain ⟨d0, d1, d2, d3, d4, d5⟩ := hp.b.cells)) | (go_at_call 13; first | (((with_reducible refine (io_RecordValid hp.a _ HVA).mono ?_)); rintro e w2 ⟨rfl, hb9⟩; have hp2 := hp.next hb9; clear hb9; clear c0 c1 c2 c3 c4 c5 d0 d1 d2 d3 d4 d5 hp; have hp := hp2; clear hp2; obtain ⟨c0, c1, c2, c3, c4, c5⟩ := hp.a.cells; obtain ⟨d0, d1, d2, d3, d4, d5⟩ := hp.b.cells) | (((with_reducible refine (io_RecordValid hp.b _ HVB).mono ?_)); rintro e w2 ⟨rfl, hb9⟩; have hp2 := hp.next hb9; clear hb9; clear c0 c1 c2 c3 c4 c5 d0 d1 d2 d3 d4 d5 hp; have hp := hp2; clear hp2; obtain ⟨c0, c1, c2, c3, c4, c5⟩ := hp.a.cells; obtain ⟨d0, d1, d2, d3, d4, d5⟩ := hp.b.cells)) | (go_at_call 15; ((refine (nb_eq _ _ hsa hsb _ HN _).mono ?_)); rintro e w2 ⟨rfl, hb9⟩; have hp2 := hp.next hb9; clear hb9; clear c0 c1 c2 c3 c4 c5 d0 d1 d2 d3 d4 d5 hp; have hp := hp2; clear hp2; obtain ⟨c0, c1, c2, c3, c4, c5⟩ := hp.a.cells; obtain ⟨d0, d1, d2, d3, d4, d5⟩ := hp.b.cells))
              all_goals go_ret
              all_goals exact ⟨rfl, hp.1.1⟩
            · go_wp2_with (first | (go_at_call 11; first | (((with_reducible refine (ip_RecordBefore hp _ HX).mono ?_)); rintro e w2 ⟨rfl, hb9⟩; have hp2 := hp.next hb9; clear hb9; clear c0 c1 c2 c3 c4 c5 d0 d1 d2 d3 d4 d5 hp; have hp := hp2; clear hp2; obtain ⟨c0, c1, c2, c3, c4, c5⟩ := hp.a.cells; obtain ⟨d0, d1, d2, d3, d4, d5⟩ := hp.b.cells)) | (go_at_call 12; first | (((with_reducible refine (sp_RecordBefore hp _ HX).mono ?_)); rintro e w2 ⟨rfl, hb9⟩; have hp2 := hp.next hb9; clear hb9; clear c0 c1 c2 c3 c4 c5 d0 d1 d2 d3 d4 d5 hp; have hp := hp2; clear hp2; obtain ⟨c0, c1, c2, c3, c4, c5⟩ := hp.a.cells; obtain ⟨d0, d1, d2, d3, d4, d5⟩ := hp.b.cells)) | (go_at_call 13; first | (((with_reducible refine (io_RecordValid hp.a _ HVA).mono ?_)); rintro e w2 ⟨rfl, hb9⟩; have hp2 := hp.next hb9; clear hb9; clear c0 c1 c2 c3 c4 c5 d0 d1 d2 d3 d4 d5 hp; have hp := hp2; clear hp2; obtain ⟨c0, c1, c2, c3, c4, c5⟩ := hp.a.cells; obtain ⟨d0, d1, d2, d3, d4, d5⟩ := hp.b.cells) | (((with_reducible refine (io_RecordValid hp.b _ HVB).mono ?_)); rintro e w2 ⟨rfl, hb9⟩; have hp2 := hp.next hb9; clear hb9; clear c0 c1 c2 c3 c4 c5 d0 d1 d2 d3 d4 d5 hp; have hp := hp2; clear hp2; obtain ⟨c0, c1, c2, c3, c4, c5⟩ := hp.a.cells; obtain ⟨d0, d1, d2, d3, d4, d5⟩ := hp.b.cells)) | (go_at_call 15; ((refine (nb_eq _ _ hsa hsb _ HN _).mono ?_)); rintro e w2 ⟨rfl, hb9⟩; have hp2 := hp.next hb9; clear hb9; clear c0 c1 c2 c3 c4 c5 d0 d1 d2 d3 d4 d5 hp; have hp := hp2; clear hp2; obtain ⟨c0, c1, c2, c3, c4, c5⟩ := hp.a.cells; obtain ⟨d0, d1, d2, d3, d4, d5⟩ := hp.b.cells))
              all_goals go_ret
              all_goals exact ⟨rfl, hp.1.1⟩
          · have q2 : (aK == bK) = false := by simpa using hk
            have q3 := HKD.out rfl rfl hq hk
            have HHQ := hid hq
            have HHK := hid hk
            clear hk hq
            cases X
            · have q4 : decide (aK < bK) = false := q3.symm
              clear q3
              go_wp2_with (first | (go_at_call 11; first | (((with_reducible refine (ip_RecordBefore hp _ HX).mono ?_)); rintro e w2 ⟨rfl, hb9⟩; have hp2 := hp.next hb9; clear hb9; clear c0 c1 c2 c3 c4 c5 d0 d1 d2 d3 d4 d5 hp; have hp := hp2; clear hp2; obtain ⟨c0, c1, c2, c3, c4, c5⟩ := hp.a.cells; obtain ⟨d0, d1, d2, d3, d4, d5⟩ := hp.b.cells)) | (go_at_call 12; first | (((with_reducible refine (sp_RecordBefore hp _ HX).mono ?_)); rintro e w2 ⟨rfl, hb9⟩; have hp2 := hp.next hb9; clear hb9; clear c0 c1 c2 c3 c4 c5 d0 d1 d2 d3 d4 d5 hp; have hp := hp2; clear hp2; obtain ⟨c0, c1, c2, c3, c4, c5⟩ := hp.a.cells; obtain ⟨d0, d1, d2, d3, d4, d5⟩ := hp.b.cells)) | (go_at_call 13; first | (((with_reducible refine (io_RecordValid hp.a _ HVA).mono ?_)); rintro e w2 ⟨rfl, hb9⟩; have hp2 := hp.next hb9; clear hb9; clear c0 c1 c2 c3 c4 c5 d0 d1 d2 d3 d4 d5 hp; have hp := hp2; clear hp2; obtain ⟨c0, c1, c2, c3, c4, c5⟩ := hp.a.cells; obtain ⟨d0, d1, d2, d3, d4, d5⟩ := hp.b.cells) | (((with_reducible refine (io_RecordValid hp.b _ HVB).mono ?_)); rintro e w2 ⟨rfl, hb9⟩; have hp2 := hp.next hb9; clear hb9; clear c0 c1 c2 c3 c4 c5 d0 d1 d2 d3 d4 d5 hp; have hp := hp2; clear hp2; obtain ⟨c0, c1, c2, c3, c4, c5⟩ := hp.a.cells; obtain ⟨d0, d1, d2, d3, d4, d5⟩ := hp.b.cells)) | (go_at_call 15; ((refine (nb_eq _ _ hsa hsb _ HN _).mono ?_)); rintro e w2 ⟨rfl, hb9⟩; have hp2 := hp.next hb9; clear hb9; clear c0 c1 c2 c3 c4 c5 d0 d1 d2 d3 d4 d5 hp; have hp := hp2; clear hp2; obtain ⟨c0, c1, c2, c3, c4, c5⟩ := hp.a.cells; obtain ⟨d0, d1, d2, d3, d4, d5⟩ := hp.b.cells))
              all_goals go_ret
              all_goals exact ⟨rfl, hp.1.1⟩
            · have q4 : decide (aK < bK) = true := q3.symm
              clear q3
              go_wp2_with (first | (go_at_call 11; first | (((with_reducible refine (ip_RecordBefore hp _ HX).mono ?_)); rintro e w2 ⟨rfl, hb9⟩; have hp2 := hp.next hb9; clear hb9; clear c0 c1 c2 c3 c4 c5 d0 d1 d2 d3 d4 d5 hp; have hp := hp2; clear hp2; obtain ⟨c0, c1, c2, c3, c4, c5⟩ := hp.a.cells; obtain ⟨d0, d1, d2, d3, d4, d5⟩ := hp.b.cells)) | (go_at_call 12; first | (((with_reducible refine (sp_RecordBefore hp _ HX).mono ?_)); rintro e w2 ⟨rfl, hb9⟩; have hp2 := hp.next hb9; clear hb9; clear c0 c1 c2 c3 c4 c5 d0 d1 d2 d3 d4 d5 hp; have hp := hp2; clear hp2; obtain ⟨c0, c1, c2, c3, c4, c5⟩ := hp.a.cells; obtain ⟨d0, d1, d2, d3, d4, d5⟩ := hp.b.cells)) | (go_at_call 13; first | (((with_reducible refine (io_RecordValid hp.a _ HVA).mono ?_)); rintro e w2 ⟨rfl, hb9⟩; have hp2 := hp.next hb9; clear hb9; clear c0 c1 c2 c3 c4 c5 d0 d1 d2 d3 d4 d5 hp; have hp := hp2; clear hp2; obtain ⟨c0, c1, c2, c3, c4, c5⟩ := hp.a.cells; obtain ⟨d0, d1, d2, d3, d4, d5⟩ := hp.b.cells) | (((with_reducible refine (io_RecordValid hp.b _ HVB).mono ?_)); rintro e w2 ⟨rfl, hb9⟩; have hp2 := hp.next hb9; clear hb9; clear c0 c1 c2 c3 c4 c5 d0 d1 d2 d3 d4 d5 hp; have hp := hp2; clear hp2; obtain ⟨c0, c1, c2, c3, c4, c5⟩ := hp.a.cells; obtain ⟨d0, d1, d2, d3, d4, d5⟩ := hp.b.cells)) | (go_at_call 15; ((refine (nb_eq _ _ hsa hsb _ HN _).mono ?_)); rintro e w2 ⟨rfl, hb9⟩; have hp2 := hp.next hb9; clear hb9; clear c0 c1 c2 c3 c4 c5 d0 d1 d2 d3 d4 d5 hp; have hp := hp2; clear hp2; obtain ⟨c0, c1, c2, c3, c4, c5⟩ := hp.a.cells; obtain ⟨d0, d1, d2, d3, d4, d5⟩ := hp.b.cells))
              all_goals go_ret
              all_goals exact ⟨rfl, hp.1.1⟩
        · have q1 : (aN.toList == bN.toList) = false := by rw [HQ.out]; simpa using hq
          have e1 := HNM.out rfl rfl hq
          have HHQ := hid hq
          clear hq
          subst e1
          cases X
          · go_wp2_with (first | (go_at_call 11; first | (((with_reducible refine (ip_RecordBefore hp _ HX).mono ?_)); rintro e w2 ⟨rfl, hb9⟩; have hp2 := hp.next hb9; clear hb9; clear c0 c1 c2 c3 c4 c5 d0 d1 d2 d3 d4 d5 hp; have hp := hp2; clear hp2; obtain ⟨c0, c1, c2, c3, c4, c5⟩ := hp.a.cells; obtain ⟨d0, d1, d2, d3, d4, d5⟩ := hp.b.cells)) | (go_at_call 12; first | (((with_reducible refine (sp_RecordBefore hp _ HX).mono ?_)); rintro e w2 ⟨rfl, hb9⟩; have hp2 := hp.next hb9; clear hb9; clear c0 c1 c2 c3 c4 c5 d0 d1 d2 d3 d4 d5 hp; have hp := hp2; clear hp2; obtain ⟨c0, c1, c2, c3, c4, c5⟩ := hp.a.cells; obtain ⟨d0, d1, d2, d3, d4, d5⟩ := hp.b.cells)) | (go_at_call 13; first | (((with_reducible refine (io_RecordValid hp.a _ HVA).mono ?_)); rintro e w2 ⟨rfl, hb9⟩; have hp2 := hp.next hb9; clear hb9; clear c0 c1 c2 c3 c4 c5 d0 d1 d2 d3 d4 d5 hp; have hp := hp2; clear hp2; obtain ⟨c0, c1, c2, c3, c4, c5⟩ := hp.a.cells; obtain ⟨d0, d1, d2, d3, d4, d5⟩ := hp.b.cells) | (((with_reducible refine (io_RecordValid hp.b _ HVB).mono ?_)); rintro e w2 ⟨rfl, hb9⟩; have hp2 := hp.next hb9; clear hb9; clear c0 c1 c2 c3 c4 c5 d0 d1 d2 d3 d4 d5 hp; have hp := hp2; clear hp2; obtain ⟨c0, c1, c2, c3, c4, c5⟩ := hp.a.cells; obtain ⟨d0, d1, d2, d3, d4, d5⟩ := hp.b.cells)) | (go_at_call 15; ((refine (nb_eq _ _ hsa hsb _ HN _).mono ?_)); rintro e w2 ⟨rfl, hb9⟩; have hp2 := hp.next hb9; clear hb9; clear c0 c1 c2 c3 c4 c5 d0 d1 d2 d3 d4 d5 hp; have hp := hp2; clear hp2; obtain ⟨c0, c1, c2, c3, c4, c5⟩ := hp.a.cells; obtain ⟨d0, d1, d2, d3, d4, d5⟩ := hp.b.cells))
            all_goals go_ret
            all_goals exact ⟨rfl, hp.1.1⟩
          · go_wp2_with (first | (go_at_call 11; first | (((with_reducible refine (ip_RecordBefore hp _ HX).mono ?_)); rintro e w2 ⟨rfl, hb9⟩; have hp2 := hp.next hb9; clear hb9; clear c0 c1 c2 c3 c4 c5 d0 d1 d2 d3 d4 d5 hp; have hp := hp2; clear hp2; obtain ⟨c0, c1, c2, c3, c4, c5⟩ := hp.a.cells; obtain ⟨d0, d1, d2, d3, d4, d5⟩ := hp.b.cells)) | (go_at_call 12; first | (((with_reducible refine (sp_RecordBefore hp _ HX).mono ?_)); rintro e w2 ⟨rfl, hb9⟩; have hp2 := hp.next hb9; clear hb9; clear c0 c1 c2 c3 c4 c5 d0 d1 d2 d3 d4 d5 hp; have hp := hp2; clear hp2; obtain ⟨c0, c1, c2, c3, c4, c5⟩ := hp.a.cells; obtain ⟨d0, d1, d2, d3, d4, d5⟩ := hp.b.cells)) | (go_at_call 13; first | (((with_reducible refine (io_RecordValid hp.a _ HVA).mono ?_)); rintro e w2 ⟨rfl, hb9⟩; have hp2 := hp.next hb9; clear hb9; clear c0 c1 c2 c3 c4 c5 d0 d1 d2 d3 d4 d5 hp; have hp := hp2; clear hp2; obtain ⟨c0, c1, c2, c3, c4, c5⟩ := hp.a.cells; obtain ⟨d0, d1, d2, d3, d4, d5⟩ := hp.b.cells) | (((with_reducible refine (io_RecordValid hp.b _ HVB).mono ?_)); rintro e w2 ⟨rfl, hb9⟩; have hp2 := hp.next hb9; clear hb9; clear c0 c1 c2 c3 c4 c5 d0 d1 d2 d3 d4 d5 hp; have hp := hp2; clear hp2; obtain ⟨c0, c1, c2, c3, c4, c5⟩ := hp.a.cells; obtain ⟨d0, d1, d2, d3, d4, d5⟩ := hp.b.cells)) | (go_at_call 15; ((refine (nb_eq _ _ hsa hsb _ HN _).mono ?_)); rintro e w2 ⟨rfl, hb9⟩; have hp2 := hp.next hb9; clear hb9; clear c0 c1 c2 c3 c4 c5 d0 d1 d2 d3 d4 d5 hp; have hp := hp2; clear hp2; obtain ⟨c0, c1, c2, c3, c4, c5⟩ := hp.a.cells; obtain ⟨d0, d1, d2, d3, d4, d5⟩ := hp.b.cells))
            all_goals go_ret
            all_goals exact ⟨rfl, hp.1.1⟩
  · go_enter Try.func4, Try.ntmps4
    go_wp2_with fail
    go_ret
    exact ⟨rfl, Below.refl _ _⟩

set_option maxRecDepth 100000 in
theorem lifted (os : Os) (started : os.Started) (H : Type) (enc : TypeId × Value → H) :
    ReturnsInHanded {} Try.checked os 4 .any (Rows.fnRecordNamesSpec.pre6 enc Try.prog Try.f4 Rows.fnRecordNamesRow.domain false) (Rows.fnRecordNamesSpec.post enc Try.prog Try.f4 false true false false) := by
  refine returnsInHanded_of_change (C := Try.checked) own started (by kernel_rfl) Try.func4
    (ChangeSpec.witness6 (enc := enc) (C := Try.checked) false ⟨#[], #[.slice none 0 0], []⟩ 8 (by kernel_rfl) (by kernel_rfl) (by kernel_rfl) (by kernel_rfl)) ?_
  intro W base args ds gs before hval0 hW hcnd _
  have hval : ∀ (j : Nat) t v, Try.f4.params[j]? = some t → args[j]? = some v → Value.okWide Try.prog W .any base t v := hval0
  have hW' := hW
  obtain ⟨p, q, hA0, hV, rfl, hfz, hnd⟩ := hW
  have hA : DataW.TrodAll enc Try.prog W 0 (fun _ => true) true Try.f4.params.toList args.toList ds p := hA0
  rw [Try.params4] at hA hval
  obtain ⟨v0, vs0, d0, ds0, p0, q0, hargs, rfl, rfl, h0, r0⟩ := trodAll_cons hA
  obtain ⟨rfl, rfl, rfl⟩ := trodAll_nil r0
  obtain rfl : args = #[v0] := by cases args; simp_all
  obtain ⟨rfl, rfl⟩ := trodVars_none hV
  obtain ⟨a0, len0, cap0, rfl⟩ := okWide_slice Try.underlying22 (hval 0 22 v0 rfl rfl)
  have k0 := h0
  have lt0 : ∀ x ∈ p0, x.block < W.heap.size := by obtain ⟨m, hm⟩ := k0; exact DataW.trod_lt m _ _ _ hm
  obtain ⟨z0, w0⟩ : ∃ zs, IsRow .u8 W a0 len0 cap0 zs := by
    obtain ⟨fuel, hf⟩ := h0
    rcases open_ints Try.underlying22 Try.underlying5 (by kernel_rfl) hf with ⟨hcs, _⟩ | ⟨x, l, c, zs, hcs, _, hl, hm, hz, _, hcell, hwz⟩
    · simp [Value.cells] at hcs
      obtain ⟨rfl, rfl, rfl⟩ := hcs
      exact ⟨[], .inl ⟨rfl, rfl, rfl, rfl⟩⟩
    · simp [Value.cells] at hcs
      obtain ⟨rfl, rfl, rfl⟩ := hcs
      exact ⟨zs, .inr ⟨_, rfl, hl, hm, by simpa using hz, hcell, hwz⟩⟩
  clear hA0 hval0
  refine (walk a0 len0 cap0 z0 W w0).mono fun e W' ⟨he, bel⟩ => ?_
  subst he
  exact ⟨_, rfl, _, _, _, [], _, [], hW', trodAll_mk1 (shut_bool Try.underlying4 _), (trodAll_cons_mk (Below.trod laidOut (by kernel_rfl) (of_decide_eq_true (by kernel_rfl)) k0 bel lt0) trodAll_mk0), rfl, bel.frame _, fun h => by cases h⟩

theorem over : Rows.fnRecordNamesRow.holds Try.pinned (OpenSpec.ofChange Rows.fnRecordNamesSpec) :=
  OpenClaim.holds_of_wide 4 Try.f4 rfl rfl rfl rfl rfl rfl rfl ⟨rfl, rfl, rfl, rfl, rfl⟩ rfl rfl rfl rfl rfl (by kernel_rfl) Try.func4 (by kernel_rfl)
    (of_decide_eq_true (by kernel_rfl)) (by unfold Func.isWrapper; first | (rw [if_pos (by decide +kernel)]; kernel_rfl) | (rw [if_neg (by decide +kernel)]; exact ⟨rfl, rfl⟩))
    (fun os started H enc _ => lifted os started H enc)

theorem proved : Rows.FnRecordNamesSaid := over
end Go.Proofs.Ytaiijnaockbahaa.fnRecordNames

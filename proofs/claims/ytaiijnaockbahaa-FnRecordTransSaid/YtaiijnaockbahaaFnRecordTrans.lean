/- For every pair of inputs, if of three records that are drawn from them the first is in front of the second and the second in front of the third, the first is in front of the third; the order is the model's. -/
import Derived.Test.YtaiijnaockbahaaRows
import Derived.Test.YtaiijnaockbahaaNf
import Derived.WalkKit
import Derived.ProofKit
import Derived.OpenShut
import Derived.ShutString
import Derived.ChangeOld
import Derived.Below
namespace Go.Proofs.Ytaiijnaockbahaa.fnRecordTrans
open Go.ChangeShapes Go.WideShapes Go.ChangeAt Go.RowKit
open Go.ChangeMaps (open_string shut_string)
set_option linter.unusedVariables false

theorem own : ownKnob Try.prog.godebug = none := by kernel_rfl
theorem laidOut : laidOutB Try.prog = true := by kernel_rfl

set_option maxHeartbeats 2000000 in
theorem walk (a0 : Option Addr) (len0 cap0 : Nat) (z0 : List Int) (a1 : Option Addr) (len1 cap1 : Nat) (z1 : List Int) (w : World) (w0 : IsRow .u8 w a0 len0 cap0 z0) (w1 : IsRow .u8 w a1 len1 cap1 z1) :
    Calls Try.prog 7 #[.slice a0 len0 cap0, .slice a1 len1 cap1] w fun e w' => e = .returned (.bool true) ∧ Below w.heap.size w w' := by
  have hc0 := row_cap w0
  have hc1 := row_cap w1
  unfold maxLen at hc0 hc1
  by_cases hb0 : len0 ≤ 1048576
  · by_cases hb1 : len1 ≤ 1048576
    · obtain ⟨zs0, rfl, hcode0⟩ := code_of_row w0 hb0
      obtain ⟨zs1, rfl, hcode1⟩ := code_of_row w1 hb1
      clear w0 w1
      go_enter Try.func7, Try.ntmps7
      go_wp2_with fail
      refine (DrawRecordBefore_any _ _ zs0 w hcode0).mono ?_
      rintro e v1 ⟨aN, aT, aK, aA, aL, aC, aG, aX, aZ, bN, bT, bK, bA, bL, bC, bG, bX, bZ, rfl, ho1, ho2, hl1, hl2, s1, s2, s3, s4, s5, s6, hbv1⟩
      have hp := pair_new (aT := aT) (aK := aK) (bT := bT) (bK := bK) hbv1 ho1 ho2 hl1 hl2 s1 s2 s3 s4 s5 s6
      clear ho1 ho2 hl1 hl2 s1 s2 s3 s4 s5 s6 hbv1
      obtain ⟨c0, c1, c2, c3, c4, c5⟩ := hp.a.cells
      obtain ⟨d0, d1, d2, d3, d4, d5⟩ := hp.b.cells
      go_wp2_with fail
      refine (DrawRecordBefore_any _ _ zs1 _ (hcode1.below hp.a.below)).mono ?_
      rintro e v2 ⟨fN, fT, fK, fA, fL, fC, fG, fX, fZ, hN, hT, hK, hA, hL, hC, hG, hX, hZ, rfl, ho1, ho2, hl1, hl2, s1, s2, s3, s4, s5, s6, hbv2⟩
      have hq := pair_new (w := w) (aT := fT) (aK := fK) (bT := hT) (bK := hK) (hp.a.below.trans (hbv2.mono hp.a.below.size)) ho1 ho2 hl1 hl2 s1 s2 s3 s4 s5 s6
      have hc := hq.a
      replace hp := (hp.next hbv2).next (((Below.refl _ _).alloc (Nat.le_refl _) (.cells #[.string fN, .int .i64 fT, .int .i64 fK, .slice fA fL fC, .string fG, .string fX] 25)).alloc (by simp) (.cells #[.string hN, .int .i64 hT, .int .i64 hK, .slice hA hL hC, .string hG, .string hX] 25))
      clear hq ho1 ho2 hl1 hl2 s1 s2 s3 s4 s5 s6 hbv2 c0 c1 c2 c3 c4 c5 d0 d1 d2 d3 d4 d5
      obtain ⟨c0, c1, c2, c3, c4, c5⟩ := hp.a.cells
      obtain ⟨d0, d1, d2, d3, d4, d5⟩ := hp.b.cells
      obtain ⟨g0, g1, g2, g3, g4, g5⟩ := hc.cells
      obtain ⟨X, hX⟩ : ∃ v : Bool, Z.recBefore (⟨lst aN, aT, aK, aZ, lst aG, lst aX⟩ : Z.Rec) (⟨lst bN, bT, bK, bZ, lst bG, lst bX⟩ : Z.Rec) = v := ⟨_, rfl⟩
      obtain ⟨Y, hY⟩ : ∃ v : Bool, Z.recBefore (⟨lst bN, bT, bK, bZ, lst bG, lst bX⟩ : Z.Rec) (⟨lst fN, fT, fK, fZ, lst fG, lst fX⟩ : Z.Rec) = v := ⟨_, rfl⟩
      obtain ⟨V, hV⟩ : ∃ v : Bool, Z.recBefore (⟨lst aN, aT, aK, aZ, lst aG, lst aX⟩ : Z.Rec) (⟨lst fN, fT, fK, fZ, lst fG, lst fX⟩ : Z.Rec) = v := ⟨_, rfl⟩
      have hd : X = true → Y = true → V = true := fun h1 h2 => by rw [← hV]; exact Z.recBefore_trans (hX.trans h1) (hY.trans h2)
      have HD := hid hd
      have HX := hid hX
      have HY := hid hY
      have HV := hid hV
      clear hd hX hY hV
      cases X with
      | false =>
        cases Y with
        | false =>
          go_wp2_with (first | (go_at_call 11; first | (((with_reducible refine (ip_RecordBefore hp _ HX).mono ?_)); rintro e w2 ⟨rfl, hb9⟩; have hp2 := hp.next hb9; have hc2 := hc.next hb9; clear hb9; clear c0 c1 c2 c3 c4 c5 d0 d1 d2 d3 d4 d5 g0 g1 g2 g3 g4 g5 hp hc; have hp := hp2; have hc := hc2; clear hp2 hc2; obtain ⟨c0, c1, c2, c3, c4, c5⟩ := hp.a.cells; obtain ⟨d0, d1, d2, d3, d4, d5⟩ := hp.b.cells; obtain ⟨g0, g1, g2, g3, g4, g5⟩ := hc.cells) | (((with_reducible refine (ip_RecordBefore (pair_of hp.b hc) _ HY).mono ?_)); rintro e w2 ⟨rfl, hb9⟩; have hp2 := hp.next hb9; have hc2 := hc.next hb9; clear hb9; clear c0 c1 c2 c3 c4 c5 d0 d1 d2 d3 d4 d5 g0 g1 g2 g3 g4 g5 hp hc; have hp := hp2; have hc := hc2; clear hp2 hc2; obtain ⟨c0, c1, c2, c3, c4, c5⟩ := hp.a.cells; obtain ⟨d0, d1, d2, d3, d4, d5⟩ := hp.b.cells; obtain ⟨g0, g1, g2, g3, g4, g5⟩ := hc.cells) | (((with_reducible refine (ip_RecordBefore (pair_of hp.a hc) _ HV).mono ?_)); rintro e w2 ⟨rfl, hb9⟩; have hp2 := hp.next hb9; have hc2 := hc.next hb9; clear hb9; clear c0 c1 c2 c3 c4 c5 d0 d1 d2 d3 d4 d5 g0 g1 g2 g3 g4 g5 hp hc; have hp := hp2; have hc := hc2; clear hp2 hc2; obtain ⟨c0, c1, c2, c3, c4, c5⟩ := hp.a.cells; obtain ⟨d0, d1, d2, d3, d4, d5⟩ := hp.b.cells; obtain ⟨g0, g1, g2, g3, g4, g5⟩ := hc.cells)) | (go_at_call 12; first | (((with_reducible refine (sp_RecordBefore hp _ HX).mono ?_)); rintro e w2 ⟨rfl, hb9⟩; have hp2 := hp.next hb9; have hc2 := hc.next hb9; clear hb9; clear c0 c1 c2 c3 c4 c5 d0 d1 d2 d3 d4 d5 g0 g1 g2 g3 g4 g5 hp hc; have hp := hp2; have hc := hc2; clear hp2 hc2; obtain ⟨c0, c1, c2, c3, c4, c5⟩ := hp.a.cells; obtain ⟨d0, d1, d2, d3, d4, d5⟩ := hp.b.cells; obtain ⟨g0, g1, g2, g3, g4, g5⟩ := hc.cells) | (((with_reducible refine (sp_RecordBefore (pair_of hp.b hc) _ HY).mono ?_)); rintro e w2 ⟨rfl, hb9⟩; have hp2 := hp.next hb9; have hc2 := hc.next hb9; clear hb9; clear c0 c1 c2 c3 c4 c5 d0 d1 d2 d3 d4 d5 g0 g1 g2 g3 g4 g5 hp hc; have hp := hp2; have hc := hc2; clear hp2 hc2; obtain ⟨c0, c1, c2, c3, c4, c5⟩ := hp.a.cells; obtain ⟨d0, d1, d2, d3, d4, d5⟩ := hp.b.cells; obtain ⟨g0, g1, g2, g3, g4, g5⟩ := hc.cells)))
          all_goals go_ret
          all_goals exact ⟨rfl, hp.a.below⟩
        | true =>
          go_wp2_with (first | (go_at_call 11; first | (((with_reducible refine (ip_RecordBefore hp _ HX).mono ?_)); rintro e w2 ⟨rfl, hb9⟩; have hp2 := hp.next hb9; have hc2 := hc.next hb9; clear hb9; clear c0 c1 c2 c3 c4 c5 d0 d1 d2 d3 d4 d5 g0 g1 g2 g3 g4 g5 hp hc; have hp := hp2; have hc := hc2; clear hp2 hc2; obtain ⟨c0, c1, c2, c3, c4, c5⟩ := hp.a.cells; obtain ⟨d0, d1, d2, d3, d4, d5⟩ := hp.b.cells; obtain ⟨g0, g1, g2, g3, g4, g5⟩ := hc.cells) | (((with_reducible refine (ip_RecordBefore (pair_of hp.b hc) _ HY).mono ?_)); rintro e w2 ⟨rfl, hb9⟩; have hp2 := hp.next hb9; have hc2 := hc.next hb9; clear hb9; clear c0 c1 c2 c3 c4 c5 d0 d1 d2 d3 d4 d5 g0 g1 g2 g3 g4 g5 hp hc; have hp := hp2; have hc := hc2; clear hp2 hc2; obtain ⟨c0, c1, c2, c3, c4, c5⟩ := hp.a.cells; obtain ⟨d0, d1, d2, d3, d4, d5⟩ := hp.b.cells; obtain ⟨g0, g1, g2, g3, g4, g5⟩ := hc.cells) | (((with_reducible refine (ip_RecordBefore (pair_of hp.a hc) _ HV).mono ?_)); rintro e w2 ⟨rfl, hb9⟩; have hp2 := hp.next hb9; have hc2 := hc.next hb9; clear hb9; clear c0 c1 c2 c3 c4 c5 d0 d1 d2 d3 d4 d5 g0 g1 g2 g3 g4 g5 hp hc; have hp := hp2; have hc := hc2; clear hp2 hc2; obtain ⟨c0, c1, c2, c3, c4, c5⟩ := hp.a.cells; obtain ⟨d0, d1, d2, d3, d4, d5⟩ := hp.b.cells; obtain ⟨g0, g1, g2, g3, g4, g5⟩ := hc.cells)) | (go_at_call 12; first | (((with_reducible refine (sp_RecordBefore hp _ HX).mono ?_)); rintro e w2 ⟨rfl, hb9⟩; have hp2 := hp.next hb9; have hc2 := hc.next hb9; clear hb9; clear c0 c1 c2 c3 c4 c5 d0 d1 d2 d3 d4 d5 g0 g1 g2 g3 g4 g5 hp hc; have hp := hp2; have hc := hc2; clear hp2 hc2; obtain ⟨c0, c1, c2, c3, c4, c5⟩ := hp.a.cells; obtain ⟨d0, d1, d2, d3, d4, d5⟩ := hp.b.cells; obtain ⟨g0, g1, g2, g3, g4, g5⟩ := hc.cells) | (((with_reducible refine (sp_RecordBefore (pair_of hp.b hc) _ HY).mono ?_)); rintro e w2 ⟨rfl, hb9⟩; have hp2 := hp.next hb9; have hc2 := hc.next hb9; clear hb9; clear c0 c1 c2 c3 c4 c5 d0 d1 d2 d3 d4 d5 g0 g1 g2 g3 g4 g5 hp hc; have hp := hp2; have hc := hc2; clear hp2 hc2; obtain ⟨c0, c1, c2, c3, c4, c5⟩ := hp.a.cells; obtain ⟨d0, d1, d2, d3, d4, d5⟩ := hp.b.cells; obtain ⟨g0, g1, g2, g3, g4, g5⟩ := hc.cells)))
          all_goals go_ret
          all_goals exact ⟨rfl, hp.a.below⟩
      | true =>
        cases Y with
        | false =>
          go_wp2_with (first | (go_at_call 11; first | (((with_reducible refine (ip_RecordBefore hp _ HX).mono ?_)); rintro e w2 ⟨rfl, hb9⟩; have hp2 := hp.next hb9; have hc2 := hc.next hb9; clear hb9; clear c0 c1 c2 c3 c4 c5 d0 d1 d2 d3 d4 d5 g0 g1 g2 g3 g4 g5 hp hc; have hp := hp2; have hc := hc2; clear hp2 hc2; obtain ⟨c0, c1, c2, c3, c4, c5⟩ := hp.a.cells; obtain ⟨d0, d1, d2, d3, d4, d5⟩ := hp.b.cells; obtain ⟨g0, g1, g2, g3, g4, g5⟩ := hc.cells) | (((with_reducible refine (ip_RecordBefore (pair_of hp.b hc) _ HY).mono ?_)); rintro e w2 ⟨rfl, hb9⟩; have hp2 := hp.next hb9; have hc2 := hc.next hb9; clear hb9; clear c0 c1 c2 c3 c4 c5 d0 d1 d2 d3 d4 d5 g0 g1 g2 g3 g4 g5 hp hc; have hp := hp2; have hc := hc2; clear hp2 hc2; obtain ⟨c0, c1, c2, c3, c4, c5⟩ := hp.a.cells; obtain ⟨d0, d1, d2, d3, d4, d5⟩ := hp.b.cells; obtain ⟨g0, g1, g2, g3, g4, g5⟩ := hc.cells) | (((with_reducible refine (ip_RecordBefore (pair_of hp.a hc) _ HV).mono ?_)); rintro e w2 ⟨rfl, hb9⟩; have hp2 := hp.next hb9; have hc2 := hc.next hb9; clear hb9; clear c0 c1 c2 c3 c4 c5 d0 d1 d2 d3 d4 d5 g0 g1 g2 g3 g4 g5 hp hc; have hp := hp2; have hc := hc2; clear hp2 hc2; obtain ⟨c0, c1, c2, c3, c4, c5⟩ := hp.a.cells; obtain ⟨d0, d1, d2, d3, d4, d5⟩ := hp.b.cells; obtain ⟨g0, g1, g2, g3, g4, g5⟩ := hc.cells)) | (go_at_call 12; first | (((with_reducible refine (sp_RecordBefore hp _ HX).mono ?_)); rintro e w2 ⟨rfl, hb9⟩; have hp2 := hp.next hb9; have hc2 := hc.next hb9; clear hb9; clear c0 c1 c2 c3 c4 c5 d0 d1 d2 d3 d4 d5 g0 g1 g2 g3 g4 g5 hp hc; have hp := hp2; have hc := hc2; clear hp2 hc2; obtain ⟨c0, c1, c2, c3, c4, c5⟩ := hp.a.cells; obtain ⟨d0, d1, d2, d3, d4, d5⟩ := hp.b.cells; obtain ⟨g0, g1, g2, g3, g4, g5⟩ := hc.cells) | (((with_reducible refine (sp_RecordBefore (pair_of hp.b hc) _ HY).mono ?_)); rintro e w2 ⟨rfl, hb9⟩; have hp2 := hp.next hb9; have hc2 := hc.next hb9; clear hb9; clear c0 c1 c2 c3 c4 c5 d0 d1 d2 d3 d4 d5 g0 g1 g2 g3 g4 g5 hp hc; have hp := hp2; have hc := hc2; clear hp2 hc2; obtain ⟨c0, c1, c2, c3, c4, c5⟩ := hp.a.cells; obtain ⟨d0, d1, d2, d3, d4, d5⟩ := hp.b.cells; obtain ⟨g0, g1, g2, g3, g4, g5⟩ := hc.cells)))
          all_goals go_ret
          all_goals exact ⟨rfl, hp.a.below⟩
        | true =>
          have e1 := HD.out rfl rfl
          subst e1
          go_wp2_with (first | (go_at_call 11; first | (((with_reducible refine (ip_RecordBefore hp _ HX).mono ?_)); rintro e w2 ⟨rfl, hb9⟩; have hp2 := hp.next hb9; have hc2 := hc.next hb9; clear hb9; clear c0 c1 c2 c3 c4 c5 d0 d1 d2 d3 d4 d5 g0 g1 g2 g3 g4 g5 hp hc; have hp := hp2; have hc := hc2; clear hp2 hc2; obtain ⟨c0, c1, c2, c3, c4, c5⟩ := hp.a.cells; obtain ⟨d0, d1, d2, d3, d4, d5⟩ := hp.b.cells; obtain ⟨g0, g1, g2, g3, g4, g5⟩ := hc.cells) | (((with_reducible refine (ip_RecordBefore (pair_of hp.b hc) _ HY).mono ?_)); rintro e w2 ⟨rfl, hb9⟩; have hp2 := hp.next hb9; have hc2 := hc.next hb9; clear hb9; clear c0 c1 c2 c3 c4 c5 d0 d1 d2 d3 d4 d5 g0 g1 g2 g3 g4 g5 hp hc; have hp := hp2; have hc := hc2; clear hp2 hc2; obtain ⟨c0, c1, c2, c3, c4, c5⟩ := hp.a.cells; obtain ⟨d0, d1, d2, d3, d4, d5⟩ := hp.b.cells; obtain ⟨g0, g1, g2, g3, g4, g5⟩ := hc.cells) | (((with_reducible refine (ip_RecordBefore (pair_of hp.a hc) _ HV).mono ?_)); rintro e w2 ⟨rfl, hb9⟩; have hp2 := hp.next hb9; have hc2 := hc.next hb9; clear hb9; clear c0 c1 c2 c3 c4 c5 d0 d1 d2 d3 d4 d5 g0 g1 g2 g3 g4 g5 hp hc; have hp := hp2; have hc := hc2; clear hp2 hc2; obtain ⟨c0, c1, c2, c3, c4, c5⟩ := hp.a.cells; obtain ⟨d0, d1, d2, d3, d4, d5⟩ := hp.b.cells; obtain ⟨g0, g1, g2, g3, g4, g5⟩ := hc.cells)) | (go_at_call 12; first | (((with_reducible refine (sp_RecordBefore hp _ HX).mono ?_)); rintro e w2 ⟨rfl, hb9⟩; have hp2 := hp.next hb9; have hc2 := hc.next hb9; clear hb9; clear c0 c1 c2 c3 c4 c5 d0 d1 d2 d3 d4 d5 g0 g1 g2 g3 g4 g5 hp hc; have hp := hp2; have hc := hc2; clear hp2 hc2; obtain ⟨c0, c1, c2, c3, c4, c5⟩ := hp.a.cells; obtain ⟨d0, d1, d2, d3, d4, d5⟩ := hp.b.cells; obtain ⟨g0, g1, g2, g3, g4, g5⟩ := hc.cells) | (((with_reducible refine (sp_RecordBefore (pair_of hp.b hc) _ HY).mono ?_)); rintro e w2 ⟨rfl, hb9⟩; have hp2 := hp.next hb9; have hc2 := hc.next hb9; clear hb9; clear c0 c1 c2 c3 c4 c5 d0 d1 d2 d3 d4 d5 g0 g1 g2 g3 g4 g5 hp hc; have hp := hp2; have hc := hc2; clear hp2 hc2; obtain ⟨c0, c1, c2, c3, c4, c5⟩ := hp.a.cells; obtain ⟨d0, d1, d2, d3, d4, d5⟩ := hp.b.cells; obtain ⟨g0, g1, g2, g3, g4, g5⟩ := hc.cells)))
          all_goals go_ret
          all_goals exact ⟨rfl, hp.a.below⟩
    · go_enter Try.func7, Try.ntmps7
      go_wp2_with fail
      go_ret
      exact ⟨rfl, Below.refl _ _⟩
  · go_enter Try.func7, Try.ntmps7
    go_wp2_with fail
    go_ret
    exact ⟨rfl, Below.refl _ _⟩

set_option maxRecDepth 100000 in
theorem lifted (os : Os) (started : os.Started) (H : Type) (enc : TypeId × Value → H) :
    ReturnsInHanded {} Try.checked os 7 .any (Rows.fnRecordTransSpec.pre6 enc Try.prog Try.f7 Rows.fnRecordTransRow.domain false) (Rows.fnRecordTransSpec.post enc Try.prog Try.f7 false true false false) := by
  refine returnsInHanded_of_change (C := Try.checked) own started (by kernel_rfl) Try.func7
    (ChangeSpec.witness6 (enc := enc) (C := Try.checked) false ⟨#[], #[.slice none 0 0, .slice none 0 0], []⟩ 8 (by kernel_rfl) (by kernel_rfl) (by kernel_rfl) (by kernel_rfl)) ?_
  intro W base args ds gs before hval0 hW hcnd _
  have hval : ∀ (j : Nat) t v, Try.f7.params[j]? = some t → args[j]? = some v → Value.okWide Try.prog W .any base t v := hval0
  have hW' := hW
  obtain ⟨p, q, hA0, hV, rfl, hfz, hnd⟩ := hW
  have hA : DataW.TrodAll enc Try.prog W 0 (fun _ => true) true Try.f7.params.toList args.toList ds p := hA0
  rw [Try.params7] at hA hval
  obtain ⟨v0, vs0, d0, ds0, p0, q0, hargs, rfl, rfl, h0, r0⟩ := trodAll_cons hA
  obtain ⟨v1, vs1, d1, ds1, p1, q1, rfl, rfl, rfl, h1, r1⟩ := trodAll_cons r0
  obtain ⟨rfl, rfl, rfl⟩ := trodAll_nil r1
  obtain rfl : args = #[v0, v1] := by cases args; simp_all
  obtain ⟨rfl, rfl⟩ := trodVars_none hV
  obtain ⟨a0, len0, cap0, rfl⟩ := okWide_slice Try.underlying22 (hval 0 22 v0 rfl rfl)
  have k0 := h0
  have lt0 : ∀ x ∈ p0, x.block < W.heap.size := by obtain ⟨m, hm⟩ := k0; exact DataW.trod_lt m _ _ _ hm
  obtain ⟨z0, w0⟩ : ∃ zs, IsRow .u8 W a0 len0 cap0 zs := by
    obtain ⟨fuel, hf⟩ := h0
    rcases open_ints Try.underlying22 Try.underlying5 (by kernel_rfl) hf with ⟨hcs, _⟩ | ⟨x, l, c, zs, hcs, _, hl, hm, hz, _, hcell, hwz⟩
    · simp [Value.cells] at hcs
      obtain ⟨rfl, rfl, rfl⟩ := hcs
      exact ⟨[], .inl ⟨rfl, rfl, rfl, rfl⟩⟩
    · simp [Value.cells] at hcs
      obtain ⟨rfl, rfl, rfl⟩ := hcs
      exact ⟨zs, .inr ⟨_, rfl, hl, hm, by simpa using hz, hcell, hwz⟩⟩
  obtain ⟨a1, len1, cap1, rfl⟩ := okWide_slice Try.underlying22 (hval 1 22 v1 rfl rfl)
  have k1 := h1
  have lt1 : ∀ x ∈ p1, x.block < W.heap.size := by obtain ⟨m, hm⟩ := k1; exact DataW.trod_lt m _ _ _ hm
  obtain ⟨z1, w1⟩ : ∃ zs, IsRow .u8 W a1 len1 cap1 zs := by
    obtain ⟨fuel, hf⟩ := h1
    rcases open_ints Try.underlying22 Try.underlying5 (by kernel_rfl) hf with ⟨hcs, _⟩ | ⟨x, l, c, zs, hcs, _, hl, hm, hz, _, hcell, hwz⟩
    · simp [Value.cells] at hcs
      obtain ⟨rfl, rfl, rfl⟩ := hcs
      exact ⟨[], .inl ⟨rfl, rfl, rfl, rfl⟩⟩
    · simp [Value.cells] at hcs
      obtain ⟨rfl, rfl, rfl⟩ := hcs
      exact ⟨zs, .inr ⟨_, rfl, hl, hm, by simpa using hz, hcell, hwz⟩⟩
  clear hA0 hval0
  refine (walk a0 len0 cap0 z0 a1 len1 cap1 z1 W w0 w1).mono fun e W' ⟨he, bel⟩ => ?_
  subst he
  exact ⟨_, rfl, _, _, _, [], _, [], hW', trodAll_mk1 (shut_bool Try.underlying4 _), (trodAll_cons_mk (Below.trod laidOut (by kernel_rfl) (of_decide_eq_true (by kernel_rfl)) k0 bel lt0) (trodAll_cons_mk (Below.trod laidOut (by kernel_rfl) (of_decide_eq_true (by kernel_rfl)) k1 bel lt1) trodAll_mk0)), rfl, bel.frame _, fun h => by cases h⟩

theorem over : Rows.fnRecordTransRow.holds Try.pinned (OpenSpec.ofChange Rows.fnRecordTransSpec) :=
  OpenClaim.holds_of_wide 7 Try.f7 rfl rfl rfl rfl rfl rfl rfl ⟨rfl, rfl, rfl, rfl, rfl⟩ rfl rfl rfl rfl rfl (by kernel_rfl) Try.func7 (by kernel_rfl)
    (of_decide_eq_true (by kernel_rfl)) (by unfold Func.isWrapper; first | (rw [if_pos (by decide +kernel)]; kernel_rfl) | (rw [if_neg (by decide +kernel)]; exact ⟨rfl, rfl⟩))
    (fun os started H enc _ => lifted os started H enc)

theorem proved : Rows.FnRecordTransSaid := over
end Go.Proofs.Ytaiijnaockbahaa.fnRecordTrans

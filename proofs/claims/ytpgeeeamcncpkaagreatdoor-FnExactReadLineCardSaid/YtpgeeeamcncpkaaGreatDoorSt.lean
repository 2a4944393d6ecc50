/- What ReadLine of the program returns, for every state and line. -/
import Derived.Test.YtpgeeeamcncpkaaGreatDoorSu
import Derived.Test.YtpgeeeamcncpkaaGreatDoorMr
namespace Go.Proofs.YtpgeeeamcncpkaaGreatDoor
open Go.RowKit
set_option maxRecDepth 100000
set_option linter.unusedVariables false
set_option linter.unusedSimpArgs false

set_option maxHeartbeats 4000000 in
theorem stateValid_false (o ow : ByteArray) (t : Int) (w : World) (ho : o.size ≤ 67108864) (how : ow.size ≤ 67108864) (hst : Z.stOk ⟨lst o, t, lst ow⟩ = false) :
    Calls Tryz.prog 67 #[.agg #[.string o, .int .i64 t, .string ow]] w fun e w' => e = .returned (.bool false) ∧ Below w.heap.size w w' := by
  obtain ⟨v, hv⟩ : ∃ v, Z.valid (lst o) = v := ⟨_, rfl⟩
  have HV := hid hv
  have hall : v = true → -1 ≤ t → t ≤ 100000 → lst ow ≠ [] ∧ Z.valid (lst ow) = false := by
    intro h1 h2 h3
    subst h1
    unfold Z.stOk at hst
    simp only [hv, h2, h3, decide_true, Bool.true_and, Bool.or_eq_false_iff, decide_eq_false_iff_not] at hst
    exact hst
  have HALL := hid hall
  clear hv hst hall
  have hx0 : Blk (w.alloc (.cells #[.string o, .int .i64 t, .string ow] 41)) w.heap.size 41 [.string o, .int .i64 t, .string ow] := Blk.new w 41 [.string o, .int .i64 t, .string ow]
  have hb0 : Below w.heap.size w (w.alloc (.cells #[.string o, .int .i64 t, .string ow] 41)) := (Below.refl _ _).alloc (Nat.le_refl _) _
  have c0 := hx0.cell 0
  have c1 := hx0.cell 1
  have c2 := hx0.cell 2
  simp only [List.getElem?_cons_zero, List.getElem?_cons_succ] at c0 c1 c2
  go_enter Tryz.func67, Tryz.ntmps67
  go_wp2_with fail
  refine (sNameValid_v o ho v HV _).mono ?_
  rintro e w1 ⟨rfl, hb1⟩
  have hx1 := hx0.next hb1
  have hbw1 := hb0.trans (hb1.mono hb0.size)
  clear c0 c1 c2
  have c0 := hx1.cell 0
  have c1 := hx1.cell 1
  have c2 := hx1.cell 2
  simp only [List.getElem?_cons_zero, List.getElem?_cons_succ] at c0 c1 c2
  cases v with
  | false =>
    go_wp2
    all_goals go_ret
    all_goals exact ⟨rfl, hbw1⟩
  | true =>
    by_cases ht : t = -1
    · have q1 : (t == -1) = true := by simpa using ht
      obtain ⟨he, hu⟩ := HALL.out (by trivial) (by omega) (by omega)
      have q2 : ow.toList.isEmpty = false := sEmpty (decide_eq_false he)
      have HU := hid hu
      have HT := hid ht
      clear he hu ht HALL
      go_wp2_with fail
      refine (sNameValid_v ow how false HU _).mono ?_
      rintro e w2 ⟨rfl, hb2⟩
      go_wp2
      all_goals go_ret
      all_goals exact ⟨ret_bool (by simp), hbw1.trans (hb2.mono hbw1.size)⟩
    · have q1 : (t == -1) = false := by simpa using ht
      obtain ⟨b, hb⟩ : ∃ b, within t 100000 = b := ⟨_, rfl⟩
      have HT := hid ht
      have hbi : b = true → 0 ≤ t ∧ t ≤ 100000 := by
        intro h
        rw [h] at hb
        unfold within at hb
        simp at hb
        omega
      have HB := hid hb
      clear ht hb
      go_wp2_with fail
      refine (isWithin_any t 100000 _).mono ?_
      rintro e w2 ⟨rfl, rfl⟩
      rw [HB.out]
      cases b with
      | false =>
        go_wp2
        all_goals go_ret
        all_goals exact ⟨ret_bool (by simp), hbw1⟩
      | true =>
        have hb9 := hbi rfl
        obtain ⟨he, hu⟩ := HALL.out (by trivial) (by omega) (by omega)
        have q2 : ow.toList.isEmpty = false := sEmpty (decide_eq_false he)
        have HU := hid hu
        clear he hu HALL hb9 hbi
        go_wp2_with fail
        refine (sNameValid_v ow how false HU _).mono ?_
        rintro e w3 ⟨rfl, hb3⟩
        go_wp2
        all_goals go_ret
        all_goals exact ⟨ret_bool (by simp), hbw1.trans (hb3.mono hbw1.size)⟩

set_option maxHeartbeats 8000000 in
theorem iReadLine_state (o ow line : ByteArray) (t : Int) (w : World) (ho : o.size ≤ 67108864) (how : ow.size ≤ 67108864) (hst : Z.stOk ⟨lst o, t, lst ow⟩ = false) :
    Calls Tryz.prog 24 #[.agg #[.string o, .int .i64 t, .string ow], .string line] w fun e w' => e = .returned (.tuple #[.agg #[.string ⟨#[]⟩, .int .i64 0, .string ⟨#[]⟩], .agg #[.string ⟨#[]⟩, .int .i64 0, .int .i64 0, .slice none 0 0, .string ⟨#[]⟩, .string ⟨#[]⟩], .bool false, .bool false]) ∧ Below w.heap.size w w' := by
  have HST := hid hst
  clear hst
  have hx0 : Blk (((w.alloc (.cells #[.string o, .int .i64 t, .string ow] 41)).alloc (.cells #[.string ⟨#[]⟩, .int .i64 0, .string ⟨#[]⟩] 41)).alloc (.cells #[.string ⟨#[]⟩, .int .i64 0, .int .i64 0, .slice none 0 0, .string ⟨#[]⟩, .string ⟨#[]⟩] 25)) w.heap.size 41 [.string o, .int .i64 t, .string ow] := ((Blk.new w 41 [.string o, .int .i64 t, .string ow]).alloc _).alloc _
  have hy0 : Blk (((w.alloc (.cells #[.string o, .int .i64 t, .string ow] 41)).alloc (.cells #[.string ⟨#[]⟩, .int .i64 0, .string ⟨#[]⟩] 41)).alloc (.cells #[.string ⟨#[]⟩, .int .i64 0, .int .i64 0, .slice none 0 0, .string ⟨#[]⟩, .string ⟨#[]⟩] 25)) (w.heap.size + 1) 41 [.string ⟨#[]⟩, .int .i64 0, .string ⟨#[]⟩] := by
    have := (Blk.new (w.alloc (.cells #[.string o, .int .i64 t, .string ow] 41)) 41 [.string ⟨#[]⟩, .int .i64 0, .string ⟨#[]⟩]).alloc (.cells #[.string ⟨#[]⟩, .int .i64 0, .int .i64 0, .slice none 0 0, .string ⟨#[]⟩, .string ⟨#[]⟩] 25)
    simpa using this
  have hz0 : Blk (((w.alloc (.cells #[.string o, .int .i64 t, .string ow] 41)).alloc (.cells #[.string ⟨#[]⟩, .int .i64 0, .string ⟨#[]⟩] 41)).alloc (.cells #[.string ⟨#[]⟩, .int .i64 0, .int .i64 0, .slice none 0 0, .string ⟨#[]⟩, .string ⟨#[]⟩] 25)) (w.heap.size + 1 + 1) 25 [.string ⟨#[]⟩, .int .i64 0, .int .i64 0, .slice none 0 0, .string ⟨#[]⟩, .string ⟨#[]⟩] := by
    have := Blk.new ((w.alloc (.cells #[.string o, .int .i64 t, .string ow] 41)).alloc (.cells #[.string ⟨#[]⟩, .int .i64 0, .string ⟨#[]⟩] 41)) 25 [.string ⟨#[]⟩, .int .i64 0, .int .i64 0, .slice none 0 0, .string ⟨#[]⟩, .string ⟨#[]⟩]
    simpa using this
  have hb0 : Below w.heap.size w (((w.alloc (.cells #[.string o, .int .i64 t, .string ow] 41)).alloc (.cells #[.string ⟨#[]⟩, .int .i64 0, .string ⟨#[]⟩] 41)).alloc (.cells #[.string ⟨#[]⟩, .int .i64 0, .int .i64 0, .slice none 0 0, .string ⟨#[]⟩, .string ⟨#[]⟩] 25)) := by go_grown
  have x0 := hx0.cell 0
  have x1 := hx0.cell 1
  have x2 := hx0.cell 2
  simp only [List.getElem?_cons_zero, List.getElem?_cons_succ] at x0 x1 x2
  go_enter Tryz.func24, Tryz.ntmps24
  go_wp2_with fail
  refine (stateValid_false o ow t _ ho how HST.out).mono ?_
  rintro e w1 ⟨rfl, hb1⟩
  have hx1 := hx0.next hb1
  have hy4 := hy0.next hb1
  have hz4 := hz0.next hb1
  have hbw4 := hb0.trans (hb1.mono hb0.size)
  clear x0 x1 x2 hx0 hy0 hz0 hb0 hb1
  obtain ⟨z0, z1, z2, z3, z4, z5⟩ := hz4.cells6
  obtain ⟨f0, f1, f2, f3, f4, f5⟩ := hz4.free6
  have y0 := hy4.cell 0
  have y1 := hy4.cell 1
  have y2 := hy4.cell 2
  have e0 := hy4.frozen 0
  have e1 := hy4.frozen 1
  have e2 := hy4.frozen 2
  simp only [List.getElem?_cons_zero, List.getElem?_cons_succ] at y0 y1 y2
  have y9 := six_apart ((((hy4.put 0 (.string ⟨#[]⟩)).put 1 (.int .i64 0)).put 2 (.string ⟨#[]⟩))) (g := w.heap.size + 1 + 1) (by omega) (.string ⟨#[]⟩) (.int .i64 0) (.int .i64 0) (.slice none 0 0) (.string ⟨#[]⟩) (.string ⟨#[]⟩)
  have z9 := six_set (((hz4.far (p := ⟨w.heap.size + 1, 0, none⟩) (by show w.heap.size + 1 + 1 ≠ w.heap.size + 1; omega) (.string ⟨#[]⟩)).far (p := ⟨w.heap.size + 1, 1, none⟩) (by show w.heap.size + 1 + 1 ≠ w.heap.size + 1; omega) (.int .i64 0)).far (p := ⟨w.heap.size + 1, 2, none⟩) (by show w.heap.size + 1 + 1 ≠ w.heap.size + 1; omega) (.string ⟨#[]⟩)) (.string ⟨#[]⟩) (.int .i64 0) (.int .i64 0) (.slice none 0 0) (.string ⟨#[]⟩) (.string ⟨#[]⟩)
  have b9 := six_below (((hbw4.setCell (p := ⟨w.heap.size + 1, 0, none⟩) (by show w.heap.size ≤ w.heap.size + 1; omega) (.string ⟨#[]⟩)).setCell (p := ⟨w.heap.size + 1, 1, none⟩) (by show w.heap.size ≤ w.heap.size + 1; omega) (.int .i64 0)).setCell (p := ⟨w.heap.size + 1, 2, none⟩) (by show w.heap.size ≤ w.heap.size + 1; omega) (.string ⟨#[]⟩)) (g := w.heap.size + 1 + 1) (by omega) (.string ⟨#[]⟩) (.int .i64 0) (.int .i64 0) (.slice none 0 0) (.string ⟨#[]⟩) (.string ⟨#[]⟩)
  have Y9 := hid y9
  have Z9 := hid z9
  have B9 := hid b9
  clear y9 z9 b9
  go_wp2
  refine ret_readLine (w.heap.size + 1) (w.heap.size + 1 + 1) rfl rfl rfl rfl rfl (Y9.out.cell 0) (Y9.out.cell 1) (Y9.out.cell 2) (Z9.out.cell 0) (Z9.out.cell 1) (Z9.out.cell 2) (Z9.out.cell 3) (Z9.out.cell 4) (Z9.out.cell 5) ?_
  exact ⟨rfl, B9.out⟩

theorem iReadLine_any (o ow line : ByteArray) (t : Int) (w : World) (hm : MX w) (hk : KT w) (ho : o.size ≤ 67108864) (how : ow.size ≤ 67108864) (hline : line.size ≤ 67108860) :
    Calls Tryz.prog 24 #[.agg #[.string o, .int .i64 t, .string ow], .string line] w (RLOut (Z.readLine ⟨lst o, t, lst ow⟩ (lst line)) w) := by
  cases hst : Z.stOk ⟨lst o, t, lst ow⟩ with
  | false =>
    have hres : Z.readLine ⟨lst o, t, lst ow⟩ (lst line) = none := by unfold Z.readLine; rw [hst]; rfl
    refine (iReadLine_state o ow line t w ho how hst).mono ?_
    rintro e w' ⟨rfl, hb⟩
    exact rl_bad hres rfl rfl hb
  | true =>
    cases hres : Z.readLine ⟨lst o, t, lst ow⟩ (lst line) with
    | none =>
      refine (iReadLine_wrong o ow line t w hm hk ho how hline hst hres).mono ?_
      rintro e w' ⟨rfl, hb⟩
      exact rl_bad rfl rfl rfl hb
    | some p =>
      obtain ⟨s', x⟩ := p
      cases x with
      | none =>
        refine (iReadLine_blank o ow line t w hm hk ho how hline s' hres).mono ?_
        rintro e w' ⟨o', ow', rfl, hs, hb⟩
        exact rl_none (by rw [← hs]) rfl rfl hb
      | some r =>
        refine (iReadLine_some o ow line t w hm hk ho how hline s' r hres).mono ?_
        rintro e w' ⟨o', ow', N, T, K, A, L, C, G, X, zs, rfl, hs, hr, hown, hb⟩
        have hl := reads_len (Reads.of_own hown)
        have hv : Z.recValid r = true := by
          have h9 : Z.linesOk ⟨lst o, t, lst ow⟩ 0 [lst line] = some [r] := by
            unfold Z.linesOk
            unfold Z.readLines
            rw [hres]
            rfl
          exact (Z.linesOk_valid _ _ _ _ h9).1 r (by simp)
        have hz := (Z.valid_sizes hv).2.1
        rw [hr] at hz
        exact rl_some (rr := some r) rfl hs rfl hr rfl rfl hown (by dsimp only at hz; omega) hb
end Go.Proofs.YtpgeeeamcncpkaaGreatDoor

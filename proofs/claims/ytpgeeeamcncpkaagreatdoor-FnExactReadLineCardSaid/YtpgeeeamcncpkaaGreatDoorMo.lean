/- What the helpers of the model's ReadLine return. -/
import Derived.Test.YtpgeeeamcncpkaaGreatDoorBk
import Derived.Test.YtpgeeeamcncpkaaGreatDoorMc
namespace Go.Proofs.YtpgeeeamcncpkaaGreatDoor
open Go.RowKit
set_option maxRecDepth 100000
set_option linter.unusedVariables false
set_option linter.unusedSimpArgs false

theorem oEmpty {x : ByteArray} {b : Bool} (h : decide (lst x = []) = b) : x.toList.isEmpty = b := by
  rw [toList_lst, ← h]
  cases lst x <;> rfl
/-- What the writer of a line leaves. -/
theorem oNameValid_v (s : ByteArray) (hs : s.size ≤ 67108864) (v : Bool) (hv : Hid (Z.valid (lst s) = v)) (w : World) :
    Calls Tryz.prog 50 #[.string s] w fun e w' => e = .returned (.bool v) ∧ Below w.heap.size w w' := by
  have h := NameValid_any s (by unfold maxLen; omega) w
  rw [hv.out] at h
  exact h
set_option maxHeartbeats 4000000 in
theorem l3State_any (o ow : ByteArray) (t : Int) (w : World) (ho : o.size ≤ 67108864) (how : ow.size ≤ 67108864) :
    Calls Tryz.prog 63 #[.agg #[.string o, .int .i64 t, .string ow]] w fun e w' => e = .returned (.bool (Z.stOk ⟨lst o, t, lst ow⟩)) ∧ Below w.heap.size w w' := by
  obtain ⟨r, hres⟩ : ∃ r, Z.stOk ⟨lst o, t, lst ow⟩ = r := ⟨_, rfl⟩
  rw [hres]
  unfold Z.stOk at hres
  have HR := hid hres
  clear hres
  have hx0 : Blk (w.alloc (.cells #[.string o, .int .i64 t, .string ow] 41)) w.heap.size 41 [.string o, .int .i64 t, .string ow] := Blk.new w 41 [.string o, .int .i64 t, .string ow]
  have hb0 : Below w.heap.size w (w.alloc (.cells #[.string o, .int .i64 t, .string ow] 41)) := (Below.refl _ _).alloc (Nat.le_refl _) _
  have c0 := hx0.cell 0
  have c1 := hx0.cell 1
  have c2 := hx0.cell 2
  simp only [List.getElem?_cons_zero, List.getElem?_cons_succ] at c0 c1 c2
  obtain ⟨v, hv⟩ : ∃ v, Z.valid (lst o) = v := ⟨_, rfl⟩
  have HV := hid hv
  clear hv
  go_enter Tryz.func63, Tryz.ntmps63
  go_wp2_with fail
  refine (oNameValid_v o ho v HV _).mono ?_
  rintro e w1 ⟨rfl, hb1⟩
  have hx1 := hx0.next hb1
  have hbw1 := hb0.trans (hb1.mono hb0.size)
  clear c0 c1 c2
  have c0 := hx1.cell 0
  have c1 := hx1.cell 1
  have c2 := hx1.cell 2
  simp only [List.getElem?_cons_zero, List.getElem?_cons_succ] at c0 c1 c2
  cases v with
  | false =>
    have hr : r = false := by rw [← HR.out, HV.out]; simp
    subst hr
    go_wp2
    all_goals go_ret
    all_goals exact ⟨rfl, hbw1⟩
  | true =>
    by_cases h1 : -1 ≤ t
    · by_cases h2 : t ≤ 100000
      by_cases he : lst ow = []
      · have q2 : ow.toList.isEmpty = true := oEmpty (decide_eq_true he)
        have hr : r = true := by rw [← HR.out, HV.out]; simp [he]; omega
        subst hr
        have HE := hid he
        clear he
        go_wp2
        all_goals go_ret
        all_goals exact ⟨ret_bool (by simp), hbw1⟩
      · have q2 : ow.toList.isEmpty = false := oEmpty (decide_eq_false he)
        obtain ⟨u, hu⟩ : ∃ u, Z.valid (lst ow) = u := ⟨_, rfl⟩
        have HU := hid hu
        have hr : r = u := by rw [← HR.out, HV.out, hu]; simp [he]; intro _; omega
        clear hu he
        subst hr
        go_wp2_with fail
        refine (oNameValid_v ow how r HU _).mono ?_
        rintro e w2 ⟨rfl, hb2⟩
        go_wp2
        all_goals go_ret
        all_goals exact ⟨ret_bool (by simp), hbw1.trans (hb2.mono hbw1.size)⟩
      · have hr : r = false := by rw [← HR.out, HV.out]; simp [h2]
        subst hr
        go_wp2
        all_goals go_ret
        all_goals exact ⟨rfl, hbw1⟩
    · have hr : r = false := by rw [← HR.out, HV.out]; simp [h1]
      subst hr
      go_wp2
      all_goals go_ret
      all_goals exact ⟨rfl, hbw1⟩
end Go.Proofs.YtpgeeeamcncpkaaGreatDoor

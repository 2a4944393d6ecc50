/- What the helpers of the laws return: marks in a list of texts, sizes and copies. -/
import Derived.Test.YtgmmaehdpongcaaDoorA
namespace Go.Proofs.YtgmmaehdpongcaaDoor
open Go.RowKit
set_option maxRecDepth 100000

/-- The first j cells marked from k on, the others as they were. -/
def marked (k j : Nat) (xs : List Z.Str) : List Z.Str := (List.range j).map (fun i => mark (k + i)) ++ xs.drop j
theorem marked_zero (k : Nat) (xs : List Z.Str) : marked k 0 xs = xs := by simp [marked]
theorem marked_length (k j : Nat) (xs : List Z.Str) (h : j ≤ xs.length) : (marked k j xs).length = xs.length := by simp [marked]; omega
theorem marked_set (k j : Nat) (xs : List Z.Str) (h : j < xs.length) : ((marked k j xs).map sv).set j (sv (mark (k + j))) = (marked k (j + 1) xs).map sv := by
  unfold marked
  rw [List.drop_eq_getElem_cons h, List.range_succ]
  simp
  rw [List.drop_eq_getElem_cons (by simpa using h)]
  rfl
def marks (k n : Nat) : List Z.Str := (List.range n).map (fun i => mark (k + i))
theorem marked_all (k : Nat) (xs : List Z.Str) : marked k xs.length xs = marks k xs.length := by simp [marked, marks]

theorem grownS_set {w wr w2 : World} {g : Nat} (h : w.grownBy wr (some g)) (hb : Below wr.heap.size wr w2) (j : Nat) (u : Value) : w.grownBy (w2.setCell ⟨g, j, none⟩ u) (some g) :=
  ⟨hb.os.trans h.os, hb.tape.trans h.tape, hb.output.trans h.output, by rw [World.size_setCell]; exact Nat.le_trans h.size hb.size, fun k hk hne => (Below.heap_setCell w2 ⟨g, j, none⟩ u k (fun e => hne (by rw [e]))).trans ((hb.block k (Nat.lt_of_lt_of_le hk h.size)).trans (h.block k hk hne))⟩
set_option maxHeartbeats 1000000 in
theorem markStringS_grown (xs : List Z.Str) (base : Nat) (A : Option Addr) (n c k : Nat) (w : World) (hown : w.ownsRow base 9 1 (.slice A n c) n (xs.map sv)) (h1 : 1 ≤ k) (h2 : k + xs.length ≤ 1048577) :
    Calls Tryd.prog 32 #[.slice A n c, .int .i64 (k : Int)] w fun e w' => e = .returned (.int .i64 ((k + xs.length : Nat) : Int)) ∧ w'.ownsRow base 9 1 (.slice A n c) n ((marks k xs.length).map sv) ∧ Below base w w' ∧ w.grownBy w' (Value.slice A n c).ownBlock := by
  obtain rfl : n = xs.length := by simpa using hown.1.symm
  rcases Nat.eq_zero_or_pos xs.length with h0 | h0
  · obtain rfl := List.eq_nil_of_length_eq_zero h0
    go_enter Tryd.func32, Tryd.ntmps32
    go_wp2_with fail
    go_loop [1, 5] (fun ks i => ks = .int .i64 (k : Int) ∧ i = .int .i64 0) (fun _ _ => 0)
    case atStart => exact ⟨rfl, rfl⟩
    case round =>
      obtain ⟨rfl, rfl⟩ := hrel
      go_wp2_with fail
      go_ret
      exact ⟨rfl, hown, Below.refl _ _, World.grownBy.refl _ _⟩
  · obtain ⟨g, cap, hv, hbg, hgl⟩ := hown.form h0
    injection hv with hA
    subst hA
    go_enter Tryd.func32, Tryd.ntmps32
    go_wp2_with fail
    go_loopw [1, 5] (fun ks i wr => ∃ j : Nat, j ≤ xs.length ∧ ks = .int .i64 ((k : Int) + j) ∧ i = .int .i64 j ∧ wr.ownsRow base 9 1 (.slice (some ⟨g, 0, none⟩) xs.length c) xs.length ((marked k j xs).map sv) ∧ Below base w wr ∧ w.grownBy wr (some g)) (fun _ i _ => xs.length - (intOf i).toNat)
    case atStart => exact ⟨0, Nat.zero_le _, by go_num, rfl, by rw [marked_zero]; exact hown, Below.refl _ _, World.grownBy.refl _ _⟩
    case round =>
      obtain ⟨j, hj, rfl, rfl, ho, hb, hgr⟩ := hrel
      have hbs := hb.size
      by_cases hlt : j < xs.length
      · have hml := marked_length k j xs hj
        have HML := hid hml
        clear hml
        go_wp2_with fail
        refine (markText_any (k + j) wr (by omega) (by omega)).mono ?_
        rintro e w2 ⟨rfl, hb2⟩
        have ho2 := own_below ho hb2
        have hcell : w2.cell? ⟨g, j, none⟩ = some (.string (bs ((marked k j xs).getD j []))) := by
          rw [ho2.cellAt j (by omega), List.getElem?_map, List.getElem?_eq_getElem (by rw [HML.out]; exact hlt)]
          simp [sv, HML.out, hlt]
        have hfz := ho2.frozenAt j
        obtain ⟨ho3, _⟩ := ho2.stored j (.string (bs (mark (k + j))))
        have hst := marked_set k j xs hlt
        unfold sv at hst
        have HST := hid hst
        have ho4 : (w2.setCell ⟨g, j, none⟩ (.string (bs (mark (k + j))))).ownsRow base 9 1 (.slice (some ⟨g, 0, none⟩) xs.length c) xs.length ((marked k (j + 1) xs).map sv) := by
          have := ho3
          rw [show (marked k j xs).map sv = (marked k j xs).map (fun l => Value.string (bs l)) from rfl, HST.out] at this
          exact this
        have hb3 : Below base w (w2.setCell ⟨g, j, none⟩ (.string (bs (mark (k + j))))) := (below2' hb hb2 (by omega)).setCell (p := ⟨g, j, none⟩) hbg _
        have hgr3 := grownS_set hgr hb2 j (.string (bs (mark (k + j))))
        clear hst ho3 ho2 ho
        go_wp2_with fail
        exact ⟨⟨j + 1, by omega, by go_num, by go_num, ho4, hb3, hgr3⟩, by simp [intOf]; omega⟩
      · obtain rfl : j = xs.length := by omega
        rw [marked_all] at ho
        go_wp2_with fail
        go_ret
        exact ⟨ret_int (by omega), ho, hb, hgr⟩
theorem markStringS_any (xs : List Z.Str) (base : Nat) (A : Option Addr) (n c k : Nat) (w : World) (hown : w.ownsRow base 9 1 (.slice A n c) n (xs.map sv)) (h1 : 1 ≤ k) (h2 : k + xs.length ≤ 1048577) :
    Calls Tryd.prog 32 #[.slice A n c, .int .i64 (k : Int)] w fun e w' => e = .returned (.int .i64 ((k + xs.length : Nat) : Int)) ∧ w'.ownsRow base 9 1 (.slice A n c) n ((marks k xs.length).map sv) ∧ Below base w w' :=
  (markStringS_grown xs base A n c k w hown h1 h2).mono fun _ _ h => ⟨h.1, h.2.1, h.2.2.1⟩
theorem marks_get (k n j : Nat) (h : j < n) : (marks k n).getD j [] = mark (k + j) := by
  unfold marks
  simp [h]
theorem marks_length (k n : Nat) : (marks k n).length = n := by simp [marks]

set_option maxHeartbeats 1000000 in
theorem heldStringS_any (base : Nat) (A : Option Addr) (n c k : Nat) (w : World) (hown : w.ownsRow base 9 1 (.slice A n c) n ((marks k n).map sv)) (h1 : 1 ≤ k) (h2 : k + n ≤ 1048577) :
    Calls Tryd.prog 33 #[.slice A n c, .int .i64 (k : Int)] w fun e w' => e = .returned (.int .i64 ((k + n : Nat) : Int)) ∧ Below w.heap.size w w' := by
  have hr0 := Reads.of_own hown
  go_enter Tryd.func33, Tryd.ntmps33
  go_wp2_with fail
  go_loopw [1, 5] (fun ks i wr => ∃ j : Nat, j ≤ n ∧ ks = .int .i64 ((k : Int) + j) ∧ i = .int .i64 j ∧ Below w.heap.size w wr) (fun _ i _ => n - (intOf i).toNat)
  case atStart => exact ⟨0, Nat.zero_le _, by go_num, rfl, Below.refl _ _⟩
  case round =>
    obtain ⟨j, hj, rfl, rfl, hb⟩ := hrel
    by_cases hlt : j < n
    · have hr := hr0.below hb (Nat.le_refl _)
      have hr' : Reads wr w.heap.size A (marks k n).length ((marks k n).map sv) := by rw [marks_length]; exact hr
      obtain ⟨ad, x, rfl, hab, hx, hcell⟩ := reads_str (k := j) hr' (by rw [marks_length]; exact hlt)
      rw [marks_get k n j hlt] at hx
      have hxe : x = bs (mark (k + j)) := by rw [← hx, bs_lst]
      have hcell' : wr.cell? (ad.add j) = some (.string (bs (mark (k + j)))) := by rw [hcell, hxe]
      have p1 : 0 ≤ (j : Int) := by omega
      have p2 : (j : Int) < n := by omega
      clear hx hxe hcell hr hr'
      have hlt2 : ad.block < wr.heap.size := by have := hb.size; omega
      go_wp2_with fail
      go_region_with (go_at_call 78; refine (markText_any (k + j) _ (by omega) (by omega)).mono ?_; rintro e w2 ⟨rfl, hb2⟩; have hc2 : w2.cell? (ad.add j) = some (.string (bs (mark (k + j)))) := (hb2.cell (by rw [block_of_add]; exact hlt2)).trans hcell'; have hb3 : Below w.heap.size w w2 := (by first | exact below2' hb.drew hb2 hb.size | exact below2' hb hb2 hb.size))
      all_goals
        go_wp2_with fail
        exact ⟨⟨j + 1, by omega, by go_num, by go_num, (by assumption)⟩, by simp [intOf]; omega⟩
    · obtain rfl : j = n := by omega
      go_wp2_with fail
      go_ret
      exact ⟨ret_int (by omega), hb⟩
end Go.Proofs.YtgmmaehdpongcaaDoor

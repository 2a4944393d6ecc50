/- What WriteLine of the program returns. -/
import Derived.Test.YtpgeeeamcncpkaaGreatDoorMl
import Derived.Test.YtpgeeeamcncpkaaGreatDoorFr
import Derived.Test.YtpgeeeamcncpkaaGreatDoorQ
import Derived.Test.YtpgeeeamcncpkaaGreatDoorBk
namespace Go.Proofs.YtpgeeeamcncpkaaGreatDoor
open Go.RowKit
set_option maxRecDepth 100000
set_option linter.unusedVariables false
set_option linter.unusedSimpArgs false

theorem iShortName_v (s o : ByteArray) (hs : s.size ≤ 67108864) (ho : o.size ≤ 67108864) (x : ByteArray) (hv : Hid (Z.valid (lst s) = true)) (hvo : Hid (Z.valid (lst o) = true)) (hx : Hid (bs (Z.short (lst s) (lst o)) = x)) (w : World) :
    Calls Tryz.prog 54 #[.string s, .string o] w fun e w' => e = .returned (.tuple #[.string x, .bool true]) ∧ Below w.heap.size w w' := by
  have h := iShortName_any s o (by unfold maxLen; omega) (by unfold maxLen; omega) w
  rw [Z.short_some hv.out hvo.out] at h
  unfold rOpt at h
  rw [show (some (Z.short (lst s) (lst o))).getD [] = Z.short (lst s) (lst o) from rfl, hx.out] at h
  exact h
theorem lEmpty {x : ByteArray} {b : Bool} (h : decide (lst x = []) = b) : x.toList.isEmpty = b := by
  rw [toList_lst, ← h]
  cases lst x <;> rfl

theorem dataOf_A (aN : ByteArray) (aT : Int)  (aA : Option Addr) (aL aC : Nat) (aG aX : ByteArray) (n0 n1 n2 n3 : Int) (aB : Nat) (w : World) (hra : Reads w aB aA aL ([n0, n1, n2, n3].map iv)) (hba : aB ≤ w.heap.size) (hla : aL ≤ 67108864) (hg : lst aG = []) (hx : lst aX = []) :
    Calls Tryz.prog 99 #[.agg #[.string aN, .int .i64 aT, .int .i64 1, .slice aA aL aC, .string aG, .string aX]] w fun e w' => e = .returned (.tuple #[.iface 182 (.agg #[.int .i64 n0, .int .i64 n1, .int .i64 n2, .int .i64 n3]), .bool true]) ∧ Below w.heap.size w w' :=
  dataOf_gen aN aT 1 aA aL aC aG aX [n0, n1, n2, n3] aB w hra hba hla (.iface 182 (.agg #[.int .i64 n0, .int .i64 n1, .int .i64 n2, .int .i64 n3])) [n0, n1, n2, n3] ⟨#[]⟩ ⟨#[]⟩
    (fun W hr hB => (pick_A aN aT aA aL aC aG aX [n0, n1, n2, n3] aB W hr hB hla).mono fun e w' ⟨m0, m1, m2, m3, he, hq, hb⟩ => by
      have hp := (pad_eq (n := 4) (zs := [n0, n1, n2, n3]) rfl).symm.trans hq.out
      obtain ⟨rfl, rfl, rfl, rfl⟩ := list4_inj hp
      exact ⟨he, hb⟩)
    (fun W => (with_A _ _ _ _ _ _ _ _ n0 n1 n2 n3 W).mono fun e w' ⟨A, c, he, hr, hb⟩ => ⟨A, 4, c, he, hr, by omega, hb⟩) true
    (by simp [Z.sameData, hg, hx, show lst ⟨#[]⟩ = [] from rfl])

theorem dataOf_S (aN : ByteArray) (aT : Int)  (aA : Option Addr) (aL aC : Nat) (aG aX : ByteArray) (n0 n1 n2 n3 n4 : Int) (aB : Nat) (w : World) (hra : Reads w aB aA aL ([n0, n1, n2, n3, n4].map iv)) (hba : aB ≤ w.heap.size) (hla : aL ≤ 67108864) (hx : lst aX = []) :
    Calls Tryz.prog 99 #[.agg #[.string aN, .int .i64 aT, .int .i64 6, .slice aA aL aC, .string aG, .string aX]] w fun e w' => e = .returned (.tuple #[.iface 187 (.agg #[.string aG, .int .i64 n0, .int .i64 n1, .int .i64 n2, .int .i64 n3, .int .i64 n4]), .bool true]) ∧ Below w.heap.size w w' :=
  dataOf_gen aN aT 6 aA aL aC aG aX [n0, n1, n2, n3, n4] aB w hra hba hla (.iface 187 (.agg #[.string aG, .int .i64 n0, .int .i64 n1, .int .i64 n2, .int .i64 n3, .int .i64 n4])) [n0, n1, n2, n3, n4] aG ⟨#[]⟩
    (fun W hr hB => (pick_S aN aT aA aL aC aG aX [n0, n1, n2, n3, n4] aB W hr hB hla).mono fun e w' ⟨m0, m1, m2, m3, m4, he, hq, hb⟩ => by
      have hp := (pad_eq (n := 5) (zs := [n0, n1, n2, n3, n4]) rfl).symm.trans hq.out
      obtain ⟨rfl, rfl, rfl, rfl, rfl⟩ := list5_inj hp
      exact ⟨he, hb⟩)
    (fun W => (with_S _ _ _ _ _ _ _ _ aG n0 n1 n2 n3 n4 W).mono fun e w' ⟨A, c, he, hr, hb⟩ => ⟨A, 5, c, he, hr, by omega, hb⟩) true
    (by simp [Z.sameData, hx, show lst ⟨#[]⟩ = [] from rfl])

theorem dataOf_M (aN : ByteArray) (aT : Int)  (aA : Option Addr) (aL aC : Nat) (aG aX : ByteArray) (n0 : Int) (aB : Nat) (w : World) (hra : Reads w aB aA aL ([n0].map iv)) (hba : aB ≤ w.heap.size) (hla : aL ≤ 67108864) (hx : lst aX = []) :
    Calls Tryz.prog 99 #[.agg #[.string aN, .int .i64 aT, .int .i64 15, .slice aA aL aC, .string aG, .string aX]] w fun e w' => e = .returned (.tuple #[.iface 190 (.agg #[.int .i64 n0, .string aG]), .bool true]) ∧ Below w.heap.size w w' :=
  dataOf_gen aN aT 15 aA aL aC aG aX [n0] aB w hra hba hla (.iface 190 (.agg #[.int .i64 n0, .string aG])) [n0] aG ⟨#[]⟩
    (fun W hr hB => (pick_M aN aT aA aL aC aG aX [n0] aB W hr hB hla).mono fun e w' ⟨m0, he, hq, hb⟩ => by
      have hp := (pad_eq (n := 1) (zs := [n0]) rfl).symm.trans hq.out
      obtain rfl := list1_inj hp
      exact ⟨he, hb⟩)
    (fun W => (with_M _ _ _ _ _ _ _ _ n0 aG W).mono fun e w' ⟨A, c, he, hr, hb⟩ => ⟨A, 1, c, he, hr, by omega, hb⟩) true
    (by simp [Z.sameData, hx, show lst ⟨#[]⟩ = [] from rfl])

theorem dataOf_X (aN : ByteArray) (aT : Int)  (aA : Option Addr) (aL aC : Nat) (aG aX : ByteArray)  (aB : Nat) (w : World) (hra : Reads w aB aA aL ([].map iv)) (hba : aB ≤ w.heap.size) (hla : aL ≤ 67108864) (hg : lst aG = [])  :
    Calls Tryz.prog 99 #[.agg #[.string aN, .int .i64 aT, .int .i64 16, .slice aA aL aC, .string aG, .string aX]] w fun e w' => e = .returned (.tuple #[.iface 192 (.agg #[.string aX]), .bool true]) ∧ Below w.heap.size w w' :=
  dataOf_gen aN aT 16 aA aL aC aG aX [] aB w hra hba hla (.iface 192 (.agg #[.string aX])) [] ⟨#[]⟩ aX
    (fun W hr hB => pick_X aN aT aA aL aC aG aX [] aB W hr hB hla)
    (fun W => (with_X _ _ _ _ _ _ _ _ aX W).mono fun e w' ⟨he, hb⟩ => ⟨none, 0, 0, he, Reads.none_, by omega, hb⟩) true
    (by simp [Z.sameData, hg, show lst ⟨#[]⟩ = [] from rfl])

theorem dataOf_T (aN : ByteArray) (aT : Int) (aK : Int) (hkk : aK = 2 ∨ aK = 5 ∨ aK = 12) (aA : Option Addr) (aL aC : Nat) (aG aX : ByteArray)  (aB : Nat) (w : World) (hra : Reads w aB aA aL ([].map iv)) (hba : aB ≤ w.heap.size) (hla : aL ≤ 67108864) (hx : lst aX = []) :
    Calls Tryz.prog 99 #[.agg #[.string aN, .int .i64 aT, .int .i64 aK, .slice aA aL aC, .string aG, .string aX]] w fun e w' => e = .returned (.tuple #[.iface 184 (.agg #[.string aG]), .bool true]) ∧ Below w.heap.size w w' :=
  dataOf_gen aN aT aK aA aL aC aG aX [] aB w hra hba hla (.iface 184 (.agg #[.string aG])) [] aG ⟨#[]⟩
    (fun W hr hB => pick_T aN aT aK aA aL aC aG aX [] aB W hr hB hla hkk)
    (fun W => (with_T _ _ _ _ _ _ _ _ aG W).mono fun e w' ⟨he, hb⟩ => ⟨none, 0, 0, he, Reads.none_, by omega, hb⟩) true
    (by simp [Z.sameData, hx, show lst ⟨#[]⟩ = [] from rfl])

set_option maxHeartbeats 4000000 in
theorem shortData_A (aN : ByteArray) (aT : Int)  (aA : Option Addr) (aL aC : Nat) (aG aX : ByteArray) (n0 n1 n2 n3 : Int) (aB : Nat) (or : ByteArray) (w : World) (hra : Reads w aB aA aL ([n0, n1, n2, n3].map iv)) (hba : aB ≤ w.heap.size) (hla : aL ≤ 67108864) (hga : aG.size ≤ 67108864) (hxa : aX.size ≤ 67108864) (hors : or.size ≤ 67108864) (hvo : Z.valid (lst or) = true) (hg : lst aG = []) (hx : lst aX = []) (hz : Hid (∀ z ∈ ([n0, n1, n2, n3] : List Int), 0 ≤ z ∧ z ≤ 4294967295)) (ht : PT w) :
    Calls Tryz.prog 57 #[.agg #[.string aN, .int .i64 aT, .int .i64 1, .slice aA aL aC, .string aG, .string aX], .string or] w fun e w' => e = .returned (.string (bs (Z.dataText 1 [n0, n1, n2, n3] (Z.shortT (lst aG) (lst or)) (lst aX)))) ∧ Below w.heap.size w w' := by
  have hx0 : Blk (w.alloc (.cells #[.string aN, .int .i64 aT, .int .i64 1, .slice aA aL aC, .string aG, .string aX] 25)) w.heap.size 25 [.string aN, .int .i64 aT, .int .i64 1, .slice aA aL aC, .string aG, .string aX] := Blk.new w 25 [.string aN, .int .i64 aT, .int .i64 1, .slice aA aL aC, .string aG, .string aX]
  have bw : Below w.heap.size w (w.alloc (.cells #[.string aN, .int .i64 aT, .int .i64 1, .slice aA aL aC, .string aG, .string aX] 25)) := (Below.refl _ _).alloc (Nat.le_refl _) _
  have hge : aG.toList.isEmpty = true := lEmpty (decide_eq_true hg)
  obtain ⟨D, hD⟩ : ∃ D, bs (Z.dataText 1 [n0, n1, n2, n3] (Z.shortT (lst aG) (lst or)) (lst aX)) = D := ⟨_, rfl⟩
  have HD := hid hD
  rw [hD]
  clear hD
  have HG := hid hg
  have HX := hid hx
  clear hg hx
  obtain ⟨p0, p1, p2, p3, p4, p5⟩ := hx0.cells6
  go_enter Tryz.func57, Tryz.ntmps57
  go_wp2_with fail
  refine (dataOf_A aN aT aA aL aC aG aX n0 n1 n2 n3 aB _ (hra.below bw hba) (Nat.le_trans hba bw.size) hla HG.out HX.out).mono ?_
  rintro e w2 ⟨rfl, hb2⟩
  have hbw := bw.trans (hb2.mono bw.size)
  have hx2 := hx0.next hb2
  clear bw hb2 hx0 p0 p1 p2 p3 p4 p5
  obtain ⟨p0, p1, p2, p3, p4, p5⟩ := hx2.cells6
  go_wp2_with fail
  refine (aText_any n0 n1 n2 n3 _ (ht.below hbw) hz (Z.shortT (lst aG) (lst or)) (lst aX)).mono ?_
  rintro e w4 ⟨he4, hb4⟩
  rw [HD.out] at he4
  subst he4
  go_wp2
  go_ret
  exact ⟨rfl, hbw.trans (hb4.mono hbw.size)⟩

set_option maxHeartbeats 4000000 in
theorem shortData_S (aN : ByteArray) (aT : Int)  (aA : Option Addr) (aL aC : Nat) (aG aX : ByteArray) (n0 n1 n2 n3 n4 : Int) (aB : Nat) (or : ByteArray) (w : World) (hra : Reads w aB aA aL ([n0, n1, n2, n3, n4].map iv)) (hba : aB ≤ w.heap.size) (hla : aL ≤ 67108864) (hga : aG.size ≤ 67108864) (hxa : aX.size ≤ 67108864) (hors : or.size ≤ 67108864) (hvo : Z.valid (lst or) = true) (hvg : Z.valid (lst aG) = true) (hx : lst aX = []) (hz : Hid (∀ z ∈ ([n0, n1, n2, n3, n4] : List Int), 0 ≤ z ∧ z ≤ 4294967295)) (ht : PT w) :
    Calls Tryz.prog 57 #[.agg #[.string aN, .int .i64 aT, .int .i64 6, .slice aA aL aC, .string aG, .string aX], .string or] w fun e w' => e = .returned (.string (bs (Z.dataText 6 [n0, n1, n2, n3, n4] (Z.shortT (lst aG) (lst or)) (lst aX)))) ∧ Below w.heap.size w w' := by
  have hx0 : Blk (w.alloc (.cells #[.string aN, .int .i64 aT, .int .i64 6, .slice aA aL aC, .string aG, .string aX] 25)) w.heap.size 25 [.string aN, .int .i64 aT, .int .i64 6, .slice aA aL aC, .string aG, .string aX] := Blk.new w 25 [.string aN, .int .i64 aT, .int .i64 6, .slice aA aL aC, .string aG, .string aX]
  have bw : Below w.heap.size w (w.alloc (.cells #[.string aN, .int .i64 aT, .int .i64 6, .slice aA aL aC, .string aG, .string aX] 25)) := (Below.refl _ _).alloc (Nat.le_refl _) _
  have hge : aG.toList.isEmpty = false := lEmpty (decide_eq_false (Z.valid_ne hvg))
  obtain ⟨y, hy⟩ : ∃ y, bs (Z.short (lst aG) (lst or)) = y := ⟨_, rfl⟩
  have hys : y.size ≤ 60 := by rw [← hy, bs_size]; exact Z.short_len hvg hvo
  have hyl : lst y = Z.shortT (lst aG) (lst or) := by rw [← hy, lst_bs, Z.shortT, if_neg (Z.valid_ne hvg)]
  obtain ⟨D, hD⟩ : ∃ D, bs (Z.dataText 6 [n0, n1, n2, n3, n4] (Z.shortT (lst aG) (lst or)) (lst aX)) = D := ⟨_, rfl⟩
  rw [← hyl] at hD
  rw [← hyl, hD]
  have HD := hid hD
  have HY := hid hy
  have HVG := hid hvg
  have HVO := hid hvo
  have HX := hid hx
  clear hD hy hyl hvg hvo hx
  obtain ⟨p0, p1, p2, p3, p4, p5⟩ := hx0.cells6
  go_enter Tryz.func57, Tryz.ntmps57
  go_wp2_with fail
  refine (iShortName_v aG or hga hors y HVG HVO HY _).mono ?_
  rintro e w1 ⟨rfl, hb1⟩
  have hx1 := hx0.next hb1
  have bw1 := bw.trans (hb1.mono bw.size)
  have hx2 := hx1.put 4 (.string y)
  have bw2 := bw1.setCell (p := ⟨w.heap.size, 4, none⟩) (Nat.le_refl _) (.string y)
  clear hb1 bw hx0 p0 p1 p2 p3 p4 p5
  obtain ⟨p0, p1, p2, p3, p4, p5⟩ := hx1.cells6
  obtain ⟨f0, f1, f2, f3, f4, f5⟩ := hx1.free6
  go_wp2_with fail
  refine (dataOf_S aN aT aA aL aC y aX n0 n1 n2 n3 n4 aB _ (hra.below bw2 hba) (Nat.le_trans hba bw2.size) hla HX.out).mono ?_
  rintro e w3 ⟨rfl, hb3⟩
  have hbw := bw2.trans (hb3.mono bw2.size)
  have hx3 := hx2.next hb3
  clear bw1 bw2 hb3 hx1 hx2 p0 p1 p2 p3 p4 p5 f0 f1 f2 f3 f4 f5
  obtain ⟨p0, p1, p2, p3, p4, p5⟩ := hx3.cells6
  go_wp2_with fail
  refine (sText_any y n0 n1 n2 n3 n4 (by omega) _ (ht.below hbw) hz (lst aX)).mono ?_
  rintro e w4 ⟨he4, hb4⟩
  rw [HD.out] at he4
  subst he4
  go_wp2
  go_ret
  exact ⟨rfl, hbw.trans (hb4.mono hbw.size)⟩

set_option maxHeartbeats 4000000 in
theorem shortData_M (aN : ByteArray) (aT : Int)  (aA : Option Addr) (aL aC : Nat) (aG aX : ByteArray) (n0 : Int) (aB : Nat) (or : ByteArray) (w : World) (hra : Reads w aB aA aL ([n0].map iv)) (hba : aB ≤ w.heap.size) (hla : aL ≤ 67108864) (hga : aG.size ≤ 67108864) (hxa : aX.size ≤ 67108864) (hors : or.size ≤ 67108864) (hvo : Z.valid (lst or) = true) (hvg : Z.valid (lst aG) = true) (hx : lst aX = []) (hz : Hid (∀ z ∈ ([n0] : List Int), 0 ≤ z ∧ z ≤ 4294967295)) (ht : PT w) :
    Calls Tryz.prog 57 #[.agg #[.string aN, .int .i64 aT, .int .i64 15, .slice aA aL aC, .string aG, .string aX], .string or] w fun e w' => e = .returned (.string (bs (Z.dataText 15 [n0] (Z.shortT (lst aG) (lst or)) (lst aX)))) ∧ Below w.heap.size w w' := by
  have hx0 : Blk (w.alloc (.cells #[.string aN, .int .i64 aT, .int .i64 15, .slice aA aL aC, .string aG, .string aX] 25)) w.heap.size 25 [.string aN, .int .i64 aT, .int .i64 15, .slice aA aL aC, .string aG, .string aX] := Blk.new w 25 [.string aN, .int .i64 aT, .int .i64 15, .slice aA aL aC, .string aG, .string aX]
  have bw : Below w.heap.size w (w.alloc (.cells #[.string aN, .int .i64 aT, .int .i64 15, .slice aA aL aC, .string aG, .string aX] 25)) := (Below.refl _ _).alloc (Nat.le_refl _) _
  have hge : aG.toList.isEmpty = false := lEmpty (decide_eq_false (Z.valid_ne hvg))
  obtain ⟨y, hy⟩ : ∃ y, bs (Z.short (lst aG) (lst or)) = y := ⟨_, rfl⟩
  have hys : y.size ≤ 60 := by rw [← hy, bs_size]; exact Z.short_len hvg hvo
  have hyl : lst y = Z.shortT (lst aG) (lst or) := by rw [← hy, lst_bs, Z.shortT, if_neg (Z.valid_ne hvg)]
  obtain ⟨D, hD⟩ : ∃ D, bs (Z.dataText 15 [n0] (Z.shortT (lst aG) (lst or)) (lst aX)) = D := ⟨_, rfl⟩
  rw [← hyl] at hD
  rw [← hyl, hD]
  have HD := hid hD
  have HY := hid hy
  have HVG := hid hvg
  have HVO := hid hvo
  have HX := hid hx
  clear hD hy hyl hvg hvo hx
  obtain ⟨p0, p1, p2, p3, p4, p5⟩ := hx0.cells6
  go_enter Tryz.func57, Tryz.ntmps57
  go_wp2_with fail
  refine (iShortName_v aG or hga hors y HVG HVO HY _).mono ?_
  rintro e w1 ⟨rfl, hb1⟩
  have hx1 := hx0.next hb1
  have bw1 := bw.trans (hb1.mono bw.size)
  have hx2 := hx1.put 4 (.string y)
  have bw2 := bw1.setCell (p := ⟨w.heap.size, 4, none⟩) (Nat.le_refl _) (.string y)
  clear hb1 bw hx0 p0 p1 p2 p3 p4 p5
  obtain ⟨p0, p1, p2, p3, p4, p5⟩ := hx1.cells6
  obtain ⟨f0, f1, f2, f3, f4, f5⟩ := hx1.free6
  go_wp2_with fail
  refine (dataOf_M aN aT aA aL aC y aX n0 aB _ (hra.below bw2 hba) (Nat.le_trans hba bw2.size) hla HX.out).mono ?_
  rintro e w3 ⟨rfl, hb3⟩
  have hbw := bw2.trans (hb3.mono bw2.size)
  have hx3 := hx2.next hb3
  clear bw1 bw2 hb3 hx1 hx2 p0 p1 p2 p3 p4 p5 f0 f1 f2 f3 f4 f5
  obtain ⟨p0, p1, p2, p3, p4, p5⟩ := hx3.cells6
  go_wp2_with fail
  refine (mText_any n0 y (by omega) _ (ht.below hbw) hz (lst aX)).mono ?_
  rintro e w4 ⟨he4, hb4⟩
  rw [HD.out] at he4
  subst he4
  go_wp2
  go_ret
  exact ⟨rfl, hbw.trans (hb4.mono hbw.size)⟩

set_option maxHeartbeats 4000000 in
theorem shortData_X (aN : ByteArray) (aT : Int)  (aA : Option Addr) (aL aC : Nat) (aG aX : ByteArray)  (aB : Nat) (or : ByteArray) (w : World) (hra : Reads w aB aA aL ([].map iv)) (hba : aB ≤ w.heap.size) (hla : aL ≤ 67108864) (hga : aG.size ≤ 67108864) (hxa : aX.size ≤ 67108864) (hors : or.size ≤ 67108864) (hvo : Z.valid (lst or) = true) (hg : lst aG = [])   :
    Calls Tryz.prog 57 #[.agg #[.string aN, .int .i64 aT, .int .i64 16, .slice aA aL aC, .string aG, .string aX], .string or] w fun e w' => e = .returned (.string (bs (Z.dataText 16 [] (Z.shortT (lst aG) (lst or)) (lst aX)))) ∧ Below w.heap.size w w' := by
  have hx0 : Blk (w.alloc (.cells #[.string aN, .int .i64 aT, .int .i64 16, .slice aA aL aC, .string aG, .string aX] 25)) w.heap.size 25 [.string aN, .int .i64 aT, .int .i64 16, .slice aA aL aC, .string aG, .string aX] := Blk.new w 25 [.string aN, .int .i64 aT, .int .i64 16, .slice aA aL aC, .string aG, .string aX]
  have bw : Below w.heap.size w (w.alloc (.cells #[.string aN, .int .i64 aT, .int .i64 16, .slice aA aL aC, .string aG, .string aX] 25)) := (Below.refl _ _).alloc (Nat.le_refl _) _
  have hge : aG.toList.isEmpty = true := lEmpty (decide_eq_true hg)
  obtain ⟨D, hD⟩ : ∃ D, bs (Z.dataText 16 [] (Z.shortT (lst aG) (lst or)) (lst aX)) = D := ⟨_, rfl⟩
  have HD := hid hD
  rw [hD]
  clear hD
  have HG := hid hg
  skip
  clear hg 
  obtain ⟨p0, p1, p2, p3, p4, p5⟩ := hx0.cells6
  go_enter Tryz.func57, Tryz.ntmps57
  go_wp2_with fail
  refine (dataOf_X aN aT aA aL aC aG aX  aB _ (hra.below bw hba) (Nat.le_trans hba bw.size) hla HG.out ).mono ?_
  rintro e w2 ⟨rfl, hb2⟩
  have hbw := bw.trans (hb2.mono bw.size)
  have hx2 := hx0.next hb2
  clear bw hb2 hx0 p0 p1 p2 p3 p4 p5
  obtain ⟨p0, p1, p2, p3, p4, p5⟩ := hx2.cells6
  go_wp2_with fail
  refine (xText_any aX hxa _ [] (Z.shortT (lst aG) (lst or))).mono ?_
  rintro e w4 ⟨he4, hb4⟩
  rw [HD.out] at he4
  subst he4
  go_wp2
  go_ret
  exact ⟨rfl, hbw.trans (hb4.mono hbw.size)⟩

set_option maxHeartbeats 4000000 in
theorem shortData_T (aN : ByteArray) (aT : Int) (aK : Int) (hkk : aK = 2 ∨ aK = 5 ∨ aK = 12) (aA : Option Addr) (aL aC : Nat) (aG aX : ByteArray)  (aB : Nat) (or : ByteArray) (w : World) (hra : Reads w aB aA aL ([].map iv)) (hba : aB ≤ w.heap.size) (hla : aL ≤ 67108864) (hga : aG.size ≤ 67108864) (hxa : aX.size ≤ 67108864) (hors : or.size ≤ 67108864) (hvo : Z.valid (lst or) = true) (hvg : Z.valid (lst aG) = true) (hx : lst aX = [])  :
    Calls Tryz.prog 57 #[.agg #[.string aN, .int .i64 aT, .int .i64 aK, .slice aA aL aC, .string aG, .string aX], .string or] w fun e w' => e = .returned (.string (bs (Z.dataText aK [] (Z.shortT (lst aG) (lst or)) (lst aX)))) ∧ Below w.heap.size w w' := by
  have hx0 : Blk (w.alloc (.cells #[.string aN, .int .i64 aT, .int .i64 aK, .slice aA aL aC, .string aG, .string aX] 25)) w.heap.size 25 [.string aN, .int .i64 aT, .int .i64 aK, .slice aA aL aC, .string aG, .string aX] := Blk.new w 25 [.string aN, .int .i64 aT, .int .i64 aK, .slice aA aL aC, .string aG, .string aX]
  have bw : Below w.heap.size w (w.alloc (.cells #[.string aN, .int .i64 aT, .int .i64 aK, .slice aA aL aC, .string aG, .string aX] 25)) := (Below.refl _ _).alloc (Nat.le_refl _) _
  have hge : aG.toList.isEmpty = false := lEmpty (decide_eq_false (Z.valid_ne hvg))
  obtain ⟨y, hy⟩ : ∃ y, bs (Z.short (lst aG) (lst or)) = y := ⟨_, rfl⟩
  have hys : y.size ≤ 60 := by rw [← hy, bs_size]; exact Z.short_len hvg hvo
  have hyl : lst y = Z.shortT (lst aG) (lst or) := by rw [← hy, lst_bs, Z.shortT, if_neg (Z.valid_ne hvg)]
  obtain ⟨D, hD⟩ : ∃ D, bs (Z.dataText aK [] (Z.shortT (lst aG) (lst or)) (lst aX)) = D := ⟨_, rfl⟩
  rw [← hyl] at hD
  rw [← hyl, hD]
  have HD := hid hD
  have HY := hid hy
  have HVG := hid hvg
  have HVO := hid hvo
  have HX := hid hx
  clear hD hy hyl hvg hvo hx
  obtain ⟨p0, p1, p2, p3, p4, p5⟩ := hx0.cells6
  go_enter Tryz.func57, Tryz.ntmps57
  go_wp2_with fail
  refine (iShortName_v aG or hga hors y HVG HVO HY _).mono ?_
  rintro e w1 ⟨rfl, hb1⟩
  have hx1 := hx0.next hb1
  have bw1 := bw.trans (hb1.mono bw.size)
  have hx2 := hx1.put 4 (.string y)
  have bw2 := bw1.setCell (p := ⟨w.heap.size, 4, none⟩) (Nat.le_refl _) (.string y)
  clear hb1 bw hx0 p0 p1 p2 p3 p4 p5
  obtain ⟨p0, p1, p2, p3, p4, p5⟩ := hx1.cells6
  obtain ⟨f0, f1, f2, f3, f4, f5⟩ := hx1.free6
  go_wp2_with fail
  refine (dataOf_T aN aT aK hkk aA aL aC y aX  aB _ (hra.below bw2 hba) (Nat.le_trans hba bw2.size) hla HX.out).mono ?_
  rintro e w3 ⟨rfl, hb3⟩
  have hbw := bw2.trans (hb3.mono bw2.size)
  have hx3 := hx2.next hb3
  clear bw1 bw2 hb3 hx1 hx2 p0 p1 p2 p3 p4 p5 f0 f1 f2 f3 f4 f5
  obtain ⟨p0, p1, p2, p3, p4, p5⟩ := hx3.cells6
  go_wp2_with fail
  refine (tText_any y _ aK hkk (lst aX)).mono ?_
  rintro e w4 ⟨he4, hb4⟩
  rw [HD.out] at he4
  subst he4
  go_wp2
  go_ret
  exact ⟨rfl, hbw.trans (hb4.mono hbw.size)⟩

theorem shortData_any (aN : ByteArray) (aT aK : Int) (aA : Option Addr) (aL aC : Nat) (aG aX : ByteArray) (aZ : List Int) (aB : Nat) (or : ByteArray) (w : World) (hra : Reads w aB aA aL (aZ.map iv)) (hba : aB ≤ w.heap.size) (hla : aL ≤ 67108864) (hsa : aN.size ≤ 67108864) (hga : aG.size ≤ 67108864) (hxa : aX.size ≤ 67108864) (hors : or.size ≤ 67108864) (hv : Z.recValid (⟨lst aN, aT, aK, aZ, lst aG, lst aX⟩ : Z.Rec) = true) (hvo : Z.valid (lst or) = true) (ht : PT w) :
    Calls Tryz.prog 57 #[.agg #[.string aN, .int .i64 aT, .int .i64 aK, .slice aA aL aC, .string aG, .string aX], .string or] w fun e w' => e = .returned (.string (bs (Z.dataText aK aZ (Z.shortT (lst aG) (lst or)) (lst aX)))) ∧ Below w.heap.size w w' := by
  obtain ⟨_, _, _, hk, hn, hr⟩ := Z.recValid_iff.1 hv
  have hl := Z.okNums_length hn
  have hrg := Z.okNums_range hn (Z.lims_le _)
  have htg := Z.okRest_target hr
  dsimp only at hk hn hr hl hrg htg
  have hT : ∀ k : Int, aK = k → (k = 2 ∨ k = 5 ∨ k = 12) → Calls Tryz.prog 57 #[.agg #[.string aN, .int .i64 aT, .int .i64 aK, .slice aA aL aC, .string aG, .string aX], .string or] w fun e w' => e = .returned (.string (bs (Z.dataText aK aZ (Z.shortT (lst aG) (lst or)) (lst aX)))) ∧ Below w.heap.size w w' := fun k e hkk => by
    subst e
    have hz0 : aZ = [] := List.length_eq_zero_iff.1 (by rw [hl]; rcases hkk with rfl | rfl | rfl <;> decide)
    subst hz0
    rcases htg with ⟨h9, _⟩ | ⟨_, hvg, hx⟩
    · rcases hkk with rfl | rfl | rfl <;> rcases h9 with h9 | h9 <;> exact absurd h9 (by decide)
    · exact shortData_T aN aT aK hkk aA aL aC aG aX aB or w hra hba hla hga hxa hors hvo hvg hx
  rcases hk with rfl | rfl | rfl | rfl | rfl | rfl | rfl
  · obtain ⟨n0, n1, n2, n3, rfl⟩ := list4 (l := aZ) (by rw [hl]; decide)
    have hx : lst aX = [] := by
      unfold Z.okRest at hr
      simpa using And.right (by simpa using hr : _ ∧ _)
    rcases htg with ⟨_, hg⟩ | ⟨h9, _⟩
    · exact shortData_A aN aT aA aL aC aG aX n0 n1 n2 n3 aB or w hra hba hla hga hxa hors hvo hg hx (hid hrg) ht
    · exact absurd (Or.inl rfl) h9
  · exact hT 2 rfl (Or.inl rfl)
  · exact hT 5 rfl (Or.inr (Or.inl rfl))
  · obtain ⟨n0, n1, n2, n3, n4, rfl⟩ := list5 (l := aZ) (by rw [hl]; decide)
    rcases htg with ⟨h9, _⟩ | ⟨_, hvg, hx⟩
    · rcases h9 with h9 | h9 <;> exact absurd h9 (by decide)
    · exact shortData_S aN aT aA aL aC aG aX n0 n1 n2 n3 n4 aB or w hra hba hla hga hxa hors hvo hvg hx (hid hrg) ht
  · exact hT 12 rfl (Or.inr (Or.inr rfl))
  · obtain ⟨n0, rfl⟩ := list1 (l := aZ) (by rw [hl]; decide)
    rcases htg with ⟨h9, _⟩ | ⟨_, hvg, hx⟩
    · rcases h9 with h9 | h9 <;> exact absurd h9 (by decide)
    · exact shortData_M aN aT aA aL aC aG aX n0 aB or w hra hba hla hga hxa hors hvo hvg hx (hid hrg) ht
  · have hz0 : aZ = [] := List.length_eq_zero_iff.1 (by rw [hl]; decide)
    subst hz0
    rcases htg with ⟨_, hg⟩ | ⟨h9, _⟩
    · exact shortData_X aN aT aA aL aC aG aX aB or w hra hba hla hga hxa hors hvo hg
    · exact absurd (Or.inr rfl) h9
theorem shortData_eq (aN : ByteArray) (aT aK : Int) (aA : Option Addr) (aL aC : Nat) (aG aX : ByteArray) (aZ : List Int) (aB : Nat) (or : ByteArray) (w : World) (hra : Reads w aB aA aL (aZ.map iv)) (hba : aB ≤ w.heap.size) (hla : aL ≤ 67108864) (hsa : aN.size ≤ 67108864) (hga : aG.size ≤ 67108864) (hxa : aX.size ≤ 67108864) (hors : or.size ≤ 67108864) (hv : Hid (Z.recValid (⟨lst aN, aT, aK, aZ, lst aG, lst aX⟩ : Z.Rec) = true)) (hvo : Hid (Z.valid (lst or) = true)) (ht : PT w) (D : ByteArray) (hD : Hid (bs (Z.dataText aK aZ (Z.shortT (lst aG) (lst or)) (lst aX)) = D)) :
    Calls Tryz.prog 57 #[.agg #[.string aN, .int .i64 aT, .int .i64 aK, .slice aA aL aC, .string aG, .string aX], .string or] w fun e w' => e = .returned (.string D) ∧ Below w.heap.size w w' := by
  have h := shortData_any aN aT aK aA aL aC aG aX aZ aB or w hra hba hla hsa hga hxa hors hv.out hvo.out ht
  rw [hD.out] at h
  exact h
theorem lRecordValid_v (aN : ByteArray) (aT aK : Int) (aA : Option Addr) (aL aC : Nat) (aG aX : ByteArray) (aZ : List Int) (aB : Nat) (w : World) (hra : Reads w aB aA aL (aZ.map iv)) (hba : aB ≤ w.heap.size) (hla : aL ≤ 67108864) (hsa : aN.size ≤ 67108864) (hga : aG.size ≤ 67108864) (hxa : aX.size ≤ 67108864) (v : Bool) (hv : Hid (Z.recValid (⟨lst aN, aT, aK, aZ, lst aG, lst aX⟩ : Z.Rec) = v)) :
    Calls Tryz.prog 20 #[.agg #[.string aN, .int .i64 aT, .int .i64 aK, .slice aA aL aC, .string aG, .string aX]] w fun e w' => e = .returned (.bool v) ∧ Below w.heap.size w w' := by
  have h := iRecordValid_any aN aT aK aA aL aC aG aX aZ aB w hra hba hla hsa hga hxa
  rw [hv.out] at h
  exact h
theorem lNameValid_v (s : ByteArray) (hs : s.size ≤ 67108864) (v : Bool) (hv : Hid (Z.valid (lst s) = v)) (w : World) :
    Calls Tryz.prog 49 #[.string s] w fun e w' => e = .returned (.bool v) ∧ Below w.heap.size w w' := by
  have h := iNameValid_any s (by unfold maxLen; omega) w
  rw [hv.out] at h
  exact h
theorem lWriteLine_is {r : Z.Rec} {o ow : Z.Str} {v1 v2 oe v3 : Bool} (h1 : Z.recValid r = v1) (h2 : Z.valid o = v2) (h3 : decide (ow = []) = oe) (h4 : Z.valid ow = v3) : Z.writeLine r o ow = if v1 && v2 && (oe || v3) then some (Z.lineText r o ow) else none := by
  unfold Z.writeLine
  rw [h1, h2, h3, h4]
/-- What a good line is made of. -/
theorem line_join {r : Z.Rec} (hv : Z.recValid r = true) (o ow : Z.Str) {n t k d : ByteArray} (hn : lst n = Z.lead r o ow) (ht : lst t = Lib.itoa r.ttl) (hk : lst k = Z.kindName r.kind) (hd : lst d = Z.dataText r.kind r.nums (Z.shortT r.target o) r.text) :
    Lib.join [lst n, lst t, lst k, lst d] (lst ⟨#[32]⟩) = Z.lineText r o ow := by
  rw [show lst ⟨#[32]⟩ = [32] from rfl, parts_text, Z.line_text hv, hn, ht, hk, hd]

set_option maxHeartbeats 8000000 in
theorem iwl_none_same (aN : ByteArray) (aT aK : Int) (aA : Option Addr) (aL aC : Nat) (aG aX : ByteArray) (aZ : List Int) (aB : Nat) (or ow : ByteArray) (w : World) (hra : Reads w aB aA aL (aZ.map iv)) (hba : aB ≤ w.heap.size) (hla : aL ≤ 67108864) (hsa : aN.size ≤ 67108864) (hga : aG.size ≤ 67108864) (hxa : aX.size ≤ 67108864) (hors : or.size ≤ 67108864) (how : ow.size ≤ 67108864) (hkt : KT w) (hpt : PT w) (hv : Z.recValid (⟨lst aN, aT, aK, aZ, lst aG, lst aX⟩ : Z.Rec) = true) (hvo : Z.valid (lst or) = true) (hoe : lst ow = []) (heq : lst aN = lst ow) :
    Calls Tryz.prog 18 #[.agg #[.string aN, .int .i64 aT, .int .i64 aK, .slice aA aL aC, .string aG, .string aX], .string or, .string ow] w fun e w' => e = .returned (.tuple #[.string (bs (Z.lineText (⟨lst aN, aT, aK, aZ, lst aG, lst aX⟩ : Z.Rec) (lst or) (lst ow))), .bool true]) ∧ Below w.heap.size w w' := by
  have hx0 := Held.box w [.string aN, .int .i64 aT, .int .i64 aK, .slice aA aL aC, .string aG, .string aX] 25
  obtain ⟨hvn, hT0, hT1, hkk, _, hrest⟩ := Z.recValid_iff.1 hv
  have htl := Z.shortT_len hrest hvo
  dsimp only at hvn hT0 hT1 hkk hrest htl
  obtain ⟨D, hD⟩ : ∃ D, bs (Z.lineText (⟨lst aN, aT, aK, aZ, lst aG, lst aX⟩ : Z.Rec) (lst or) (lst ow)) = D := ⟨_, rfl⟩
  rw [hD]
  obtain ⟨nS, hnS⟩ : ∃ s, bs (Z.short (lst aN) (lst or)) = s := ⟨_, rfl⟩
  obtain ⟨tS, htS⟩ : ∃ s, bs (Lib.itoa aT) = s := ⟨_, rfl⟩
  obtain ⟨kS, hkS⟩ : ∃ s, bs (Z.kindName aK) = s := ⟨_, rfl⟩
  obtain ⟨dS, hdS⟩ : ∃ s, bs (Z.dataText aK aZ (Z.shortT (lst aG) (lst or)) (lst aX)) = s := ⟨_, rfl⟩
  have hlead : lst ⟨#[]⟩ = Z.lead (⟨lst aN, aT, aK, aZ, lst aG, lst aX⟩ : Z.Rec) (lst or) (lst ow) := by
    unfold Z.lead
    rw [if_pos heq]; rfl
  have hjoin := line_join (t := tS) (k := kS) (d := dS) hv (lst or) (lst ow) hlead (by rw [← htS]; exact lst_bs _) (by rw [← hkS]; exact lst_bs _) (by rw [← hdS]; exact lst_bs _)
  have hjl : (Lib.join [lst ⟨#[]⟩, lst tS, lst kS, lst dS] (lst ⟨#[32]⟩)).length ≤ 67108864 := by
    rw [hjoin, Z.line_text hv]
    have l1 : (Z.lead (⟨lst aN, aT, aK, aZ, lst aG, lst aX⟩ : Z.Rec) (lst or) (lst ow)).length ≤ 60 := by rw [← hlead]; exact Nat.zero_le _
    have l2 := itoa_len hT0 (by omega)
    have l3 : (Z.kindName aK).length ≤ 5 := by
      unfold Z.kindName
      repeat' split
      all_goals simp
    have l4 := Z.data_short_len hv hvo
    dsimp only at l1 l4 ⊢
    simp only [List.length_append, List.length_cons]
    omega
  have hfin : Hid (bs (Lib.join [lst ⟨#[]⟩, lst tS, lst kS, lst dS] (lst ⟨#[32]⟩)) = D) := hid (by rw [hjoin, hD])
  have hnn : (aN.toList == ow.toList) = true := by rw [eq_toList]; simpa using heq
  have hoe9 := lEmpty (decide_eq_true hoe)
  have HJ := hid hjl
  have HV := hid hv
  have HVN := hid hvn
  have HVO := hid hvo
  skip
  have HN := hid hnS
  have HT := hid htS
  have HK := hid hkS
  have HS := hid hdS
  clear hv hvn hvo hnS htS hkS hdS hlead hjoin hjl hD hrest hkk htl heq hoe 
  obtain ⟨q0, q1, q2, q3, q4, q5⟩ := hx0.cells6
  go_enter Tryz.func18, Tryz.ntmps18
  go_wp2_with fail
  refine (lRecordValid_v aN aT aK aA aL aC aG aX aZ aB _ (hra.held hba hx0) (hx0.up hba) hla hsa hga hxa true HV).mono ?_
  rintro e w1 ⟨rfl, hb1⟩
  have hx1 := hx0.next hb1
  clear hb1 hx0 q0 q1 q2 q3 q4 q5
  obtain ⟨q0, q1, q2, q3, q4, q5⟩ := hx1.cells6
  go_wp2_with fail
  refine (lNameValid_v or hors true HVO _).mono ?_
  rintro e w2 ⟨rfl, hb2⟩
  have hx2 := hx1.next hb2
  clear hb2 hx1 q0 q1 q2 q3 q4 q5
  obtain ⟨q0, q1, q2, q3, q4, q5⟩ := hx2.cells6
  go_wp2_with fail
  go_region_held3 (fun w' => Held w w' w.heap.size [.string aN, .int .i64 aT, .int .i64 aK, .slice aA aL aC, .string aG, .string aX] ∧ w'.cell? ⟨w.heap.size, 0, none⟩ = some (.string aN) ∧ w'.cell? ⟨w.heap.size, 1, none⟩ = some (.int .i64 aT) ∧ w'.cell? ⟨w.heap.size, 2, none⟩ = some (.int .i64 aK) ∧ w'.cell? ⟨w.heap.size, 3, none⟩ = some (.slice aA aL aC) ∧ w'.cell? ⟨w.heap.size, 4, none⟩ = some (.string aG) ∧ w'.cell? ⟨w.heap.size, 5, none⟩ = some (.string aX))
    (first
      | (exact ⟨hx2, hx2.cells6⟩)
      | (exact ⟨hx2.drewN 1, (hx2.drewN 1).cells6⟩)
      | (go_split_ands; have hx := Held.next (by assumption) hb9; exact ⟨hx, hx.cells6⟩)
      | (go_split_ands; exact held6_alloc (by assumption) _)
      | go_keep)
    (first
      | (go_at_call 55; go_split_ands; refine (Itoa_eq aT hT0 (by omega) tS HT _ (PT.held hpt (by assumption))).mono ?_; rintro e w9 ⟨rfl, hb9⟩)
      | (go_at_call 56; go_split_ands; refine (iKindName_eq _ kS HK _ (KT.held hkt (by assumption))).mono ?_; rintro e w9 ⟨rfl, hb9⟩)
      | (go_at_call 57; go_split_ands; refine (shortData_eq aN aT aK aA aL aC aG aX aZ aB or _ (hra.held hba (by assumption)) ((by assumption : Held w _ _ _).up hba) hla hsa hga hxa hors HV HVO (PT.held hpt (by assumption)) dS HS).mono ?_; rintro e w9 ⟨rfl, hb9⟩))
  all_goals go_split_ands
  have hh9 : Held w (w9.alloc (.cells #[.string ⟨#[]⟩, .string tS, .string kS, .string dS] 9)) w.heap.size [.string aN, .int .i64 aT, .int .i64 aK, .slice aA aL aC, .string aG, .string aX] := by assumption
  have hjn : Calls Tryz.prog 58 #[.slice (some ⟨w9.heap.size, 0, none⟩) 4 4, .string ⟨#[32]⟩] (w9.alloc (.cells #[.string ⟨#[]⟩, .string tS, .string kS, .string dS] 9)) fun e w' => e = .returned (.string D) ∧ Below (w9.alloc (.cells #[.string ⟨#[]⟩, .string tS, .string kS, .string dS] 9)).heap.size (w9.alloc (.cells #[.string ⟨#[]⟩, .string tS, .string kS, .string dS] 9)) w' := by
    have ho := own_new w9 [.string ⟨#[]⟩, .string tS, .string kS, .string dS] 9 (show 4 ≤ maxLen by decide)
    have h9 := Join_own [lst ⟨#[]⟩, lst tS, lst kS, lst dS] (some ⟨w9.heap.size, 0, none⟩) 4 ⟨#[32]⟩ w9.heap.size (w9.alloc (.cells #[.string ⟨#[]⟩, .string tS, .string kS, .string dS] 9)) (by simp only [List.map_cons, List.map_nil, sv_lst]; exact ho) (show 4 ≤ 67108864 by decide) HJ.out
    rw [hfin.out] at h9
    exact h9
  have HJN := hid hjn
  clear hjn hfin HJ HV HN HT HK HS HVN HVO hx2 q0 q1 q2 q3 q4 q5
  go_wp2_with (go_at_call 58; refine HJN.out.mono ?_; rintro e w10 ⟨rfl, hb10⟩)
  go_ret2
  exact ⟨rfl, (hh9.next hb10).1⟩

set_option maxHeartbeats 8000000 in
theorem iwl_none_other (aN : ByteArray) (aT aK : Int) (aA : Option Addr) (aL aC : Nat) (aG aX : ByteArray) (aZ : List Int) (aB : Nat) (or ow : ByteArray) (w : World) (hra : Reads w aB aA aL (aZ.map iv)) (hba : aB ≤ w.heap.size) (hla : aL ≤ 67108864) (hsa : aN.size ≤ 67108864) (hga : aG.size ≤ 67108864) (hxa : aX.size ≤ 67108864) (hors : or.size ≤ 67108864) (how : ow.size ≤ 67108864) (hkt : KT w) (hpt : PT w) (hv : Z.recValid (⟨lst aN, aT, aK, aZ, lst aG, lst aX⟩ : Z.Rec) = true) (hvo : Z.valid (lst or) = true) (hoe : lst ow = []) (heq : lst aN ≠ lst ow) :
    Calls Tryz.prog 18 #[.agg #[.string aN, .int .i64 aT, .int .i64 aK, .slice aA aL aC, .string aG, .string aX], .string or, .string ow] w fun e w' => e = .returned (.tuple #[.string (bs (Z.lineText (⟨lst aN, aT, aK, aZ, lst aG, lst aX⟩ : Z.Rec) (lst or) (lst ow))), .bool true]) ∧ Below w.heap.size w w' := by
  have hx0 := Held.box w [.string aN, .int .i64 aT, .int .i64 aK, .slice aA aL aC, .string aG, .string aX] 25
  obtain ⟨hvn, hT0, hT1, hkk, _, hrest⟩ := Z.recValid_iff.1 hv
  have htl := Z.shortT_len hrest hvo
  dsimp only at hvn hT0 hT1 hkk hrest htl
  obtain ⟨D, hD⟩ : ∃ D, bs (Z.lineText (⟨lst aN, aT, aK, aZ, lst aG, lst aX⟩ : Z.Rec) (lst or) (lst ow)) = D := ⟨_, rfl⟩
  rw [hD]
  obtain ⟨nS, hnS⟩ : ∃ s, bs (Z.short (lst aN) (lst or)) = s := ⟨_, rfl⟩
  obtain ⟨tS, htS⟩ : ∃ s, bs (Lib.itoa aT) = s := ⟨_, rfl⟩
  obtain ⟨kS, hkS⟩ : ∃ s, bs (Z.kindName aK) = s := ⟨_, rfl⟩
  obtain ⟨dS, hdS⟩ : ∃ s, bs (Z.dataText aK aZ (Z.shortT (lst aG) (lst or)) (lst aX)) = s := ⟨_, rfl⟩
  have hlead : lst nS = Z.lead (⟨lst aN, aT, aK, aZ, lst aG, lst aX⟩ : Z.Rec) (lst or) (lst ow) := by
    unfold Z.lead
    rw [if_neg heq, ← hnS, lst_bs]
  have hjoin := line_join (t := tS) (k := kS) (d := dS) hv (lst or) (lst ow) hlead (by rw [← htS]; exact lst_bs _) (by rw [← hkS]; exact lst_bs _) (by rw [← hdS]; exact lst_bs _)
  have hjl : (Lib.join [lst nS, lst tS, lst kS, lst dS] (lst ⟨#[32]⟩)).length ≤ 67108864 := by
    rw [hjoin, Z.line_text hv]
    have l1 : (Z.lead (⟨lst aN, aT, aK, aZ, lst aG, lst aX⟩ : Z.Rec) (lst or) (lst ow)).length ≤ 60 := by rw [← hlead]; rw [← hnS, lst_bs]; exact Z.short_len hvn hvo
    have l2 := itoa_len hT0 (by omega)
    have l3 : (Z.kindName aK).length ≤ 5 := by
      unfold Z.kindName
      repeat' split
      all_goals simp
    have l4 := Z.data_short_len hv hvo
    dsimp only at l1 l4 ⊢
    simp only [List.length_append, List.length_cons]
    omega
  have hfin : Hid (bs (Lib.join [lst nS, lst tS, lst kS, lst dS] (lst ⟨#[32]⟩)) = D) := hid (by rw [hjoin, hD])
  have hnn : (aN.toList == ow.toList) = false := by rw [eq_toList]; simpa using heq
  have hoe9 := lEmpty (decide_eq_true hoe)
  have HJ := hid hjl
  have HV := hid hv
  have HVN := hid hvn
  have HVO := hid hvo
  skip
  have HN := hid hnS
  have HT := hid htS
  have HK := hid hkS
  have HS := hid hdS
  clear hv hvn hvo hnS htS hkS hdS hlead hjoin hjl hD hrest hkk htl heq hoe 
  obtain ⟨q0, q1, q2, q3, q4, q5⟩ := hx0.cells6
  go_enter Tryz.func18, Tryz.ntmps18
  go_wp2_with fail
  refine (lRecordValid_v aN aT aK aA aL aC aG aX aZ aB _ (hra.held hba hx0) (hx0.up hba) hla hsa hga hxa true HV).mono ?_
  rintro e w1 ⟨rfl, hb1⟩
  have hx1 := hx0.next hb1
  clear hb1 hx0 q0 q1 q2 q3 q4 q5
  obtain ⟨q0, q1, q2, q3, q4, q5⟩ := hx1.cells6
  go_wp2_with fail
  refine (lNameValid_v or hors true HVO _).mono ?_
  rintro e w2 ⟨rfl, hb2⟩
  have hx2 := hx1.next hb2
  clear hb2 hx1 q0 q1 q2 q3 q4 q5
  obtain ⟨q0, q1, q2, q3, q4, q5⟩ := hx2.cells6
  go_wp2_with fail
  refine (iShortName_v aN or hsa hors nS HVN HVO HN _).mono ?_
  rintro e w4 ⟨rfl, hb4⟩
  have hx4 := hx2.next hb4
  clear hb4 hx2 q0 q1 q2 q3 q4 q5
  obtain ⟨q0, q1, q2, q3, q4, q5⟩ := hx4.cells6
  go_wp2_with fail
  go_region_held3 (fun w' => Held w w' w.heap.size [.string aN, .int .i64 aT, .int .i64 aK, .slice aA aL aC, .string aG, .string aX] ∧ w'.cell? ⟨w.heap.size, 0, none⟩ = some (.string aN) ∧ w'.cell? ⟨w.heap.size, 1, none⟩ = some (.int .i64 aT) ∧ w'.cell? ⟨w.heap.size, 2, none⟩ = some (.int .i64 aK) ∧ w'.cell? ⟨w.heap.size, 3, none⟩ = some (.slice aA aL aC) ∧ w'.cell? ⟨w.heap.size, 4, none⟩ = some (.string aG) ∧ w'.cell? ⟨w.heap.size, 5, none⟩ = some (.string aX))
    (first
      | (exact ⟨hx4, hx4.cells6⟩)
      | (exact ⟨hx4.drewN 1, (hx4.drewN 1).cells6⟩)
      | (go_split_ands; have hx := Held.next (by assumption) hb9; exact ⟨hx, hx.cells6⟩)
      | (go_split_ands; exact held6_alloc (by assumption) _)
      | go_keep)
    (first
      | (go_at_call 55; go_split_ands; refine (Itoa_eq aT hT0 (by omega) tS HT _ (PT.held hpt (by assumption))).mono ?_; rintro e w9 ⟨rfl, hb9⟩)
      | (go_at_call 56; go_split_ands; refine (iKindName_eq _ kS HK _ (KT.held hkt (by assumption))).mono ?_; rintro e w9 ⟨rfl, hb9⟩)
      | (go_at_call 57; go_split_ands; refine (shortData_eq aN aT aK aA aL aC aG aX aZ aB or _ (hra.held hba (by assumption)) ((by assumption : Held w _ _ _).up hba) hla hsa hga hxa hors HV HVO (PT.held hpt (by assumption)) dS HS).mono ?_; rintro e w9 ⟨rfl, hb9⟩))
  all_goals go_split_ands
  have hh9 : Held w (w9.alloc (.cells #[.string nS, .string tS, .string kS, .string dS] 9)) w.heap.size [.string aN, .int .i64 aT, .int .i64 aK, .slice aA aL aC, .string aG, .string aX] := by assumption
  have hjn : Calls Tryz.prog 58 #[.slice (some ⟨w9.heap.size, 0, none⟩) 4 4, .string ⟨#[32]⟩] (w9.alloc (.cells #[.string nS, .string tS, .string kS, .string dS] 9)) fun e w' => e = .returned (.string D) ∧ Below (w9.alloc (.cells #[.string nS, .string tS, .string kS, .string dS] 9)).heap.size (w9.alloc (.cells #[.string nS, .string tS, .string kS, .string dS] 9)) w' := by
    have ho := own_new w9 [.string nS, .string tS, .string kS, .string dS] 9 (show 4 ≤ maxLen by decide)
    have h9 := Join_own [lst nS, lst tS, lst kS, lst dS] (some ⟨w9.heap.size, 0, none⟩) 4 ⟨#[32]⟩ w9.heap.size (w9.alloc (.cells #[.string nS, .string tS, .string kS, .string dS] 9)) (by simp only [List.map_cons, List.map_nil, sv_lst]; exact ho) (show 4 ≤ 67108864 by decide) HJ.out
    rw [hfin.out] at h9
    exact h9
  have HJN := hid hjn
  clear hjn hfin HJ HV HN HT HK HS HVN HVO hx4 q0 q1 q2 q3 q4 q5
  go_wp2_with (go_at_call 58; refine HJN.out.mono ?_; rintro e w10 ⟨rfl, hb10⟩)
  go_ret2
  exact ⟨rfl, (hh9.next hb10).1⟩

set_option maxHeartbeats 8000000 in
theorem iwl_some_same (aN : ByteArray) (aT aK : Int) (aA : Option Addr) (aL aC : Nat) (aG aX : ByteArray) (aZ : List Int) (aB : Nat) (or ow : ByteArray) (w : World) (hra : Reads w aB aA aL (aZ.map iv)) (hba : aB ≤ w.heap.size) (hla : aL ≤ 67108864) (hsa : aN.size ≤ 67108864) (hga : aG.size ≤ 67108864) (hxa : aX.size ≤ 67108864) (hors : or.size ≤ 67108864) (how : ow.size ≤ 67108864) (hkt : KT w) (hpt : PT w) (hv : Z.recValid (⟨lst aN, aT, aK, aZ, lst aG, lst aX⟩ : Z.Rec) = true) (hvo : Z.valid (lst or) = true) (hoe : lst ow ≠ []) (hvw : Z.valid (lst ow) = true) (heq : lst aN = lst ow) :
    Calls Tryz.prog 18 #[.agg #[.string aN, .int .i64 aT, .int .i64 aK, .slice aA aL aC, .string aG, .string aX], .string or, .string ow] w fun e w' => e = .returned (.tuple #[.string (bs (Z.lineText (⟨lst aN, aT, aK, aZ, lst aG, lst aX⟩ : Z.Rec) (lst or) (lst ow))), .bool true]) ∧ Below w.heap.size w w' := by
  have hx0 := Held.box w [.string aN, .int .i64 aT, .int .i64 aK, .slice aA aL aC, .string aG, .string aX] 25
  obtain ⟨hvn, hT0, hT1, hkk, _, hrest⟩ := Z.recValid_iff.1 hv
  have htl := Z.shortT_len hrest hvo
  dsimp only at hvn hT0 hT1 hkk hrest htl
  obtain ⟨D, hD⟩ : ∃ D, bs (Z.lineText (⟨lst aN, aT, aK, aZ, lst aG, lst aX⟩ : Z.Rec) (lst or) (lst ow)) = D := ⟨_, rfl⟩
  rw [hD]
  obtain ⟨nS, hnS⟩ : ∃ s, bs (Z.short (lst aN) (lst or)) = s := ⟨_, rfl⟩
  obtain ⟨tS, htS⟩ : ∃ s, bs (Lib.itoa aT) = s := ⟨_, rfl⟩
  obtain ⟨kS, hkS⟩ : ∃ s, bs (Z.kindName aK) = s := ⟨_, rfl⟩
  obtain ⟨dS, hdS⟩ : ∃ s, bs (Z.dataText aK aZ (Z.shortT (lst aG) (lst or)) (lst aX)) = s := ⟨_, rfl⟩
  have hlead : lst ⟨#[]⟩ = Z.lead (⟨lst aN, aT, aK, aZ, lst aG, lst aX⟩ : Z.Rec) (lst or) (lst ow) := by
    unfold Z.lead
    rw [if_pos heq]; rfl
  have hjoin := line_join (t := tS) (k := kS) (d := dS) hv (lst or) (lst ow) hlead (by rw [← htS]; exact lst_bs _) (by rw [← hkS]; exact lst_bs _) (by rw [← hdS]; exact lst_bs _)
  have hjl : (Lib.join [lst ⟨#[]⟩, lst tS, lst kS, lst dS] (lst ⟨#[32]⟩)).length ≤ 67108864 := by
    rw [hjoin, Z.line_text hv]
    have l1 : (Z.lead (⟨lst aN, aT, aK, aZ, lst aG, lst aX⟩ : Z.Rec) (lst or) (lst ow)).length ≤ 60 := by rw [← hlead]; exact Nat.zero_le _
    have l2 := itoa_len hT0 (by omega)
    have l3 : (Z.kindName aK).length ≤ 5 := by
      unfold Z.kindName
      repeat' split
      all_goals simp
    have l4 := Z.data_short_len hv hvo
    dsimp only at l1 l4 ⊢
    simp only [List.length_append, List.length_cons]
    omega
  have hfin : Hid (bs (Lib.join [lst ⟨#[]⟩, lst tS, lst kS, lst dS] (lst ⟨#[32]⟩)) = D) := hid (by rw [hjoin, hD])
  have hnn : (aN.toList == ow.toList) = true := by rw [eq_toList]; simpa using heq
  have hoe9 := lEmpty (decide_eq_false hoe)
  have HJ := hid hjl
  have HV := hid hv
  have HVN := hid hvn
  have HVO := hid hvo
  have HVW := hid hvw
  have HN := hid hnS
  have HT := hid htS
  have HK := hid hkS
  have HS := hid hdS
  clear hv hvn hvo hnS htS hkS hdS hlead hjoin hjl hD hrest hkk htl heq hoe hvw
  obtain ⟨q0, q1, q2, q3, q4, q5⟩ := hx0.cells6
  go_enter Tryz.func18, Tryz.ntmps18
  go_wp2_with fail
  refine (lRecordValid_v aN aT aK aA aL aC aG aX aZ aB _ (hra.held hba hx0) (hx0.up hba) hla hsa hga hxa true HV).mono ?_
  rintro e w1 ⟨rfl, hb1⟩
  have hx1 := hx0.next hb1
  clear hb1 hx0 q0 q1 q2 q3 q4 q5
  obtain ⟨q0, q1, q2, q3, q4, q5⟩ := hx1.cells6
  go_wp2_with fail
  refine (lNameValid_v or hors true HVO _).mono ?_
  rintro e w2 ⟨rfl, hb2⟩
  have hx2 := hx1.next hb2
  clear hb2 hx1 q0 q1 q2 q3 q4 q5
  obtain ⟨q0, q1, q2, q3, q4, q5⟩ := hx2.cells6
  go_wp2_with fail
  refine (lNameValid_v ow how true HVW _).mono ?_
  rintro e w3 ⟨rfl, hb3⟩
  have hx3 := hx2.next hb3
  clear hb3 hx2 q0 q1 q2 q3 q4 q5
  obtain ⟨q0, q1, q2, q3, q4, q5⟩ := hx3.cells6
  go_wp2_with fail
  go_region_held3 (fun w' => Held w w' w.heap.size [.string aN, .int .i64 aT, .int .i64 aK, .slice aA aL aC, .string aG, .string aX] ∧ w'.cell? ⟨w.heap.size, 0, none⟩ = some (.string aN) ∧ w'.cell? ⟨w.heap.size, 1, none⟩ = some (.int .i64 aT) ∧ w'.cell? ⟨w.heap.size, 2, none⟩ = some (.int .i64 aK) ∧ w'.cell? ⟨w.heap.size, 3, none⟩ = some (.slice aA aL aC) ∧ w'.cell? ⟨w.heap.size, 4, none⟩ = some (.string aG) ∧ w'.cell? ⟨w.heap.size, 5, none⟩ = some (.string aX))
    (first
      | (exact ⟨hx3, hx3.cells6⟩)
      | (exact ⟨hx3.drewN 1, (hx3.drewN 1).cells6⟩)
      | (go_split_ands; have hx := Held.next (by assumption) hb9; exact ⟨hx, hx.cells6⟩)
      | (go_split_ands; exact held6_alloc (by assumption) _)
      | go_keep)
    (first
      | (go_at_call 55; go_split_ands; refine (Itoa_eq aT hT0 (by omega) tS HT _ (PT.held hpt (by assumption))).mono ?_; rintro e w9 ⟨rfl, hb9⟩)
      | (go_at_call 56; go_split_ands; refine (iKindName_eq _ kS HK _ (KT.held hkt (by assumption))).mono ?_; rintro e w9 ⟨rfl, hb9⟩)
      | (go_at_call 57; go_split_ands; refine (shortData_eq aN aT aK aA aL aC aG aX aZ aB or _ (hra.held hba (by assumption)) ((by assumption : Held w _ _ _).up hba) hla hsa hga hxa hors HV HVO (PT.held hpt (by assumption)) dS HS).mono ?_; rintro e w9 ⟨rfl, hb9⟩))
  all_goals go_split_ands
  have hh9 : Held w (w9.alloc (.cells #[.string ⟨#[]⟩, .string tS, .string kS, .string dS] 9)) w.heap.size [.string aN, .int .i64 aT, .int .i64 aK, .slice aA aL aC, .string aG, .string aX] := by assumption
  have hjn : Calls Tryz.prog 58 #[.slice (some ⟨w9.heap.size, 0, none⟩) 4 4, .string ⟨#[32]⟩] (w9.alloc (.cells #[.string ⟨#[]⟩, .string tS, .string kS, .string dS] 9)) fun e w' => e = .returned (.string D) ∧ Below (w9.alloc (.cells #[.string ⟨#[]⟩, .string tS, .string kS, .string dS] 9)).heap.size (w9.alloc (.cells #[.string ⟨#[]⟩, .string tS, .string kS, .string dS] 9)) w' := by
    have ho := own_new w9 [.string ⟨#[]⟩, .string tS, .string kS, .string dS] 9 (show 4 ≤ maxLen by decide)
    have h9 := Join_own [lst ⟨#[]⟩, lst tS, lst kS, lst dS] (some ⟨w9.heap.size, 0, none⟩) 4 ⟨#[32]⟩ w9.heap.size (w9.alloc (.cells #[.string ⟨#[]⟩, .string tS, .string kS, .string dS] 9)) (by simp only [List.map_cons, List.map_nil, sv_lst]; exact ho) (show 4 ≤ 67108864 by decide) HJ.out
    rw [hfin.out] at h9
    exact h9
  have HJN := hid hjn
  clear hjn hfin HJ HV HN HT HK HS HVN HVO hx3 q0 q1 q2 q3 q4 q5
  go_wp2_with (go_at_call 58; refine HJN.out.mono ?_; rintro e w10 ⟨rfl, hb10⟩)
  go_ret2
  exact ⟨rfl, (hh9.next hb10).1⟩

set_option maxHeartbeats 8000000 in
theorem iwl_some_other (aN : ByteArray) (aT aK : Int) (aA : Option Addr) (aL aC : Nat) (aG aX : ByteArray) (aZ : List Int) (aB : Nat) (or ow : ByteArray) (w : World) (hra : Reads w aB aA aL (aZ.map iv)) (hba : aB ≤ w.heap.size) (hla : aL ≤ 67108864) (hsa : aN.size ≤ 67108864) (hga : aG.size ≤ 67108864) (hxa : aX.size ≤ 67108864) (hors : or.size ≤ 67108864) (how : ow.size ≤ 67108864) (hkt : KT w) (hpt : PT w) (hv : Z.recValid (⟨lst aN, aT, aK, aZ, lst aG, lst aX⟩ : Z.Rec) = true) (hvo : Z.valid (lst or) = true) (hoe : lst ow ≠ []) (hvw : Z.valid (lst ow) = true) (heq : lst aN ≠ lst ow) :
    Calls Tryz.prog 18 #[.agg #[.string aN, .int .i64 aT, .int .i64 aK, .slice aA aL aC, .string aG, .string aX], .string or, .string ow] w fun e w' => e = .returned (.tuple #[.string (bs (Z.lineText (⟨lst aN, aT, aK, aZ, lst aG, lst aX⟩ : Z.Rec) (lst or) (lst ow))), .bool true]) ∧ Below w.heap.size w w' := by
  have hx0 := Held.box w [.string aN, .int .i64 aT, .int .i64 aK, .slice aA aL aC, .string aG, .string aX] 25
  obtain ⟨hvn, hT0, hT1, hkk, _, hrest⟩ := Z.recValid_iff.1 hv
  have htl := Z.shortT_len hrest hvo
  dsimp only at hvn hT0 hT1 hkk hrest htl
  obtain ⟨D, hD⟩ : ∃ D, bs (Z.lineText (⟨lst aN, aT, aK, aZ, lst aG, lst aX⟩ : Z.Rec) (lst or) (lst ow)) = D := ⟨_, rfl⟩
  rw [hD]
  obtain ⟨nS, hnS⟩ : ∃ s, bs (Z.short (lst aN) (lst or)) = s := ⟨_, rfl⟩
  obtain ⟨tS, htS⟩ : ∃ s, bs (Lib.itoa aT) = s := ⟨_, rfl⟩
  obtain ⟨kS, hkS⟩ : ∃ s, bs (Z.kindName aK) = s := ⟨_, rfl⟩
  obtain ⟨dS, hdS⟩ : ∃ s, bs (Z.dataText aK aZ (Z.shortT (lst aG) (lst or)) (lst aX)) = s := ⟨_, rfl⟩
  have hlead : lst nS = Z.lead (⟨lst aN, aT, aK, aZ, lst aG, lst aX⟩ : Z.Rec) (lst or) (lst ow) := by
    unfold Z.lead
    rw [if_neg heq, ← hnS, lst_bs]
  have hjoin := line_join (t := tS) (k := kS) (d := dS) hv (lst or) (lst ow) hlead (by rw [← htS]; exact lst_bs _) (by rw [← hkS]; exact lst_bs _) (by rw [← hdS]; exact lst_bs _)
  have hjl : (Lib.join [lst nS, lst tS, lst kS, lst dS] (lst ⟨#[32]⟩)).length ≤ 67108864 := by
    rw [hjoin, Z.line_text hv]
    have l1 : (Z.lead (⟨lst aN, aT, aK, aZ, lst aG, lst aX⟩ : Z.Rec) (lst or) (lst ow)).length ≤ 60 := by rw [← hlead]; rw [← hnS, lst_bs]; exact Z.short_len hvn hvo
    have l2 := itoa_len hT0 (by omega)
    have l3 : (Z.kindName aK).length ≤ 5 := by
      unfold Z.kindName
      repeat' split
      all_goals simp
    have l4 := Z.data_short_len hv hvo
    dsimp only at l1 l4 ⊢
    simp only [List.length_append, List.length_cons]
    omega
  have hfin : Hid (bs (Lib.join [lst nS, lst tS, lst kS, lst dS] (lst ⟨#[32]⟩)) = D) := hid (by rw [hjoin, hD])
  have hnn : (aN.toList == ow.toList) = false := by rw [eq_toList]; simpa using heq
  have hoe9 := lEmpty (decide_eq_false hoe)
  have HJ := hid hjl
  have HV := hid hv
  have HVN := hid hvn
  have HVO := hid hvo
  have HVW := hid hvw
  have HN := hid hnS
  have HT := hid htS
  have HK := hid hkS
  have HS := hid hdS
  clear hv hvn hvo hnS htS hkS hdS hlead hjoin hjl hD hrest hkk htl heq hoe hvw
  obtain ⟨q0, q1, q2, q3, q4, q5⟩ := hx0.cells6
  go_enter Tryz.func18, Tryz.ntmps18
  go_wp2_with fail
  refine (lRecordValid_v aN aT aK aA aL aC aG aX aZ aB _ (hra.held hba hx0) (hx0.up hba) hla hsa hga hxa true HV).mono ?_
  rintro e w1 ⟨rfl, hb1⟩
  have hx1 := hx0.next hb1
  clear hb1 hx0 q0 q1 q2 q3 q4 q5
  obtain ⟨q0, q1, q2, q3, q4, q5⟩ := hx1.cells6
  go_wp2_with fail
  refine (lNameValid_v or hors true HVO _).mono ?_
  rintro e w2 ⟨rfl, hb2⟩
  have hx2 := hx1.next hb2
  clear hb2 hx1 q0 q1 q2 q3 q4 q5
  obtain ⟨q0, q1, q2, q3, q4, q5⟩ := hx2.cells6
  go_wp2_with fail
  refine (lNameValid_v ow how true HVW _).mono ?_
  rintro e w3 ⟨rfl, hb3⟩
  have hx3 := hx2.next hb3
  clear hb3 hx2 q0 q1 q2 q3 q4 q5
  obtain ⟨q0, q1, q2, q3, q4, q5⟩ := hx3.cells6
  go_wp2_with fail
  refine (iShortName_v aN or hsa hors nS HVN HVO HN _).mono ?_
  rintro e w4 ⟨rfl, hb4⟩
  have hx4 := hx3.next hb4
  clear hb4 hx3 q0 q1 q2 q3 q4 q5
  obtain ⟨q0, q1, q2, q3, q4, q5⟩ := hx4.cells6
  go_wp2_with fail
  go_region_held3 (fun w' => Held w w' w.heap.size [.string aN, .int .i64 aT, .int .i64 aK, .slice aA aL aC, .string aG, .string aX] ∧ w'.cell? ⟨w.heap.size, 0, none⟩ = some (.string aN) ∧ w'.cell? ⟨w.heap.size, 1, none⟩ = some (.int .i64 aT) ∧ w'.cell? ⟨w.heap.size, 2, none⟩ = some (.int .i64 aK) ∧ w'.cell? ⟨w.heap.size, 3, none⟩ = some (.slice aA aL aC) ∧ w'.cell? ⟨w.heap.size, 4, none⟩ = some (.string aG) ∧ w'.cell? ⟨w.heap.size, 5, none⟩ = some (.string aX))
    (first
      | (exact ⟨hx4, hx4.cells6⟩)
      | (exact ⟨hx4.drewN 1, (hx4.drewN 1).cells6⟩)
      | (go_split_ands; have hx := Held.next (by assumption) hb9; exact ⟨hx, hx.cells6⟩)
      | (go_split_ands; exact held6_alloc (by assumption) _)
      | go_keep)
    (first
      | (go_at_call 55; go_split_ands; refine (Itoa_eq aT hT0 (by omega) tS HT _ (PT.held hpt (by assumption))).mono ?_; rintro e w9 ⟨rfl, hb9⟩)
      | (go_at_call 56; go_split_ands; refine (iKindName_eq _ kS HK _ (KT.held hkt (by assumption))).mono ?_; rintro e w9 ⟨rfl, hb9⟩)
      | (go_at_call 57; go_split_ands; refine (shortData_eq aN aT aK aA aL aC aG aX aZ aB or _ (hra.held hba (by assumption)) ((by assumption : Held w _ _ _).up hba) hla hsa hga hxa hors HV HVO (PT.held hpt (by assumption)) dS HS).mono ?_; rintro e w9 ⟨rfl, hb9⟩))
  all_goals go_split_ands
  have hh9 : Held w (w9.alloc (.cells #[.string nS, .string tS, .string kS, .string dS] 9)) w.heap.size [.string aN, .int .i64 aT, .int .i64 aK, .slice aA aL aC, .string aG, .string aX] := by assumption
  have hjn : Calls Tryz.prog 58 #[.slice (some ⟨w9.heap.size, 0, none⟩) 4 4, .string ⟨#[32]⟩] (w9.alloc (.cells #[.string nS, .string tS, .string kS, .string dS] 9)) fun e w' => e = .returned (.string D) ∧ Below (w9.alloc (.cells #[.string nS, .string tS, .string kS, .string dS] 9)).heap.size (w9.alloc (.cells #[.string nS, .string tS, .string kS, .string dS] 9)) w' := by
    have ho := own_new w9 [.string nS, .string tS, .string kS, .string dS] 9 (show 4 ≤ maxLen by decide)
    have h9 := Join_own [lst nS, lst tS, lst kS, lst dS] (some ⟨w9.heap.size, 0, none⟩) 4 ⟨#[32]⟩ w9.heap.size (w9.alloc (.cells #[.string nS, .string tS, .string kS, .string dS] 9)) (by simp only [List.map_cons, List.map_nil, sv_lst]; exact ho) (show 4 ≤ 67108864 by decide) HJ.out
    rw [hfin.out] at h9
    exact h9
  have HJN := hid hjn
  clear hjn hfin HJ HV HN HT HK HS HVN HVO hx4 q0 q1 q2 q3 q4 q5
  go_wp2_with (go_at_call 58; refine HJN.out.mono ?_; rintro e w10 ⟨rfl, hb10⟩)
  go_ret2
  exact ⟨rfl, (hh9.next hb10).1⟩

set_option maxHeartbeats 4000000 in
theorem iWriteLine_any (aN : ByteArray) (aT aK : Int) (aA : Option Addr) (aL aC : Nat) (aG aX : ByteArray) (aZ : List Int) (aB : Nat) (or ow : ByteArray) (w : World) (hra : Reads w aB aA aL (aZ.map iv)) (hba : aB ≤ w.heap.size) (hla : aL ≤ 67108864) (hsa : aN.size ≤ 67108864) (hga : aG.size ≤ 67108864) (hxa : aX.size ≤ 67108864) (hors : or.size ≤ 67108864) (how : ow.size ≤ 67108864) (hkt : KT w) (hpt : PT w) :
    Calls Tryz.prog 18 #[.agg #[.string aN, .int .i64 aT, .int .i64 aK, .slice aA aL aC, .string aG, .string aX], .string or, .string ow] w fun e w' => e = .returned (rOpt (Z.writeLine (⟨lst aN, aT, aK, aZ, lst aG, lst aX⟩ : Z.Rec) (lst or) (lst ow))) ∧ Below w.heap.size w w' := by
  have hx0 := Held.box w [.string aN, .int .i64 aT, .int .i64 aK, .slice aA aL aC, .string aG, .string aX] 25
  obtain ⟨v1, h1⟩ : ∃ v, Z.recValid (⟨lst aN, aT, aK, aZ, lst aG, lst aX⟩ : Z.Rec) = v := ⟨_, rfl⟩
  obtain ⟨v2, h2⟩ : ∃ v, Z.valid (lst or) = v := ⟨_, rfl⟩
  obtain ⟨oe, h3⟩ : ∃ v, decide (lst ow = []) = v := ⟨_, rfl⟩
  obtain ⟨v3, h4⟩ : ∃ v, Z.valid (lst ow) = v := ⟨_, rfl⟩
  have hO := lWriteLine_is h1 h2 h3 h4
  by_cases hall : v1 = true ∧ v2 = true ∧ (oe = true ∨ v3 = true)
  · obtain ⟨rfl, rfl, hor⟩ := hall
    have e : Z.writeLine (⟨lst aN, aT, aK, aZ, lst aG, lst aX⟩ : Z.Rec) (lst or) (lst ow) = some (Z.lineText (⟨lst aN, aT, aK, aZ, lst aG, lst aX⟩ : Z.Rec) (lst or) (lst ow)) := by
      rw [hO]
      rcases hor with rfl | rfl <;> simp
    rw [e]
    cases oe with
    | true =>
      have hw : lst ow = [] := of_decide_eq_true h3
      by_cases hs : lst aN = lst ow
      · exact iwl_none_same aN aT aK aA aL aC aG aX aZ aB or ow w hra hba hla hsa hga hxa hors how hkt hpt h1 h2 hw hs
      · exact iwl_none_other aN aT aK aA aL aC aG aX aZ aB or ow w hra hba hla hsa hga hxa hors how hkt hpt h1 h2 hw hs
    | false =>
      have hw : lst ow ≠ [] := of_decide_eq_false h3
      have hv3 : Z.valid (lst ow) = true := by
        rcases hor with h | h
        · cases h
        · exact h4.trans h
      by_cases hs : lst aN = lst ow
      · exact iwl_some_same aN aT aK aA aL aC aG aX aZ aB or ow w hra hba hla hsa hga hxa hors how hkt hpt h1 h2 hw hv3 hs
      · exact iwl_some_other aN aT aK aA aL aC aG aX aZ aB or ow w hra hba hla hsa hga hxa hors how hkt hpt h1 h2 hw hv3 hs
  · have HO : Hid (Z.writeLine (⟨lst aN, aT, aK, aZ, lst aG, lst aX⟩ : Z.Rec) (lst or) (lst ow) = none) := hid (by
      rw [hO, if_neg]
      intro h
      apply hall
      simpa [and_assoc] using h)
    have hoe := lEmpty h3
    have H1 := hid h1
    have H2 := hid h2
    have H4 := hid h4
    have HA := hid hall
    clear h1 h2 h3 h4 hO hall
    obtain ⟨q0, q1, q2, q3, q4, q5⟩ := hx0.cells6
    go_enter Tryz.func18, Tryz.ntmps18
    go_wp2_with fail
    refine (lRecordValid_v aN aT aK aA aL aC aG aX aZ aB _ (hra.held hba hx0) (hx0.up hba) hla hsa hga hxa v1 H1).mono ?_
    rintro e w2 ⟨rfl, hb2⟩
    have hx2 := hx0.next hb2
    clear hb2 hx0 q0 q1 q2 q3 q4 q5
    cases v1 with
    | false =>
      go_wp2
      all_goals go_ret2
      all_goals exact ⟨rOpt_none HO.out, hx2.1⟩
    | true =>
      go_wp2_with fail
      refine (lNameValid_v or hors v2 H2 _).mono ?_
      rintro e w3 ⟨rfl, hb3⟩
      have hx3 := hx2.next hb3
      clear hb3 hx2
      cases v2 with
      | false =>
        go_wp2
        all_goals go_ret2
        all_goals exact ⟨rOpt_none HO.out, hx3.1⟩
      | true =>
        obtain rfl : oe = false := by
          have h := HA.out
          cases oe
          · rfl
          · exact absurd (by simp) h
        obtain rfl : v3 = false := by
          have h := HA.out
          cases v3
          · rfl
          · exact absurd (by simp) h
        go_wp2_with fail
        refine (lNameValid_v ow how false H4 _).mono ?_
        rintro e w4 ⟨rfl, hb4⟩
        have hx4 := hx3.next hb4
        go_wp2
        all_goals go_ret2
        all_goals exact ⟨rOpt_none HO.out, hx4.1⟩
end Go.Proofs.YtpgeeeamcncpkaaGreatDoor

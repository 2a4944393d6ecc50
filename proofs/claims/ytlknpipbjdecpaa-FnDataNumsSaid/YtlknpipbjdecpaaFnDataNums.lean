/- For every input, SameData answers for two records that are drawn from it as the model does, and a record is not the same as one with another first number, but the same as itself. -/
import Derived.Test.YtlknpipbjdecpaaRows
import Derived.Test.YtlknpipbjdecpaaNe
import Derived.Test.YtlknpipbjdecpaaSd
import Derived.Test.YtlknpipbjdecpaaIa
import Derived.WalkKit
import Derived.ProofKit
import Derived.OpenShut
import Derived.ShutString
import Derived.ChangeOld
import Derived.Below
import Derived.Deep.Cut
namespace Go.Proofs.Ytlknpipbjdecpaa.fnDataNums
open Go.ChangeShapes Go.WideShapes Go.ChangeAt Go.RowKit
open Go.ChangeMaps (open_string shut_string)
set_option linter.unusedVariables false
set_option linter.unusedSimpArgs false

theorem own : ownKnob Try.prog.godebug = none := by kernel_rfl
theorem laidOut : laidOutB Try.prog = true := by kernel_rfl
theorem iSame_v (aN : ByteArray) (aT aK : Int) (aA : Option Addr) (aL aC : Nat) (aG aX : ByteArray) (aZ : List Int) (aB : Nat) (bN : ByteArray) (bT bK : Int) (bA : Option Addr) (bL bC : Nat) (bG bX : ByteArray) (bZ : List Int) (bB : Nat) (w : World) (hra : Reads w aB aA aL (aZ.map iv)) (hba : aB ≤ w.heap.size) (hla : aL ≤ 67108864) (hrb : Reads w bB bA bL (bZ.map iv)) (hbb : bB ≤ w.heap.size) (hlb : bL ≤ 67108864) (D : Bool) (hD : Hid (Z.sameData (⟨lst aN, aT, aK, aZ, lst aG, lst aX⟩ : Z.Rec) (⟨lst bN, bT, bK, bZ, lst bG, lst bX⟩ : Z.Rec) = D)) :
    Calls Try.prog 9 #[.agg #[.string aN, .int .i64 aT, .int .i64 aK, .slice aA aL aC, .string aG, .string aX], .agg #[.string bN, .int .i64 bT, .int .i64 bK, .slice bA bL bC, .string bG, .string bX]] w fun e w' => e = .returned (.bool D) ∧ Below w.heap.size w w' := by
  have h := iSameData_any aN aT aK aA aL aC aG aX aZ aB bN bT bK bA bL bC bG bX bZ bB w hra hba hla hrb hbb hlb
  rw [hD.out] at h
  exact h
theorem sSame_v (aN : ByteArray) (aT aK : Int) (aA : Option Addr) (aL aC : Nat) (aG aX : ByteArray) (aZ : List Int) (aB : Nat) (bN : ByteArray) (bT bK : Int) (bA : Option Addr) (bL bC : Nat) (bG bX : ByteArray) (bZ : List Int) (bB : Nat) (w : World) (hra : Reads w aB aA aL (aZ.map iv)) (hba : aB ≤ w.heap.size) (hla : aL ≤ 67108864) (hrb : Reads w bB bA bL (bZ.map iv)) (hbb : bB ≤ w.heap.size) (hlb : bL ≤ 67108864) (D : Bool) (hD : Hid (Z.sameData (⟨lst aN, aT, aK, aZ, lst aG, lst aX⟩ : Z.Rec) (⟨lst bN, bT, bK, bZ, lst bG, lst bX⟩ : Z.Rec) = D)) :
    Calls Try.prog 10 #[.agg #[.string aN, .int .i64 aT, .int .i64 aK, .slice aA aL aC, .string aG, .string aX], .agg #[.string bN, .int .i64 bT, .int .i64 bK, .slice bA bL bC, .string bG, .string bX]] w fun e w' => e = .returned (.bool D) ∧ Below w.heap.size w w' := by
  have h := SameData_any aN aT aK aA aL aC aG aX aZ aB bN bT bK bA bL bC bG bX bZ bB w hra hba hla hrb hbb hlb
  rw [hD.out] at h
  exact h
theorem own_blk {w : World} {base : Nat} {e : TypeId} {A : Option Addr} {n c : Nat} {xs : List Value} (h : w.ownsRow base e 1 (.slice A n c) n xs) (hn : 0 < n) : ∃ g cs, A = some ⟨g, 0, none⟩ ∧ base ≤ g ∧ Blk w g e cs ∧ n ≤ cs.length ∧ cs.take n = xs := by
  rcases h.2 with ⟨_, e2⟩ | ⟨g, cap, cur, hv, hg, hh, h3, h4, h5, h6⟩
  · omega
  · injection hv with hA _ hC
    refine ⟨g, cur.toList, hA, hg, hh, ?_, ?_⟩
    · rw [Array.length_toList]; omega
    · rwa [Nat.mul_one] at h6
theorem reads_set {w : World} {g n : Nat} {e : TypeId} {cs : List Value} {u y : Value} {xs : List Value} (h : Blk w g e (cs.set 0 u)) (hn : 0 < n) (hl : n ≤ cs.length) (ht : cs.take n = y :: xs) : Reads w w.heap.size (some ⟨g, 0, none⟩) n (u :: xs) := by
  have hlen : (y :: xs).length = n := by rw [← ht, List.length_take]; omega
  refine ⟨by simpa using hlen, fun _ => ⟨_, rfl, h.lt, fun j v hv => ?_⟩⟩
  rw [Addr.add_lit, h.cell, Nat.zero_add]
  match j, hv with
  | 0, hv =>
    simp at hv
    subst hv
    rw [List.getElem?_set_self (by omega)]
  | j + 1, hv =>
    rw [List.getElem?_set_ne (by omega)]
    have h9 : (cs.take n)[j + 1]? = some v := by rw [ht]; simpa using hv
    have hj : j + 1 < n := by
      have := (List.getElem?_eq_some_iff.1 h9).1
      rw [List.length_take] at this
      omega
    rwa [List.getElem?_take, if_pos hj] at h9

set_option maxRecDepth 100000 in
set_option maxHeartbeats 4000000 in
theorem walk (a0 : Option Addr) (len0 cap0 : Nat) (z0 : List Int) (w : World) (w0 : IsRow .u8 w a0 len0 cap0 z0) :
    Calls Try.prog 3 #[.slice a0 len0 cap0] w fun e w' => e = .returned (.bool true) ∧ Below w.heap.size w w' := by
  have hc0 := row_cap w0
  unfold maxLen at hc0
  by_cases hb0 : len0 ≤ 1048576
  · obtain ⟨zs0, rfl, hcode0⟩ := code_of_row w0 hb0
    clear w0
    go_enter Try.func3, Try.ntmps3
    go_wp2_with fail
    refine (DrawSameData_any _ _ zs0 w hcode0).mono ?_
    rintro e v1 ⟨aN, aT, aK, aA, aL, aC, aG, aX, aZ, bN, bT, bK, bA, bL, bC, bG, bX, bZ, rfl, Oa, Ob, la, lb, s1, s2, s3, s4, s5, s6, bw⟩
    have La := Oa.lt
    try simp only [World.alloc, Array.size_push] at La
    have Lb := Ob.lt
    try simp only [World.alloc, Array.size_push] at Lb
    replace Oa := Oa.alloc (.cells #[.string aN, .int .i64 aT, .int .i64 aK, .slice aA aL aC, .string aG, .string aX] 25)
    replace Ob := Ob.alloc (.cells #[.string aN, .int .i64 aT, .int .i64 aK, .slice aA aL aC, .string aG, .string aX] 25)
    replace bw := bw.alloc bw.size (.cells #[.string aN, .int .i64 aT, .int .i64 aK, .slice aA aL aC, .string aG, .string aX] 25)
    have Ba : Blk (v1.alloc (.cells #[.string aN, .int .i64 aT, .int .i64 aK, .slice aA aL aC, .string aG, .string aX] 25)) v1.heap.size 25 [.string aN, .int .i64 aT, .int .i64 aK, .slice aA aL aC, .string aG, .string aX] := Blk.new v1 25 [.string aN, .int .i64 aT, .int .i64 aK, .slice aA aL aC, .string aG, .string aX]
    have Bb : Blk ((v1.alloc (.cells #[.string aN, .int .i64 aT, .int .i64 aK, .slice aA aL aC, .string aG, .string aX] 25)).alloc (.cells #[.string bN, .int .i64 bT, .int .i64 bK, .slice bA bL bC, .string bG, .string bX] 25)) (v1.heap.size + 1) 25 [.string bN, .int .i64 bT, .int .i64 bK, .slice bA bL bC, .string bG, .string bX] := by
      have h9 := Blk.new (v1.alloc (.cells #[.string aN, .int .i64 aT, .int .i64 aK, .slice aA aL aC, .string aG, .string aX] 25)) 25 [.string bN, .int .i64 bT, .int .i64 bK, .slice bA bL bC, .string bG, .string bX]
      simpa using h9
    replace Ba := Ba.alloc (.cells #[.string bN, .int .i64 bT, .int .i64 bK, .slice bA bL bC, .string bG, .string bX] 25)
    replace Oa := Oa.alloc (.cells #[.string bN, .int .i64 bT, .int .i64 bK, .slice bA bL bC, .string bG, .string bX] 25)
    replace Ob := Ob.alloc (.cells #[.string bN, .int .i64 bT, .int .i64 bK, .slice bA bL bC, .string bG, .string bX] 25)
    replace bw := bw.alloc bw.size (.cells #[.string bN, .int .i64 bT, .int .i64 bK, .slice bA bL bC, .string bG, .string bX] 25)
    obtain ⟨ca0, ca1, ca2, ca3, ca4, ca5⟩ := Ba.cells6
    obtain ⟨cb0, cb1, cb2, cb3, cb4, cb5⟩ := Bb.cells6
    obtain ⟨D, hD⟩ : ∃ v : Bool, Z.sameData (⟨lst aN, aT, aK, aZ, lst aG, lst aX⟩ : Z.Rec) (⟨lst bN, bT, bK, bZ, lst bG, lst bX⟩ : Z.Rec) = v := ⟨_, rfl⟩
    have HD := hid hD
    clear hD
    go_wp2_with fail
    refine (iSame_v aN aT aK aA aL aC aG aX aZ _ bN bT bK bA bL bC bG bX bZ _ _ (Reads.of_own Oa) (Nat.le_refl _) (by omega) (Reads.of_own Ob) (Nat.le_refl _) (by omega) D HD).mono ?_
    rintro e v2 ⟨rfl, hb2⟩
    clear ca0 ca1 ca2 ca3 ca4 ca5 cb0 cb1 cb2 cb3 cb4 cb5
    have hs1 := hb2.size
    try simp only [World.alloc, Array.size_push] at hs1
    replace Ba := Ba.next hb2
    replace Bb := Bb.next hb2
    replace Oa := own_next Oa hb2
    replace Ob := own_next Ob hb2
    replace bw := bw.trans (hb2.mono bw.size)
    clear hb2
    obtain ⟨ca0, ca1, ca2, ca3, ca4, ca5⟩ := Ba.cells6
    obtain ⟨cb0, cb1, cb2, cb3, cb4, cb5⟩ := Bb.cells6
    have qd : (D != D) = false := by cases D <;> rfl
    have qe : (D == D) = true := by cases D <;> rfl
    go_wp2_with fail
    refine (sSame_v aN aT aK aA aL aC aG aX aZ _ bN bT bK bA bL bC bG bX bZ _ _ (Reads.of_own Oa) (Nat.le_refl _) (by omega) (Reads.of_own Ob) (Nat.le_refl _) (by omega) D HD).mono ?_
    rintro e v3 ⟨rfl, hb3⟩
    clear ca0 ca1 ca2 ca3 ca4 ca5 cb0 cb1 cb2 cb3 cb4 cb5
    have hs2 := hb3.size
    try simp only [World.alloc, Array.size_push] at hs2
    replace Ba := Ba.next hb3
    replace Bb := Bb.next hb3
    replace Oa := own_next Oa hb3
    replace Ob := own_next Ob hb3
    replace bw := bw.trans (hb3.mono bw.size)
    clear hb3
    obtain ⟨ca0, ca1, ca2, ca3, ca4, ca5⟩ := Ba.cells6
    obtain ⟨cb0, cb1, cb2, cb3, cb4, cb5⟩ := Bb.cells6
    by_cases hz : aL = 0
    · have q0 : ((aL : Int) == 0) = true := by simp [hz]
      have HZ := hid hz
      clear hz
      go_wp2_with fail
      refine (sSame_v aN aT aK aA aL aC aG aX aZ _ bN bT bK bA bL bC bG bX bZ _ _ (Reads.of_own Oa) (Nat.le_refl _) (by omega) (Reads.of_own Ob) (Nat.le_refl _) (by omega) D HD).mono ?_
      rintro e v4 ⟨rfl, hb4⟩
      clear ca0 ca1 ca2 ca3 ca4 ca5 cb0 cb1 cb2 cb3 cb4 cb5
      have hs3 := hb4.size
      try simp only [World.alloc, Array.size_push] at hs3
      replace Ba := Ba.next hb4
      replace Bb := Bb.next hb4
      replace Oa := own_next Oa hb4
      replace Ob := own_next Ob hb4
      replace bw := bw.trans (hb4.mono bw.size)
      clear hb4
      obtain ⟨ca0, ca1, ca2, ca3, ca4, ca5⟩ := Ba.cells6
      obtain ⟨cb0, cb1, cb2, cb3, cb4, cb5⟩ := Bb.cells6
      go_wp2
      all_goals go_ret
      all_goals exact ⟨ret_bool (by simp), bw⟩
    have hl1 := reads_len (Reads.of_own Oa)
    have hw3 : w.heap.size ≤ v3.heap.size := bw.size
    have HR3 := hid (Reads.of_own Oa)
    have HW3 := hid bw
    obtain ⟨n0, rest, hz0⟩ : ∃ n0 rest, aZ = n0 :: rest := by
      match aZ, hl1 with
      | [], h => exact absurd h.symm hz
      | n0 :: rest, _ => exact ⟨n0, rest, rfl⟩
    subst hz0
    have q0 : ((aL : Int) == 0) = false := by simpa using hz
    have hz9 : 0 < aL := by omega
    clear hz
    obtain ⟨i0, hi0, hz0, hz1, hz2⟩ := info_parts infoIntz
    have Bx : Blk ((v3.alloc (.cells #[.string aN, .int .i64 aT, .int .i64 aK, .slice aA aL aC, .string aG, .string aX] 25)).alloc (.cells #[] 3)) v3.heap.size 25 [.string aN, .int .i64 aT, .int .i64 aK, .slice aA aL aC, .string aG, .string aX] := (Blk.new v3 25 [.string aN, .int .i64 aT, .int .i64 aK, .slice aA aL aC, .string aG, .string aX]).alloc _
    have He : ((v3.alloc (.cells #[.string aN, .int .i64 aT, .int .i64 aK, .slice aA aL aC, .string aG, .string aX] 25)).alloc (.cells #[] 3)).ownsRow (v3.heap.size + 1) 3 1 (.slice (some ⟨v3.heap.size + 1, 0, none⟩) 0 0) 0 [] := by
      have := World.ownsRow_made (base := v3.heap.size + 1) (e := 3) (size := 1) (v3.alloc (.cells #[.string aN, .int .i64 aT, .int .i64 aK, .slice aA aL aC, .string aG, .string aX] 25)) #[] 0 (by simp) (by decide) (by simp)
      simpa using this
    replace Ba := (Ba.alloc (.cells #[.string aN, .int .i64 aT, .int .i64 aK, .slice aA aL aC, .string aG, .string aX] 25)).alloc (.cells #[] 3)
    replace Oa := (Oa.alloc (.cells #[.string aN, .int .i64 aT, .int .i64 aK, .slice aA aL aC, .string aG, .string aX] 25)).alloc (.cells #[] 3)
    replace bw := (bw.alloc bw.size (.cells #[.string aN, .int .i64 aT, .int .i64 aK, .slice aA aL aC, .string aG, .string aX] 25)).alloc (bw.alloc bw.size (.cells #[.string aN, .int .i64 aT, .int .i64 aK, .slice aA aL aC, .string aG, .string aX] 25)).size (.cells #[] 3)
    have hra := Reads.of_own Oa
    obtain ⟨Y, hY⟩ : ∃ Y, ((v3.alloc (.cells #[.string aN, .int .i64 aT, .int .i64 aK, .slice aA aL aC, .string aG, .string aX] 25)).alloc (.cells #[] 3)) = Y := ⟨_, rfl⟩
    rw [hY] at Bx He Ba Oa bw hra
    have hYs : v3.heap.size + 1 < Y.heap.size := by rw [← hY]; simp
    have HY3 := hid (show Below v3.heap.size v3 Y by rw [← hY]; go_grown)
    have HRA := hid hra
    have HE := hid He
    have HBA := hid Ba
    have HBX := hid Bx
    have HOA := hid Oa
    have HBW := hid bw
    have HV1 := hid (show v1.heap.size < v3.heap.size by omega)
    obtain ⟨y0, y1, y2, y3, y4, y5⟩ := Ba.cells6
    clear hra He Bx Ba Oa bw Bb Ob hl1
    have hs9 := la
    go_upto_region 8 with fail
    go_wp2_with (at_builtin; refine wpList_app_any _ rfl (.tmp 35) (.tmp 37) _ rfl (v3.heap.size + 1) 3 i0 _ 8 Try.underlying23 hi0 hz0 hz1 hz2 rfl _ 0 [] rfl HE.out _ aA aL aC ((n0 :: rest).map iv) rfl HRA.out (ivs_one _) (by unfold maxLen; omega) (by omega) (by omega) ?_; intro A4 c4 w4 hown4 hbel4 hblk4; have hp4 := hblk4 _ _ _ HBA.out (own_of_two HE.out (by have := HV1.out; omega)); have hx4 := hblk4 _ _ _ HBX.out (own_of_two HE.out (by omega)); rw [Nat.zero_add] at hown4; simp only [Nat.zero_add]; have HO4 := hid hown4; have HB4 := hid (hbel4 (v3.heap.size + 1) (Nat.le_refl _)); have HP4 := hid hp4; have HX4 := hid hx4; obtain ⟨m0, m1, m2, m3, m4, m5⟩ := hx4.cells6; obtain ⟨f0, f1, f2, f3, f4, f5⟩ := hx4.free6; clear hown4 hbel4 hblk4 hp4 hx4 y0 y1 y2 y3 y4 y5 hY)
    obtain ⟨g, cs, rfl, hgb, hblk, hcl, htk⟩ := own_blk HO4.out hz9
    have hc0 : cs[0]? = some (.int .i64 n0) := by
      have h9 : (cs.take aL)[0]? = some (.int .i64 n0) := by rw [htk]; rfl
      rwa [List.getElem?_take, if_pos hz9] at h9
    have HTK := hid htk
    clear htk
    have hg5 := hblk.far (p := ⟨v3.heap.size, 3, none⟩) (by show g ≠ v3.heap.size; omega) (.slice (some ⟨g, 0, none⟩) aL c4)
    have hx5 := HX4.out.put 3 (.slice (some ⟨g, 0, none⟩) aL c4)
    have ha5 := HP4.out.far (p := ⟨v3.heap.size, 3, none⟩) (by show v1.heap.size ≠ v3.heap.size; have := HV1.out; omega) (.slice (some ⟨g, 0, none⟩) aL c4)
    have hb5 : Below v3.heap.size v3 (w4.setCell ⟨v3.heap.size, 3, none⟩ (.slice (some ⟨g, 0, none⟩) aL c4)) := (HY3.out.trans (HB4.out.mono (Nat.le_succ _))).setCell (p := ⟨v3.heap.size, 3, none⟩) (Nat.le_refl _) _
    obtain ⟨W5, hW5⟩ : ∃ W5, w4.setCell ⟨v3.heap.size, 3, none⟩ (.slice (some ⟨g, 0, none⟩) aL c4) = W5 := ⟨_, rfl⟩
    rw [hW5] at hg5 hx5 ha5 hb5 ⊢
    clear hW5 m0 m1 m2 m3 m4 m5 f0 f1 f2 f3 f4 f5 hblk
    obtain ⟨m0, m1, m2, m3, m4, m5⟩ := hx5.cells6
    have gc : W5.cell? ⟨g, 0, none⟩ = some (.int .i64 n0) := (hg5.cell 0).trans hc0
    have gf := hg5.frozen 0
    have p0 : (0 : Int) < (aL : Int) := by omega
    have hne : wrap64 (n0 + 1) ≠ n0 := by unfold wrap64; omega
    have hg6 := (hg5.put 0 (.int .i64 (wrap64 (n0 + 1)))).drew
    have hx6 := (hx5.far (p := ⟨g, 0, none⟩) (by show v3.heap.size ≠ g; omega) (.int .i64 (wrap64 (n0 + 1)))).drew
    have ha6 := (ha5.far (p := ⟨g, 0, none⟩) (by show v1.heap.size ≠ g; have := HV1.out; omega) (.int .i64 (wrap64 (n0 + 1)))).drew
    have hb6 := below_drewN (hb5.setCell (p := ⟨g, 0, none⟩) (by show v3.heap.size ≤ g; omega) (.int .i64 (wrap64 (n0 + 1)))) 1
    have HG6 := hid hg6
    have HX6 := hid hx6
    have HA6 := hid ha6
    have HB6 := hid hb6
    have HNE := hid hne
    clear hg6 hx6 ha6 hb6 hne
    go_region
    clear m0 m1 m2 m3 m4 m5 gc gf hg5 hx5 ha5 hb5
    have hg6 := HG6.out
    have hx6 := HX6.out
    have ha6 := HA6.out
    have hb6 : Below v3.heap.size v3 (W5.setCell ⟨g, 0, none⟩ (.int .i64 (wrap64 (n0 + 1)))).drew := HB6.out
    obtain ⟨n1, hn1⟩ : ∃ n1, wrap64 (n0 + 1) = n1 := ⟨_, rfl⟩
    have hne := HNE.out
    rw [hn1] at hg6 hx6 ha6 hb6 hne ⊢
    obtain ⟨V, hV⟩ : ∃ V, (W5.setCell ⟨g, 0, none⟩ (.int .i64 n1)).drew = V := ⟨_, rfl⟩
    rw [hV] at hg6 hx6 ha6 hb6 ⊢
    clear hV HG6 HX6 HA6 HB6 HNE hn1
    have hrx := reads_set hg6 hz9 hcl HTK.out
    have hra := HR3.out.below hb6 (Nat.le_refl _)
    have hVs := hb6.size
    have HDF := hid (show Z.sameData (⟨lst aN, aT, aK, n0 :: rest, lst aG, lst aX⟩ : Z.Rec) (⟨lst aN, aT, aK, n1 :: rest, lst aG, lst aX⟩ : Z.Rec) = false by simp [Z.sameData, Ne.symm hne])
    have HDT := hid (show Z.sameData (⟨lst aN, aT, aK, n0 :: rest, lst aG, lst aX⟩ : Z.Rec) (⟨lst aN, aT, aK, n0 :: rest, lst aG, lst aX⟩ : Z.Rec) = true from Z.sameData_self _)
    obtain ⟨m0, m1, m2, m3, m4, m5⟩ := hx6.cells6
    obtain ⟨k0, k1, k2, k3, k4, k5⟩ := ha6.cells6
    have HT := hid (iSame_v aN aT aK aA aL aC aG aX (n0 :: rest) v3.heap.size aN aT aK (some ⟨g, 0, none⟩) aL c4 aG aX (n1 :: rest) V.heap.size V hra hVs (by omega) hrx (Nat.le_refl _) (by omega) false HDF)
    clear hne hc0 hrx
    go_wp2_with fail
    refine HT.out.mono ?_
    rintro e w7 ⟨rfl, hb7⟩
    have hra7 := hra.below hb7 hVs
    have ha7 := ha6.next hb7
    have hw7 := hb7.size
    clear k0 k1 k2 k3 k4 k5 m0 m1 m2 m3 m4 m5
    obtain ⟨k0, k1, k2, k3, k4, k5⟩ := ha7.cells6
    have HT2 := hid (iSame_v aN aT aK aA aL aC aG aX (n0 :: rest) v3.heap.size aN aT aK aA aL aC aG aX (n0 :: rest) v3.heap.size w7 hra7 (by omega) (by omega) hra7 (by omega) (by omega) true HDT)
    go_wp2_with fail
    refine HT2.out.mono ?_
    rintro e w8 ⟨rfl, hb8⟩
    have hbf := ((HW3.out.trans (hb6.mono hw3)).trans (hb7.mono (by omega))).trans (hb8.mono (by omega))
    go_wp2
    all_goals go_ret
    all_goals exact ⟨ret_bool (by simp), hbf⟩
  · go_enter Try.func3, Try.ntmps3
    go_wp2_with fail
    go_ret
    exact ⟨rfl, Below.refl _ _⟩

set_option maxRecDepth 100000 in
theorem lifted (os : Os) (started : os.Started) (H : Type) (enc : TypeId × Value → H) :
    ReturnsInHanded {} Try.checked os 3 .any (Rows.fnDataNumsSpec.pre6 enc Try.prog Try.f3 Rows.fnDataNumsRow.domain false) (Rows.fnDataNumsSpec.post enc Try.prog Try.f3 false true false false) := by
  refine returnsInHanded_of_change (C := Try.checked) own started (by kernel_rfl) Try.func3
    (ChangeSpec.witness6 (enc := enc) (C := Try.checked) false ⟨#[], #[.slice none 0 0], []⟩ 8 (by kernel_rfl) (by kernel_rfl) (by kernel_rfl) (by kernel_rfl)) ?_
  intro W base args ds gs before hval0 hW hcnd _
  have hval : ∀ (j : Nat) t v, Try.f3.params[j]? = some t → args[j]? = some v → Value.okWide Try.prog W .any base t v := hval0
  have hW' := hW
  obtain ⟨p, q, hA0, hV, rfl, hfz, hnd⟩ := hW
  have hA : DataW.TrodAll enc Try.prog W 0 (fun _ => true) true Try.f3.params.toList args.toList ds p := hA0
  rw [Try.params3] at hA hval
  obtain ⟨v0, vs0, d0, ds0, p0, q0, hargs, rfl, rfl, h0, r0⟩ := trodAll_cons hA
  obtain ⟨rfl, rfl, rfl⟩ := trodAll_nil r0
  obtain rfl : args = #[v0] := by cases args; simp_all
  obtain ⟨rfl, rfl⟩ := trodVars_none hV
  obtain ⟨a0, len0, cap0, rfl⟩ := okWide_slice Try.underlying22 (hval 0 22 v0 rfl rfl)
  have k0 := h0
  have lt0 : ∀ x ∈ p0, x.block < W.heap.size := by obtain ⟨m, hm⟩ := k0; exact DataW.trod_lt m _ _ _ hm
  obtain ⟨z0, w0⟩ : ∃ zs, IsRow .u8 W a0 len0 cap0 zs := by
    obtain ⟨fuel, hf⟩ := h0
    rcases open_ints Try.underlying22 Try.underlying5 (by kernel_rfl) hf with ⟨hcs, _⟩ | ⟨x, l, c, zs, hcs, _, hl, hm, hz, _, hcell, hwz⟩
    · simp [Value.cells] at hcs
      obtain ⟨rfl, rfl, rfl⟩ := hcs
      exact ⟨[], .inl ⟨rfl, rfl, rfl, rfl⟩⟩
    · simp [Value.cells] at hcs
      obtain ⟨rfl, rfl, rfl⟩ := hcs
      exact ⟨zs, .inr ⟨_, rfl, hl, hm, by simpa using hz, hcell, hwz⟩⟩
  clear hA0 hval0
  refine (walk a0 len0 cap0 z0 W w0).mono fun e W' ⟨he, bel⟩ => ?_
  subst he
  exact ⟨_, rfl, _, _, _, [], _, [], hW', trodAll_mk1 (shut_bool Try.underlying4 _), (trodAll_cons_mk (Below.trod laidOut (by kernel_rfl) (of_decide_eq_true (by kernel_rfl)) k0 bel lt0) trodAll_mk0), rfl, bel.frame _, fun h => by cases h⟩

theorem over : Rows.fnDataNumsRow.holds Try.pinned (OpenSpec.ofChange Rows.fnDataNumsSpec) :=
  OpenClaim.holds_of_wide 3 Try.f3 rfl rfl rfl rfl rfl rfl rfl ⟨rfl, rfl, rfl, rfl, rfl⟩ rfl rfl rfl rfl rfl (by kernel_rfl) Try.func3 (by kernel_rfl)
    (of_decide_eq_true (by kernel_rfl)) (by unfold Func.isWrapper; first | (rw [if_pos (by decide +kernel)]; kernel_rfl) | (rw [if_neg (by decide +kernel)]; exact ⟨rfl, rfl⟩))
    (fun os started H enc _ => lifted os started H enc)

theorem proved : Rows.FnDataNumsSaid := over
end Go.Proofs.Ytlknpipbjdecpaa.fnDataNums

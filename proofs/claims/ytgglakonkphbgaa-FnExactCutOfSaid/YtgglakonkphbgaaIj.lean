/- What RecordBefore of the program returns. -/
import Derived.Test.YtgglakonkphbgaaIg
import Derived.Test.YtgglakonkphbgaaI
import Derived.Test.YtgglakonkphbgaaSd
namespace Go.Proofs.Ytgglakonkphbgaa
open Go.RowKit
set_option maxRecDepth 100000
set_option linter.unusedVariables false

theorem Held.again {w W : World} {b : Nat} {cs cs' : List Value} (h : Held w W b cs) (T : TypeId) (b' : Nat) (hb : b' = W.heap.size) : Held w (W.alloc (.cells cs'.toArray T)) b' cs' := by subst hb; exact h.more T

def cmpInt (x y : Int) : Int := if x < y then -1 else if y < x then 1 else 0
set_option maxHeartbeats 400000 in
theorem cmpInt_any (x y : Int) (w : World) :
    Calls Try.prog 115 #[.int .i64 x, .int .i64 y] w fun e w' => e = .returned (.int .i64 (cmpInt x y)) ∧ w = w' := by
  go_enter Try.func115, Try.ntmps115
  go_wp2
  all_goals go_ret
  all_goals go_light
  all_goals exact ⟨ret_int (by unfold cmpInt; repeat' split <;> (first | rfl | omega)), rfl⟩

set_option maxHeartbeats 1000000 in
theorem slicesCompare_any (xs ys : List Int) (B B' : Nat) (A A' : Option Addr) (n c c' : Nat) (w : World) (hx : Reads w B A n (xs.map iv)) (hy : Reads w B' A' n (ys.map iv)) (hn : n ≤ 67108864) :
    Calls Try.prog 105 #[.slice A n c, .slice A' n c'] w fun e w' => ∃ m : Int, e = .returned (.int .i64 m) ∧ Hid (ListsSay xs ys m) ∧ w = w' := by
  have hl1 := hid (reads_len hx)
  have hl2 := hid (reads_len hy)
  go_enter Try.func105, Try.ntmps105
  go_wp2
  go_loop [11] (fun i => ∃ (k : Nat), k ≤ n ∧ i = .int .i64 k ∧ Hid (sameUp xs ys k)) (fun i => n - (intOf i).toNat)
  case atStart => exact ⟨0, Nat.zero_le _, rfl, hid ⟨rfl, fun j hj => absurd hj (by omega)⟩⟩
  case round =>
    obtain ⟨k, hk, rfl, hok⟩ := hrel
    by_cases hlt : k < n
    · obtain ⟨ad2, rfl, hab2, hcell2⟩ := reads_int hy hlt
      obtain ⟨ad1, rfl, hab1, hcell1⟩ := reads_int hx hlt
      have hkx := hid (show k < xs.length by rw [hl1.out]; exact hlt)
      have hky := hid (show k < ys.length by rw [hl2.out]; exact hlt)
      obtain ⟨x, hxe⟩ : ∃ x, x = xs.getD k 0 := ⟨_, rfl⟩
      obtain ⟨y, hye⟩ : ∃ y, y = ys.getD k 0 := ⟨_, rfl⟩
      rw [← hxe] at hcell1
      rw [← hye] at hcell2
      have HX := hid hxe
      have HY := hid hye
      clear hxe hye
      by_cases heq : x = y
      · have hc0 : cmpInt x y = 0 := by unfold cmpInt; rw [heq]; simp
        have HE := hid heq
        clear heq
        go_wp2_with (go_at_call 115; refine (cmpInt_any _ _ _).mono ?_; rintro e w' ⟨rfl, rfl⟩)
        exact ⟨⟨k + 1, by omega, by go_num, hid (sameUp_next hok.out hkx.out hky.out (by rw [← HX.out, ← HY.out]; exact HE.out))⟩, by simp [intOf]; omega⟩
      · have hc0 : (cmpInt x y == 0) = false := by unfold cmpInt; simp only [beq_eq_false_iff_ne]; repeat' split <;> omega
        have hs : decide (cmpInt x y < 0) = decide (x < y) := by unfold cmpInt; rw [Bool.eq_iff_iff]; simp only [decide_eq_true_eq]; repeat' split <;> omega
        have HS := hid hs
        have HC := hid hc0
        have HE := hid heq
        clear heq hs
        go_wp2_with (go_at_call 115; refine (cmpInt_any _ _ _).mono ?_; rintro e w' ⟨rfl, rfl⟩)
        go_ret
        refine ⟨_, rfl, hid ⟨?_, ?_⟩, rfl⟩
        · rw [sameUp_ne hok.out hkx.out hky.out (by rw [← HX.out, ← HY.out]; exact HE.out), ← HX.out, ← HY.out]
          exact HS.out
        · exact ⟨fun h => absurd h (by simpa using HC.out), fun h => absurd (by rw [HX.out, HY.out, h]) HE.out⟩
    · have hks : k = n := by omega
      have hall : Hid (xs = ys) := hid (sameTo_eq (by rw [hl1.out, hl2.out]) (by rw [hl1.out, ← hks]; exact hok.out.2))
      clear hks
      go_wp2
      go_ret
      exact ⟨_, rfl, hid ⟨by rw [hall.out, Z.ltInts_irrefl]; rfl, fun _ => hall.out, fun _ => rfl⟩, rfl⟩

set_option maxHeartbeats 4000000 in
theorem before_name (aN : ByteArray) (aT aK : Int) (aA : Option Addr) (aL aC : Nat) (aG aX : ByteArray) (aZ : List Int) (aB : Nat) (bN : ByteArray) (bT bK : Int) (bA : Option Addr) (bL bC : Nat) (bG bX : ByteArray) (bZ : List Int) (bB : Nat) (w : World) (hra : Reads w aB aA aL (aZ.map iv)) (hba : aB ≤ w.heap.size) (hla : aL ≤ 67108864) (hrb : Reads w bB bA bL (bZ.map iv)) (hbb : bB ≤ w.heap.size) (hlb : bL ≤ 67108864) (hsa : aN.size ≤ 67108864) (hga : aG.size ≤ 67108864) (hxa : aX.size ≤ 67108864) (hsb : bN.size ≤ 67108864) (hgb : bG.size ≤ 67108864) (hxb : bX.size ≤ 67108864) (hva : Z.recValid (⟨lst aN, aT, aK, aZ, lst aG, lst aX⟩ : Z.Rec) = true) (hvb : Z.recValid (⟨lst bN, bT, bK, bZ, lst bG, lst bX⟩ : Z.Rec) = true) (h : lst aN ≠ lst bN) :
    Calls Try.prog 90 #[.agg #[.string aN, .int .i64 aT, .int .i64 aK, .slice aA aL aC, .string aG, .string aX], .agg #[.string bN, .int .i64 bT, .int .i64 bK, .slice bA bL bC, .string bG, .string bX]] w fun e w' => e = .returned (.bool (Z.ltRec (⟨lst aN, aT, aK, aZ, lst aG, lst aX⟩ : Z.Rec) (⟨lst bN, bT, bK, bZ, lst bG, lst bX⟩ : Z.Rec))) ∧ Below w.heap.size w w' := by
  have HVA := hid hva
  have HVB := hid hvb
  have hta := (Z.recValid_iff.1 hva).1
  have htb := (Z.recValid_iff.1 hvb).1
  have HTA := hid hta
  have HTB := hid htb
  clear hva hvb hta htb
  have hx0 := (Held.box w [.string aN, .int .i64 aT, .int .i64 aK, .slice aA aL aC, .string aG, .string aX] 54).alloc (.cells [.string bN, .int .i64 bT, .int .i64 bK, .slice bA bL bC, .string bG, .string bX].toArray 54)
  have hy0 := (Held.box w [.string aN, .int .i64 aT, .int .i64 aK, .slice aA aL aC, .string aG, .string aX] 54).again (cs' := [.string bN, .int .i64 bT, .int .i64 bK, .slice bA bL bC, .string bG, .string bX]) 54 (w.heap.size + 1) (by simp)
  have hnn : (aN.toList == bN.toList) = false := by rw [eq_toList]; simpa using h
  have hn := hid h
  clear h
  go_enter Try.func90, Try.ntmps90
  go_wp2_with fail
  refine (iRecordValid_any _ _ _ _ _ _ _ _ aZ aB _ (hra.held hba hx0) (hx0.up hba) hla hsa hga hxa).mono ?_
  rintro e w1 ⟨rfl, hb1⟩
  have hx1 := hx0.next hb1
  have hy1 := hy0.next hb1
  obtain ⟨p0, p1, p2, p3, p4, p5⟩ := hx1.cells6
  obtain ⟨q0, q1, q2, q3, q4, q5⟩ := hy1.cells6
  rw [HVA.out]
  go_wp2_with fail
  refine (iRecordValid_any _ _ _ _ _ _ _ _ bZ bB _ (hrb.held hbb hx1) (hx1.up hbb) hlb hsb hgb hxb).mono ?_
  rintro e w2 ⟨rfl, hb2⟩
  have hx2 := hx1.next hb2
  have hy2 := hy1.next hb2
  obtain ⟨r0, r1, r2, r3, r4, r5⟩ := hx2.cells6
  obtain ⟨s0, s1, s2, s3, s4, s5⟩ := hy2.cells6
  rw [HVB.out]
  go_wp2_with (go_at_call 104; refine (iNameBefore_any _ _ (by unfold maxLen; omega) (by unfold maxLen; omega) _).mono ?_; rintro e w5 ⟨rfl, hb5⟩; have hx5 := hx2.next hb5)
  go_ret
  refine ⟨ret_bool ?_, hx5.1⟩
  unfold Z.ltRec
  rw [if_neg hn.out, Z.before_name, HTA.out, HTB.out]
  rfl

set_option maxHeartbeats 4000000 in
theorem before_kind (aN : ByteArray) (aT aK : Int) (aA : Option Addr) (aL aC : Nat) (aG aX : ByteArray) (aZ : List Int) (aB : Nat) (bN : ByteArray) (bT bK : Int) (bA : Option Addr) (bL bC : Nat) (bG bX : ByteArray) (bZ : List Int) (bB : Nat) (w : World) (hra : Reads w aB aA aL (aZ.map iv)) (hba : aB ≤ w.heap.size) (hla : aL ≤ 67108864) (hrb : Reads w bB bA bL (bZ.map iv)) (hbb : bB ≤ w.heap.size) (hlb : bL ≤ 67108864) (hsa : aN.size ≤ 67108864) (hga : aG.size ≤ 67108864) (hxa : aX.size ≤ 67108864) (hsb : bN.size ≤ 67108864) (hgb : bG.size ≤ 67108864) (hxb : bX.size ≤ 67108864) (hva : Z.recValid (⟨lst aN, aT, aK, aZ, lst aG, lst aX⟩ : Z.Rec) = true) (hvb : Z.recValid (⟨lst bN, bT, bK, bZ, lst bG, lst bX⟩ : Z.Rec) = true) (h : lst aN = lst bN) (hk : ¬ aK = bK) :
    Calls Try.prog 90 #[.agg #[.string aN, .int .i64 aT, .int .i64 aK, .slice aA aL aC, .string aG, .string aX], .agg #[.string bN, .int .i64 bT, .int .i64 bK, .slice bA bL bC, .string bG, .string bX]] w fun e w' => e = .returned (.bool (Z.ltRec (⟨lst aN, aT, aK, aZ, lst aG, lst aX⟩ : Z.Rec) (⟨lst bN, bT, bK, bZ, lst bG, lst bX⟩ : Z.Rec))) ∧ Below w.heap.size w w' := by
  have HVA := hid hva
  have HVB := hid hvb
  have hta := (Z.recValid_iff.1 hva).1
  have htb := (Z.recValid_iff.1 hvb).1
  have HTA := hid hta
  have HTB := hid htb
  clear hva hvb hta htb
  have hx0 := (Held.box w [.string aN, .int .i64 aT, .int .i64 aK, .slice aA aL aC, .string aG, .string aX] 54).alloc (.cells [.string bN, .int .i64 bT, .int .i64 bK, .slice bA bL bC, .string bG, .string bX].toArray 54)
  have hy0 := (Held.box w [.string aN, .int .i64 aT, .int .i64 aK, .slice aA aL aC, .string aG, .string aX] 54).again (cs' := [.string bN, .int .i64 bT, .int .i64 bK, .slice bA bL bC, .string bG, .string bX]) 54 (w.heap.size + 1) (by simp)
  have hnn : (aN.toList == bN.toList) = true := by rw [eq_toList]; simpa using h
  have hn := hid h
  clear h
  have HK := hid hk
  go_enter Try.func90, Try.ntmps90
  go_wp2_with fail
  refine (iRecordValid_any _ _ _ _ _ _ _ _ aZ aB _ (hra.held hba hx0) (hx0.up hba) hla hsa hga hxa).mono ?_
  rintro e w1 ⟨rfl, hb1⟩
  have hx1 := hx0.next hb1
  have hy1 := hy0.next hb1
  obtain ⟨p0, p1, p2, p3, p4, p5⟩ := hx1.cells6
  obtain ⟨q0, q1, q2, q3, q4, q5⟩ := hy1.cells6
  rw [HVA.out]
  go_wp2_with fail
  refine (iRecordValid_any _ _ _ _ _ _ _ _ bZ bB _ (hrb.held hbb hx1) (hx1.up hbb) hlb hsb hgb hxb).mono ?_
  rintro e w2 ⟨rfl, hb2⟩
  have hx2 := hx1.next hb2
  have hy2 := hy1.next hb2
  obtain ⟨r0, r1, r2, r3, r4, r5⟩ := hx2.cells6
  obtain ⟨s0, s1, s2, s3, s4, s5⟩ := hy2.cells6
  rw [HVB.out]
  go_wp2_with fail
  go_ret
  refine ⟨ret_bool ?_, hx2.1⟩
  unfold Z.ltRec
  rw [if_pos hn.out, if_neg HK.out]

set_option maxHeartbeats 4000000 in
theorem before_nums (aN : ByteArray) (aT aK : Int) (aA : Option Addr) (aL aC : Nat) (aG aX : ByteArray) (aZ : List Int) (aB : Nat) (bN : ByteArray) (bT bK : Int) (bA : Option Addr) (bL bC : Nat) (bG bX : ByteArray) (bZ : List Int) (bB : Nat) (w : World) (hra : Reads w aB aA aL (aZ.map iv)) (hba : aB ≤ w.heap.size) (hla : aL ≤ 67108864) (hrb : Reads w bB bA bL (bZ.map iv)) (hbb : bB ≤ w.heap.size) (hlb : bL ≤ 67108864) (hsa : aN.size ≤ 67108864) (hga : aG.size ≤ 67108864) (hxa : aX.size ≤ 67108864) (hsb : bN.size ≤ 67108864) (hgb : bG.size ≤ 67108864) (hxb : bX.size ≤ 67108864) (hlen : aL = bL) (hva : Z.recValid (⟨lst aN, aT, aK, aZ, lst aG, lst aX⟩ : Z.Rec) = true) (hvb : Z.recValid (⟨lst bN, bT, bK, bZ, lst bG, lst bX⟩ : Z.Rec) = true) (h : lst aN = lst bN) (hk : aK = bK) (hz : aZ ≠ bZ) :
    Calls Try.prog 90 #[.agg #[.string aN, .int .i64 aT, .int .i64 aK, .slice aA aL aC, .string aG, .string aX], .agg #[.string bN, .int .i64 bT, .int .i64 bK, .slice bA bL bC, .string bG, .string bX]] w fun e w' => e = .returned (.bool (Z.ltRec (⟨lst aN, aT, aK, aZ, lst aG, lst aX⟩ : Z.Rec) (⟨lst bN, bT, bK, bZ, lst bG, lst bX⟩ : Z.Rec))) ∧ Below w.heap.size w w' := by
  have HVA := hid hva
  have HVB := hid hvb
  have hta := (Z.recValid_iff.1 hva).1
  have htb := (Z.recValid_iff.1 hvb).1
  have HTA := hid hta
  have HTB := hid htb
  clear hva hvb hta htb
  have hx0 := (Held.box w [.string aN, .int .i64 aT, .int .i64 aK, .slice aA aL aC, .string aG, .string aX] 54).alloc (.cells [.string bN, .int .i64 bT, .int .i64 bK, .slice bA bL bC, .string bG, .string bX].toArray 54)
  have hy0 := (Held.box w [.string aN, .int .i64 aT, .int .i64 aK, .slice aA aL aC, .string aG, .string aX] 54).again (cs' := [.string bN, .int .i64 bT, .int .i64 bK, .slice bA bL bC, .string bG, .string bX]) 54 (w.heap.size + 1) (by simp)
  have hnn : (aN.toList == bN.toList) = true := by rw [eq_toList]; simpa using h
  have hn := hid h
  clear h
  have HZ := hid hz
  subst hlen
  subst hk
  go_enter Try.func90, Try.ntmps90
  go_wp2_with fail
  refine (iRecordValid_any _ _ _ _ _ _ _ _ aZ aB _ (hra.held hba hx0) (hx0.up hba) hla hsa hga hxa).mono ?_
  rintro e w1 ⟨rfl, hb1⟩
  have hx1 := hx0.next hb1
  have hy1 := hy0.next hb1
  obtain ⟨p0, p1, p2, p3, p4, p5⟩ := hx1.cells6
  obtain ⟨q0, q1, q2, q3, q4, q5⟩ := hy1.cells6
  rw [HVA.out]
  go_wp2_with fail
  refine (iRecordValid_any _ _ _ _ _ _ _ _ bZ bB _ (hrb.held hbb hx1) (hx1.up hbb) hlb hsb hgb hxb).mono ?_
  rintro e w2 ⟨rfl, hb2⟩
  have hx2 := hx1.next hb2
  have hy2 := hy1.next hb2
  obtain ⟨r0, r1, r2, r3, r4, r5⟩ := hx2.cells6
  obtain ⟨s0, s1, s2, s3, s4, s5⟩ := hy2.cells6
  rw [HVB.out]
  go_wp2_with (go_at_call 105; refine (slicesCompare_any aZ bZ aB bB _ _ _ _ _ _ (hra.held hba hx2) (hrb.held hbb hx2) hla).mono ?_; rintro e w4 ⟨m, rfl, hm, rfl⟩; have hm0 : (m == 0) = false := by simp; exact fun e => HZ.out (hm.out.2.1 e))
  go_ret
  refine ⟨ret_bool ?_, hx2.1⟩
  unfold Z.ltRec
  rw [if_pos hn.out, if_pos rfl, if_neg HZ.out, ← hm.out.1]

set_option maxHeartbeats 4000000 in
theorem before_target (aN : ByteArray) (aT aK : Int) (aA : Option Addr) (aL aC : Nat) (aG aX : ByteArray) (aZ : List Int) (aB : Nat) (bN : ByteArray) (bT bK : Int) (bA : Option Addr) (bL bC : Nat) (bG bX : ByteArray) (bZ : List Int) (bB : Nat) (w : World) (hra : Reads w aB aA aL (aZ.map iv)) (hba : aB ≤ w.heap.size) (hla : aL ≤ 67108864) (hrb : Reads w bB bA bL (bZ.map iv)) (hbb : bB ≤ w.heap.size) (hlb : bL ≤ 67108864) (hsa : aN.size ≤ 67108864) (hga : aG.size ≤ 67108864) (hxa : aX.size ≤ 67108864) (hsb : bN.size ≤ 67108864) (hgb : bG.size ≤ 67108864) (hxb : bX.size ≤ 67108864) (hlen : aL = bL) (htg : Z.valid (lst aG) = true ∧ Z.valid (lst bG) = true) (hva : Z.recValid (⟨lst aN, aT, aK, aZ, lst aG, lst aX⟩ : Z.Rec) = true) (hvb : Z.recValid (⟨lst bN, bT, bK, bZ, lst bG, lst bX⟩ : Z.Rec) = true) (h : lst aN = lst bN) (hk : aK = bK) (hz : aZ = bZ) (hgg : lst aG ≠ lst bG) :
    Calls Try.prog 90 #[.agg #[.string aN, .int .i64 aT, .int .i64 aK, .slice aA aL aC, .string aG, .string aX], .agg #[.string bN, .int .i64 bT, .int .i64 bK, .slice bA bL bC, .string bG, .string bX]] w fun e w' => e = .returned (.bool (Z.ltRec (⟨lst aN, aT, aK, aZ, lst aG, lst aX⟩ : Z.Rec) (⟨lst bN, bT, bK, bZ, lst bG, lst bX⟩ : Z.Rec))) ∧ Below w.heap.size w w' := by
  have HVA := hid hva
  have HVB := hid hvb
  have hta := (Z.recValid_iff.1 hva).1
  have htb := (Z.recValid_iff.1 hvb).1
  have HTA := hid hta
  have HTB := hid htb
  clear hva hvb hta htb
  have hx0 := (Held.box w [.string aN, .int .i64 aT, .int .i64 aK, .slice aA aL aC, .string aG, .string aX] 54).alloc (.cells [.string bN, .int .i64 bT, .int .i64 bK, .slice bA bL bC, .string bG, .string bX].toArray 54)
  have hy0 := (Held.box w [.string aN, .int .i64 aT, .int .i64 aK, .slice aA aL aC, .string aG, .string aX] 54).again (cs' := [.string bN, .int .i64 bT, .int .i64 bK, .slice bA bL bC, .string bG, .string bX]) 54 (w.heap.size + 1) (by simp)
  have hnn : (aN.toList == bN.toList) = true := by rw [eq_toList]; simpa using h
  have hn := hid h
  clear h
  have HZ := hid hz
  have hg := hid hgg
  have HTG := hid htg
  have htt : (aG.toList == bG.toList) = false := by rw [eq_toList]; simpa using hgg
  clear hz hgg htg
  subst hlen
  subst hk
  go_enter Try.func90, Try.ntmps90
  go_wp2_with fail
  refine (iRecordValid_any _ _ _ _ _ _ _ _ aZ aB _ (hra.held hba hx0) (hx0.up hba) hla hsa hga hxa).mono ?_
  rintro e w1 ⟨rfl, hb1⟩
  have hx1 := hx0.next hb1
  have hy1 := hy0.next hb1
  obtain ⟨p0, p1, p2, p3, p4, p5⟩ := hx1.cells6
  obtain ⟨q0, q1, q2, q3, q4, q5⟩ := hy1.cells6
  rw [HVA.out]
  go_wp2_with fail
  refine (iRecordValid_any _ _ _ _ _ _ _ _ bZ bB _ (hrb.held hbb hx1) (hx1.up hbb) hlb hsb hgb hxb).mono ?_
  rintro e w2 ⟨rfl, hb2⟩
  have hx2 := hx1.next hb2
  have hy2 := hy1.next hb2
  obtain ⟨r0, r1, r2, r3, r4, r5⟩ := hx2.cells6
  obtain ⟨s0, s1, s2, s3, s4, s5⟩ := hy2.cells6
  rw [HVB.out]
  go_wp2_with (first | (go_at_call 105; refine (slicesCompare_any aZ bZ aB bB _ _ _ _ _ _ (hra.held hba hx2) (hrb.held hbb hx2) hla).mono ?_; rintro e w4 ⟨m, rfl, hm, rfl⟩; obtain rfl : m = 0 := hm.out.2.2 HZ.out) | (go_at_call 104; refine (iNameBefore_any _ _ (by unfold maxLen; omega) (by unfold maxLen; omega) _).mono ?_; rintro e w5 ⟨rfl, hb5⟩; have hx5 := hx2.next hb5))
  go_ret
  refine ⟨ret_bool ?_, hx5.1⟩
  unfold Z.ltRec
  rw [if_pos hn.out, if_pos rfl, if_pos HZ.out, if_neg hg.out, Z.before_name, HTG.out.1, HTG.out.2]
  rfl

set_option maxHeartbeats 4000000 in
theorem before_text (aN : ByteArray) (aT aK : Int) (aA : Option Addr) (aL aC : Nat) (aG aX : ByteArray) (aZ : List Int) (aB : Nat) (bN : ByteArray) (bT bK : Int) (bA : Option Addr) (bL bC : Nat) (bG bX : ByteArray) (bZ : List Int) (bB : Nat) (w : World) (hra : Reads w aB aA aL (aZ.map iv)) (hba : aB ≤ w.heap.size) (hla : aL ≤ 67108864) (hrb : Reads w bB bA bL (bZ.map iv)) (hbb : bB ≤ w.heap.size) (hlb : bL ≤ 67108864) (hsa : aN.size ≤ 67108864) (hga : aG.size ≤ 67108864) (hxa : aX.size ≤ 67108864) (hsb : bN.size ≤ 67108864) (hgb : bG.size ≤ 67108864) (hxb : bX.size ≤ 67108864) (hlen : aL = bL) (hva : Z.recValid (⟨lst aN, aT, aK, aZ, lst aG, lst aX⟩ : Z.Rec) = true) (hvb : Z.recValid (⟨lst bN, bT, bK, bZ, lst bG, lst bX⟩ : Z.Rec) = true) (h : lst aN = lst bN) (hk : aK = bK) (hz : aZ = bZ) (hgg : lst aG = lst bG) (hxx : lst aX ≠ lst bX) :
    Calls Try.prog 90 #[.agg #[.string aN, .int .i64 aT, .int .i64 aK, .slice aA aL aC, .string aG, .string aX], .agg #[.string bN, .int .i64 bT, .int .i64 bK, .slice bA bL bC, .string bG, .string bX]] w fun e w' => e = .returned (.bool (Z.ltRec (⟨lst aN, aT, aK, aZ, lst aG, lst aX⟩ : Z.Rec) (⟨lst bN, bT, bK, bZ, lst bG, lst bX⟩ : Z.Rec))) ∧ Below w.heap.size w w' := by
  have HVA := hid hva
  have HVB := hid hvb
  have hta := (Z.recValid_iff.1 hva).1
  have htb := (Z.recValid_iff.1 hvb).1
  have HTA := hid hta
  have HTB := hid htb
  clear hva hvb hta htb
  have hx0 := (Held.box w [.string aN, .int .i64 aT, .int .i64 aK, .slice aA aL aC, .string aG, .string aX] 54).alloc (.cells [.string bN, .int .i64 bT, .int .i64 bK, .slice bA bL bC, .string bG, .string bX].toArray 54)
  have hy0 := (Held.box w [.string aN, .int .i64 aT, .int .i64 aK, .slice aA aL aC, .string aG, .string aX] 54).again (cs' := [.string bN, .int .i64 bT, .int .i64 bK, .slice bA bL bC, .string bG, .string bX]) 54 (w.heap.size + 1) (by simp)
  have hnn : (aN.toList == bN.toList) = true := by rw [eq_toList]; simpa using h
  have hn := hid h
  clear h
  have HZ := hid hz
  have hg := hid hgg
  have hxn := hid hxx
  have htt : (aG.toList == bG.toList) = true := by rw [eq_toList]; simpa using hgg
  have hxt : (aX.toList == bX.toList) = false := by rw [eq_toList]; simpa using hxx
  clear hz hgg hxx
  subst hlen
  subst hk
  go_enter Try.func90, Try.ntmps90
  go_wp2_with fail
  refine (iRecordValid_any _ _ _ _ _ _ _ _ aZ aB _ (hra.held hba hx0) (hx0.up hba) hla hsa hga hxa).mono ?_
  rintro e w1 ⟨rfl, hb1⟩
  have hx1 := hx0.next hb1
  have hy1 := hy0.next hb1
  obtain ⟨p0, p1, p2, p3, p4, p5⟩ := hx1.cells6
  obtain ⟨q0, q1, q2, q3, q4, q5⟩ := hy1.cells6
  rw [HVA.out]
  go_wp2_with fail
  refine (iRecordValid_any _ _ _ _ _ _ _ _ bZ bB _ (hrb.held hbb hx1) (hx1.up hbb) hlb hsb hgb hxb).mono ?_
  rintro e w2 ⟨rfl, hb2⟩
  have hx2 := hx1.next hb2
  have hy2 := hy1.next hb2
  obtain ⟨r0, r1, r2, r3, r4, r5⟩ := hx2.cells6
  obtain ⟨s0, s1, s2, s3, s4, s5⟩ := hy2.cells6
  rw [HVB.out]
  go_wp2_with (go_at_call 105; refine (slicesCompare_any aZ bZ aB bB _ _ _ _ _ _ (hra.held hba hx2) (hrb.held hbb hx2) hla).mono ?_; rintro e w4 ⟨m, rfl, hm, rfl⟩; obtain rfl : m = 0 := hm.out.2.2 HZ.out)
  go_ret
  refine ⟨ret_bool ?_, hx2.1⟩
  unfold Z.ltRec
  rw [if_pos hn.out, if_pos rfl, if_pos HZ.out, if_pos hg.out, if_neg hxn.out, bytesLess_lt, toList_lst, toList_lst]

set_option maxHeartbeats 4000000 in
theorem before_ttl (aN : ByteArray) (aT aK : Int) (aA : Option Addr) (aL aC : Nat) (aG aX : ByteArray) (aZ : List Int) (aB : Nat) (bN : ByteArray) (bT bK : Int) (bA : Option Addr) (bL bC : Nat) (bG bX : ByteArray) (bZ : List Int) (bB : Nat) (w : World) (hra : Reads w aB aA aL (aZ.map iv)) (hba : aB ≤ w.heap.size) (hla : aL ≤ 67108864) (hrb : Reads w bB bA bL (bZ.map iv)) (hbb : bB ≤ w.heap.size) (hlb : bL ≤ 67108864) (hsa : aN.size ≤ 67108864) (hga : aG.size ≤ 67108864) (hxa : aX.size ≤ 67108864) (hsb : bN.size ≤ 67108864) (hgb : bG.size ≤ 67108864) (hxb : bX.size ≤ 67108864) (hlen : aL = bL) (hva : Z.recValid (⟨lst aN, aT, aK, aZ, lst aG, lst aX⟩ : Z.Rec) = true) (hvb : Z.recValid (⟨lst bN, bT, bK, bZ, lst bG, lst bX⟩ : Z.Rec) = true) (h : lst aN = lst bN) (hk : aK = bK) (hz : aZ = bZ) (hgg : lst aG = lst bG) (hxx : lst aX = lst bX) :
    Calls Try.prog 90 #[.agg #[.string aN, .int .i64 aT, .int .i64 aK, .slice aA aL aC, .string aG, .string aX], .agg #[.string bN, .int .i64 bT, .int .i64 bK, .slice bA bL bC, .string bG, .string bX]] w fun e w' => e = .returned (.bool (Z.ltRec (⟨lst aN, aT, aK, aZ, lst aG, lst aX⟩ : Z.Rec) (⟨lst bN, bT, bK, bZ, lst bG, lst bX⟩ : Z.Rec))) ∧ Below w.heap.size w w' := by
  have HVA := hid hva
  have HVB := hid hvb
  have hta := (Z.recValid_iff.1 hva).1
  have htb := (Z.recValid_iff.1 hvb).1
  have HTA := hid hta
  have HTB := hid htb
  clear hva hvb hta htb
  have hx0 := (Held.box w [.string aN, .int .i64 aT, .int .i64 aK, .slice aA aL aC, .string aG, .string aX] 54).alloc (.cells [.string bN, .int .i64 bT, .int .i64 bK, .slice bA bL bC, .string bG, .string bX].toArray 54)
  have hy0 := (Held.box w [.string aN, .int .i64 aT, .int .i64 aK, .slice aA aL aC, .string aG, .string aX] 54).again (cs' := [.string bN, .int .i64 bT, .int .i64 bK, .slice bA bL bC, .string bG, .string bX]) 54 (w.heap.size + 1) (by simp)
  have hnn : (aN.toList == bN.toList) = true := by rw [eq_toList]; simpa using h
  have hn := hid h
  clear h
  have HZ := hid hz
  have hg := hid hgg
  have hxn := hid hxx
  have htt : (aG.toList == bG.toList) = true := by rw [eq_toList]; simpa using hgg
  have hxt : (aX.toList == bX.toList) = true := by rw [eq_toList]; simpa using hxx
  clear hz hgg hxx
  subst hlen
  subst hk
  go_enter Try.func90, Try.ntmps90
  go_wp2_with fail
  refine (iRecordValid_any _ _ _ _ _ _ _ _ aZ aB _ (hra.held hba hx0) (hx0.up hba) hla hsa hga hxa).mono ?_
  rintro e w1 ⟨rfl, hb1⟩
  have hx1 := hx0.next hb1
  have hy1 := hy0.next hb1
  obtain ⟨p0, p1, p2, p3, p4, p5⟩ := hx1.cells6
  obtain ⟨q0, q1, q2, q3, q4, q5⟩ := hy1.cells6
  rw [HVA.out]
  go_wp2_with fail
  refine (iRecordValid_any _ _ _ _ _ _ _ _ bZ bB _ (hrb.held hbb hx1) (hx1.up hbb) hlb hsb hgb hxb).mono ?_
  rintro e w2 ⟨rfl, hb2⟩
  have hx2 := hx1.next hb2
  have hy2 := hy1.next hb2
  obtain ⟨r0, r1, r2, r3, r4, r5⟩ := hx2.cells6
  obtain ⟨s0, s1, s2, s3, s4, s5⟩ := hy2.cells6
  rw [HVB.out]
  go_wp2_with (go_at_call 105; refine (slicesCompare_any aZ bZ aB bB _ _ _ _ _ _ (hra.held hba hx2) (hrb.held hbb hx2) hla).mono ?_; rintro e w4 ⟨m, rfl, hm, rfl⟩; obtain rfl : m = 0 := hm.out.2.2 HZ.out)
  go_ret
  refine ⟨ret_bool ?_, hx2.1⟩
  unfold Z.ltRec
  rw [if_pos hn.out, if_pos rfl, if_pos HZ.out, if_pos hg.out, if_pos hxn.out]

theorem iRecordBefore_ok (aN : ByteArray) (aT aK : Int) (aA : Option Addr) (aL aC : Nat) (aG aX : ByteArray) (aZ : List Int) (aB : Nat) (bN : ByteArray) (bT bK : Int) (bA : Option Addr) (bL bC : Nat) (bG bX : ByteArray) (bZ : List Int) (bB : Nat) (w : World) (hra : Reads w aB aA aL (aZ.map iv)) (hba : aB ≤ w.heap.size) (hla : aL ≤ 67108864) (hrb : Reads w bB bA bL (bZ.map iv)) (hbb : bB ≤ w.heap.size) (hlb : bL ≤ 67108864) (hsa : aN.size ≤ 67108864) (hga : aG.size ≤ 67108864) (hxa : aX.size ≤ 67108864) (hsb : bN.size ≤ 67108864) (hgb : bG.size ≤ 67108864) (hxb : bX.size ≤ 67108864) (hva : Z.recValid (⟨lst aN, aT, aK, aZ, lst aG, lst aX⟩ : Z.Rec) = true) (hvb : Z.recValid (⟨lst bN, bT, bK, bZ, lst bG, lst bX⟩ : Z.Rec) = true) :
    Calls Try.prog 90 #[.agg #[.string aN, .int .i64 aT, .int .i64 aK, .slice aA aL aC, .string aG, .string aX], .agg #[.string bN, .int .i64 bT, .int .i64 bK, .slice bA bL bC, .string bG, .string bX]] w fun e w' => e = .returned (.bool (Z.ltRec (⟨lst aN, aT, aK, aZ, lst aG, lst aX⟩ : Z.Rec) (⟨lst bN, bT, bK, bZ, lst bG, lst bX⟩ : Z.Rec))) ∧ Below w.heap.size w w' := by
  obtain ⟨a1, a2, a3, a4, a5, a6⟩ := Z.recValid_iff.1 hva
  obtain ⟨b1, b2, b3, b4, b5, b6⟩ := Z.recValid_iff.1 hvb
  have la : aL = cnt aK := by rw [← reads_len hra]; exact (Z.okNums_length a5).trans (lims_len _)
  have lb : bL = cnt bK := by rw [← reads_len hrb]; exact (Z.okNums_length b5).trans (lims_len _)
  by_cases h : lst aN = lst bN
  · by_cases hk : aK = bK
    · have hlen : aL = bL := by rw [la, lb, hk]
      have htg : lst aG ≠ lst bG → Z.valid (lst aG) = true ∧ Z.valid (lst bG) = true := fun hne => by
        have ta := Z.okRest_target a6
        have tb := Z.okRest_target b6
        simp only at ta tb
        rcases ta with ⟨k1, e1⟩ | ⟨k1, e1, _⟩
        · rcases tb with ⟨k2, e2⟩ | ⟨k2, e2, _⟩
          · exact absurd (e1.trans e2.symm) hne
          · rw [hk] at k1; exact absurd k1 k2
        · rcases tb with ⟨k2, e2⟩ | ⟨k2, e2, _⟩
          · rw [hk] at k1; exact absurd k2 k1
          · exact ⟨e1, e2⟩
      by_cases hz : aZ = bZ
      · by_cases hg : lst aG = lst bG
        · by_cases hx : lst aX = lst bX
          · exact before_ttl _ _ _ _ _ _ _ _ aZ aB _ _ _ _ _ _ _ _ bZ bB w hra hba hla hrb hbb hlb hsa hga hxa hsb hgb hxb hlen hva hvb h hk hz hg hx
          · exact before_text _ _ _ _ _ _ _ _ aZ aB _ _ _ _ _ _ _ _ bZ bB w hra hba hla hrb hbb hlb hsa hga hxa hsb hgb hxb hlen hva hvb h hk hz hg hx
        · exact before_target _ _ _ _ _ _ _ _ aZ aB _ _ _ _ _ _ _ _ bZ bB w hra hba hla hrb hbb hlb hsa hga hxa hsb hgb hxb hlen (htg hg) hva hvb h hk hz hg
      · exact before_nums _ _ _ _ _ _ _ _ aZ aB _ _ _ _ _ _ _ _ bZ bB w hra hba hla hrb hbb hlb hsa hga hxa hsb hgb hxb hlen hva hvb h hk hz
    · exact before_kind _ _ _ _ _ _ _ _ aZ aB _ _ _ _ _ _ _ _ bZ bB w hra hba hla hrb hbb hlb hsa hga hxa hsb hgb hxb hva hvb h hk
  · exact before_name _ _ _ _ _ _ _ _ aZ aB _ _ _ _ _ _ _ _ bZ bB w hra hba hla hrb hbb hlb hsa hga hxa hsb hgb hxb hva hvb h

set_option maxHeartbeats 4000000 in
theorem iRecordBefore_any (aN : ByteArray) (aT aK : Int) (aA : Option Addr) (aL aC : Nat) (aG aX : ByteArray) (aZ : List Int) (aB : Nat) (bN : ByteArray) (bT bK : Int) (bA : Option Addr) (bL bC : Nat) (bG bX : ByteArray) (bZ : List Int) (bB : Nat) (w : World) (hra : Reads w aB aA aL (aZ.map iv)) (hba : aB ≤ w.heap.size) (hla : aL ≤ 67108864) (hrb : Reads w bB bA bL (bZ.map iv)) (hbb : bB ≤ w.heap.size) (hlb : bL ≤ 67108864) (hsa : aN.size ≤ 67108864) (hga : aG.size ≤ 67108864) (hxa : aX.size ≤ 67108864) (hsb : bN.size ≤ 67108864) (hgb : bG.size ≤ 67108864) (hxb : bX.size ≤ 67108864) :
    Calls Try.prog 90 #[.agg #[.string aN, .int .i64 aT, .int .i64 aK, .slice aA aL aC, .string aG, .string aX], .agg #[.string bN, .int .i64 bT, .int .i64 bK, .slice bA bL bC, .string bG, .string bX]] w fun e w' => e = .returned (.bool (Z.recBefore (⟨lst aN, aT, aK, aZ, lst aG, lst aX⟩ : Z.Rec) (⟨lst bN, bT, bK, bZ, lst bG, lst bX⟩ : Z.Rec))) ∧ Below w.heap.size w w' := by
  obtain ⟨va, hva⟩ : ∃ v, Z.recValid (⟨lst aN, aT, aK, aZ, lst aG, lst aX⟩ : Z.Rec) = v := ⟨_, rfl⟩
  obtain ⟨vb, hvb⟩ : ∃ v, Z.recValid (⟨lst bN, bT, bK, bZ, lst bG, lst bX⟩ : Z.Rec) = v := ⟨_, rfl⟩
  have HA := hid hva
  have HB := hid hvb
  have hfin : Hid (Z.recBefore (⟨lst aN, aT, aK, aZ, lst aG, lst aX⟩ : Z.Rec) (⟨lst bN, bT, bK, bZ, lst bG, lst bX⟩ : Z.Rec) = (va && vb && Z.ltRec (⟨lst aN, aT, aK, aZ, lst aG, lst aX⟩ : Z.Rec) (⟨lst bN, bT, bK, bZ, lst bG, lst bX⟩ : Z.Rec))) := hid (by unfold Z.recBefore; rw [hva, hvb])
  clear hva hvb
  cases va
  · have hx0 := (Held.box w [.string aN, .int .i64 aT, .int .i64 aK, .slice aA aL aC, .string aG, .string aX] 54).alloc (.cells [.string bN, .int .i64 bT, .int .i64 bK, .slice bA bL bC, .string bG, .string bX].toArray 54)
    go_enter Try.func90, Try.ntmps90
    go_wp2_with fail
    refine (iRecordValid_any _ _ _ _ _ _ _ _ aZ aB _ (hra.held hba hx0) (hx0.up hba) hla hsa hga hxa).mono ?_
    rintro e w1 ⟨rfl, hb1⟩
    have hx1 := hx0.next hb1
    rw [HA.out]
    go_wp2
    go_ret
    exact ⟨ret_bool (by rw [hfin.out]; rfl), hx1.1⟩
  · cases vb
    · have hx0 := (Held.box w [.string aN, .int .i64 aT, .int .i64 aK, .slice aA aL aC, .string aG, .string aX] 54).alloc (.cells [.string bN, .int .i64 bT, .int .i64 bK, .slice bA bL bC, .string bG, .string bX].toArray 54)
      have hy0 := (Held.box w [.string aN, .int .i64 aT, .int .i64 aK, .slice aA aL aC, .string aG, .string aX] 54).again (cs' := [.string bN, .int .i64 bT, .int .i64 bK, .slice bA bL bC, .string bG, .string bX]) 54 (w.heap.size + 1) (by simp)
      go_enter Try.func90, Try.ntmps90
      go_wp2_with fail
      refine (iRecordValid_any _ _ _ _ _ _ _ _ aZ aB _ (hra.held hba hx0) (hx0.up hba) hla hsa hga hxa).mono ?_
      rintro e w1 ⟨rfl, hb1⟩
      have hx1 := hx0.next hb1
      have hy1 := hy0.next hb1
      obtain ⟨p0, p1, p2, p3, p4, p5⟩ := hx1.cells6
      obtain ⟨q0, q1, q2, q3, q4, q5⟩ := hy1.cells6
      rw [HA.out]
      go_wp2_with fail
      refine (iRecordValid_any _ _ _ _ _ _ _ _ bZ bB _ (hrb.held hbb hx1) (hx1.up hbb) hlb hsb hgb hxb).mono ?_
      rintro e w2 ⟨rfl, hb2⟩
      have hx2 := hx1.next hb2
      rw [HB.out]
      go_wp2
      go_ret
      exact ⟨ret_bool (by rw [hfin.out]; rfl), hx2.1⟩
    · exact (iRecordBefore_ok _ _ _ _ _ _ _ _ aZ aB _ _ _ _ _ _ _ _ bZ bB w hra hba hla hrb hbb hlb hsa hga hxa hsb hgb hxb HA.out HB.out).mono fun e w' h => ⟨h.1.trans (ret_bool (by rw [hfin.out]; rfl)), h.2⟩
end Go.Proofs.Ytgglakonkphbgaa

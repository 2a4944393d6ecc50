/- What l2Order and RecordBefore of the model return. -/
import Derived.Test.YtaiijnaockbahaaSd
namespace Go.Proofs.Ytaiijnaockbahaa
open Go.RowKit
set_option maxRecDepth 100000
set_option linter.unusedVariables false

theorem Held.more' {w W : World} {b : Nat} {cs cs' : List Value} (h : Held w W b cs) (T : TypeId) (b' : Nat) (hb : b' = W.heap.size) : Held w (W.alloc (.cells cs'.toArray T)) b' cs' := by subst hb; exact h.more T

def Goes (a b : Z.Rec) (m : Int) : Prop := decide (m < 0) = Z.ltRec a b

set_option maxHeartbeats 4000000 in
theorem order_name (aN : ByteArray) (aT aK : Int) (aA : Option Addr) (aL aC : Nat) (aG aX : ByteArray) (aZ : List Int) (aB : Nat) (bN : ByteArray) (bT bK : Int) (bA : Option Addr) (bL bC : Nat) (bG bX : ByteArray) (bZ : List Int) (bB : Nat) (w : World) (hra : Reads w aB aA aL (aZ.map iv)) (hba : aB ≤ w.heap.size) (hla : aL ≤ 67108864) (hrb : Reads w bB bA bL (bZ.map iv)) (hbb : bB ≤ w.heap.size) (hlb : bL ≤ 67108864) (hsa : aN.size ≤ 67108864) (hga : aG.size ≤ 67108864) (hxa : aX.size ≤ 67108864) (hsb : bN.size ≤ 67108864) (hgb : bG.size ≤ 67108864) (hxb : bX.size ≤ 67108864) (hva : Z.valid (lst aN) = true) (hvb : Z.valid (lst bN) = true) (hka : 0 ≤ aK ∧ aK ≤ 16) (hkb : 0 ≤ bK ∧ bK ≤ 16) (hta : 0 ≤ aT ∧ aT ≤ 100000) (htb : 0 ≤ bT ∧ bT ≤ 100000)
     (h : lst aN ≠ lst bN) :
    Calls Try.prog 24 #[.agg #[.string aN, .int .i64 aT, .int .i64 aK, .slice aA aL aC, .string aG, .string aX], .agg #[.string bN, .int .i64 bT, .int .i64 bK, .slice bA bL bC, .string bG, .string bX]] w fun e w' => ∃ m : Int, e = .returned (.int .i64 m) ∧ Hid (Goes (⟨lst aN, aT, aK, aZ, lst aG, lst aX⟩ : Z.Rec) (⟨lst bN, bT, bK, bZ, lst bG, lst bX⟩ : Z.Rec) m) ∧ Below w.heap.size w w' := by
  have HVA := hid hva
  have HVB := hid hvb
  clear hva hvb
  have hx0 := (Held.box w [.string aN, .int .i64 aT, .int .i64 aK, .slice aA aL aC, .string aG, .string aX] 25).alloc (.cells [.string bN, .int .i64 bT, .int .i64 bK, .slice bA bL bC, .string bG, .string bX].toArray 25)
  have hy0 := (Held.box w [.string aN, .int .i64 aT, .int .i64 aK, .slice aA aL aC, .string aG, .string aX] 25).more' (cs' := [.string bN, .int .i64 bT, .int .i64 bK, .slice bA bL bC, .string bG, .string bX]) 25 (w.heap.size + 1) (by simp)
  have hn := hid h
  clear h
  go_enter Try.func24, Try.ntmps24
  go_wp2_with (go_at_call 40; refine (l1Order_ne _ _ (by omega) (by omega) HVA.out HVB.out hn.out _).mono ?_; rintro e w1 ⟨m, rfl, hm0, hm, hb1⟩; have hx1 := hx0.next hb1; have hy1 := hy0.next hb1; obtain ⟨p0, p1, p2, p3, p4, p5⟩ := hx1.cells6; obtain ⟨q0, q1, q2, q3, q4, q5⟩ := hy1.cells6)
  go_ret
  refine ⟨m, rfl, hid ?_, hx1.1⟩
  unfold Goes Z.ltRec
  rw [if_neg hn.out, hm.out]

set_option maxHeartbeats 4000000 in
theorem order_kind (aN : ByteArray) (aT aK : Int) (aA : Option Addr) (aL aC : Nat) (aG aX : ByteArray) (aZ : List Int) (aB : Nat) (bN : ByteArray) (bT bK : Int) (bA : Option Addr) (bL bC : Nat) (bG bX : ByteArray) (bZ : List Int) (bB : Nat) (w : World) (hra : Reads w aB aA aL (aZ.map iv)) (hba : aB ≤ w.heap.size) (hla : aL ≤ 67108864) (hrb : Reads w bB bA bL (bZ.map iv)) (hbb : bB ≤ w.heap.size) (hlb : bL ≤ 67108864) (hsa : aN.size ≤ 67108864) (hga : aG.size ≤ 67108864) (hxa : aX.size ≤ 67108864) (hsb : bN.size ≤ 67108864) (hgb : bG.size ≤ 67108864) (hxb : bX.size ≤ 67108864) (hva : Z.valid (lst aN) = true) (hvb : Z.valid (lst bN) = true) (hka : 0 ≤ aK ∧ aK ≤ 16) (hkb : 0 ≤ bK ∧ bK ≤ 16) (hta : 0 ≤ aT ∧ aT ≤ 100000) (htb : 0 ≤ bT ∧ bT ≤ 100000)
     (h : lst aN = lst bN) (hk : ¬ aK = bK) :
    Calls Try.prog 24 #[.agg #[.string aN, .int .i64 aT, .int .i64 aK, .slice aA aL aC, .string aG, .string aX], .agg #[.string bN, .int .i64 bT, .int .i64 bK, .slice bA bL bC, .string bG, .string bX]] w fun e w' => ∃ m : Int, e = .returned (.int .i64 m) ∧ Hid (Goes (⟨lst aN, aT, aK, aZ, lst aG, lst aX⟩ : Z.Rec) (⟨lst bN, bT, bK, bZ, lst bG, lst bX⟩ : Z.Rec) m) ∧ Below w.heap.size w w' := by
  have HVA := hid hva
  have HVB := hid hvb
  clear hva hvb
  have hx0 := (Held.box w [.string aN, .int .i64 aT, .int .i64 aK, .slice aA aL aC, .string aG, .string aX] 25).alloc (.cells [.string bN, .int .i64 bT, .int .i64 bK, .slice bA bL bC, .string bG, .string bX].toArray 25)
  have hy0 := (Held.box w [.string aN, .int .i64 aT, .int .i64 aK, .slice aA aL aC, .string aG, .string aX] 25).more' (cs' := [.string bN, .int .i64 bT, .int .i64 bK, .slice bA bL bC, .string bG, .string bX]) 25 (w.heap.size + 1) (by simp)
  have hn := hid h
  have hk0 : (aK - bK == 0) = false := by simp; omega
  have HK := hid hk
  clear h
  go_enter Try.func24, Try.ntmps24
  go_wp2_with (go_at_call 40; refine (l1Order_eq _ _ (by omega) (by omega) hn.out _).mono ?_; rintro e w1 ⟨rfl, hb1⟩; have hx1 := hx0.next hb1; have hy1 := hy0.next hb1; obtain ⟨p0, p1, p2, p3, p4, p5⟩ := hx1.cells6; obtain ⟨q0, q1, q2, q3, q4, q5⟩ := hy1.cells6)
  go_ret
  refine ⟨_, rfl, hid ?_, hx1.1⟩
  unfold Goes Z.ltRec
  rw [if_pos hn.out, if_neg HK.out, Bool.eq_iff_iff]
  simp
  omega

set_option maxHeartbeats 4000000 in
theorem order_nums (aN : ByteArray) (aT aK : Int) (aA : Option Addr) (aL aC : Nat) (aG aX : ByteArray) (aZ : List Int) (aB : Nat) (bN : ByteArray) (bT bK : Int) (bA : Option Addr) (bL bC : Nat) (bG bX : ByteArray) (bZ : List Int) (bB : Nat) (w : World) (hra : Reads w aB aA aL (aZ.map iv)) (hba : aB ≤ w.heap.size) (hla : aL ≤ 67108864) (hrb : Reads w bB bA bL (bZ.map iv)) (hbb : bB ≤ w.heap.size) (hlb : bL ≤ 67108864) (hsa : aN.size ≤ 67108864) (hga : aG.size ≤ 67108864) (hxa : aX.size ≤ 67108864) (hsb : bN.size ≤ 67108864) (hgb : bG.size ≤ 67108864) (hxb : bX.size ≤ 67108864) (hlen : aL = bL) (hva : Z.valid (lst aN) = true) (hvb : Z.valid (lst bN) = true) (hka : 0 ≤ aK ∧ aK ≤ 16) (hkb : 0 ≤ bK ∧ bK ≤ 16) (hta : 0 ≤ aT ∧ aT ≤ 100000) (htb : 0 ≤ bT ∧ bT ≤ 100000)
    (htg : lst aG ≠ lst bG → Z.valid (lst aG) = true ∧ Z.valid (lst bG) = true) (h : lst aN = lst bN) (hk : aK = bK) (hz : aZ ≠ bZ) :
    Calls Try.prog 24 #[.agg #[.string aN, .int .i64 aT, .int .i64 aK, .slice aA aL aC, .string aG, .string aX], .agg #[.string bN, .int .i64 bT, .int .i64 bK, .slice bA bL bC, .string bG, .string bX]] w fun e w' => ∃ m : Int, e = .returned (.int .i64 m) ∧ Hid (Goes (⟨lst aN, aT, aK, aZ, lst aG, lst aX⟩ : Z.Rec) (⟨lst bN, bT, bK, bZ, lst bG, lst bX⟩ : Z.Rec) m) ∧ Below w.heap.size w w' := by
  have HTG := hid htg
  clear htg
  have HVA := hid hva
  have HVB := hid hvb
  clear hva hvb
  have hx0 := (Held.box w [.string aN, .int .i64 aT, .int .i64 aK, .slice aA aL aC, .string aG, .string aX] 25).alloc (.cells [.string bN, .int .i64 bT, .int .i64 bK, .slice bA bL bC, .string bG, .string bX].toArray 25)
  have hy0 := (Held.box w [.string aN, .int .i64 aT, .int .i64 aK, .slice aA aL aC, .string aG, .string aX] 25).more' (cs' := [.string bN, .int .i64 bT, .int .i64 bK, .slice bA bL bC, .string bG, .string bX]) 25 (w.heap.size + 1) (by simp)
  have hn := hid h
  have HZ := hid hz
  clear h
  subst hlen
  subst hk
  go_enter Try.func24, Try.ntmps24
  go_wp2_with (first | (go_at_call 40; refine (l1Order_eq _ _ (by omega) (by omega) hn.out _).mono ?_; rintro e w1 ⟨rfl, hb1⟩; have hx1 := hx0.next hb1; have hy1 := hy0.next hb1; obtain ⟨p0, p1, p2, p3, p4, p5⟩ := hx1.cells6; obtain ⟨q0, q1, q2, q3, q4, q5⟩ := hy1.cells6) | (go_at_call 41; refine (l2Lists_any aZ bZ aB bB _ _ _ _ _ _ (hra.held hba hx1) (hrb.held hbb hx1) hla).mono ?_; rintro e w2 ⟨m, rfl, hm, hb2⟩; have hx2 := hx1.next hb2; have hy2 := hy1.next hb2; obtain ⟨p0, p1, p2, p3, p4, p5⟩ := hx2.cells6; obtain ⟨q0, q1, q2, q3, q4, q5⟩ := hy2.cells6; have hm0 : (m == 0) = false := by simp; exact fun e => HZ.out (hm.out.2.1 e)))
  go_ret
  refine ⟨m, rfl, hid ?_, hx2.1⟩
  unfold Goes Z.ltRec
  rw [if_pos hn.out, if_pos rfl, if_neg HZ.out, hm.out.1]

set_option maxHeartbeats 4000000 in
theorem order_target (aN : ByteArray) (aT aK : Int) (aA : Option Addr) (aL aC : Nat) (aG aX : ByteArray) (aZ : List Int) (aB : Nat) (bN : ByteArray) (bT bK : Int) (bA : Option Addr) (bL bC : Nat) (bG bX : ByteArray) (bZ : List Int) (bB : Nat) (w : World) (hra : Reads w aB aA aL (aZ.map iv)) (hba : aB ≤ w.heap.size) (hla : aL ≤ 67108864) (hrb : Reads w bB bA bL (bZ.map iv)) (hbb : bB ≤ w.heap.size) (hlb : bL ≤ 67108864) (hsa : aN.size ≤ 67108864) (hga : aG.size ≤ 67108864) (hxa : aX.size ≤ 67108864) (hsb : bN.size ≤ 67108864) (hgb : bG.size ≤ 67108864) (hxb : bX.size ≤ 67108864) (hlen : aL = bL) (hva : Z.valid (lst aN) = true) (hvb : Z.valid (lst bN) = true) (hka : 0 ≤ aK ∧ aK ≤ 16) (hkb : 0 ≤ bK ∧ bK ≤ 16) (hta : 0 ≤ aT ∧ aT ≤ 100000) (htb : 0 ≤ bT ∧ bT ≤ 100000)
    (htg : lst aG ≠ lst bG → Z.valid (lst aG) = true ∧ Z.valid (lst bG) = true) (h : lst aN = lst bN) (hk : aK = bK) (hz : aZ = bZ) (hgg : lst aG ≠ lst bG) :
    Calls Try.prog 24 #[.agg #[.string aN, .int .i64 aT, .int .i64 aK, .slice aA aL aC, .string aG, .string aX], .agg #[.string bN, .int .i64 bT, .int .i64 bK, .slice bA bL bC, .string bG, .string bX]] w fun e w' => ∃ m : Int, e = .returned (.int .i64 m) ∧ Hid (Goes (⟨lst aN, aT, aK, aZ, lst aG, lst aX⟩ : Z.Rec) (⟨lst bN, bT, bK, bZ, lst bG, lst bX⟩ : Z.Rec) m) ∧ Below w.heap.size w w' := by
  have HTG := hid htg
  clear htg
  have HVA := hid hva
  have HVB := hid hvb
  clear hva hvb
  have hx0 := (Held.box w [.string aN, .int .i64 aT, .int .i64 aK, .slice aA aL aC, .string aG, .string aX] 25).alloc (.cells [.string bN, .int .i64 bT, .int .i64 bK, .slice bA bL bC, .string bG, .string bX].toArray 25)
  have hy0 := (Held.box w [.string aN, .int .i64 aT, .int .i64 aK, .slice aA aL aC, .string aG, .string aX] 25).more' (cs' := [.string bN, .int .i64 bT, .int .i64 bK, .slice bA bL bC, .string bG, .string bX]) 25 (w.heap.size + 1) (by simp)
  have hn := hid h
  have HZ := hid hz
  have hg := hid hgg
  have htt : (aG.toList == bG.toList) = false := by rw [eq_toList]; simpa using hgg
  clear h hz hgg
  subst hlen
  subst hk
  go_enter Try.func24, Try.ntmps24
  go_wp2_with fail
  refine (l1Order_eq _ _ (by omega) (by omega) hn.out _).mono ?_
  rintro e w1 ⟨rfl, hb1⟩
  have hx1 := hx0.next hb1
  have hy1 := hy0.next hb1
  obtain ⟨p0, p1, p2, p3, p4, p5⟩ := hx1.cells6
  obtain ⟨q0, q1, q2, q3, q4, q5⟩ := hy1.cells6
  go_wp2_with (first | (go_at_call 41; refine (l2Lists_any aZ bZ aB bB _ _ _ _ _ _ (hra.held hba hx1) (hrb.held hbb hx1) hla).mono ?_; rintro e w2 ⟨m, rfl, hm, hb2⟩; have hx2 := hx1.next hb2; have hy2 := hy1.next hb2; obtain ⟨p0, p1, p2, p3, p4, p5⟩ := hx2.cells6; obtain ⟨q0, q1, q2, q3, q4, q5⟩ := hy2.cells6; obtain rfl : m = 0 := hm.out.2.2 HZ.out) | (go_at_call 40; refine (l1Order_ne _ _ (by omega) (by omega) (HTG.out hg.out).1 (HTG.out hg.out).2 hg.out _).mono ?_; rintro e w3 ⟨m, rfl, hm0, hm, hb3⟩; have hx3 := hx2.next hb3; have hy3 := hy2.next hb3; obtain ⟨p0, p1, p2, p3, p4, p5⟩ := hx3.cells6; obtain ⟨q0, q1, q2, q3, q4, q5⟩ := hy3.cells6))
  go_ret
  refine ⟨m, rfl, hid ?_, hx3.1⟩
  unfold Goes Z.ltRec
  rw [if_pos hn.out, if_pos rfl, if_pos HZ.out, if_neg hg.out, hm.out]

set_option maxHeartbeats 4000000 in
theorem order_text (aN : ByteArray) (aT aK : Int) (aA : Option Addr) (aL aC : Nat) (aG aX : ByteArray) (aZ : List Int) (aB : Nat) (bN : ByteArray) (bT bK : Int) (bA : Option Addr) (bL bC : Nat) (bG bX : ByteArray) (bZ : List Int) (bB : Nat) (w : World) (hra : Reads w aB aA aL (aZ.map iv)) (hba : aB ≤ w.heap.size) (hla : aL ≤ 67108864) (hrb : Reads w bB bA bL (bZ.map iv)) (hbb : bB ≤ w.heap.size) (hlb : bL ≤ 67108864) (hsa : aN.size ≤ 67108864) (hga : aG.size ≤ 67108864) (hxa : aX.size ≤ 67108864) (hsb : bN.size ≤ 67108864) (hgb : bG.size ≤ 67108864) (hxb : bX.size ≤ 67108864) (hlen : aL = bL) (hva : Z.valid (lst aN) = true) (hvb : Z.valid (lst bN) = true) (hka : 0 ≤ aK ∧ aK ≤ 16) (hkb : 0 ≤ bK ∧ bK ≤ 16) (hta : 0 ≤ aT ∧ aT ≤ 100000) (htb : 0 ≤ bT ∧ bT ≤ 100000)
    (htg : lst aG ≠ lst bG → Z.valid (lst aG) = true ∧ Z.valid (lst bG) = true) (h : lst aN = lst bN) (hk : aK = bK) (hz : aZ = bZ) (hgg : lst aG = lst bG) (hxx : lst aX ≠ lst bX) :
    Calls Try.prog 24 #[.agg #[.string aN, .int .i64 aT, .int .i64 aK, .slice aA aL aC, .string aG, .string aX], .agg #[.string bN, .int .i64 bT, .int .i64 bK, .slice bA bL bC, .string bG, .string bX]] w fun e w' => ∃ m : Int, e = .returned (.int .i64 m) ∧ Hid (Goes (⟨lst aN, aT, aK, aZ, lst aG, lst aX⟩ : Z.Rec) (⟨lst bN, bT, bK, bZ, lst bG, lst bX⟩ : Z.Rec) m) ∧ Below w.heap.size w w' := by
  have HTG := hid htg
  clear htg
  have HVA := hid hva
  have HVB := hid hvb
  clear hva hvb
  have hx0 := (Held.box w [.string aN, .int .i64 aT, .int .i64 aK, .slice aA aL aC, .string aG, .string aX] 25).alloc (.cells [.string bN, .int .i64 bT, .int .i64 bK, .slice bA bL bC, .string bG, .string bX].toArray 25)
  have hy0 := (Held.box w [.string aN, .int .i64 aT, .int .i64 aK, .slice aA aL aC, .string aG, .string aX] 25).more' (cs' := [.string bN, .int .i64 bT, .int .i64 bK, .slice bA bL bC, .string bG, .string bX]) 25 (w.heap.size + 1) (by simp)
  have hn := hid h
  have HZ := hid hz
  have hg := hid hgg
  have hxn := hid hxx
  have htt : (aG.toList == bG.toList) = true := by rw [eq_toList]; simpa using hgg
  clear h hz hgg hxx
  subst hlen
  subst hk
  go_enter Try.func24, Try.ntmps24
  go_wp2_with (first | (go_at_call 40; refine (l1Order_eq _ _ (by omega) (by omega) hn.out _).mono ?_; rintro e w1 ⟨rfl, hb1⟩; have hx1 := hx0.next hb1; have hy1 := hy0.next hb1; obtain ⟨p0, p1, p2, p3, p4, p5⟩ := hx1.cells6; obtain ⟨q0, q1, q2, q3, q4, q5⟩ := hy1.cells6) | (go_at_call 41; refine (l2Lists_any aZ bZ aB bB _ _ _ _ _ _ (hra.held hba hx1) (hrb.held hbb hx1) hla).mono ?_; rintro e w2 ⟨m, rfl, hm, hb2⟩; have hx2 := hx1.next hb2; have hy2 := hy1.next hb2; obtain ⟨p0, p1, p2, p3, p4, p5⟩ := hx2.cells6; obtain ⟨q0, q1, q2, q3, q4, q5⟩ := hy2.cells6; obtain rfl : m = 0 := hm.out.2.2 HZ.out) | (go_at_call 42; refine (l2Texts_any _ _ _).mono ?_; rintro e w4 ⟨m, rfl, hm, rfl⟩; have hm0 : (m == 0) = false := by simp; exact fun e => hxn.out (hm.out.2.1 e)))
  go_ret
  refine ⟨m, rfl, hid ?_, hx2.1⟩
  unfold Goes Z.ltRec
  rw [if_pos hn.out, if_pos rfl, if_pos HZ.out, if_pos hg.out, if_neg hxn.out, hm.out.1]

set_option maxHeartbeats 4000000 in
theorem order_ttl (aN : ByteArray) (aT aK : Int) (aA : Option Addr) (aL aC : Nat) (aG aX : ByteArray) (aZ : List Int) (aB : Nat) (bN : ByteArray) (bT bK : Int) (bA : Option Addr) (bL bC : Nat) (bG bX : ByteArray) (bZ : List Int) (bB : Nat) (w : World) (hra : Reads w aB aA aL (aZ.map iv)) (hba : aB ≤ w.heap.size) (hla : aL ≤ 67108864) (hrb : Reads w bB bA bL (bZ.map iv)) (hbb : bB ≤ w.heap.size) (hlb : bL ≤ 67108864) (hsa : aN.size ≤ 67108864) (hga : aG.size ≤ 67108864) (hxa : aX.size ≤ 67108864) (hsb : bN.size ≤ 67108864) (hgb : bG.size ≤ 67108864) (hxb : bX.size ≤ 67108864) (hlen : aL = bL) (hva : Z.valid (lst aN) = true) (hvb : Z.valid (lst bN) = true) (hka : 0 ≤ aK ∧ aK ≤ 16) (hkb : 0 ≤ bK ∧ bK ≤ 16) (hta : 0 ≤ aT ∧ aT ≤ 100000) (htb : 0 ≤ bT ∧ bT ≤ 100000)
    (htg : lst aG ≠ lst bG → Z.valid (lst aG) = true ∧ Z.valid (lst bG) = true) (h : lst aN = lst bN) (hk : aK = bK) (hz : aZ = bZ) (hgg : lst aG = lst bG) (hxx : lst aX = lst bX) :
    Calls Try.prog 24 #[.agg #[.string aN, .int .i64 aT, .int .i64 aK, .slice aA aL aC, .string aG, .string aX], .agg #[.string bN, .int .i64 bT, .int .i64 bK, .slice bA bL bC, .string bG, .string bX]] w fun e w' => ∃ m : Int, e = .returned (.int .i64 m) ∧ Hid (Goes (⟨lst aN, aT, aK, aZ, lst aG, lst aX⟩ : Z.Rec) (⟨lst bN, bT, bK, bZ, lst bG, lst bX⟩ : Z.Rec) m) ∧ Below w.heap.size w w' := by
  have HTG := hid htg
  clear htg
  have HVA := hid hva
  have HVB := hid hvb
  clear hva hvb
  have hx0 := (Held.box w [.string aN, .int .i64 aT, .int .i64 aK, .slice aA aL aC, .string aG, .string aX] 25).alloc (.cells [.string bN, .int .i64 bT, .int .i64 bK, .slice bA bL bC, .string bG, .string bX].toArray 25)
  have hy0 := (Held.box w [.string aN, .int .i64 aT, .int .i64 aK, .slice aA aL aC, .string aG, .string aX] 25).more' (cs' := [.string bN, .int .i64 bT, .int .i64 bK, .slice bA bL bC, .string bG, .string bX]) 25 (w.heap.size + 1) (by simp)
  have hn := hid h
  have HZ := hid hz
  have hg := hid hgg
  have hxn := hid hxx
  have htt : (aG.toList == bG.toList) = true := by rw [eq_toList]; simpa using hgg
  clear h hz hgg hxx
  subst hlen
  subst hk
  go_enter Try.func24, Try.ntmps24
  go_wp2_with (first | (go_at_call 40; refine (l1Order_eq _ _ (by omega) (by omega) hn.out _).mono ?_; rintro e w1 ⟨rfl, hb1⟩; have hx1 := hx0.next hb1; have hy1 := hy0.next hb1; obtain ⟨p0, p1, p2, p3, p4, p5⟩ := hx1.cells6; obtain ⟨q0, q1, q2, q3, q4, q5⟩ := hy1.cells6) | (go_at_call 41; refine (l2Lists_any aZ bZ aB bB _ _ _ _ _ _ (hra.held hba hx1) (hrb.held hbb hx1) hla).mono ?_; rintro e w2 ⟨m, rfl, hm, hb2⟩; have hx2 := hx1.next hb2; have hy2 := hy1.next hb2; obtain ⟨p0, p1, p2, p3, p4, p5⟩ := hx2.cells6; obtain ⟨q0, q1, q2, q3, q4, q5⟩ := hy2.cells6; obtain rfl : m = 0 := hm.out.2.2 HZ.out) | (go_at_call 42; refine (l2Texts_any _ _ _).mono ?_; rintro e w4 ⟨m, rfl, hm, rfl⟩; obtain rfl : m = 0 := hm.out.2.2 hxn.out))
  go_ret
  refine ⟨_, rfl, hid ?_, hx2.1⟩
  unfold Goes Z.ltRec
  rw [if_pos hn.out, if_pos rfl, if_pos HZ.out, if_pos hg.out, if_pos hxn.out, Bool.eq_iff_iff]
  simp
  omega

theorem l2Order_any (aN : ByteArray) (aT aK : Int) (aA : Option Addr) (aL aC : Nat) (aG aX : ByteArray) (aZ : List Int) (aB : Nat) (bN : ByteArray) (bT bK : Int) (bA : Option Addr) (bL bC : Nat) (bG bX : ByteArray) (bZ : List Int) (bB : Nat) (w : World) (hra : Reads w aB aA aL (aZ.map iv)) (hba : aB ≤ w.heap.size) (hla : aL ≤ 67108864) (hrb : Reads w bB bA bL (bZ.map iv)) (hbb : bB ≤ w.heap.size) (hlb : bL ≤ 67108864) (hsa : aN.size ≤ 67108864) (hga : aG.size ≤ 67108864) (hxa : aX.size ≤ 67108864) (hsb : bN.size ≤ 67108864) (hgb : bG.size ≤ 67108864) (hxb : bX.size ≤ 67108864) (hva : Z.recValid (⟨lst aN, aT, aK, aZ, lst aG, lst aX⟩ : Z.Rec) = true) (hvb : Z.recValid (⟨lst bN, bT, bK, bZ, lst bG, lst bX⟩ : Z.Rec) = true) :
    Calls Try.prog 24 #[.agg #[.string aN, .int .i64 aT, .int .i64 aK, .slice aA aL aC, .string aG, .string aX], .agg #[.string bN, .int .i64 bT, .int .i64 bK, .slice bA bL bC, .string bG, .string bX]] w fun e w' => ∃ m : Int, e = .returned (.int .i64 m) ∧ Hid (Goes (⟨lst aN, aT, aK, aZ, lst aG, lst aX⟩ : Z.Rec) (⟨lst bN, bT, bK, bZ, lst bG, lst bX⟩ : Z.Rec) m) ∧ Below w.heap.size w w' := by
  obtain ⟨a1, a2, a3, a4, a5, a6⟩ := Z.recValid_iff.1 hva
  obtain ⟨b1, b2, b3, b4, b5, b6⟩ := Z.recValid_iff.1 hvb
  have hka : 0 ≤ aK ∧ aK ≤ 16 := by rcases a4 with h | h | h | h | h | h | h <;> (have h : aK = _ := h; omega)
  have hkb : 0 ≤ bK ∧ bK ≤ 16 := by rcases b4 with h | h | h | h | h | h | h <;> (have h : bK = _ := h; omega)
  have la : aL = cnt aK := by rw [← reads_len hra]; exact (Z.okNums_length a5).trans (lims_len _)
  have lb : bL = cnt bK := by rw [← reads_len hrb]; exact (Z.okNums_length b5).trans (lims_len _)
  by_cases h : lst aN = lst bN
  · by_cases hk : aK = bK
    · have hlen : aL = bL := by rw [la, lb, hk]
      have htg : lst aG ≠ lst bG → Z.valid (lst aG) = true ∧ Z.valid (lst bG) = true := fun hne => by
        have ta := Z.okRest_target a6
        have tb := Z.okRest_target b6
        simp only at ta tb
        rcases ta with ⟨k1, e1⟩ | ⟨k1, e1, _⟩
        · rcases tb with ⟨k2, e2⟩ | ⟨k2, e2, _⟩
          · exact absurd (e1.trans e2.symm) hne
          · rw [hk] at k1; exact absurd k1 k2
        · rcases tb with ⟨k2, e2⟩ | ⟨k2, e2, _⟩
          · rw [hk] at k1; exact absurd k2 k1
          · exact ⟨e1, e2⟩
      by_cases hz : aZ = bZ
      · by_cases hg : lst aG = lst bG
        · by_cases hx : lst aX = lst bX
          · exact order_ttl _ _ _ _ _ _ _ _ aZ aB _ _ _ _ _ _ _ _ bZ bB w hra hba hla hrb hbb hlb hsa hga hxa hsb hgb hxb hlen a1 b1 hka hkb ⟨a2, a3⟩ ⟨b2, b3⟩ htg h hk hz hg hx
          · exact order_text _ _ _ _ _ _ _ _ aZ aB _ _ _ _ _ _ _ _ bZ bB w hra hba hla hrb hbb hlb hsa hga hxa hsb hgb hxb hlen a1 b1 hka hkb ⟨a2, a3⟩ ⟨b2, b3⟩ htg h hk hz hg hx
        · exact order_target _ _ _ _ _ _ _ _ aZ aB _ _ _ _ _ _ _ _ bZ bB w hra hba hla hrb hbb hlb hsa hga hxa hsb hgb hxb hlen a1 b1 hka hkb ⟨a2, a3⟩ ⟨b2, b3⟩ htg h hk hz hg
      · exact order_nums _ _ _ _ _ _ _ _ aZ aB _ _ _ _ _ _ _ _ bZ bB w hra hba hla hrb hbb hlb hsa hga hxa hsb hgb hxb hlen a1 b1 hka hkb ⟨a2, a3⟩ ⟨b2, b3⟩ htg h hk hz
    · exact order_kind _ _ _ _ _ _ _ _ aZ aB _ _ _ _ _ _ _ _ bZ bB w hra hba hla hrb hbb hlb hsa hga hxa hsb hgb hxb a1 b1 hka hkb ⟨a2, a3⟩ ⟨b2, b3⟩ h hk
  · exact order_name _ _ _ _ _ _ _ _ aZ aB _ _ _ _ _ _ _ _ bZ bB w hra hba hla hrb hbb hlb hsa hga hxa hsb hgb hxb a1 b1 hka hkb ⟨a2, a3⟩ ⟨b2, b3⟩ h

set_option maxHeartbeats 4000000 in
theorem RecordBefore_any (aN : ByteArray) (aT aK : Int) (aA : Option Addr) (aL aC : Nat) (aG aX : ByteArray) (aZ : List Int) (aB : Nat) (bN : ByteArray) (bT bK : Int) (bA : Option Addr) (bL bC : Nat) (bG bX : ByteArray) (bZ : List Int) (bB : Nat) (w : World) (hra : Reads w aB aA aL (aZ.map iv)) (hba : aB ≤ w.heap.size) (hla : aL ≤ 67108864) (hrb : Reads w bB bA bL (bZ.map iv)) (hbb : bB ≤ w.heap.size) (hlb : bL ≤ 67108864) (hsa : aN.size ≤ 67108864) (hga : aG.size ≤ 67108864) (hxa : aX.size ≤ 67108864) (hsb : bN.size ≤ 67108864) (hgb : bG.size ≤ 67108864) (hxb : bX.size ≤ 67108864) :
    Calls Try.prog 12 #[.agg #[.string aN, .int .i64 aT, .int .i64 aK, .slice aA aL aC, .string aG, .string aX], .agg #[.string bN, .int .i64 bT, .int .i64 bK, .slice bA bL bC, .string bG, .string bX]] w fun e w' => e = .returned (.bool (Z.recBefore (⟨lst aN, aT, aK, aZ, lst aG, lst aX⟩ : Z.Rec) (⟨lst bN, bT, bK, bZ, lst bG, lst bX⟩ : Z.Rec))) ∧ Below w.heap.size w w' := by
  have hx0 := (Held.box w [.string aN, .int .i64 aT, .int .i64 aK, .slice aA aL aC, .string aG, .string aX] 25).alloc (.cells [.string bN, .int .i64 bT, .int .i64 bK, .slice bA bL bC, .string bG, .string bX].toArray 25)
  have hy0 := (Held.box w [.string aN, .int .i64 aT, .int .i64 aK, .slice aA aL aC, .string aG, .string aX] 25).more' (cs' := [.string bN, .int .i64 bT, .int .i64 bK, .slice bA bL bC, .string bG, .string bX]) 25 (w.heap.size + 1) (by simp)
  obtain ⟨va, hva⟩ : ∃ v, Z.recValid (⟨lst aN, aT, aK, aZ, lst aG, lst aX⟩ : Z.Rec) = v := ⟨_, rfl⟩
  obtain ⟨vb, hvb⟩ : ∃ v, Z.recValid (⟨lst bN, bT, bK, bZ, lst bG, lst bX⟩ : Z.Rec) = v := ⟨_, rfl⟩
  have HA := hid hva
  have HB := hid hvb
  have hfin : Hid (Z.recBefore (⟨lst aN, aT, aK, aZ, lst aG, lst aX⟩ : Z.Rec) (⟨lst bN, bT, bK, bZ, lst bG, lst bX⟩ : Z.Rec) = (va && vb && Z.ltRec (⟨lst aN, aT, aK, aZ, lst aG, lst aX⟩ : Z.Rec) (⟨lst bN, bT, bK, bZ, lst bG, lst bX⟩ : Z.Rec))) := hid (by unfold Z.recBefore; rw [hva, hvb])
  clear hva hvb
  cases va
  · go_enter Try.func12, Try.ntmps12
    go_wp2_with fail
    refine (RecordValid_any _ _ _ _ _ _ _ _ aZ aB _ (hra.held hba hx0) (hx0.up hba) hla hsa hga hxa).mono ?_
    rintro e w1 ⟨rfl, hb1⟩
    have hx1 := hx0.next hb1
    rw [HA.out]
    go_wp2
    go_ret
    exact ⟨ret_bool (by rw [hfin.out]; rfl), hx1.1⟩
  · cases vb
    · go_enter Try.func12, Try.ntmps12
      go_wp2_with fail
      refine (RecordValid_any _ _ _ _ _ _ _ _ aZ aB _ (hra.held hba hx0) (hx0.up hba) hla hsa hga hxa).mono ?_
      rintro e w1 ⟨rfl, hb1⟩
      have hx1 := hx0.next hb1
      have hy1 := hy0.next hb1
      obtain ⟨p0, p1, p2, p3, p4, p5⟩ := hx1.cells6
      obtain ⟨q0, q1, q2, q3, q4, q5⟩ := hy1.cells6
      rw [HA.out]
      go_wp2_with fail
      refine (RecordValid_any _ _ _ _ _ _ _ _ bZ bB _ (hrb.held hbb hx1) (hx1.up hbb) hlb hsb hgb hxb).mono ?_
      rintro e w2 ⟨rfl, hb2⟩
      have hx2 := hx1.next hb2
      rw [HB.out]
      go_wp2
      go_ret
      exact ⟨ret_bool (by rw [hfin.out]; rfl), hx2.1⟩
    · go_enter Try.func12, Try.ntmps12
      go_wp2_with fail
      refine (RecordValid_any _ _ _ _ _ _ _ _ aZ aB _ (hra.held hba hx0) (hx0.up hba) hla hsa hga hxa).mono ?_
      rintro e w1 ⟨rfl, hb1⟩
      have hx1 := hx0.next hb1
      have hy1 := hy0.next hb1
      obtain ⟨p0, p1, p2, p3, p4, p5⟩ := hx1.cells6
      obtain ⟨q0, q1, q2, q3, q4, q5⟩ := hy1.cells6
      rw [HA.out]
      go_wp2_with fail
      refine (RecordValid_any _ _ _ _ _ _ _ _ bZ bB _ (hrb.held hbb hx1) (hx1.up hbb) hlb hsb hgb hxb).mono ?_
      rintro e w2 ⟨rfl, hb2⟩
      have hx2 := hx1.next hb2
      have hy2 := hy1.next hb2
      obtain ⟨r0, r1, r2, r3, r4, r5⟩ := hx2.cells6
      obtain ⟨s0, s1, s2, s3, s4, s5⟩ := hy2.cells6
      rw [HB.out]
      go_wp2_with fail
      refine (l2Order_any _ _ _ _ _ _ _ _ aZ aB _ _ _ _ _ _ _ _ bZ bB _ (hra.held hba hx2) (hx2.up hba) hla (hrb.held hbb hx2) (hx2.up hbb) hlb hsa hga hxa hsb hgb hxb HA.out HB.out).mono ?_
      rintro e w3 ⟨m, rfl, hm, hb3⟩
      have hx3 := hx2.next hb3
      go_wp2
      go_ret
      exact ⟨ret_bool (by rw [hfin.out, ← hm.out]; rfl), hx3.1⟩
end Go.Proofs.Ytaiijnaockbahaa

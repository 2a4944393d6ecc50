/- What SameData, RecordSame and the order of the model's chapter 2 return. What l2Order and RecordBefore of the model return. -/
import Derived.Test.YtgglakonkphbgaaSc
namespace Go.Proofs.Ytgglakonkphbgaa
open Go.RowKit
set_option maxRecDepth 100000
set_option linter.unusedVariables false

set_option maxHeartbeats 400000 in
theorem l2Ints_any (xs ys : List Int) (B B' : Nat) (A A' : Option Addr) (n c n' c' : Nat) (w : World) (hx : Reads w B A n (xs.map iv)) (hy : Reads w B' A' n' (ys.map iv))
    (hn : n ≤ 67108864) (hn' : n' ≤ 67108864) :
    Calls Try.prog 85 #[.slice A n c, .slice A' n' c'] w fun e w' => e = .returned (.bool (decide (xs = ys))) ∧ Below w.heap.size w w' := by
  have hl1 := hid (reads_len hx)
  have hl2 := hid (reads_len hy)
  by_cases hnn : n = n'
  · subst hnn
    go_enter Try.func85, Try.ntmps85
    go_wp2
    go_loopw [5] (fun i wr => ∃ (k nq : Nat), k ≤ n ∧ i = .int .i64 k ∧ wr = w.drewN nq ∧ Hid (sameTo xs ys k)) (fun i _ => n - (intOf i).toNat)
    case atStart => exact ⟨0, 0, Nat.zero_le _, rfl, rfl, hid (fun j hj => absurd hj (by omega))⟩
    case round =>
      obtain ⟨k, nq, hk, rfl, rfl, hok⟩ := hrel
      by_cases hlt : k < n
      · obtain ⟨ad2, rfl, hab2, hcell2⟩ := reads_int hy hlt
        obtain ⟨ad1, rfl, hab1, hcell1⟩ := reads_int hx hlt
        go_wp2_with fail
        go_quiet (fail)
        go_wp2
        · have hne : (!xs.getD k 0 == ys.getD k 0) = true := by assumption
          go_ret
          exact ⟨ret_bool (by rw [decide_eq_false (ne_of_getD (by simpa using hne))]), by repeat (first | exact Below.refl _ _ | refine below_drewN ?_ _)⟩
        · have heq : (!xs.getD k 0 == ys.getD k 0) = false := by assumption
          exact ⟨⟨k + 1, _, by omega, by go_num, rfl, hid (sameTo_succ hok.out (by simpa using heq))⟩, by simp [intOf]; omega⟩
      · have hks : k = n := by omega
        have hall : Hid (xs = ys) := hid (sameTo_eq (by rw [hl1.out, hl2.out]) (by rw [hl1.out, ← hks]; exact hok.out))
        clear hks
        go_wp2
        go_ret
        exact ⟨ret_bool (by rw [decide_eq_true hall.out]), by repeat (first | exact Below.refl _ _ | refine below_drewN ?_ _)⟩
  · have hne : Hid (¬ xs = ys) := hid (fun e => hnn (by rw [← hl1.out, ← hl2.out, e]))
    go_enter Try.func85, Try.ntmps85
    go_wp2
    go_ret
    exact ⟨ret_bool (by rw [decide_eq_false hne.out]), Below.refl _ _⟩

set_option maxHeartbeats 1000000 in
theorem SameData_any (aN : ByteArray) (aT aK : Int) (aA : Option Addr) (aL aC : Nat) (aG aX : ByteArray) (aZ : List Int) (aB : Nat) (bN : ByteArray) (bT bK : Int) (bA : Option Addr) (bL bC : Nat) (bG bX : ByteArray) (bZ : List Int) (bB : Nat) (w : World) (hra : Reads w aB aA aL (aZ.map iv)) (hba : aB ≤ w.heap.size) (hla : aL ≤ 67108864) (hrb : Reads w bB bA bL (bZ.map iv)) (hbb : bB ≤ w.heap.size) (hlb : bL ≤ 67108864) :
    Calls Try.prog 66 #[.agg #[.string aN, .int .i64 aT, .int .i64 aK, .slice aA aL aC, .string aG, .string aX], .agg #[.string bN, .int .i64 bT, .int .i64 bK, .slice bA bL bC, .string bG, .string bX]] w fun e w' => e = .returned (.bool (Z.sameData (⟨lst aN, aT, aK, aZ, lst aG, lst aX⟩ : Z.Rec) (⟨lst bN, bT, bK, bZ, lst bG, lst bX⟩ : Z.Rec))) ∧ Below w.heap.size w w' := by
  go_enter Try.func66, Try.ntmps66
  go_wp2_with (go_at_call 85; refine (l2Ints_any aZ bZ aB bB _ _ _ _ _ _ _ ((hra.alloc (by omega) _).alloc (by simp; omega) _) ((hrb.alloc (by omega) _).alloc (by simp; omega) _) hla hlb).mono ?_; rintro e w3 ⟨rfl, hb3⟩; obtain ⟨hc3, hf3⟩ := bcell hb3)
  all_goals (try clear hc3 hf3)
  all_goals go_ret
  all_goals refine ⟨ret_bool (by simp_all [Z.sameData, toList_lst] <;> (rw [Bool.eq_iff_iff]; simp)), ?_⟩
  all_goals first | exact (((Below.refl _ _).alloc (Nat.le_refl _) _).alloc (by simp) _).trans (hb3.mono (by simp; omega)) | exact ((Below.refl _ _).alloc (Nat.le_refl _) _).alloc (by simp) _

set_option maxHeartbeats 1000000 in
theorem RecordSame_any (aN : ByteArray) (aT aK : Int) (aA : Option Addr) (aL aC : Nat) (aG aX : ByteArray) (aZ : List Int) (aB : Nat) (bN : ByteArray) (bT bK : Int) (bA : Option Addr) (bL bC : Nat) (bG bX : ByteArray) (bZ : List Int) (bB : Nat) (w : World) (hra : Reads w aB aA aL (aZ.map iv)) (hba : aB ≤ w.heap.size) (hla : aL ≤ 67108864) (hrb : Reads w bB bA bL (bZ.map iv)) (hbb : bB ≤ w.heap.size) (hlb : bL ≤ 67108864) :
    Calls Try.prog 46 #[.agg #[.string aN, .int .i64 aT, .int .i64 aK, .slice aA aL aC, .string aG, .string aX], .agg #[.string bN, .int .i64 bT, .int .i64 bK, .slice bA bL bC, .string bG, .string bX]] w fun e w' => e = .returned (.bool (Z.recSame (⟨lst aN, aT, aK, aZ, lst aG, lst aX⟩ : Z.Rec) (⟨lst bN, bT, bK, bZ, lst bG, lst bX⟩ : Z.Rec))) ∧ Below w.heap.size w w' := by
  go_enter Try.func46, Try.ntmps46
  go_wp2_with (go_at_call 66; refine (SameData_any _ _ _ _ _ _ _ _ aZ aB _ _ _ _ _ _ _ _ bZ bB _ ((hra.alloc (by omega) _).alloc (by simp; omega) _) (by simp; omega) hla ((hrb.alloc (by omega) _).alloc (by simp; omega) _) (by simp; omega) hlb).mono ?_; rintro e w3 ⟨rfl, hb3⟩)
  all_goals go_ret
  all_goals refine ⟨ret_bool (by simp_all [Z.recSame, toList_lst]), ?_⟩
  all_goals first | exact (((Below.refl _ _).alloc (Nat.le_refl _) _).alloc (by simp) _).trans (hb3.mono (by simp; omega)) | exact ((Below.refl _ _).alloc (Nat.le_refl _) _).alloc (by simp) _

/-! ### the order -/

set_option maxHeartbeats 1000000 in
theorem l1Order_full (s t : ByteArray) (hs : s.size ≤ 67108864) (ht : t.size ≤ 67108864) (w : World) :
    Calls Try.prog 100 #[.string s, .string t] w fun e w' => ∃ m : Int, e = .returned (.int .i64 m) ∧ Hid (decide (m < 0) = Z.ltName (lst s) (lst t) ∧ decide (0 < m) = Z.ltName (lst t) (lst s)) ∧ Below w.heap.size w w' := by
  have hx := Z.labs_count (lst s)
  have hy := Z.labs_count (lst t)
  rw [lst_length] at hx hy
  go_enter Try.func100, Try.ntmps100
  go_wp2_with fail
  refine (l1Labels_any s hs _).mono ?_
  rintro e w1 ⟨A, c, rfl, hown1, hb1⟩
  go_wp2_with fail
  refine (l1Labels_any t ht _).mono ?_
  rintro e w2 ⟨A2, c2, rfl, hown2, hb2⟩
  have hr1 := (Reads.of_own hown1).below hb2 (Nat.le_refl _)
  have hr2 := Reads.of_own hown2
  have hbb := below2 hb1 hb2
  clear hown1 hown2 hb1 hb2
  go_wp2_with fail
  go_loop [7] (fun i => ∃ (k : Nat), k ≤ (Z.labs (lst s)).length ∧ k ≤ (Z.labs (lst t)).length ∧ i = .int .i64 (k + 1) ∧ Hid (EndsSame (Z.labs (lst s)) (Z.labs (lst t)) k ∧ EndsSame (Z.labs (lst t)) (Z.labs (lst s)) k)) (fun i => (Z.labs (lst t)).length + 1 - (intOf i).toNat)
  case atStart => exact ⟨0, Nat.zero_le _, Nat.zero_le _, rfl, hid ⟨endsSame_start _ _, endsSame_start _ _⟩⟩
  case round =>
    obtain ⟨k, hk1, hk2, rfl, hok⟩ := hrel
    by_cases hlt : k < (Z.labs (lst s)).length ∧ k < (Z.labs (lst t)).length
    · obtain ⟨hlt1, hlt2⟩ := hlt
      obtain ⟨ad1, x, rfl, hab1, hx2, hcell1⟩ := reads_end hr1 hlt1
      obtain ⟨ad2, y, rfl, hab2, hy2, hcell2⟩ := reads_end hr2 hlt2
      have Hx := hid hx2
      have Hy := hid hy2
      clear hx2 hy2
      go_wp2
      · have hb : Op.bytesLess x.toList y.toList = true := by assumption
        rw [bytesLess_lt, toList_lst, toList_lst] at hb
        have hlt : lst x < lst y := by simpa using hb
        have hne : lst x ≠ lst y := fun e => Z.lt_irrefl' _ (e ▸ hlt)
        have hng : ¬ lst y < lst x := fun h => Z.lt_irrefl' _ (Z.str_trans hlt h)
        go_ret
        refine ⟨_, rfl, hid ⟨?_, ?_⟩, hbb⟩
        · unfold Z.ltName
          rw [endsSame_ne hok.out.1 hlt1 hlt2 (by rw [← Hx.out, ← Hy.out]; exact hne), ← Hx.out, ← Hy.out]
          simp [hlt]
        · unfold Z.ltName
          rw [endsSame_ne hok.out.2 hlt2 hlt1 (by rw [← Hx.out, ← Hy.out]; exact hne.symm), ← Hx.out, ← Hy.out]
          simp [hng]
      · have hb : Op.bytesLess x.toList y.toList = false := by assumption
        have hq : (!x.toList == y.toList) = true := by assumption
        rw [bytesLess_lt, toList_lst, toList_lst] at hb
        rw [toList_lst, toList_lst] at hq
        have hlt : ¬ lst x < lst y := by simpa using hb
        have hne : lst x ≠ lst y := by simpa using hq
        have hg : lst y < lst x := by
          rcases Z.str_total hne with h | h
          · exact absurd h hlt
          · exact h
        go_ret
        refine ⟨_, rfl, hid ⟨?_, ?_⟩, hbb⟩
        · unfold Z.ltName
          rw [endsSame_ne hok.out.1 hlt1 hlt2 (by rw [← Hx.out, ← Hy.out]; exact hne), ← Hx.out, ← Hy.out]
          simp [hlt]
        · unfold Z.ltName
          rw [endsSame_ne hok.out.2 hlt2 hlt1 (by rw [← Hx.out, ← Hy.out]; exact hne.symm), ← Hx.out, ← Hy.out]
          simp [hg]
      · have hq : (!x.toList == y.toList) = false := by assumption
        rw [toList_lst, toList_lst] at hq
        have he : lst x = lst y := by simpa using hq
        exact ⟨⟨k + 1, by omega, by omega, by go_num, hid ⟨endsSame_next hok.out.1 hlt1 hlt2 (by rw [← Hx.out, ← Hy.out]; exact he), endsSame_next hok.out.2 hlt2 hlt1 (by rw [← Hx.out, ← Hy.out]; exact he.symm)⟩⟩, by simp [intOf]; omega⟩
    · have hend := hid (endsSame_end hok.out.1 hk1 hk2 (by omega))
      have hend2 := hid (endsSame_end hok.out.2 hk2 hk1 (by omega))
      by_cases h1 : k < (Z.labs (lst s)).length
      all_goals
        go_wp2
        go_ret
        refine ⟨_, rfl, hid ⟨?_, ?_⟩, hbb⟩
        · unfold Z.ltName
          rw [hend.out]
          simp
          try omega
        · unfold Z.ltName
          rw [hend2.out]
          simp
          try omega

theorem l1Order_eq (s t : ByteArray) (hs : s.size ≤ 67108864) (ht : t.size ≤ 67108864) (h : lst s = lst t) (w : World) :
    Calls Try.prog 100 #[.string s, .string t] w fun e w' => e = .returned (.int .i64 0) ∧ Below w.heap.size w w' :=
  (l1Order_full s t hs ht w).mono fun e w' ⟨m, he, hm, hb⟩ => by
    have h1 := hm.out
    rw [h, Z.ltName_irrefl] at h1
    have : m = 0 := by have := of_decide_eq_false h1.1; have := of_decide_eq_false h1.2; omega
    subst this
    exact ⟨he, hb⟩
theorem l1Order_ne (s t : ByteArray) (hs : s.size ≤ 67108864) (ht : t.size ≤ 67108864) (hv : Z.valid (lst s) = true) (hv' : Z.valid (lst t) = true) (h : lst s ≠ lst t) (w : World) :
    Calls Try.prog 100 #[.string s, .string t] w fun e w' => ∃ m : Int, e = .returned (.int .i64 m) ∧ (m == 0) = false ∧ Hid (decide (m < 0) = Z.ltName (lst s) (lst t)) ∧ Below w.heap.size w w' :=
  (l1Order_full s t hs ht w).mono fun e w' ⟨m, he, hm, hb⟩ => by
    refine ⟨m, he, ?_, hid hm.out.1, hb⟩
    rcases Z.ltName_total hv hv' h with h1 | h1
    · have := hm.out.1
      rw [h1] at this
      have := of_decide_eq_true this
      simp; omega
    · have := hm.out.2
      rw [h1] at this
      have := of_decide_eq_true this
      simp; omega

def sameUp (xs ys : List Int) (k : Nat) : Prop := Z.ltInts xs ys = Z.ltInts (xs.drop k) (ys.drop k) ∧ sameTo xs ys k
theorem drop_get {xs : List Int} {k : Nat} (h : k < xs.length) : xs.drop k = xs.getD k 0 :: xs.drop (k + 1) := by
  rw [List.drop_eq_getElem_cons h]; simp [h]
theorem sameUp_next {xs ys : List Int} {k : Nat} (h : sameUp xs ys k) (hx : k < xs.length) (hy : k < ys.length) (e : xs.getD k 0 = ys.getD k 0) : sameUp xs ys (k + 1) := by
  refine ⟨?_, sameTo_succ h.2 e⟩
  rw [h.1, drop_get hx, drop_get hy, Z.ltInts, if_pos e]
theorem sameUp_ne {xs ys : List Int} {k : Nat} (h : sameUp xs ys k) (hx : k < xs.length) (hy : k < ys.length) (e : xs.getD k 0 ≠ ys.getD k 0) : Z.ltInts xs ys = decide (xs.getD k 0 < ys.getD k 0) := by
  rw [h.1, drop_get hx, drop_get hy, Z.ltInts, if_neg e]

/-- What the comparison of two lists of one length says. -/
def ListsSay (xs ys : List Int) (m : Int) : Prop := decide (m < 0) = Z.ltInts xs ys ∧ (m = 0 ↔ xs = ys)
set_option maxHeartbeats 1000000 in
theorem l2Lists_any (xs ys : List Int) (B B' : Nat) (A A' : Option Addr) (n c c' : Nat) (w : World) (hx : Reads w B A n (xs.map iv)) (hy : Reads w B' A' n (ys.map iv)) (hn : n ≤ 67108864) :
    Calls Try.prog 101 #[.slice A n c, .slice A' n c'] w fun e w' => ∃ m : Int, e = .returned (.int .i64 m) ∧ Hid (ListsSay xs ys m) ∧ Below w.heap.size w w' := by
  have hl1 := hid (reads_len hx)
  have hl2 := hid (reads_len hy)
  go_enter Try.func101, Try.ntmps101
  go_wp2
  go_loopw [5] (fun i wr => ∃ (k nq : Nat), k ≤ n ∧ i = .int .i64 k ∧ wr = w.drewN nq ∧ Hid (sameUp xs ys k)) (fun i _ => n - (intOf i).toNat)
  case atStart => exact ⟨0, 0, Nat.zero_le _, rfl, rfl, hid ⟨rfl, fun j hj => absurd hj (by omega)⟩⟩
  case round =>
    obtain ⟨k, nq, hk, rfl, rfl, hok⟩ := hrel
    by_cases hlt : k < n
    · obtain ⟨ad2, rfl, hab2, hcell2⟩ := reads_int hy hlt
      obtain ⟨ad1, rfl, hab1, hcell1⟩ := reads_int hx hlt
      have hkx := hid (show k < xs.length by rw [hl1.out]; exact hlt)
      have hky := hid (show k < ys.length by rw [hl2.out]; exact hlt)
      go_wp2_with fail
      go_quiet (fail)
      go_wp2_with fail
      · have hne : (!xs.getD k 0 == ys.getD k 0) = true := by assumption
        have HNE := hid (show xs.getD k 0 ≠ ys.getD k 0 by simpa using hne)
        go_quiet (fail)
        go_wp2
        all_goals go_ret
        all_goals refine ⟨_, rfl, hid ⟨?_, ?_⟩, by repeat (first | exact Below.refl _ _ | refine below_drewN ?_ _)⟩
        all_goals first
          | (rw [sameUp_ne hok.out hkx.out hky.out HNE.out]; simp; omega)
          | exact ⟨fun h => absurd h (by decide), fun h => absurd (by rw [h]) HNE.out⟩
      · have heq : (!xs.getD k 0 == ys.getD k 0) = false := by assumption
        exact ⟨⟨k + 1, _, by omega, by go_num, rfl, hid (sameUp_next hok.out hkx.out hky.out (by simpa using heq))⟩, by simp [intOf]; omega⟩
    · have hks : k = n := by omega
      have hall : Hid (xs = ys) := hid (sameTo_eq (by rw [hl1.out, hl2.out]) (by rw [hl1.out, ← hks]; exact hok.out.2))
      clear hks
      go_wp2
      go_ret
      exact ⟨_, rfl, hid ⟨by rw [hall.out, Z.ltInts_irrefl]; rfl, fun _ => hall.out, fun _ => rfl⟩, by repeat (first | exact Below.refl _ _ | refine below_drewN ?_ _)⟩

/-- What the comparison of two texts says. -/
def TextsSay (s t : ByteArray) (m : Int) : Prop := decide (m < 0) = decide (lst s < lst t) ∧ (m = 0 ↔ lst s = lst t)
set_option maxHeartbeats 1000000 in
theorem l2Texts_any (s t : ByteArray) (w : World) :
    Calls Try.prog 102 #[.string s, .string t] w fun e w' => ∃ m : Int, e = .returned (.int .i64 m) ∧ Hid (TextsSay s t m) ∧ w = w' := by
  go_enter Try.func102, Try.ntmps102
  go_wp2
  all_goals go_ret
  all_goals go_light
  all_goals refine ⟨_, rfl, hid ?_, rfl⟩
  all_goals simp only [bytesLess_lt, toList_lst, decide_eq_true_eq, decide_eq_false_iff_not] at *
  · rename_i h
    exact ⟨by simp [h], fun e => absurd e (by decide), fun e => absurd (e ▸ h) (Z.lt_irrefl' _)⟩
  · rename_i h1 h2
    have h3 : lst s ≠ lst t := by simpa using h2
    exact ⟨by simp [h1], fun e => absurd e (by decide), fun e => absurd e h3⟩
  · rename_i h1 h2
    have h3 : lst s = lst t := by simpa using h2
    exact ⟨by simp [h1], fun _ => h3, fun _ => rfl⟩
end Go.Proofs.Ytgglakonkphbgaa

namespace Go.Proofs.Ytgglakonkphbgaa
open Go.RowKit
set_option maxRecDepth 100000
set_option linter.unusedVariables false

theorem Held.more' {w W : World} {b : Nat} {cs cs' : List Value} (h : Held w W b cs) (T : TypeId) (b' : Nat) (hb : b' = W.heap.size) : Held w (W.alloc (.cells cs'.toArray T)) b' cs' := by subst hb; exact h.more T

def Goes (a b : Z.Rec) (m : Int) : Prop := decide (m < 0) = Z.ltRec a b

set_option maxHeartbeats 4000000 in
theorem order_name (aN : ByteArray) (aT aK : Int) (aA : Option Addr) (aL aC : Nat) (aG aX : ByteArray) (aZ : List Int) (aB : Nat) (bN : ByteArray) (bT bK : Int) (bA : Option Addr) (bL bC : Nat) (bG bX : ByteArray) (bZ : List Int) (bB : Nat) (w : World) (hra : Reads w aB aA aL (aZ.map iv)) (hba : aB ≤ w.heap.size) (hla : aL ≤ 67108864) (hrb : Reads w bB bA bL (bZ.map iv)) (hbb : bB ≤ w.heap.size) (hlb : bL ≤ 67108864) (hsa : aN.size ≤ 67108864) (hga : aG.size ≤ 67108864) (hxa : aX.size ≤ 67108864) (hsb : bN.size ≤ 67108864) (hgb : bG.size ≤ 67108864) (hxb : bX.size ≤ 67108864) (hva : Z.valid (lst aN) = true) (hvb : Z.valid (lst bN) = true) (hka : 0 ≤ aK ∧ aK ≤ 16) (hkb : 0 ≤ bK ∧ bK ≤ 16) (hta : 0 ≤ aT ∧ aT ≤ 100000) (htb : 0 ≤ bT ∧ bT ≤ 100000)
     (h : lst aN ≠ lst bN) :
    Calls Try.prog 88 #[.agg #[.string aN, .int .i64 aT, .int .i64 aK, .slice aA aL aC, .string aG, .string aX], .agg #[.string bN, .int .i64 bT, .int .i64 bK, .slice bA bL bC, .string bG, .string bX]] w fun e w' => ∃ m : Int, e = .returned (.int .i64 m) ∧ Hid (Goes (⟨lst aN, aT, aK, aZ, lst aG, lst aX⟩ : Z.Rec) (⟨lst bN, bT, bK, bZ, lst bG, lst bX⟩ : Z.Rec) m) ∧ Below w.heap.size w w' := by
  have HVA := hid hva
  have HVB := hid hvb
  clear hva hvb
  have hx0 := (Held.box w [.string aN, .int .i64 aT, .int .i64 aK, .slice aA aL aC, .string aG, .string aX] 54).alloc (.cells [.string bN, .int .i64 bT, .int .i64 bK, .slice bA bL bC, .string bG, .string bX].toArray 54)
  have hy0 := (Held.box w [.string aN, .int .i64 aT, .int .i64 aK, .slice aA aL aC, .string aG, .string aX] 54).more' (cs' := [.string bN, .int .i64 bT, .int .i64 bK, .slice bA bL bC, .string bG, .string bX]) 54 (w.heap.size + 1) (by simp)
  have hn := hid h
  clear h
  go_enter Try.func88, Try.ntmps88
  go_wp2_with (go_at_call 100; refine (l1Order_ne _ _ (by omega) (by omega) HVA.out HVB.out hn.out _).mono ?_; rintro e w1 ⟨m, rfl, hm0, hm, hb1⟩; have hx1 := hx0.next hb1; have hy1 := hy0.next hb1; obtain ⟨p0, p1, p2, p3, p4, p5⟩ := hx1.cells6; obtain ⟨q0, q1, q2, q3, q4, q5⟩ := hy1.cells6)
  go_ret
  refine ⟨m, rfl, hid ?_, hx1.1⟩
  unfold Goes Z.ltRec
  rw [if_neg hn.out, hm.out]

set_option maxHeartbeats 4000000 in
theorem order_kind (aN : ByteArray) (aT aK : Int) (aA : Option Addr) (aL aC : Nat) (aG aX : ByteArray) (aZ : List Int) (aB : Nat) (bN : ByteArray) (bT bK : Int) (bA : Option Addr) (bL bC : Nat) (bG bX : ByteArray) (bZ : List Int) (bB : Nat) (w : World) (hra : Reads w aB aA aL (aZ.map iv)) (hba : aB ≤ w.heap.size) (hla : aL ≤ 67108864) (hrb : Reads w bB bA bL (bZ.map iv)) (hbb : bB ≤ w.heap.size) (hlb : bL ≤ 67108864) (hsa : aN.size ≤ 67108864) (hga : aG.size ≤ 67108864) (hxa : aX.size ≤ 67108864) (hsb : bN.size ≤ 67108864) (hgb : bG.size ≤ 67108864) (hxb : bX.size ≤ 67108864) (hva : Z.valid (lst aN) = true) (hvb : Z.valid (lst bN) = true) (hka : 0 ≤ aK ∧ aK ≤ 16) (hkb : 0 ≤ bK ∧ bK ≤ 16) (hta : 0 ≤ aT ∧ aT ≤ 100000) (htb : 0 ≤ bT ∧ bT ≤ 100000)
     (h : lst aN = lst bN) (hk : ¬ aK = bK) :
    Calls Try.prog 88 #[.agg #[.string aN, .int .i64 aT, .int .i64 aK, .slice aA aL aC, .string aG, .string aX], .agg #[.string bN, .int .i64 bT, .int .i64 bK, .slice bA bL bC, .string bG, .string bX]] w fun e w' => ∃ m : Int, e = .returned (.int .i64 m) ∧ Hid (Goes (⟨lst aN, aT, aK, aZ, lst aG, lst aX⟩ : Z.Rec) (⟨lst bN, bT, bK, bZ, lst bG, lst bX⟩ : Z.Rec) m) ∧ Below w.heap.size w w' := by
  have HVA := hid hva
  have HVB := hid hvb
  clear hva hvb
  have hx0 := (Held.box w [.string aN, .int .i64 aT, .int .i64 aK, .slice aA aL aC, .string aG, .string aX] 54).alloc (.cells [.string bN, .int .i64 bT, .int .i64 bK, .slice bA bL bC, .string bG, .string bX].toArray 54)
  have hy0 := (Held.box w [.string aN, .int .i64 aT, .int .i64 aK, .slice aA aL aC, .string aG, .string aX] 54).more' (cs' := [.string bN, .int .i64 bT, .int .i64 bK, .slice bA bL bC, .string bG, .string bX]) 54 (w.heap.size + 1) (by simp)
  have hn := hid h
  have hk0 : (aK - bK == 0) = false := by simp; omega
  have HK := hid hk
  clear h
  go_enter Try.func88, Try.ntmps88
  go_wp2_with (go_at_call 100; refine (l1Order_eq _ _ (by omega) (by omega) hn.out _).mono ?_; rintro e w1 ⟨rfl, hb1⟩; have hx1 := hx0.next hb1; have hy1 := hy0.next hb1; obtain ⟨p0, p1, p2, p3, p4, p5⟩ := hx1.cells6; obtain ⟨q0, q1, q2, q3, q4, q5⟩ := hy1.cells6)
  go_ret
  refine ⟨_, rfl, hid ?_, hx1.1⟩
  unfold Goes Z.ltRec
  rw [if_pos hn.out, if_neg HK.out, Bool.eq_iff_iff]
  simp
  omega

set_option maxHeartbeats 4000000 in
theorem order_nums (aN : ByteArray) (aT aK : Int) (aA : Option Addr) (aL aC : Nat) (aG aX : ByteArray) (aZ : List Int) (aB : Nat) (bN : ByteArray) (bT bK : Int) (bA : Option Addr) (bL bC : Nat) (bG bX : ByteArray) (bZ : List Int) (bB : Nat) (w : World) (hra : Reads w aB aA aL (aZ.map iv)) (hba : aB ≤ w.heap.size) (hla : aL ≤ 67108864) (hrb : Reads w bB bA bL (bZ.map iv)) (hbb : bB ≤ w.heap.size) (hlb : bL ≤ 67108864) (hsa : aN.size ≤ 67108864) (hga : aG.size ≤ 67108864) (hxa : aX.size ≤ 67108864) (hsb : bN.size ≤ 67108864) (hgb : bG.size ≤ 67108864) (hxb : bX.size ≤ 67108864) (hlen : aL = bL) (hva : Z.valid (lst aN) = true) (hvb : Z.valid (lst bN) = true) (hka : 0 ≤ aK ∧ aK ≤ 16) (hkb : 0 ≤ bK ∧ bK ≤ 16) (hta : 0 ≤ aT ∧ aT ≤ 100000) (htb : 0 ≤ bT ∧ bT ≤ 100000)
    (htg : lst aG ≠ lst bG → Z.valid (lst aG) = true ∧ Z.valid (lst bG) = true) (h : lst aN = lst bN) (hk : aK = bK) (hz : aZ ≠ bZ) :
    Calls Try.prog 88 #[.agg #[.string aN, .int .i64 aT, .int .i64 aK, .slice aA aL aC, .string aG, .string aX], .agg #[.string bN, .int .i64 bT, .int .i64 bK, .slice bA bL bC, .string bG, .string bX]] w fun e w' => ∃ m : Int, e = .returned (.int .i64 m) ∧ Hid (Goes (⟨lst aN, aT, aK, aZ, lst aG, lst aX⟩ : Z.Rec) (⟨lst bN, bT, bK, bZ, lst bG, lst bX⟩ : Z.Rec) m) ∧ Below w.heap.size w w' := by
  have HTG := hid htg
  clear htg
  have HVA := hid hva
  have HVB := hid hvb
  clear hva hvb
  have hx0 := (Held.box w [.string aN, .int .i64 aT, .int .i64 aK, .slice aA aL aC, .string aG, .string aX] 54).alloc (.cells [.string bN, .int .i64 bT, .int .i64 bK, .slice bA bL bC, .string bG, .string bX].toArray 54)
  have hy0 := (Held.box w [.string aN, .int .i64 aT, .int .i64 aK, .slice aA aL aC, .string aG, .string aX] 54).more' (cs' := [.string bN, .int .i64 bT, .int .i64 bK, .slice bA bL bC, .string bG, .string bX]) 54 (w.heap.size + 1) (by simp)
  have hn := hid h
  have HZ := hid hz
  clear h
  subst hlen
  subst hk
  go_enter Try.func88, Try.ntmps88
  go_wp2_with (first | (go_at_call 100; refine (l1Order_eq _ _ (by omega) (by omega) hn.out _).mono ?_; rintro e w1 ⟨rfl, hb1⟩; have hx1 := hx0.next hb1; have hy1 := hy0.next hb1; obtain ⟨p0, p1, p2, p3, p4, p5⟩ := hx1.cells6; obtain ⟨q0, q1, q2, q3, q4, q5⟩ := hy1.cells6) | (go_at_call 101; refine (l2Lists_any aZ bZ aB bB _ _ _ _ _ _ (hra.held hba hx1) (hrb.held hbb hx1) hla).mono ?_; rintro e w2 ⟨m, rfl, hm, hb2⟩; have hx2 := hx1.next hb2; have hy2 := hy1.next hb2; obtain ⟨p0, p1, p2, p3, p4, p5⟩ := hx2.cells6; obtain ⟨q0, q1, q2, q3, q4, q5⟩ := hy2.cells6; have hm0 : (m == 0) = false := by simp; exact fun e => HZ.out (hm.out.2.1 e)))
  go_ret
  refine ⟨m, rfl, hid ?_, hx2.1⟩
  unfold Goes Z.ltRec
  rw [if_pos hn.out, if_pos rfl, if_neg HZ.out, hm.out.1]

set_option maxHeartbeats 4000000 in
theorem order_target (aN : ByteArray) (aT aK : Int) (aA : Option Addr) (aL aC : Nat) (aG aX : ByteArray) (aZ : List Int) (aB : Nat) (bN : ByteArray) (bT bK : Int) (bA : Option Addr) (bL bC : Nat) (bG bX : ByteArray) (bZ : List Int) (bB : Nat) (w : World) (hra : Reads w aB aA aL (aZ.map iv)) (hba : aB ≤ w.heap.size) (hla : aL ≤ 67108864) (hrb : Reads w bB bA bL (bZ.map iv)) (hbb : bB ≤ w.heap.size) (hlb : bL ≤ 67108864) (hsa : aN.size ≤ 67108864) (hga : aG.size ≤ 67108864) (hxa : aX.size ≤ 67108864) (hsb : bN.size ≤ 67108864) (hgb : bG.size ≤ 67108864) (hxb : bX.size ≤ 67108864) (hlen : aL = bL) (hva : Z.valid (lst aN) = true) (hvb : Z.valid (lst bN) = true) (hka : 0 ≤ aK ∧ aK ≤ 16) (hkb : 0 ≤ bK ∧ bK ≤ 16) (hta : 0 ≤ aT ∧ aT ≤ 100000) (htb : 0 ≤ bT ∧ bT ≤ 100000)
    (htg : lst aG ≠ lst bG → Z.valid (lst aG) = true ∧ Z.valid (lst bG) = true) (h : lst aN = lst bN) (hk : aK = bK) (hz : aZ = bZ) (hgg : lst aG ≠ lst bG) :
    Calls Try.prog 88 #[.agg #[.string aN, .int .i64 aT, .int .i64 aK, .slice aA aL aC, .string aG, .string aX], .agg #[.string bN, .int .i64 bT, .int .i64 bK, .slice bA bL bC, .string bG, .string bX]] w fun e w' => ∃ m : Int, e = .returned (.int .i64 m) ∧ Hid (Goes (⟨lst aN, aT, aK, aZ, lst aG, lst aX⟩ : Z.Rec) (⟨lst bN, bT, bK, bZ, lst bG, lst bX⟩ : Z.Rec) m) ∧ Below w.heap.size w w' := by
  have HTG := hid htg
  clear htg
  have HVA := hid hva
  have HVB := hid hvb
  clear hva hvb
  have hx0 := (Held.box w [.string aN, .int .i64 aT, .int .i64 aK, .slice aA aL aC, .string aG, .string aX] 54).alloc (.cells [.string bN, .int .i64 bT, .int .i64 bK, .slice bA bL bC, .string bG, .string bX].toArray 54)
  have hy0 := (Held.box w [.string aN, .int .i64 aT, .int .i64 aK, .slice aA aL aC, .string aG, .string aX] 54).more' (cs' := [.string bN, .int .i64 bT, .int .i64 bK, .slice bA bL bC, .string bG, .string bX]) 54 (w.heap.size + 1) (by simp)
  have hn := hid h
  have HZ := hid hz
  have hg := hid hgg
  have htt : (aG.toList == bG.toList) = false := by rw [eq_toList]; simpa using hgg
  clear h hz hgg
  subst hlen
  subst hk
  go_enter Try.func88, Try.ntmps88
  go_wp2_with fail
  refine (l1Order_eq _ _ (by omega) (by omega) hn.out _).mono ?_
  rintro e w1 ⟨rfl, hb1⟩
  have hx1 := hx0.next hb1
  have hy1 := hy0.next hb1
  obtain ⟨p0, p1, p2, p3, p4, p5⟩ := hx1.cells6
  obtain ⟨q0, q1, q2, q3, q4, q5⟩ := hy1.cells6
  go_wp2_with (first | (go_at_call 101; refine (l2Lists_any aZ bZ aB bB _ _ _ _ _ _ (hra.held hba hx1) (hrb.held hbb hx1) hla).mono ?_; rintro e w2 ⟨m, rfl, hm, hb2⟩; have hx2 := hx1.next hb2; have hy2 := hy1.next hb2; obtain ⟨p0, p1, p2, p3, p4, p5⟩ := hx2.cells6; obtain ⟨q0, q1, q2, q3, q4, q5⟩ := hy2.cells6; obtain rfl : m = 0 := hm.out.2.2 HZ.out) | (go_at_call 100; refine (l1Order_ne _ _ (by omega) (by omega) (HTG.out hg.out).1 (HTG.out hg.out).2 hg.out _).mono ?_; rintro e w3 ⟨m, rfl, hm0, hm, hb3⟩; have hx3 := hx2.next hb3; have hy3 := hy2.next hb3; obtain ⟨p0, p1, p2, p3, p4, p5⟩ := hx3.cells6; obtain ⟨q0, q1, q2, q3, q4, q5⟩ := hy3.cells6))
  go_ret
  refine ⟨m, rfl, hid ?_, hx3.1⟩
  unfold Goes Z.ltRec
  rw [if_pos hn.out, if_pos rfl, if_pos HZ.out, if_neg hg.out, hm.out]

set_option maxHeartbeats 4000000 in
theorem order_text (aN : ByteArray) (aT aK : Int) (aA : Option Addr) (aL aC : Nat) (aG aX : ByteArray) (aZ : List Int) (aB : Nat) (bN : ByteArray) (bT bK : Int) (bA : Option Addr) (bL bC : Nat) (bG bX : ByteArray) (bZ : List Int) (bB : Nat) (w : World) (hra : Reads w aB aA aL (aZ.map iv)) (hba : aB ≤ w.heap.size) (hla : aL ≤ 67108864) (hrb : Reads w bB bA bL (bZ.map iv)) (hbb : bB ≤ w.heap.size) (hlb : bL ≤ 67108864) (hsa : aN.size ≤ 67108864) (hga : aG.size ≤ 67108864) (hxa : aX.size ≤ 67108864) (hsb : bN.size ≤ 67108864) (hgb : bG.size ≤ 67108864) (hxb : bX.size ≤ 67108864) (hlen : aL = bL) (hva : Z.valid (lst aN) = true) (hvb : Z.valid (lst bN) = true) (hka : 0 ≤ aK ∧ aK ≤ 16) (hkb : 0 ≤ bK ∧ bK ≤ 16) (hta : 0 ≤ aT ∧ aT ≤ 100000) (htb : 0 ≤ bT ∧ bT ≤ 100000)
    (htg : lst aG ≠ lst bG → Z.valid (lst aG) = true ∧ Z.valid (lst bG) = true) (h : lst aN = lst bN) (hk : aK = bK) (hz : aZ = bZ) (hgg : lst aG = lst bG) (hxx : lst aX ≠ lst bX) :
    Calls Try.prog 88 #[.agg #[.string aN, .int .i64 aT, .int .i64 aK, .slice aA aL aC, .string aG, .string aX], .agg #[.string bN, .int .i64 bT, .int .i64 bK, .slice bA bL bC, .string bG, .string bX]] w fun e w' => ∃ m : Int, e = .returned (.int .i64 m) ∧ Hid (Goes (⟨lst aN, aT, aK, aZ, lst aG, lst aX⟩ : Z.Rec) (⟨lst bN, bT, bK, bZ, lst bG, lst bX⟩ : Z.Rec) m) ∧ Below w.heap.size w w' := by
  have HTG := hid htg
  clear htg
  have HVA := hid hva
  have HVB := hid hvb
  clear hva hvb
  have hx0 := (Held.box w [.string aN, .int .i64 aT, .int .i64 aK, .slice aA aL aC, .string aG, .string aX] 54).alloc (.cells [.string bN, .int .i64 bT, .int .i64 bK, .slice bA bL bC, .string bG, .string bX].toArray 54)
  have hy0 := (Held.box w [.string aN, .int .i64 aT, .int .i64 aK, .slice aA aL aC, .string aG, .string aX] 54).more' (cs' := [.string bN, .int .i64 bT, .int .i64 bK, .slice bA bL bC, .string bG, .string bX]) 54 (w.heap.size + 1) (by simp)
  have hn := hid h
  have HZ := hid hz
  have hg := hid hgg
  have hxn := hid hxx
  have htt : (aG.toList == bG.toList) = true := by rw [eq_toList]; simpa using hgg
  clear h hz hgg hxx
  subst hlen
  subst hk
  go_enter Try.func88, Try.ntmps88
  go_wp2_with (first | (go_at_call 100; refine (l1Order_eq _ _ (by omega) (by omega) hn.out _).mono ?_; rintro e w1 ⟨rfl, hb1⟩; have hx1 := hx0.next hb1; have hy1 := hy0.next hb1; obtain ⟨p0, p1, p2, p3, p4, p5⟩ := hx1.cells6; obtain ⟨q0, q1, q2, q3, q4, q5⟩ := hy1.cells6) | (go_at_call 101; refine (l2Lists_any aZ bZ aB bB _ _ _ _ _ _ (hra.held hba hx1) (hrb.held hbb hx1) hla).mono ?_; rintro e w2 ⟨m, rfl, hm, hb2⟩; have hx2 := hx1.next hb2; have hy2 := hy1.next hb2; obtain ⟨p0, p1, p2, p3, p4, p5⟩ := hx2.cells6; obtain ⟨q0, q1, q2, q3, q4, q5⟩ := hy2.cells6; obtain rfl : m = 0 := hm.out.2.2 HZ.out) | (go_at_call 102; refine (l2Texts_any _ _ _).mono ?_; rintro e w4 ⟨m, rfl, hm, rfl⟩; have hm0 : (m == 0) = false := by simp; exact fun e => hxn.out (hm.out.2.1 e)))
  go_ret
  refine ⟨m, rfl, hid ?_, hx2.1⟩
  unfold Goes Z.ltRec
  rw [if_pos hn.out, if_pos rfl, if_pos HZ.out, if_pos hg.out, if_neg hxn.out, hm.out.1]

set_option maxHeartbeats 4000000 in
theorem order_ttl (aN : ByteArray) (aT aK : Int) (aA : Option Addr) (aL aC : Nat) (aG aX : ByteArray) (aZ : List Int) (aB : Nat) (bN : ByteArray) (bT bK : Int) (bA : Option Addr) (bL bC : Nat) (bG bX : ByteArray) (bZ : List Int) (bB : Nat) (w : World) (hra : Reads w aB aA aL (aZ.map iv)) (hba : aB ≤ w.heap.size) (hla : aL ≤ 67108864) (hrb : Reads w bB bA bL (bZ.map iv)) (hbb : bB ≤ w.heap.size) (hlb : bL ≤ 67108864) (hsa : aN.size ≤ 67108864) (hga : aG.size ≤ 67108864) (hxa : aX.size ≤ 67108864) (hsb : bN.size ≤ 67108864) (hgb : bG.size ≤ 67108864) (hxb : bX.size ≤ 67108864) (hlen : aL = bL) (hva : Z.valid (lst aN) = true) (hvb : Z.valid (lst bN) = true) (hka : 0 ≤ aK ∧ aK ≤ 16) (hkb : 0 ≤ bK ∧ bK ≤ 16) (hta : 0 ≤ aT ∧ aT ≤ 100000) (htb : 0 ≤ bT ∧ bT ≤ 100000)
    (htg : lst aG ≠ lst bG → Z.valid (lst aG) = true ∧ Z.valid (lst bG) = true) (h : lst aN = lst bN) (hk : aK = bK) (hz : aZ = bZ) (hgg : lst aG = lst bG) (hxx : lst aX = lst bX) :
    Calls Try.prog 88 #[.agg #[.string aN, .int .i64 aT, .int .i64 aK, .slice aA aL aC, .string aG, .string aX], .agg #[.string bN, .int .i64 bT, .int .i64 bK, .slice bA bL bC, .string bG, .string bX]] w fun e w' => ∃ m : Int, e = .returned (.int .i64 m) ∧ Hid (Goes (⟨lst aN, aT, aK, aZ, lst aG, lst aX⟩ : Z.Rec) (⟨lst bN, bT, bK, bZ, lst bG, lst bX⟩ : Z.Rec) m) ∧ Below w.heap.size w w' := by
  have HTG := hid htg
  clear htg
  have HVA := hid hva
  have HVB := hid hvb
  clear hva hvb
  have hx0 := (Held.box w [.string aN, .int .i64 aT, .int .i64 aK, .slice aA aL aC, .string aG, .string aX] 54).alloc (.cells [.string bN, .int .i64 bT, .int .i64 bK, .slice bA bL bC, .string bG, .string bX].toArray 54)
  have hy0 := (Held.box w [.string aN, .int .i64 aT, .int .i64 aK, .slice aA aL aC, .string aG, .string aX] 54).more' (cs' := [.string bN, .int .i64 bT, .int .i64 bK, .slice bA bL bC, .string bG, .string bX]) 54 (w.heap.size + 1) (by simp)
  have hn := hid h
  have HZ := hid hz
  have hg := hid hgg
  have hxn := hid hxx
  have htt : (aG.toList == bG.toList) = true := by rw [eq_toList]; simpa using hgg
  clear h hz hgg hxx
  subst hlen
  subst hk
  go_enter Try.func88, Try.ntmps88
  go_wp2_with (first | (go_at_call 100; refine (l1Order_eq _ _ (by omega) (by omega) hn.out _).mono ?_; rintro e w1 ⟨rfl, hb1⟩; have hx1 := hx0.next hb1; have hy1 := hy0.next hb1; obtain ⟨p0, p1, p2, p3, p4, p5⟩ := hx1.cells6; obtain ⟨q0, q1, q2, q3, q4, q5⟩ := hy1.cells6) | (go_at_call 101; refine (l2Lists_any aZ bZ aB bB _ _ _ _ _ _ (hra.held hba hx1) (hrb.held hbb hx1) hla).mono ?_; rintro e w2 ⟨m, rfl, hm, hb2⟩; have hx2 := hx1.next hb2; have hy2 := hy1.next hb2; obtain ⟨p0, p1, p2, p3, p4, p5⟩ := hx2.cells6; obtain ⟨q0, q1, q2, q3, q4, q5⟩ := hy2.cells6; obtain rfl : m = 0 := hm.out.2.2 HZ.out) | (go_at_call 102; refine (l2Texts_any _ _ _).mono ?_; rintro e w4 ⟨m, rfl, hm, rfl⟩; obtain rfl : m = 0 := hm.out.2.2 hxn.out))
  go_ret
  refine ⟨_, rfl, hid ?_, hx2.1⟩
  unfold Goes Z.ltRec
  rw [if_pos hn.out, if_pos rfl, if_pos HZ.out, if_pos hg.out, if_pos hxn.out, Bool.eq_iff_iff]
  simp
  omega

theorem l2Order_any (aN : ByteArray) (aT aK : Int) (aA : Option Addr) (aL aC : Nat) (aG aX : ByteArray) (aZ : List Int) (aB : Nat) (bN : ByteArray) (bT bK : Int) (bA : Option Addr) (bL bC : Nat) (bG bX : ByteArray) (bZ : List Int) (bB : Nat) (w : World) (hra : Reads w aB aA aL (aZ.map iv)) (hba : aB ≤ w.heap.size) (hla : aL ≤ 67108864) (hrb : Reads w bB bA bL (bZ.map iv)) (hbb : bB ≤ w.heap.size) (hlb : bL ≤ 67108864) (hsa : aN.size ≤ 67108864) (hga : aG.size ≤ 67108864) (hxa : aX.size ≤ 67108864) (hsb : bN.size ≤ 67108864) (hgb : bG.size ≤ 67108864) (hxb : bX.size ≤ 67108864) (hva : Z.recValid (⟨lst aN, aT, aK, aZ, lst aG, lst aX⟩ : Z.Rec) = true) (hvb : Z.recValid (⟨lst bN, bT, bK, bZ, lst bG, lst bX⟩ : Z.Rec) = true) :
    Calls Try.prog 88 #[.agg #[.string aN, .int .i64 aT, .int .i64 aK, .slice aA aL aC, .string aG, .string aX], .agg #[.string bN, .int .i64 bT, .int .i64 bK, .slice bA bL bC, .string bG, .string bX]] w fun e w' => ∃ m : Int, e = .returned (.int .i64 m) ∧ Hid (Goes (⟨lst aN, aT, aK, aZ, lst aG, lst aX⟩ : Z.Rec) (⟨lst bN, bT, bK, bZ, lst bG, lst bX⟩ : Z.Rec) m) ∧ Below w.heap.size w w' := by
  obtain ⟨a1, a2, a3, a4, a5, a6⟩ := Z.recValid_iff.1 hva
  obtain ⟨b1, b2, b3, b4, b5, b6⟩ := Z.recValid_iff.1 hvb
  have hka : 0 ≤ aK ∧ aK ≤ 16 := by rcases a4 with h | h | h | h | h | h | h <;> (have h : aK = _ := h; omega)
  have hkb : 0 ≤ bK ∧ bK ≤ 16 := by rcases b4 with h | h | h | h | h | h | h <;> (have h : bK = _ := h; omega)
  have la : aL = cnt aK := by rw [← reads_len hra]; exact (Z.okNums_length a5).trans (lims_len _)
  have lb : bL = cnt bK := by rw [← reads_len hrb]; exact (Z.okNums_length b5).trans (lims_len _)
  by_cases h : lst aN = lst bN
  · by_cases hk : aK = bK
    · have hlen : aL = bL := by rw [la, lb, hk]
      have htg : lst aG ≠ lst bG → Z.valid (lst aG) = true ∧ Z.valid (lst bG) = true := fun hne => by
        have ta := Z.okRest_target a6
        have tb := Z.okRest_target b6
        simp only at ta tb
        rcases ta with ⟨k1, e1⟩ | ⟨k1, e1, _⟩
        · rcases tb with ⟨k2, e2⟩ | ⟨k2, e2, _⟩
          · exact absurd (e1.trans e2.symm) hne
          · rw [hk] at k1; exact absurd k1 k2
        · rcases tb with ⟨k2, e2⟩ | ⟨k2, e2, _⟩
          · rw [hk] at k1; exact absurd k2 k1
          · exact ⟨e1, e2⟩
      by_cases hz : aZ = bZ
      · by_cases hg : lst aG = lst bG
        · by_cases hx : lst aX = lst bX
          · exact order_ttl _ _ _ _ _ _ _ _ aZ aB _ _ _ _ _ _ _ _ bZ bB w hra hba hla hrb hbb hlb hsa hga hxa hsb hgb hxb hlen a1 b1 hka hkb ⟨a2, a3⟩ ⟨b2, b3⟩ htg h hk hz hg hx
          · exact order_text _ _ _ _ _ _ _ _ aZ aB _ _ _ _ _ _ _ _ bZ bB w hra hba hla hrb hbb hlb hsa hga hxa hsb hgb hxb hlen a1 b1 hka hkb ⟨a2, a3⟩ ⟨b2, b3⟩ htg h hk hz hg hx
        · exact order_target _ _ _ _ _ _ _ _ aZ aB _ _ _ _ _ _ _ _ bZ bB w hra hba hla hrb hbb hlb hsa hga hxa hsb hgb hxb hlen a1 b1 hka hkb ⟨a2, a3⟩ ⟨b2, b3⟩ htg h hk hz hg
      · exact order_nums _ _ _ _ _ _ _ _ aZ aB _ _ _ _ _ _ _ _ bZ bB w hra hba hla hrb hbb hlb hsa hga hxa hsb hgb hxb hlen a1 b1 hka hkb ⟨a2, a3⟩ ⟨b2, b3⟩ htg h hk hz
    · exact order_kind _ _ _ _ _ _ _ _ aZ aB _ _ _ _ _ _ _ _ bZ bB w hra hba hla hrb hbb hlb hsa hga hxa hsb hgb hxb a1 b1 hka hkb ⟨a2, a3⟩ ⟨b2, b3⟩ h hk
  · exact order_name _ _ _ _ _ _ _ _ aZ aB _ _ _ _ _ _ _ _ bZ bB w hra hba hla hrb hbb hlb hsa hga hxa hsb hgb hxb a1 b1 hka hkb ⟨a2, a3⟩ ⟨b2, b3⟩ h

end Go.Proofs.Ytgglakonkphbgaa

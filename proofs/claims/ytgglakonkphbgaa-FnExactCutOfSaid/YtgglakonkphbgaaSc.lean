/- What RecordValid, SameData and RecordSame of the model return. -/
import Derived.Test.YtgglakonkphbgaaSa
namespace Go.Proofs.Ytgglakonkphbgaa
open Go.RowKit
set_option maxRecDepth 100000
set_option linter.unusedVariables false

/-- The limit that the model asks for the number at a place. -/
def limAt (k : Int) (i : Nat) : Int := if k = 6 ∧ i = 0 then 4294967295 else mostOf k
def okTo (k : Int) (zs : List Int) (n : Nat) : Prop := ∀ j, j < n → 0 ≤ zs.getD j 0 ∧ zs.getD j 0 ≤ limAt k j
theorem okTo_succ {k : Int} {zs : List Int} {n : Nat} (h : okTo k zs n) (hk : 0 ≤ zs.getD n 0 ∧ zs.getD n 0 ≤ limAt k n) : okTo k zs (n + 1) := fun j hj => by
  rcases Nat.lt_or_ge j n with h1 | h1
  · exact h j h1
  · have : j = n := by omega
    subst this; exact hk
theorem lims_len (k : Int) : (Z.lims k).length = cnt k := by
  unfold Z.lims cnt
  by_cases h1 : k = 1
  · simp [h1]
  · by_cases h6 : k = 6
    · simp [h6]
    · by_cases h15 : k = 15
      · simp [h15]
      · simp [h1, h6, h15]
theorem lims_at (k : Int) (i : Nat) (h : i < cnt k) : (Z.lims k).getD i 0 = limAt k i := by
  unfold cnt at h
  unfold Z.lims limAt mostOf
  by_cases h1 : k = 1
  · subst h1; simp at h; match i, h with
    | 0, _ => rfl
    | 1, _ => rfl
    | 2, _ => rfl
    | 3, _ => rfl
  · by_cases h6 : k = 6
    · subst h6; simp at h; match i, h with
      | 0, _ => rfl
      | 1, _ => rfl
      | 2, _ => rfl
      | 3, _ => rfl
      | 4, _ => rfl
    · by_cases h15 : k = 15
      · subst h15; simp at h; subst h; rfl
      · simp [h1, h6, h15] at h
theorem okNums_iff : ∀ (a b : List Int), a.length = b.length → (Z.okNums a b = true ↔ ∀ j, j < b.length → 0 ≤ a.getD j 0 ∧ a.getD j 0 ≤ b.getD j 0)
  | [], [], _ => by simp [Z.okNums]
  | n :: r, m :: q, h => by
    have ih := okNums_iff r q (by simpa using h)
    simp only [Z.okNums, Bool.and_eq_true, decide_eq_true_eq, ih]
    constructor
    · rintro ⟨⟨h1, h2⟩, h3⟩ j hj
      cases j with
      | zero => simpa using ⟨h1, h2⟩
      | succ j => simpa using h3 j (by simpa using hj)
    · intro h3
      refine ⟨by simpa using h3 0 (by simp), fun j hj => by simpa using h3 (j + 1) (by simpa using hj)⟩
  | [], _ :: _, h => by simp at h
  | _ :: _, [], h => by simp at h
theorem okNums_of {k : Int} {zs : List Int} (hl : zs.length = cnt k) (h : okTo k zs (cnt k)) : Z.okNums zs (Z.lims k) = true :=
  (okNums_iff _ _ (by rw [hl, lims_len])).2 fun j hj => by
    rw [lims_len] at hj
    rw [lims_at k j hj]
    exact h j hj
theorem okNums_not {k : Int} {zs : List Int} {n : Nat} (hn : n < cnt k) (h : ¬ (0 ≤ zs.getD n 0 ∧ zs.getD n 0 ≤ limAt k n)) : Z.okNums zs (Z.lims k) = false := by
  rw [Bool.eq_false_iff]
  intro ha
  have hl := Z.okNums_length ha
  have := (okNums_iff _ _ hl).1 ha n (by rw [lims_len]; exact hn)
  rw [lims_at k n hn] at this
  exact h this
theorem okNums_len {k : Int} {zs : List Int} (h : zs.length ≠ cnt k) : Z.okNums zs (Z.lims k) = false := by
  rw [Bool.eq_false_iff]
  intro ha
  exact h ((Z.okNums_length ha).trans (lims_len k))

theorem rv_nums {r : Z.Rec} (h : Z.okNums r.nums (Z.lims r.kind) = false) : Z.recValid r = false := by simp [Z.recValid, h]
theorem rv_rest {r : Z.Rec} (h1 : Z.valid r.name = true) (h2 : 0 ≤ r.ttl) (h3 : r.ttl ≤ 100000) (h4 : Z.kindName r.kind ≠ []) (h5 : Z.okNums r.nums (Z.lims r.kind) = true) : Z.recValid r = Z.okRest r.kind r.target r.text := by
  simp [Z.recValid, h1, h2, h3, h4, h5]
theorem bs_empty (l : List UInt8) : (bs l).toList.isEmpty = decide (l = []) := by
  rw [toList_lst, lst_bs, Bool.eq_iff_iff]; simp
theorem rv_bad {r : Z.Rec} (h1 : 0 ≤ r.ttl) (h2 : r.ttl ≤ 100000) (h : (r.ttl < 0 ∨ 100000 < r.ttl) ∨ (bs (Z.kindName r.kind)).toList.isEmpty = true) : Z.recValid r = false := by
  have : Z.kindName r.kind = [] := by
    rcases h with (h | h) | h
    · omega
    · omega
    · rw [bs_empty] at h; simpa using h
  simp [Z.recValid, this]
theorem emp_lst (s : ByteArray) : s.toList.isEmpty = decide (lst s = []) := by rw [toList_lst, Bool.eq_iff_iff]; simp
theorem ne_cnt {a b : Nat} (h : ((a : Int) != (b : Int)) = false) : a = b := by
  have : (a : Int) = b := by simpa using h
  omega
theorem ne_cnt' {a b : Nat} (h : ((a : Int) != (b : Int)) = true) : a ≠ b := by
  have : (a : Int) ≠ b := by simpa using h
  omega

theorem limAt_6 {k : Nat} (h : ((k : Int) == 0) = true) : limAt 6 k = 4294967295 := by
  have : (k : Int) = 0 := by simpa using h
  unfold limAt; rw [if_pos ⟨rfl, by omega⟩]
theorem limAt_6' {k : Nat} (h : ((k : Int) == 0) = false) : limAt 6 k = mostOf 6 := by
  have : (k : Int) ≠ 0 := by simpa using h
  unfold limAt; rw [if_neg (by intro e; omega)]
theorem limAt_ne {a : Int} {k : Nat} (h : ¬ a = 6) : limAt a k = mostOf a := by unfold limAt; rw [if_neg (fun e => h e.1)]
theorem rest_a {k : Int} {g x : Z.Str} (h : k = 1 ∨ k = 16) : Z.okRest k g x = (decide (g = []) && Z.okText x && (decide (k = 16) || decide (x = []))) := by unfold Z.okRest; rw [if_pos h]
theorem rest_b {k : Int} {g x : Z.Str} (h : ¬ (k = 1 ∨ k = 16)) : Z.okRest k g x = (Z.valid g && decide (x = [])) := by unfold Z.okRest; rw [if_neg h]

/-- The end of RecordValid, behind the numbers. -/
def RestGoal (k : Int) (aG aX : ByteArray) (b : Bool) : Prop := b = Z.okRest k (lst aG) (lst aX)

set_option maxHeartbeats 4000000 in
theorem RecordValid_6 (aN : ByteArray) (aT : Int) (aA : Option Addr) (aC : Nat) (aG aX : ByteArray) (aZ : List Int) (aB : Nat) (w : World) (hra : Reads w aB aA (cnt 6) (aZ.map iv)) (hba : aB ≤ w.heap.size) (hsa : aN.size ≤ 67108864) (hga : aG.size ≤ 67108864) (hxa : aX.size ≤ 67108864)
    (hv : Z.valid (lst aN) = true) (h0 : 0 ≤ aT) (h1 : aT ≤ 100000) (hkk : (bs (Z.kindName 6)).toList.isEmpty = false) :
    Calls Try.prog 87 #[.agg #[.string aN, .int .i64 aT, .int .i64 6, .slice aA (cnt 6) aC, .string aG, .string aX]] w fun e w' => e = .returned (.bool (Z.recValid (⟨lst aN, aT, 6, aZ, lst aG, lst aX⟩ : Z.Rec))) ∧ Below w.heap.size w w' := by
  have hlen := hid (reads_len hra)
  have HR := hid (rv_rest (r := (⟨lst aN, aT, 6, aZ, lst aG, lst aX⟩ : Z.Rec)) hv h0 h1 (by rw [bs_empty] at hkk; simpa using hkk))
  have hc5 : cnt 6 ≤ 5 := by unfold cnt; split <;> (try split) <;> (try split) <;> omega
  have hx0 := Held.box w [.string aN, .int .i64 aT, .int .i64 6, .slice aA (cnt 6) aC, .string aG, .string aX] 54
  go_enter Try.func87, Try.ntmps87
  go_wp2_with (first
    | (go_at_call 55; refine (NameValid_any _ (by unfold maxLen; omega) _).mono ?_; rintro e w2 ⟨rfl, hb2⟩; have hx2 := Held.next hx0 hb2; obtain ⟨q0, q1, q2, q3, q4, q5⟩ := hx2.cells6)
    | (go_at_call 97; refine (KindName_any _ _).mono ?_; rintro e w3 ⟨rfl, hb3⟩; have hx3 := Held.next hx2 hb3; obtain ⟨q0, q1, q2, q3, q4, q5⟩ := hx3.cells6)
    | (go_at_call 98; refine (l2Nums_any _ _).mono ?_; rintro e w4 ⟨rfl, rfl⟩))
  clear hv h0 h1 hkk
  go_loop [5] (fun i => ∃ k : Nat, k ≤ cnt 6 ∧ i = .int .i64 k ∧ Hid (okTo 6 aZ k)) (fun i => cnt 6 - (intOf i).toNat)
  case atStart => exact ⟨0, Nat.zero_le _, rfl, hid (fun j hj => absurd hj (by omega))⟩
  case round =>
    obtain ⟨k, hk, rfl, hok⟩ := hrel
    by_cases hlt : k < cnt 6
    · obtain ⟨ad, rfl, hab, hcell⟩ := reads_int (hra.held hba hx3) hlt
      obtain ⟨z, hz⟩ : ∃ z, z = aZ.getD k 0 := ⟨_, rfl⟩
      rw [← hz] at hcell
      have HZ := hid hz
      clear hz
      go_wp2
      all_goals first
        | (go_ret
           go_light
           refine ⟨ret_bool (rv_nums (okNums_not hlt ?_)).symm, hx3.1⟩
           rw [← HZ.out]
           first | rw [limAt_6 (by assumption)] | rw [limAt_6' (by assumption)]
           omega)
        | (go_light
           refine ⟨⟨k + 1, by omega, by go_num, hid (okTo_succ hok.out ?_)⟩, by simp [intOf]; omega⟩
           rw [← HZ.out]
           first | rw [limAt_6 (by assumption)] | rw [limAt_6' (by assumption)]
           omega)
        | skip
    · have hks : k = cnt 6 := by omega
      have HN := hid (HR.out (okNums_of (by rw [hlen.out]) (by rw [← hks]; exact hok.out)))
      clear hks HR
      have hx2 := hx3
      go_wp2_with (first
        | (go_at_call 55; refine (NameValid_any _ (by unfold maxLen; omega) _).mono ?_; rintro e w5 ⟨rfl, hb5⟩; have hx3 := Held.next hx2 hb5; obtain ⟨q0, q1, q2, q3, q4, q5⟩ := hx3.cells6)
        | (go_at_call 99; refine (l2Text_any _ (by omega) _).mono ?_; rintro e w5 ⟨rfl, rfl⟩))
      all_goals go_ret
      all_goals go_light
      all_goals refine ⟨ret_bool ?_, hx3.1⟩
      all_goals (try (have hh := ‹aK = 1›; subst hh))
      all_goals (try (have hh := ‹aK = 16›; subst hh))
      all_goals rw [HN.out, Bool.eq_iff_iff]
      all_goals (clear hx0 hx2 hx3 HN; simp_all [Z.okRest, toList_lst])

set_option maxHeartbeats 4000000 in
theorem RecordValid_not6 (aN : ByteArray) (aT aK : Int) (aA : Option Addr) (aC : Nat) (aG aX : ByteArray) (aZ : List Int) (aB : Nat) (w : World) (hra : Reads w aB aA (cnt aK) (aZ.map iv)) (hba : aB ≤ w.heap.size) (hsa : aN.size ≤ 67108864) (hga : aG.size ≤ 67108864) (hxa : aX.size ≤ 67108864)
    (hv : Z.valid (lst aN) = true) (h0 : 0 ≤ aT) (h1 : aT ≤ 100000) (hkk : (bs (Z.kindName aK)).toList.isEmpty = false) (h6 : ¬ aK = 6) :
    Calls Try.prog 87 #[.agg #[.string aN, .int .i64 aT, .int .i64 aK, .slice aA (cnt aK) aC, .string aG, .string aX]] w fun e w' => e = .returned (.bool (Z.recValid (⟨lst aN, aT, aK, aZ, lst aG, lst aX⟩ : Z.Rec))) ∧ Below w.heap.size w w' := by
  have hlen := hid (reads_len hra)
  have HR := hid (rv_rest (r := (⟨lst aN, aT, aK, aZ, lst aG, lst aX⟩ : Z.Rec)) hv h0 h1 (by rw [bs_empty] at hkk; simpa using hkk))
  have hc5 : cnt aK ≤ 5 := by unfold cnt; split <;> (try split) <;> (try split) <;> omega
  have hx0 := Held.box w [.string aN, .int .i64 aT, .int .i64 aK, .slice aA (cnt aK) aC, .string aG, .string aX] 54
  go_enter Try.func87, Try.ntmps87
  go_wp2_with (first
    | (go_at_call 55; refine (NameValid_any _ (by unfold maxLen; omega) _).mono ?_; rintro e w2 ⟨rfl, hb2⟩; have hx2 := Held.next hx0 hb2; obtain ⟨q0, q1, q2, q3, q4, q5⟩ := hx2.cells6)
    | (go_at_call 97; refine (KindName_any _ _).mono ?_; rintro e w3 ⟨rfl, hb3⟩; have hx3 := Held.next hx2 hb3; obtain ⟨q0, q1, q2, q3, q4, q5⟩ := hx3.cells6)
    | (go_at_call 98; refine (l2Nums_any _ _).mono ?_; rintro e w4 ⟨rfl, rfl⟩))
  clear hv h0 h1 hkk
  go_loop [5] (fun i => ∃ k : Nat, k ≤ cnt aK ∧ i = .int .i64 k ∧ Hid (okTo aK aZ k)) (fun i => cnt aK - (intOf i).toNat)
  case atStart => exact ⟨0, Nat.zero_le _, rfl, hid (fun j hj => absurd hj (by omega))⟩
  case round =>
    obtain ⟨k, hk, rfl, hok⟩ := hrel
    by_cases hlt : k < cnt aK
    · obtain ⟨ad, rfl, hab, hcell⟩ := reads_int (hra.held hba hx3) hlt
      obtain ⟨z, hz⟩ : ∃ z, z = aZ.getD k 0 := ⟨_, rfl⟩
      rw [← hz] at hcell
      have HZ := hid hz
      clear hz
      go_wp2
      all_goals first
        | (go_ret
           go_light
           refine ⟨ret_bool (rv_nums (okNums_not hlt ?_)).symm, hx3.1⟩
           rw [← HZ.out]
           rw [limAt_ne h6]
           omega)
        | (go_light
           refine ⟨⟨k + 1, by omega, by go_num, hid (okTo_succ hok.out ?_)⟩, by simp [intOf]; omega⟩
           rw [← HZ.out]
           rw [limAt_ne h6]
           omega)
        | skip
    · have hks : k = cnt aK := by omega
      have HN := hid (HR.out (okNums_of (by rw [hlen.out]) (by rw [← hks]; exact hok.out)))
      clear hks HR
      have hx2 := hx3
      go_wp2_with (first
        | (go_at_call 55; refine (NameValid_any _ (by unfold maxLen; omega) _).mono ?_; rintro e w5 ⟨rfl, hb5⟩; have hx3 := Held.next hx2 hb5; obtain ⟨q0, q1, q2, q3, q4, q5⟩ := hx3.cells6)
        | (go_at_call 99; refine (l2Text_any _ (by omega) _).mono ?_; rintro e w5 ⟨rfl, rfl⟩))
      all_goals go_ret
      all_goals go_light
      all_goals refine ⟨ret_bool ?_, hx3.1⟩
      all_goals (try (have hh := ‹aK = 1›; subst hh))
      all_goals (try (have hh := ‹aK = 16›; subst hh))
      all_goals rw [HN.out, Bool.eq_iff_iff]
      all_goals (clear hx0 hx2 hx3 HN; simp_all [Z.okRest, toList_lst])

def Bad (aN : ByteArray) (aT aK : Int) (aL : Nat) : Prop := ¬ (Z.valid (lst aN) = true ∧ 0 ≤ aT ∧ aT ≤ 100000 ∧ (bs (Z.kindName aK)).toList.isEmpty = false) ∨ aL ≠ cnt aK
set_option maxHeartbeats 4000000 in
theorem RecordValid_bad (aN : ByteArray) (aT aK : Int) (aA : Option Addr) (aL aC : Nat) (aG aX : ByteArray) (aZ : List Int) (aB : Nat) (w : World) (hra : Reads w aB aA aL (aZ.map iv)) (hba : aB ≤ w.heap.size) (hla : aL ≤ 67108864) (hsa : aN.size ≤ 67108864) (hga : aG.size ≤ 67108864) (hxa : aX.size ≤ 67108864) (hbad : Z.recValid (⟨lst aN, aT, aK, aZ, lst aG, lst aX⟩ : Z.Rec) = false) (hwhy : Bad aN aT aK aL) :
    Calls Try.prog 87 #[.agg #[.string aN, .int .i64 aT, .int .i64 aK, .slice aA aL aC, .string aG, .string aX]] w fun e w' => e = .returned (.bool (Z.recValid (⟨lst aN, aT, aK, aZ, lst aG, lst aX⟩ : Z.Rec))) ∧ Below w.heap.size w w' := by
  have HB := hid hbad
  have HW := hid hwhy
  clear hbad hwhy
  have hx0 := Held.box w [.string aN, .int .i64 aT, .int .i64 aK, .slice aA aL aC, .string aG, .string aX] 54
  go_enter Try.func87, Try.ntmps87
  go_wp2_with (first
    | (go_at_call 55; refine (NameValid_any _ (by unfold maxLen; omega) _).mono ?_; rintro e w2 ⟨rfl, hb2⟩; have hx2 := Held.next hx0 hb2; obtain ⟨q0, q1, q2, q3, q4, q5⟩ := hx2.cells6)
    | (go_at_call 97; refine (KindName_any _ _).mono ?_; rintro e w3 ⟨rfl, hb3⟩; have hx3 := Held.next hx2 hb3; obtain ⟨q0, q1, q2, q3, q4, q5⟩ := hx3.cells6)
    | (go_at_call 98; refine (l2Nums_any _ _).mono ?_; rintro e w4 ⟨rfl, rfl⟩))
  all_goals first
    | (go_ret
       go_light
       exact ⟨ret_bool HB.out.symm, by first | exact hx3.1 | exact hx2.1⟩)
    | (exfalso
       have hv : Z.valid (lst aN) = true := by assumption
       have hkn := ‹(0 ≤ aT ∧ aT ≤ 100000) ∧ (bs (Z.kindName aK)).toList.isEmpty = false›
       have hcn := ‹((aL : Int) != (cnt aK : Int)) = false›
       rcases HW.out with h | h
       · exact h ⟨hv, hkn.1.1, hkn.1.2, hkn.2⟩
       · exact h (ne_cnt hcn))

theorem RecordValid_any (aN : ByteArray) (aT aK : Int) (aA : Option Addr) (aL aC : Nat) (aG aX : ByteArray) (aZ : List Int) (aB : Nat) (w : World) (hra : Reads w aB aA aL (aZ.map iv)) (hba : aB ≤ w.heap.size) (hla : aL ≤ 67108864) (hsa : aN.size ≤ 67108864) (hga : aG.size ≤ 67108864) (hxa : aX.size ≤ 67108864) :
    Calls Try.prog 87 #[.agg #[.string aN, .int .i64 aT, .int .i64 aK, .slice aA aL aC, .string aG, .string aX]] w fun e w' => e = .returned (.bool (Z.recValid (⟨lst aN, aT, aK, aZ, lst aG, lst aX⟩ : Z.Rec))) ∧ Below w.heap.size w w' := by
  have hlen := hid (reads_len hra)
  have hx0 := Held.box w [.string aN, .int .i64 aT, .int .i64 aK, .slice aA aL aC, .string aG, .string aX] 54
  by_cases hcnt : aL = cnt aK
  · by_cases hok : Z.valid (lst aN) = true ∧ 0 ≤ aT ∧ aT ≤ 100000 ∧ (bs (Z.kindName aK)).toList.isEmpty = false
    · obtain ⟨hv, h0, h1, hkk⟩ := hok
      subst hcnt
      by_cases h6 : aK = 6
      · subst h6
        exact RecordValid_6 _ _ _ _ _ _ aZ aB w hra hba hsa hga hxa hv h0 h1 hkk
      · exact RecordValid_not6 _ _ _ _ _ _ _ aZ aB w hra hba hsa hga hxa hv h0 h1 hkk h6
    · exact RecordValid_bad _ _ _ _ _ _ _ _ aZ aB w hra hba hla hsa hga hxa (by simp_all [Z.recValid, bs_empty]) (Or.inl hok)
  · exact RecordValid_bad _ _ _ _ _ _ _ _ aZ aB w hra hba hla hsa hga hxa (rv_nums (okNums_len (by rw [hlen.out]; exact hcnt))) (Or.inr hcnt)
end Go.Proofs.Ytgglakonkphbgaa

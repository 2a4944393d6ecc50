/- What the model's readers of fields and of numbers return. -/
import Derived.Test.YtaiijnaockbahaaSb
import Derived.Test.YtaiijnaockbahaaMb
import Derived.Deep.Light
namespace Go.Proofs.Ytaiijnaockbahaa
open Go.RowKit
set_option maxRecDepth 100000
set_option linter.unusedVariables false

/-- No space lies from a up to k. -/
def NoSp (s : ByteArray) (a k : Nat) : Prop := ∀ j, a ≤ j → j < k → (lst s)[j]? ≠ some 32
theorem noSp_start (s : ByteArray) (a : Nat) : NoSp s a a := fun j h1 h2 => absurd h1 (by omega)
theorem noSp_succ {s : ByteArray} {a k : Nat} (h : NoSp s a k) (hk : k < s.size) (h32 : ¬ (s[k].toNat : Int) = 32) : NoSp s a (k + 1) := fun j h1 h2 => by
  rcases Nat.lt_or_ge j k with h3 | h3
  · exact h j h1 h3
  · have : j = k := by omega
    subst this
    rw [List.getElem?_eq_getElem (by rw [lst_length]; exact hk), lst_get s j hk]
    intro e
    injection e with e
    exact h32 (by rw [e]; rfl)
theorem noSp_mem {s : ByteArray} {a k : Nat} (h : NoSp s a k) : (32 : UInt8) ∉ ((lst s).drop a).take (k - a) := by
  intro hm
  obtain ⟨i, hi, e⟩ := List.mem_iff_getElem.1 hm
  rw [List.length_take, List.length_drop] at hi
  rw [List.getElem_take, List.getElem_drop] at e
  exact h (a + i) (by omega) (by omega) (by rw [List.getElem?_eq_getElem (by omega), e])
theorem fld_here {s : ByteArray} {a k : Nat} (hak : a ≤ k) (hk : k < s.size) (h : NoSp s a k) (h32 : (s[k].toNat : Int) = 32) :
    Z.fld ((lst s).drop a) = lst (s.extract a k) ∧ Z.rst ((lst s).drop a) = (lst s).drop (k + 1) := by
  have hkl : k < (lst s).length := by rw [lst_length]; exact hk
  have e : (lst s).drop a = ((lst s).drop a).take (k - a) ++ 32 :: (lst s).drop (k + 1) := by
    have e2 := List.drop_eq_getElem_cons hkl
    have h9 : (lst s)[k] = 32 := by rw [lst_get s k hk, ← UInt8.toNat_inj]; simp; omega
    rw [h9] at e2
    rw [← e2]
    have e3 := (List.take_append_drop (k - a) ((lst s).drop a)).symm
    rw [List.drop_drop, show a + (k - a) = k by omega] at e3
    exact e3
  rw [lst_extract]
  have := Z.fld_append ((lst s).drop (k + 1)) (noSp_mem h)
  rw [← e] at this
  exact this
theorem fld_end {s : ByteArray} {a : Nat} (h : NoSp s a s.size) : Z.fld ((lst s).drop a) = (lst s).drop a ∧ Z.rst ((lst s).drop a) = [] :=
  Z.fld_all (by have := noSp_mem h; rwa [List.take_of_length_le (by rw [List.length_drop, lst_length]; omega)] at this)

set_option maxHeartbeats 1000000 in
theorem l2Field_any (s : ByteArray) (at_ : Nat) (ha : at_ ≤ s.size) (hs : s.size ≤ 67108864) (w : World) :
    Calls Try.prog 68 #[.string s, .int .i64 at_] w fun e w' => ∃ (x : ByteArray) (q : Nat), e = .returned (.tuple #[.string x, .int .i64 q]) ∧ q ≤ s.size ∧ lst x = Z.fld ((lst s).drop at_) ∧ (lst s).drop q = Z.rst ((lst s).drop at_) ∧ w = w' := by
  go_enter Try.func68, Try.ntmps68
  go_wp2
  go_loop [6] (fun i => ∃ k : Nat, at_ ≤ k ∧ k ≤ s.size ∧ i = .int .i64 k ∧ Hid (NoSp s at_ k)) (fun i => s.size - (intOf i).toNat)
  case atStart => exact ⟨at_, Nat.le_refl _, ha, rfl, hid (noSp_start s at_)⟩
  case round =>
    obtain ⟨k, hk0, hk, rfl, hok⟩ := hrel
    by_cases hlt : k < s.size
    · by_cases h32 : (s[k].toNat : Int) = 32
      · have HF := hid (fld_here hk0 hlt hok.out h32)
        go_wp2
        all_goals go_ret2
        all_goals exact ⟨_, k + 1, by first | rfl | (push_cast; rfl) | simp, by omega, HF.out.1.symm, HF.out.2.symm, rfl⟩
      · go_wp2
        all_goals exact ⟨⟨k + 1, by omega, by omega, by go_num, hid (noSp_succ hok.out hlt h32)⟩, by simp [intOf]; omega⟩
    · have hks : k = s.size := by omega
      subst hks
      have HF := hid (fld_end hok.out)
      go_wp2
      all_goals go_ret2
      all_goals exact ⟨_, _, rfl, Nat.le_refl _, by rw [HF.out.1, lst_extract, List.take_of_length_le (by rw [List.length_drop, lst_length]; omega)], by rw [HF.out.2, List.drop_eq_nil_of_le (by rw [lst_length]; omega)], rfl⟩

/-! ### numbers -/

/-- What a number is, where a sign stood in front or not. -/
def numN (neg : Bool) (s : Z.Str) : Option Int := if neg = true ∧ s.head? = some 48 then none else (Z.numU s).map (fun n => if neg then -(n : Int) else (n : Int))
theorem numN_neg (r : Z.Str) : Z.num (45 :: r) = numN true r := by simp [Z.num, numN]
theorem numN_pos {s : Z.Str} (h : s.head? ≠ some 45) : Z.num s = numN false s := by
  unfold Z.num numN
  split
  · exact absurd rfl h
  · simp
/-- What is read of a number so far. -/
def NumAt (s : ByteArray) (k N : Nat) : Prop := N = Z.natOf ((lst s).take k) ∧ ((lst s).take k).all Z.digit = true ∧ N < 10 ^ k
theorem numAt_start (s : ByteArray) : NumAt s 0 0 := ⟨by simp [Z.natOf], by simp, by simp⟩
theorem digit_int (c : UInt8) : Z.digit c = true ↔ 48 ≤ (c.toNat : Int) ∧ (c.toNat : Int) ≤ 57 := by
  unfold Z.digit
  simp only [Bool.and_eq_true, decide_eq_true_eq, UInt8.le_iff_toNat_le]
  simp
  omega
theorem numAt_succ {s : ByteArray} {k N : Nat} (h : NumAt s k N) (hk : k < s.size) (h1 : 48 ≤ (s[k].toNat : Int)) (h2 : (s[k].toNat : Int) ≤ 57) : NumAt s (k + 1) (N * 10 + (s[k].toNat - 48)) := by
  obtain ⟨e, a, b⟩ := h
  refine ⟨?_, ?_, ?_⟩
  · rw [lst_take_succ s k hk, Z.natOf, List.foldl_append, e]; rfl
  · rw [lst_take_succ s k hk, List.all_append, a]
    simp [digit_int, h1, h2]
  · rw [Nat.pow_succ]; omega
theorem numAt_bound {s : ByteArray} {k N : Nat} (h : NumAt s k N) (hk : k ≤ 17) : N < 100000000000000000 := by
  have := Nat.pow_le_pow_right (n := 10) (by omega) hk
  have h2 := h.2.2
  have e : (10 : Nat) ^ 17 = 100000000000000000 := by decide
  omega
theorem numN_none {s : Z.Str} (neg : Bool) (h : Z.numU s = none) : numN neg s = none := by
  unfold numN
  rw [h]
  simp
theorem numN_digit {s : ByteArray} {k : Nat} (neg : Bool) (hk : k < s.size) (h : ¬ (48 ≤ (s[k].toNat : Int) ∧ (s[k].toNat : Int) ≤ 57)) : numN neg (lst s) = none := by
  have hm : s[k] ∈ lst s := by rw [← lst_get s k hk]; exact List.getElem_mem _
  have : ¬ (lst s).all Z.digit = true := fun ha => h ((digit_int _).1 (List.all_eq_true.1 ha _ hm))
  refine numN_none neg ?_
  unfold Z.numU
  rw [if_neg (fun hh => this hh.2.2.1)]
theorem numN_empty {s : ByteArray} (neg : Bool) (h : s.size = 0) : numN neg (lst s) = none := by
  have : lst s = [] := List.length_eq_zero_iff.1 (by rw [lst_length]; exact h)
  simp [numN, Z.numU, this]
theorem numN_long {s : ByteArray} (neg : Bool) (h : 17 < s.size) : numN neg (lst s) = none := by
  refine numN_none neg ?_
  unfold Z.numU
  rw [if_neg (fun hh => by have := hh.2.1; rw [lst_length] at this; omega)]
theorem head_lst {s : ByteArray} (h : 0 < s.size) : (lst s).head? = some s[0] := by
  rw [List.head?_eq_getElem?, List.getElem?_eq_getElem (by rw [lst_length]; exact h), lst_get s 0 h]
theorem numN_zero {s : ByteArray} (neg : Bool) (h : 0 < s.size) (h0 : (s[0].toNat : Int) = 48) (h1 : 1 < s.size ∨ neg = true) : numN neg (lst s) = none := by
  have e : s[0] = 48 := by rw [← UInt8.toNat_inj]; simp; omega
  have hh := head_lst h
  rw [e] at hh
  rcases h1 with h1 | h1
  · refine numN_none neg ?_
    unfold Z.numU
    rw [if_neg (fun hx => hx.2.2.2 ⟨hh, by rw [lst_length]; exact h1⟩)]
  · unfold numN
    rw [if_pos ⟨h1, hh⟩]
/-- Where no zero leads. -/
def Lead (s : ByteArray) (neg : Bool) (h : 0 < s.size) : Prop := ¬ (s[0].toNat : Int) = 48 ∨ (s.size = 1 ∧ neg = false)
theorem numN_good {s : ByteArray} {N : Nat} (neg : Bool) (h : 0 < s.size) (h17 : s.size ≤ 17) (h0 : Lead s neg h) (hn : NumAt s s.size N) :
    numN neg (lst s) = some (if neg then -(N : Int) else (N : Int)) := by
  obtain ⟨e, a, _⟩ := hn
  rw [List.take_of_length_le (by rw [lst_length]; exact Nat.le_refl _)] at e a
  have hh := head_lst h
  have hne : lst s ≠ [] := fun e2 => by rw [e2] at hh; cases hh
  have h48 : (lst s).head? = some 48 → s.size = 1 ∧ neg = false := fun hx => by
    rw [hh] at hx
    injection hx with hx
    rcases h0 with h0 | h0
    · exact absurd (by rw [hx]; rfl) h0
    · exact h0
  unfold numN Z.numU
  rw [if_neg (fun hx => by have := h48 hx.2; rw [this.2] at hx; exact absurd hx.1 (by decide)), if_pos ⟨hne, by rw [lst_length]; exact h17, a, fun hx => by have := (h48 hx.1).1; rw [lst_length] at hx; omega⟩, e]
  rfl

def numTup (o : Option Int) : Value := .tuple #[.int .i64 (o.getD 0), .bool o.isSome]

set_option maxHeartbeats 2000000 in
theorem l13Num_pos (s : ByteArray) (hs : s.size ≤ 67108864) (hm : ∀ h : 0 < s.size, ¬ (s[0].toNat : Int) = 45) (hnum : Hid (Z.num (lst s) = numN false (lst s))) (hts : s.size ≤ 67108864) (w : World) :
    Calls Try.prog 69 #[.string s] w fun e w' => e = .returned (numTup (Z.num (lst s))) ∧ w = w' := by
  by_cases h0 : 0 < s.size
  · by_cases h17 : s.size ≤ 17
    · by_cases hz : (s[0].toNat : Int) = 48
      · by_cases hone : 1 < s.size
        · have hm := hm h0
          have HX := hid (numN_zero false h0 hz (Or.inl hone))
          go_enter Try.func69, Try.ntmps69
          go_wp2
          any_goals (try (exfalso; rename_i h; have e := congrArg ByteArray.size h; rw [show ByteArray.empty.size = 0 from rfl] at e; omega))
          any_goals (try (exfalso; rename_i h; simp only [beq_iff_eq] at h; omega))
          all_goals go_ret2
          all_goals exact ⟨by rw [hnum.out, HX.out]; rfl, rfl⟩
        · have hm := hm h0
          have h48 : Hid (Lead s false h0) := hid (Or.inr ⟨by omega, rfl⟩)
          go_enter Try.func69, Try.ntmps69
          go_wp2
          any_goals (try (exfalso; rename_i h; have e := congrArg ByteArray.size h; rw [show ByteArray.empty.size = 0 from rfl] at e; omega))
          any_goals (try (exfalso; rename_i h; simp only [beq_iff_eq] at h; omega))
          go_loop [5, 6] (fun m i => ∃ k N : Nat, k ≤ s.size ∧ i = .int .i64 k ∧ m = .int .i64 N ∧ Hid (NumAt s k N)) (fun _ i => s.size - (intOf i).toNat)
          case atStart => exact ⟨0, 0, Nat.zero_le _, rfl, rfl, hid (numAt_start _)⟩
          case round =>
            obtain ⟨k, N, hk, rfl, rfl, hok⟩ := hrel
            have hN := numAt_bound hok.out (by omega)
            by_cases hlt : k < s.size
            · by_cases hd : 48 ≤ (s[k].toNat : Int) ∧ (s[k].toNat : Int) ≤ 57
              · have HS := hid (numAt_succ hok.out hlt hd.1 hd.2)
                obtain ⟨hd1, hd2⟩ := hd
                go_wp2
                exact ⟨⟨_, _, .int .i64 ((N * 10 + (s[k].toNat - 48) : Nat) : Int), .int .i64 ((k + 1 : Nat) : Int), ⟨k + 1, by omega, rfl, _, rfl, HS⟩, rfl, rfl, by first | rfl | (congr 1; omega) | (congr 1; push_cast; omega), by first | rfl | (congr 1; omega) | (congr 1; push_cast; omega)⟩, by simp [intOf]; omega⟩
              · have HX := hid (numN_digit false hlt hd)
                go_wp2
                all_goals first | (exfalso; apply hd; go_light; simp_all; omega) | skip
                all_goals go_ret2
                all_goals exact ⟨by rw [hnum.out, HX.out]; rfl, rfl⟩
            · have hks : k = s.size := by omega
              subst hks
              have HX := hid (numN_good false h0 h17 h48.out hok.out)
              go_wp2
              any_goals (try (exfalso; rename_i h; have e := congrArg ByteArray.size h; rw [show ByteArray.empty.size = 0 from rfl] at e; omega))
              any_goals (try (exfalso; rename_i h; simp only [beq_iff_eq] at h; omega))
              all_goals go_ret2
              all_goals exact ⟨by rw [hnum.out, HX.out]; rfl, rfl⟩
      · have hm := hm h0
        have h48 : Hid (Lead s false h0) := hid (Or.inl hz)
        go_enter Try.func69, Try.ntmps69
        go_wp2
        any_goals (try (exfalso; rename_i h; have e := congrArg ByteArray.size h; rw [show ByteArray.empty.size = 0 from rfl] at e; omega))
        any_goals (try (exfalso; rename_i h; simp only [beq_iff_eq] at h; omega))
        go_loop [5, 6] (fun m i => ∃ k N : Nat, k ≤ s.size ∧ i = .int .i64 k ∧ m = .int .i64 N ∧ Hid (NumAt s k N)) (fun _ i => s.size - (intOf i).toNat)
        case atStart => exact ⟨0, 0, Nat.zero_le _, rfl, rfl, hid (numAt_start _)⟩
        case round =>
          obtain ⟨k, N, hk, rfl, rfl, hok⟩ := hrel
          have hN := numAt_bound hok.out (by omega)
          by_cases hlt : k < s.size
          · by_cases hd : 48 ≤ (s[k].toNat : Int) ∧ (s[k].toNat : Int) ≤ 57
            · have HS := hid (numAt_succ hok.out hlt hd.1 hd.2)
              obtain ⟨hd1, hd2⟩ := hd
              go_wp2
              exact ⟨⟨_, _, .int .i64 ((N * 10 + (s[k].toNat - 48) : Nat) : Int), .int .i64 ((k + 1 : Nat) : Int), ⟨k + 1, by omega, rfl, _, rfl, HS⟩, rfl, rfl, by first | rfl | (congr 1; omega) | (congr 1; push_cast; omega), by first | rfl | (congr 1; omega) | (congr 1; push_cast; omega)⟩, by simp [intOf]; omega⟩
            · have HX := hid (numN_digit false hlt hd)
              go_wp2
              all_goals first | (exfalso; apply hd; go_light; simp_all; omega) | skip
              all_goals go_ret2
              all_goals exact ⟨by rw [hnum.out, HX.out]; rfl, rfl⟩
          · have hks : k = s.size := by omega
            subst hks
            have HX := hid (numN_good false h0 h17 h48.out hok.out)
            go_wp2
            any_goals (try (exfalso; rename_i h; have e := congrArg ByteArray.size h; rw [show ByteArray.empty.size = 0 from rfl] at e; omega))
            any_goals (try (exfalso; rename_i h; simp only [beq_iff_eq] at h; omega))
            all_goals go_ret2
            all_goals exact ⟨by rw [hnum.out, HX.out]; rfl, rfl⟩
    · have hm := hm h0
      have HX := hid (numN_long false (s := s) (by omega))
      go_enter Try.func69, Try.ntmps69
      go_wp2
      any_goals (try (exfalso; rename_i h; have e := congrArg ByteArray.size h; rw [show ByteArray.empty.size = 0 from rfl] at e; omega))
      any_goals (try (exfalso; rename_i h; simp only [beq_iff_eq] at h; omega))
      all_goals go_ret2
      all_goals exact ⟨by rw [hnum.out, HX.out]; rfl, rfl⟩
  · have HX := hid (numN_empty false (s := s) (by omega))
    obtain rfl : s = ByteArray.empty := ByteArray.size_eq_zero_iff.1 (by omega)
    go_enter Try.func69, Try.ntmps69
    go_wp2
    any_goals (try (exfalso; rename_i h; have e := congrArg ByteArray.size h; rw [show ByteArray.empty.size = 0 from rfl] at e; omega))
    any_goals (try (exfalso; rename_i h; simp only [beq_iff_eq] at h; omega))
    all_goals go_ret2
    all_goals exact ⟨by rw [hnum.out, HX.out]; rfl, rfl⟩

set_option maxHeartbeats 2000000 in
theorem l13Num_neg (s t : ByteArray) (hs : s.size ≤ 67108864) (ht : s.extract 1 s.size = t) (hs0 : 0 < s.size) (hm : (s[0].toNat : Int) = 45) (hnum : Hid (Z.num (lst s) = numN true (lst t))) (hts : t.size ≤ 67108864) (w : World) :
    Calls Try.prog 69 #[.string s] w fun e w' => e = .returned (numTup (Z.num (lst s))) ∧ w = w' := by
  by_cases h0 : 0 < t.size
  · by_cases h17 : t.size ≤ 17
    · by_cases hz : (t[0].toNat : Int) = 48
      · have HX := hid (numN_zero true h0 hz (Or.inr rfl))
        go_enter Try.func69, Try.ntmps69
        go_wp2
        any_goals (try (exfalso; rename_i h; have e := congrArg ByteArray.size h; rw [show ByteArray.empty.size = 0 from rfl] at e; omega))
        any_goals (try (exfalso; rename_i h; simp only [beq_iff_eq] at h; omega))
        all_goals go_ret2
        all_goals exact ⟨by rw [hnum.out, HX.out]; rfl, rfl⟩
      · have h48 : Hid (Lead t true h0) := hid (Or.inl hz)
        go_enter Try.func69, Try.ntmps69
        go_wp2
        any_goals (try (exfalso; rename_i h; have e := congrArg ByteArray.size h; rw [show ByteArray.empty.size = 0 from rfl] at e; omega))
        any_goals (try (exfalso; rename_i h; simp only [beq_iff_eq] at h; omega))
        go_loop [5, 6] (fun m i => ∃ k N : Nat, k ≤ t.size ∧ i = .int .i64 k ∧ m = .int .i64 N ∧ Hid (NumAt t k N)) (fun _ i => t.size - (intOf i).toNat)
        case atStart => exact ⟨0, 0, Nat.zero_le _, rfl, rfl, hid (numAt_start _)⟩
        case round =>
          obtain ⟨k, N, hk, rfl, rfl, hok⟩ := hrel
          have hN := numAt_bound hok.out (by omega)
          by_cases hlt : k < t.size
          · by_cases hd : 48 ≤ (t[k].toNat : Int) ∧ (t[k].toNat : Int) ≤ 57
            · have HS := hid (numAt_succ hok.out hlt hd.1 hd.2)
              obtain ⟨hd1, hd2⟩ := hd
              go_wp2
              exact ⟨⟨_, _, .int .i64 ((N * 10 + (t[k].toNat - 48) : Nat) : Int), .int .i64 ((k + 1 : Nat) : Int), ⟨k + 1, by omega, rfl, _, rfl, HS⟩, rfl, rfl, by first | rfl | (congr 1; omega) | (congr 1; push_cast; omega), by first | rfl | (congr 1; omega) | (congr 1; push_cast; omega)⟩, by simp [intOf]; omega⟩
            · have HX := hid (numN_digit true hlt hd)
              go_wp2
              all_goals first | (exfalso; apply hd; go_light; simp_all; omega) | skip
              all_goals go_ret2
              all_goals exact ⟨by rw [hnum.out, HX.out]; rfl, rfl⟩
          · have hks : k = t.size := by omega
            subst hks
            have HX := hid (numN_good true h0 h17 h48.out hok.out)
            go_wp2
            any_goals (try (exfalso; rename_i h; have e := congrArg ByteArray.size h; rw [show ByteArray.empty.size = 0 from rfl] at e; omega))
            any_goals (try (exfalso; rename_i h; simp only [beq_iff_eq] at h; omega))
            all_goals go_ret2
            all_goals exact ⟨by rw [hnum.out, HX.out]; rfl, rfl⟩
    · have HX := hid (numN_long true (s := t) (by omega))
      go_enter Try.func69, Try.ntmps69
      go_wp2
      any_goals (try (exfalso; rename_i h; have e := congrArg ByteArray.size h; rw [show ByteArray.empty.size = 0 from rfl] at e; omega))
      any_goals (try (exfalso; rename_i h; simp only [beq_iff_eq] at h; omega))
      all_goals go_ret2
      all_goals exact ⟨by rw [hnum.out, HX.out]; rfl, rfl⟩
  · have HX := hid (numN_empty true (s := t) (by omega))
    obtain rfl : t = ByteArray.empty := ByteArray.size_eq_zero_iff.1 (by omega)
    go_enter Try.func69, Try.ntmps69
    go_wp2
    any_goals (try (exfalso; rename_i h; have e := congrArg ByteArray.size h; rw [show ByteArray.empty.size = 0 from rfl] at e; omega))
    any_goals (try (exfalso; rename_i h; simp only [beq_iff_eq] at h; omega))
    all_goals go_ret2
    all_goals exact ⟨by rw [hnum.out, HX.out]; rfl, rfl⟩

theorem l13Num_any (s : ByteArray) (hs : s.size ≤ 67108864) (w : World) :
    Calls Try.prog 69 #[.string s] w fun e w' => e = .returned (numTup (Z.num (lst s))) ∧ w = w' := by
  by_cases h : ∃ h : 0 < s.size, (s[0].toNat : Int) = 45
  · obtain ⟨h0, hm⟩ := h
    have e : s[0] = 45 := by rw [← UInt8.toNat_inj]; simp; omega
    have e2 : lst s = 45 :: lst (s.extract 1 s.size) := by
      rw [lst_extract]
      have := List.drop_eq_getElem_cons (l := lst s) (i := 0) (by rw [lst_length]; exact h0)
      rw [lst_get s 0 h0, e] at this
      rw [List.take_of_length_le (by rw [List.length_drop, lst_length]; omega)]
      simpa using this
    refine l13Num_neg s _ hs rfl h0 hm (hid (by rw [e2, numN_neg])) ?_ w
    have := congrArg List.length e2
    rw [List.length_cons, lst_length, lst_length] at this
    omega
  · refine l13Num_pos s hs (fun h0 hm => h ⟨h0, hm⟩) (hid (numN_pos ?_)) hs w
    intro e
    by_cases h0 : 0 < s.size
    · rw [head_lst h0] at e
      injection e with e
      exact h ⟨h0, by rw [e]; rfl⟩
    · have : lst s = [] := List.length_eq_zero_iff.1 (by rw [lst_length]; omega)
      rw [this] at e
      cases e
end Go.Proofs.Ytaiijnaockbahaa

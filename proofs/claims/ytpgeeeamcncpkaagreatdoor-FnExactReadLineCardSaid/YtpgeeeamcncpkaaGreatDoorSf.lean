/- What the model's readers of fields and of numbers return. What the model's cutter and its reader of lists of numbers return. What the model writes of a number. -/
import Derived.Test.YtpgeeeamcncpkaaGreatDoorSa
import Derived.Test.YtpgeeeamcncpkaaGreatDoorMa
import Derived.Deep.Light
import Derived.Test.YtpgeeeamcncpkaaGreatDoorIa
import Derived.ArgAppend
import Derived.Test.YtpgeeeamcncpkaaGreatDoorB
import Derived.Handy
namespace Go.Proofs.YtpgeeeamcncpkaaGreatDoor
open Go.RowKit
set_option maxRecDepth 100000
set_option linter.unusedVariables false

/-- No space lies from a up to k. -/
def NoSp (s : ByteArray) (a k : Nat) : Prop := ∀ j, a ≤ j → j < k → (lst s)[j]? ≠ some 32
theorem noSp_start (s : ByteArray) (a : Nat) : NoSp s a a := fun j h1 h2 => absurd h1 (by omega)
theorem noSp_succ {s : ByteArray} {a k : Nat} (h : NoSp s a k) (hk : k < s.size) (h32 : ¬ (s[k].toNat : Int) = 32) : NoSp s a (k + 1) := fun j h1 h2 => by
  rcases Nat.lt_or_ge j k with h3 | h3
  · exact h j h1 h3
  · have : j = k := by omega
    subst this
    rw [List.getElem?_eq_getElem (by rw [lst_length]; exact hk), lst_get s j hk]
    intro e
    injection e with e
    exact h32 (by rw [e]; rfl)
theorem noSp_mem {s : ByteArray} {a k : Nat} (h : NoSp s a k) : (32 : UInt8) ∉ ((lst s).drop a).take (k - a) := by
  intro hm
  obtain ⟨i, hi, e⟩ := List.mem_iff_getElem.1 hm
  rw [List.length_take, List.length_drop] at hi
  rw [List.getElem_take, List.getElem_drop] at e
  exact h (a + i) (by omega) (by omega) (by rw [List.getElem?_eq_getElem (by omega), e])
theorem fld_here {s : ByteArray} {a k : Nat} (hak : a ≤ k) (hk : k < s.size) (h : NoSp s a k) (h32 : (s[k].toNat : Int) = 32) :
    Z.fld ((lst s).drop a) = lst (s.extract a k) ∧ Z.rst ((lst s).drop a) = (lst s).drop (k + 1) := by
  have hkl : k < (lst s).length := by rw [lst_length]; exact hk
  have e : (lst s).drop a = ((lst s).drop a).take (k - a) ++ 32 :: (lst s).drop (k + 1) := by
    have e2 := List.drop_eq_getElem_cons hkl
    have h9 : (lst s)[k] = 32 := by rw [lst_get s k hk, ← UInt8.toNat_inj]; simp; omega
    rw [h9] at e2
    rw [← e2]
    have e3 := (List.take_append_drop (k - a) ((lst s).drop a)).symm
    rw [List.drop_drop, show a + (k - a) = k by omega] at e3
    exact e3
  rw [lst_extract]
  have := Z.fld_append ((lst s).drop (k + 1)) (noSp_mem h)
  rw [← e] at this
  exact this
theorem fld_end {s : ByteArray} {a : Nat} (h : NoSp s a s.size) : Z.fld ((lst s).drop a) = (lst s).drop a ∧ Z.rst ((lst s).drop a) = [] :=
  Z.fld_all (by have := noSp_mem h; rwa [List.take_of_length_le (by rw [List.length_drop, lst_length]; omega)] at this)

set_option maxHeartbeats 1000000 in
theorem l2Field_any (s : ByteArray) (at_ : Nat) (ha : at_ ≤ s.size) (hs : s.size ≤ 67108864) (w : World) :
    Calls Tryz.prog 156 #[.string s, .int .i64 at_] w fun e w' => ∃ (x : ByteArray) (q : Nat), e = .returned (.tuple #[.string x, .int .i64 q]) ∧ q ≤ s.size ∧ lst x = Z.fld ((lst s).drop at_) ∧ (lst s).drop q = Z.rst ((lst s).drop at_) ∧ w = w' := by
  go_enter Tryz.func156, Tryz.ntmps156
  go_wp2
  go_loop [6] (fun i => ∃ k : Nat, at_ ≤ k ∧ k ≤ s.size ∧ i = .int .i64 k ∧ Hid (NoSp s at_ k)) (fun i => s.size - (intOf i).toNat)
  case atStart => exact ⟨at_, Nat.le_refl _, ha, rfl, hid (noSp_start s at_)⟩
  case round =>
    obtain ⟨k, hk0, hk, rfl, hok⟩ := hrel
    by_cases hlt : k < s.size
    · by_cases h32 : (s[k].toNat : Int) = 32
      · have HF := hid (fld_here hk0 hlt hok.out h32)
        go_wp2
        all_goals go_ret2
        all_goals exact ⟨_, k + 1, by first | rfl | (push_cast; rfl) | simp, by omega, HF.out.1.symm, HF.out.2.symm, rfl⟩
      · go_wp2
        all_goals exact ⟨⟨k + 1, by omega, by omega, by go_num, hid (noSp_succ hok.out hlt h32)⟩, by simp [intOf]; omega⟩
    · have hks : k = s.size := by omega
      subst hks
      have HF := hid (fld_end hok.out)
      go_wp2
      all_goals go_ret2
      all_goals exact ⟨_, _, rfl, Nat.le_refl _, by rw [HF.out.1, lst_extract, List.take_of_length_le (by rw [List.length_drop, lst_length]; omega)], by rw [HF.out.2, List.drop_eq_nil_of_le (by rw [lst_length]; omega)], rfl⟩

/-! ### numbers -/

/-- What a number is, where a sign stood in front or not. -/
def numN (neg : Bool) (s : Z.Str) : Option Int := if neg = true ∧ s.head? = some 48 then none else (Z.numU s).map (fun n => if neg then -(n : Int) else (n : Int))
theorem numN_neg (r : Z.Str) : Z.num (45 :: r) = numN true r := by simp [Z.num, numN]
theorem numN_pos {s : Z.Str} (h : s.head? ≠ some 45) : Z.num s = numN false s := by
  unfold Z.num numN
  split
  · exact absurd rfl h
  · simp
/-- What is read of a number so far. -/
def NumAt (s : ByteArray) (k N : Nat) : Prop := N = Z.natOf ((lst s).take k) ∧ ((lst s).take k).all Z.digit = true ∧ N < 10 ^ k
theorem numAt_start (s : ByteArray) : NumAt s 0 0 := ⟨by simp [Z.natOf], by simp, by simp⟩
theorem digit_int (c : UInt8) : Z.digit c = true ↔ 48 ≤ (c.toNat : Int) ∧ (c.toNat : Int) ≤ 57 := by
  unfold Z.digit
  simp only [Bool.and_eq_true, decide_eq_true_eq, UInt8.le_iff_toNat_le]
  simp
  omega
theorem numAt_succ {s : ByteArray} {k N : Nat} (h : NumAt s k N) (hk : k < s.size) (h1 : 48 ≤ (s[k].toNat : Int)) (h2 : (s[k].toNat : Int) ≤ 57) : NumAt s (k + 1) (N * 10 + (s[k].toNat - 48)) := by
  obtain ⟨e, a, b⟩ := h
  refine ⟨?_, ?_, ?_⟩
  · rw [lst_take_succ s k hk, Z.natOf, List.foldl_append, e]; rfl
  · rw [lst_take_succ s k hk, List.all_append, a]
    simp [digit_int, h1, h2]
  · rw [Nat.pow_succ]; omega
theorem numAt_bound {s : ByteArray} {k N : Nat} (h : NumAt s k N) (hk : k ≤ 17) : N < 100000000000000000 := by
  have := Nat.pow_le_pow_right (n := 10) (by omega) hk
  have h2 := h.2.2
  have e : (10 : Nat) ^ 17 = 100000000000000000 := by decide
  omega
theorem numN_none {s : Z.Str} (neg : Bool) (h : Z.numU s = none) : numN neg s = none := by
  unfold numN
  rw [h]
  simp
theorem numN_digit {s : ByteArray} {k : Nat} (neg : Bool) (hk : k < s.size) (h : ¬ (48 ≤ (s[k].toNat : Int) ∧ (s[k].toNat : Int) ≤ 57)) : numN neg (lst s) = none := by
  have hm : s[k] ∈ lst s := by rw [← lst_get s k hk]; exact List.getElem_mem _
  have : ¬ (lst s).all Z.digit = true := fun ha => h ((digit_int _).1 (List.all_eq_true.1 ha _ hm))
  refine numN_none neg ?_
  unfold Z.numU
  rw [if_neg (fun hh => this hh.2.2.1)]
theorem numN_empty {s : ByteArray} (neg : Bool) (h : s.size = 0) : numN neg (lst s) = none := by
  have : lst s = [] := List.length_eq_zero_iff.1 (by rw [lst_length]; exact h)
  simp [numN, Z.numU, this]
theorem numN_long {s : ByteArray} (neg : Bool) (h : 17 < s.size) : numN neg (lst s) = none := by
  refine numN_none neg ?_
  unfold Z.numU
  rw [if_neg (fun hh => by have := hh.2.1; rw [lst_length] at this; omega)]
theorem head_lst {s : ByteArray} (h : 0 < s.size) : (lst s).head? = some s[0] := by
  rw [List.head?_eq_getElem?, List.getElem?_eq_getElem (by rw [lst_length]; exact h), lst_get s 0 h]
theorem numN_zero {s : ByteArray} (neg : Bool) (h : 0 < s.size) (h0 : (s[0].toNat : Int) = 48) (h1 : 1 < s.size ∨ neg = true) : numN neg (lst s) = none := by
  have e : s[0] = 48 := by rw [← UInt8.toNat_inj]; simp; omega
  have hh := head_lst h
  rw [e] at hh
  rcases h1 with h1 | h1
  · refine numN_none neg ?_
    unfold Z.numU
    rw [if_neg (fun hx => hx.2.2.2 ⟨hh, by rw [lst_length]; exact h1⟩)]
  · unfold numN
    rw [if_pos ⟨h1, hh⟩]
/-- Where no zero leads. -/
def Lead (s : ByteArray) (neg : Bool) (h : 0 < s.size) : Prop := ¬ (s[0].toNat : Int) = 48 ∨ (s.size = 1 ∧ neg = false)
theorem numN_good {s : ByteArray} {N : Nat} (neg : Bool) (h : 0 < s.size) (h17 : s.size ≤ 17) (h0 : Lead s neg h) (hn : NumAt s s.size N) :
    numN neg (lst s) = some (if neg then -(N : Int) else (N : Int)) := by
  obtain ⟨e, a, _⟩ := hn
  rw [List.take_of_length_le (by rw [lst_length]; exact Nat.le_refl _)] at e a
  have hh := head_lst h
  have hne : lst s ≠ [] := fun e2 => by rw [e2] at hh; cases hh
  have h48 : (lst s).head? = some 48 → s.size = 1 ∧ neg = false := fun hx => by
    rw [hh] at hx
    injection hx with hx
    rcases h0 with h0 | h0
    · exact absurd (by rw [hx]; rfl) h0
    · exact h0
  unfold numN Z.numU
  rw [if_neg (fun hx => by have := h48 hx.2; rw [this.2] at hx; exact absurd hx.1 (by decide)), if_pos ⟨hne, by rw [lst_length]; exact h17, a, fun hx => by have := (h48 hx.1).1; rw [lst_length] at hx; omega⟩, e]
  rfl

def numTup (o : Option Int) : Value := .tuple #[.int .i64 (o.getD 0), .bool o.isSome]

set_option maxHeartbeats 2000000 in
theorem l13Num_pos (s : ByteArray) (hs : s.size ≤ 67108864) (hm : ∀ h : 0 < s.size, ¬ (s[0].toNat : Int) = 45) (hnum : Hid (Z.num (lst s) = numN false (lst s))) (hts : s.size ≤ 67108864) (w : World) :
    Calls Tryz.prog 111 #[.string s] w fun e w' => e = .returned (numTup (Z.num (lst s))) ∧ w = w' := by
  by_cases h0 : 0 < s.size
  · by_cases h17 : s.size ≤ 17
    · by_cases hz : (s[0].toNat : Int) = 48
      · by_cases hone : 1 < s.size
        · have hm := hm h0
          have HX := hid (numN_zero false h0 hz (Or.inl hone))
          go_enter Tryz.func111, Tryz.ntmps111
          go_wp2
          any_goals (try (exfalso; rename_i h; have e := congrArg ByteArray.size h; rw [show ByteArray.empty.size = 0 from rfl] at e; omega))
          any_goals (try (exfalso; rename_i h; simp only [beq_iff_eq] at h; omega))
          all_goals go_ret2
          all_goals exact ⟨by rw [hnum.out, HX.out]; rfl, rfl⟩
        · have hm := hm h0
          have h48 : Hid (Lead s false h0) := hid (Or.inr ⟨by omega, rfl⟩)
          go_enter Tryz.func111, Tryz.ntmps111
          go_wp2
          any_goals (try (exfalso; rename_i h; have e := congrArg ByteArray.size h; rw [show ByteArray.empty.size = 0 from rfl] at e; omega))
          any_goals (try (exfalso; rename_i h; simp only [beq_iff_eq] at h; omega))
          go_loop [5, 6] (fun m i => ∃ k N : Nat, k ≤ s.size ∧ i = .int .i64 k ∧ m = .int .i64 N ∧ Hid (NumAt s k N)) (fun _ i => s.size - (intOf i).toNat)
          case atStart => exact ⟨0, 0, Nat.zero_le _, rfl, rfl, hid (numAt_start _)⟩
          case round =>
            obtain ⟨k, N, hk, rfl, rfl, hok⟩ := hrel
            have hN := numAt_bound hok.out (by omega)
            by_cases hlt : k < s.size
            · by_cases hd : 48 ≤ (s[k].toNat : Int) ∧ (s[k].toNat : Int) ≤ 57
              · have HS := hid (numAt_succ hok.out hlt hd.1 hd.2)
                obtain ⟨hd1, hd2⟩ := hd
                go_wp2
                exact ⟨⟨_, _, .int .i64 ((N * 10 + (s[k].toNat - 48) : Nat) : Int), .int .i64 ((k + 1 : Nat) : Int), ⟨k + 1, by omega, rfl, _, rfl, HS⟩, rfl, rfl, by first | rfl | (congr 1; omega) | (congr 1; push_cast; omega), by first | rfl | (congr 1; omega) | (congr 1; push_cast; omega)⟩, by simp [intOf]; omega⟩
              · have HX := hid (numN_digit false hlt hd)
                go_wp2
                all_goals first | (exfalso; apply hd; go_light; simp_all; omega) | skip
                all_goals go_ret2
                all_goals exact ⟨by rw [hnum.out, HX.out]; rfl, rfl⟩
            · have hks : k = s.size := by omega
              subst hks
              have HX := hid (numN_good false h0 h17 h48.out hok.out)
              go_wp2
              any_goals (try (exfalso; rename_i h; have e := congrArg ByteArray.size h; rw [show ByteArray.empty.size = 0 from rfl] at e; omega))
              any_goals (try (exfalso; rename_i h; simp only [beq_iff_eq] at h; omega))
              all_goals go_ret2
              all_goals exact ⟨by rw [hnum.out, HX.out]; rfl, rfl⟩
      · have hm := hm h0
        have h48 : Hid (Lead s false h0) := hid (Or.inl hz)
        go_enter Tryz.func111, Tryz.ntmps111
        go_wp2
        any_goals (try (exfalso; rename_i h; have e := congrArg ByteArray.size h; rw [show ByteArray.empty.size = 0 from rfl] at e; omega))
        any_goals (try (exfalso; rename_i h; simp only [beq_iff_eq] at h; omega))
        go_loop [5, 6] (fun m i => ∃ k N : Nat, k ≤ s.size ∧ i = .int .i64 k ∧ m = .int .i64 N ∧ Hid (NumAt s k N)) (fun _ i => s.size - (intOf i).toNat)
        case atStart => exact ⟨0, 0, Nat.zero_le _, rfl, rfl, hid (numAt_start _)⟩
        case round =>
          obtain ⟨k, N, hk, rfl, rfl, hok⟩ := hrel
          have hN := numAt_bound hok.out (by omega)
          by_cases hlt : k < s.size
          · by_cases hd : 48 ≤ (s[k].toNat : Int) ∧ (s[k].toNat : Int) ≤ 57
            · have HS := hid (numAt_succ hok.out hlt hd.1 hd.2)
              obtain ⟨hd1, hd2⟩ := hd
              go_wp2
              exact ⟨⟨_, _, .int .i64 ((N * 10 + (s[k].toNat - 48) : Nat) : Int), .int .i64 ((k + 1 : Nat) : Int), ⟨k + 1, by omega, rfl, _, rfl, HS⟩, rfl, rfl, by first | rfl | (congr 1; omega) | (congr 1; push_cast; omega), by first | rfl | (congr 1; omega) | (congr 1; push_cast; omega)⟩, by simp [intOf]; omega⟩
            · have HX := hid (numN_digit false hlt hd)
              go_wp2
              all_goals first | (exfalso; apply hd; go_light; simp_all; omega) | skip
              all_goals go_ret2
              all_goals exact ⟨by rw [hnum.out, HX.out]; rfl, rfl⟩
          · have hks : k = s.size := by omega
            subst hks
            have HX := hid (numN_good false h0 h17 h48.out hok.out)
            go_wp2
            any_goals (try (exfalso; rename_i h; have e := congrArg ByteArray.size h; rw [show ByteArray.empty.size = 0 from rfl] at e; omega))
            any_goals (try (exfalso; rename_i h; simp only [beq_iff_eq] at h; omega))
            all_goals go_ret2
            all_goals exact ⟨by rw [hnum.out, HX.out]; rfl, rfl⟩
    · have hm := hm h0
      have HX := hid (numN_long false (s := s) (by omega))
      go_enter Tryz.func111, Tryz.ntmps111
      go_wp2
      any_goals (try (exfalso; rename_i h; have e := congrArg ByteArray.size h; rw [show ByteArray.empty.size = 0 from rfl] at e; omega))
      any_goals (try (exfalso; rename_i h; simp only [beq_iff_eq] at h; omega))
      all_goals go_ret2
      all_goals exact ⟨by rw [hnum.out, HX.out]; rfl, rfl⟩
  · have HX := hid (numN_empty false (s := s) (by omega))
    obtain rfl : s = ByteArray.empty := ByteArray.size_eq_zero_iff.1 (by omega)
    go_enter Tryz.func111, Tryz.ntmps111
    go_wp2
    any_goals (try (exfalso; rename_i h; have e := congrArg ByteArray.size h; rw [show ByteArray.empty.size = 0 from rfl] at e; omega))
    any_goals (try (exfalso; rename_i h; simp only [beq_iff_eq] at h; omega))
    all_goals go_ret2
    all_goals exact ⟨by rw [hnum.out, HX.out]; rfl, rfl⟩

set_option maxHeartbeats 2000000 in
theorem l13Num_neg (s t : ByteArray) (hs : s.size ≤ 67108864) (ht : s.extract 1 s.size = t) (hs0 : 0 < s.size) (hm : (s[0].toNat : Int) = 45) (hnum : Hid (Z.num (lst s) = numN true (lst t))) (hts : t.size ≤ 67108864) (w : World) :
    Calls Tryz.prog 111 #[.string s] w fun e w' => e = .returned (numTup (Z.num (lst s))) ∧ w = w' := by
  by_cases h0 : 0 < t.size
  · by_cases h17 : t.size ≤ 17
    · by_cases hz : (t[0].toNat : Int) = 48
      · have HX := hid (numN_zero true h0 hz (Or.inr rfl))
        go_enter Tryz.func111, Tryz.ntmps111
        go_wp2
        any_goals (try (exfalso; rename_i h; have e := congrArg ByteArray.size h; rw [show ByteArray.empty.size = 0 from rfl] at e; omega))
        any_goals (try (exfalso; rename_i h; simp only [beq_iff_eq] at h; omega))
        all_goals go_ret2
        all_goals exact ⟨by rw [hnum.out, HX.out]; rfl, rfl⟩
      · have h48 : Hid (Lead t true h0) := hid (Or.inl hz)
        go_enter Tryz.func111, Tryz.ntmps111
        go_wp2
        any_goals (try (exfalso; rename_i h; have e := congrArg ByteArray.size h; rw [show ByteArray.empty.size = 0 from rfl] at e; omega))
        any_goals (try (exfalso; rename_i h; simp only [beq_iff_eq] at h; omega))
        go_loop [5, 6] (fun m i => ∃ k N : Nat, k ≤ t.size ∧ i = .int .i64 k ∧ m = .int .i64 N ∧ Hid (NumAt t k N)) (fun _ i => t.size - (intOf i).toNat)
        case atStart => exact ⟨0, 0, Nat.zero_le _, rfl, rfl, hid (numAt_start _)⟩
        case round =>
          obtain ⟨k, N, hk, rfl, rfl, hok⟩ := hrel
          have hN := numAt_bound hok.out (by omega)
          by_cases hlt : k < t.size
          · by_cases hd : 48 ≤ (t[k].toNat : Int) ∧ (t[k].toNat : Int) ≤ 57
            · have HS := hid (numAt_succ hok.out hlt hd.1 hd.2)
              obtain ⟨hd1, hd2⟩ := hd
              go_wp2
              exact ⟨⟨_, _, .int .i64 ((N * 10 + (t[k].toNat - 48) : Nat) : Int), .int .i64 ((k + 1 : Nat) : Int), ⟨k + 1, by omega, rfl, _, rfl, HS⟩, rfl, rfl, by first | rfl | (congr 1; omega) | (congr 1; push_cast; omega), by first | rfl | (congr 1; omega) | (congr 1; push_cast; omega)⟩, by simp [intOf]; omega⟩
            · have HX := hid (numN_digit true hlt hd)
              go_wp2
              all_goals first | (exfalso; apply hd; go_light; simp_all; omega) | skip
              all_goals go_ret2
              all_goals exact ⟨by rw [hnum.out, HX.out]; rfl, rfl⟩
          · have hks : k = t.size := by omega
            subst hks
            have HX := hid (numN_good true h0 h17 h48.out hok.out)
            go_wp2
            any_goals (try (exfalso; rename_i h; have e := congrArg ByteArray.size h; rw [show ByteArray.empty.size = 0 from rfl] at e; omega))
            any_goals (try (exfalso; rename_i h; simp only [beq_iff_eq] at h; omega))
            all_goals go_ret2
            all_goals exact ⟨by rw [hnum.out, HX.out]; rfl, rfl⟩
    · have HX := hid (numN_long true (s := t) (by omega))
      go_enter Tryz.func111, Tryz.ntmps111
      go_wp2
      any_goals (try (exfalso; rename_i h; have e := congrArg ByteArray.size h; rw [show ByteArray.empty.size = 0 from rfl] at e; omega))
      any_goals (try (exfalso; rename_i h; simp only [beq_iff_eq] at h; omega))
      all_goals go_ret2
      all_goals exact ⟨by rw [hnum.out, HX.out]; rfl, rfl⟩
  · have HX := hid (numN_empty true (s := t) (by omega))
    obtain rfl : t = ByteArray.empty := ByteArray.size_eq_zero_iff.1 (by omega)
    go_enter Tryz.func111, Tryz.ntmps111
    go_wp2
    any_goals (try (exfalso; rename_i h; have e := congrArg ByteArray.size h; rw [show ByteArray.empty.size = 0 from rfl] at e; omega))
    any_goals (try (exfalso; rename_i h; simp only [beq_iff_eq] at h; omega))
    all_goals go_ret2
    all_goals exact ⟨by rw [hnum.out, HX.out]; rfl, rfl⟩

theorem l13Num_any (s : ByteArray) (hs : s.size ≤ 67108864) (w : World) :
    Calls Tryz.prog 111 #[.string s] w fun e w' => e = .returned (numTup (Z.num (lst s))) ∧ w = w' := by
  by_cases h : ∃ h : 0 < s.size, (s[0].toNat : Int) = 45
  · obtain ⟨h0, hm⟩ := h
    have e : s[0] = 45 := by rw [← UInt8.toNat_inj]; simp; omega
    have e2 : lst s = 45 :: lst (s.extract 1 s.size) := by
      rw [lst_extract]
      have := List.drop_eq_getElem_cons (l := lst s) (i := 0) (by rw [lst_length]; exact h0)
      rw [lst_get s 0 h0, e] at this
      rw [List.take_of_length_le (by rw [List.length_drop, lst_length]; omega)]
      simpa using this
    refine l13Num_neg s _ hs rfl h0 hm (hid (by rw [e2, numN_neg])) ?_ w
    have := congrArg List.length e2
    rw [List.length_cons, lst_length, lst_length] at this
    omega
  · refine l13Num_pos s hs (fun h0 hm => h ⟨h0, hm⟩) (hid (numN_pos ?_)) hs w
    intro e
    by_cases h0 : 0 < s.size
    · rw [head_lst h0] at e
      injection e with e
      exact h ⟨h0, by rw [e]; rfl⟩
    · have : lst s = [] := List.length_eq_zero_iff.1 (by rw [lst_length]; omega)
      rw [this] at e
      cases e
end Go.Proofs.YtpgeeeamcncpkaaGreatDoor

namespace Go.Proofs.YtpgeeeamcncpkaaGreatDoor
open Go.RowKit
set_option maxRecDepth 100000
set_option linter.unusedVariables false

/-- One more cell behind an empty slice that has no room: the row is new. -/
theorem wpList_append1_new {P : Program} {ops : Array Oper} {rest : List Oper} {o : Oper} {a : Act} {Q : Exit → Act → World → Prop} (w : World) (y : Value) (tc : TypeId) (hgd : o.guard = none) (s x : Operand) (t : TypeId)
    (ho : o.op = .call { callee := .builtin .append, args := #[s, x], argTypes := #[t, t] })
    (e : TypeId) (i : TypeInfo) (z : Value) (bytes : Nat) (ht : P.underlying t = some (.slice e)) (hi : P.info? e = some i) (hz : i.zero = some z)
    (hsize : i.size = 1) (hby : i.bytes = bytes) (hzs : z.cells.size = 1)
    (ao : Option Addr) (hs : a.eval s = .slice ao 0 0) (hx : a.eval x = .slice (some ⟨w.heap.size, 0, none⟩) 1 1) (hy : y.oneCell' = true) (hbytes : bytes ≤ 140737488355328)
    (h : ∀ v' w', w'.ownsRow w.heap.size e 1 v' 1 [y] → Below w.heap.size w w' → wpList P ops Q rest (a.put o.dst v') w') :
    wpList P ops Q (o :: rest) a (w.alloc (.cells #[y] tc)) := by
  refine wpList_append_grows (w.alloc (.cells #[y] tc)) hgd s x t ho e i z 1 bytes ht hi hz hsize hby hzs (by omega) ao 0 0 [] hs (fun _ => ⟨rfl, rfl⟩) rfl (fun b _ j u hu => by simp at hu) ⟨w.heap.size, 0, none⟩ 1 1 [y] hx rfl one_cell ?_ (by omega) (by decide) (by omega) ?_
  · intro u hu; simp at hu; subst hu; exact hy
  · intro v' w' ho' hg
    exact h v' w' (own_mono ho' (by simp)) (Below.grown ((Below.refl _ _).alloc (Nat.le_refl _) _) hg (by simp) fun k hk => by cases hk)

/-- The pieces that are done, and the place where the next one starts. -/
def CutP (c : UInt8) (s : ByteArray) (k st : Nat) (done : List Z.Str) : Prop := st ≤ k ∧ Z.pieces c (lst s) [] = done ++ Z.pieces c ((lst s).drop k) (((lst s).drop st).take (k - st))
theorem pieces_length (c : UInt8) (s cur : Z.Str) : (Z.pieces c s cur).length = s.count c + 1 := by
  induction s generalizing cur with
  | nil => simp [Z.pieces]
  | cons x r ih =>
    simp only [Z.pieces]
    by_cases h : x = c
    · rw [if_pos h, List.length_cons, ih, h]; simp
    · rw [if_neg h, ih, List.count_cons_of_ne h]
theorem cutP_start (c : UInt8) (s : ByteArray) : CutP c s 0 0 [] := ⟨Nat.le_refl _, by simp⟩
theorem cutP_sign {c : UInt8} {s : ByteArray} {k st : Nat} {done : List Z.Str} (h : CutP c s k st done) (hk : k < s.size) (hd : s[k] = c) : CutP c s (k + 1) (k + 1) (done ++ [lst (s.extract st k)]) := by
  refine ⟨Nat.le_refl _, ?_⟩
  rw [h.2, lst_drop s k hk, hd, lst_extract]
  simp [Z.pieces]
theorem cutP_other {c : UInt8} {s : ByteArray} {k st : Nat} {done : List Z.Str} (h : CutP c s k st done) (hk : k < s.size) (hd : s[k] ≠ c) : CutP c s (k + 1) st done := by
  refine ⟨by have := h.1; omega, ?_⟩
  rw [h.2, lst_drop s k hk, drop_take_snoc _ _ _ h.1 (by rw [lst_length]; exact hk)]
  have : (lst s)[k]'(by rw [lst_length]; exact hk) = s[k] := rfl
  rw [this]
  simp [Z.pieces, hd]
theorem cutP_end {c : UInt8} {s : ByteArray} {st : Nat} {done : List Z.Str} (h : CutP c s s.size st done) : Z.pieces c (lst s) [] = done ++ [lst (s.extract st s.size)] := by
  rw [h.2, List.drop_of_length_le (by rw [lst_length]; omega), lst_extract]
  simp [Z.pieces]
theorem cutP_length {c : UInt8} {s : ByteArray} {k st : Nat} {done : List Z.Str} (h : CutP c s k st done) : done.length ≤ s.size := by
  have h1 := congrArg List.length h.2
  rw [pieces_length, List.length_append, pieces_length] at h1
  have h2 := List.count_le_length (a := c) (l := lst s)
  rw [lst_length] at h2
  omega

set_option maxHeartbeats 1000000 in
theorem l13Cut_any (s : ByteArray) (hs : s.size ≤ 67108864) (c : UInt8) (z : Int) (hz : z = (c.toNat : Int)) (w : World) :
    Calls Tryz.prog 79 #[.string s, .int .u8 z] w fun e w' => ∃ A q, e = .returned (.slice A (Z.pieces c (lst s) []).length q) ∧ w'.ownsRow w.heap.size 9 1 (.slice A (Z.pieces c (lst s) []).length q) (Z.pieces c (lst s) []).length ((Z.pieces c (lst s) []).map sv) ∧ Below w.heap.size w w' := by
  obtain ⟨i0, hi0, hz0, hz1, hz2⟩ := info_parts infoStr
  have HZ := hid hz
  clear hz
  go_enter Tryz.func79, Tryz.ntmps79
  go_wp2
  go_loopw [5, 6, 7] (fun v st i wr => ∃ (k a : Nat) (done : List Z.Str), i = .int .i64 k ∧ st = .int .i64 a ∧ Hid (k ≤ s.size ∧ a ≤ k ∧ CutP c s k a done ∨ k = s.size + 1 ∧ Z.pieces c (lst s) [] = done) ∧
      wr.ownsRow w.heap.size 9 1 v done.length (done.map sv) ∧ Below w.heap.size w wr) (fun _ _ i _ => s.size + 1 - (intOf i).toNat)
  case atStart => exact ⟨0, 0, [], rfl, rfl, hid (.inl ⟨Nat.zero_le _, Nat.le_refl _, cutP_start c s⟩), World.ownsRow_made w #[] 0 (Nat.le_refl _) (by decide) (by simp), (Below.refl _ _).alloc (Nat.le_refl _) _⟩
  case round =>
    obtain ⟨k, a, done, rfl, rfl, hc, hown, hb⟩ := hrel
    have hbs := hb.size
    rcases hc.out with ⟨hk, ha, hcut⟩ | ⟨hk, hdone⟩
    · have Hcut := hid hcut
      clear hc
      have hdl := cutP_length hcut
      clear hcut
      by_cases hlt : k < s.size
      · by_cases hd : (s[k].toNat : Int) = z
        · have hc1 := hid (cutP_sign Hcut.out hlt (by rw [← UInt8.toNat_inj]; have := HZ.out; omega))
          go_wp2_with (at_builtin; refine wpList_append1 wr (.string (s.extract a k)) _ rfl (.tmp 26) (.tmp 31) _ rfl w.heap.size 9 i0 _ 16 Tryz.underlying26 hi0 hz0 hz1 hz2 rfl _ _ _ rfl hown rfl rfl (by unfold maxLen; omega) (by omega) hbs ?_; intro v1 w1 hown1 hb1)
          go_roundw
          case rel => exact ⟨k + 1, k + 1, _, by go_num, by go_num, hid (.inl ⟨by omega, by omega, hc1.out⟩), by simpa [sv_lst] using hown1, hb.trans hb1⟩
          case measure => simp [intOf]; omega
        · have hq1 : ((k : Int) == (s.size : Int)) = false := by simp; omega
          have hq2 : ((s[k].toNat : Int) == z) = false := by simpa using hd
          have hc1 := hid (cutP_other Hcut.out hlt (fun e => hd (by rw [e, ← HZ.out])))
          go_wp2_with (at_builtin; refine wpList_append1 wr (.string (s.extract a k)) _ rfl (.tmp 26) (.tmp 31) _ rfl w.heap.size 9 i0 _ 16 Tryz.underlying26 hi0 hz0 hz1 hz2 rfl _ _ _ rfl hown rfl rfl (by unfold maxLen; omega) (by omega) hbs ?_; intro v1 w1 hown1 hb1)
          go_roundw
          case rel => exact ⟨k + 1, a, _, by go_num, rfl, hid (.inl ⟨by omega, by omega, hc1.out⟩), hown, hb⟩
          case measure => simp [intOf]; try omega
      · have hks : k = s.size := by omega
        subst hks
        have hce := hid (cutP_end Hcut.out)
        go_wp2_with (at_builtin; refine wpList_append1 wr (.string (s.extract a s.size)) _ rfl (.tmp 26) (.tmp 31) _ rfl w.heap.size 9 i0 _ 16 Tryz.underlying26 hi0 hz0 hz1 hz2 rfl _ _ _ rfl hown rfl rfl (by unfold maxLen; omega) (by omega) hbs ?_; intro v1 w1 hown1 hb1)
        go_roundw
        case rel => exact ⟨s.size + 1, s.size + 1, _, by go_num, by go_num, hid (.inr ⟨rfl, hce.out⟩), by simpa [sv_lst] using hown1, hb.trans hb1⟩
        case measure => simp [intOf]; try omega
    · subst hk
      have HD := hid hdone
      clear hc hdone
      obtain ⟨A, q, rfl⟩ := own_slice hown
      go_wp2
      all_goals go_ret
      all_goals rw [HD.out]
      all_goals exact ⟨A, q, rfl, hown, hb⟩

/-! ### lists of numbers -/

theorem infoIntz : (Tryz.prog.info? 3).map (fun i => (i.zero, i.size, i.bytes)) = some (some (.int .i64 0), 1, 8) := by kernel_rfl
/-- The numbers that are read, and those that are left. -/
def NumsAt (ls : List Z.Str) (k : Nat) (ns : List Int) : Prop := ns.length = k ∧ (ls.take 7).mapM Z.num = (((ls.take 7).drop k).mapM Z.num).map (ns ++ ·)
theorem numsAt_start (ls : List Z.Str) : NumsAt ls 0 [] := ⟨rfl, by simp⟩
theorem numsAt_split {ls : List Z.Str} {k : Nat} (hk : k < ls.length) (h7 : k < 7) : (ls.take 7).drop k = ls.getD k [] :: (ls.take 7).drop (k + 1) := by
  have hL : k < (ls.take 7).length := by rw [List.length_take]; omega
  rw [List.drop_eq_getElem_cons hL, List.getElem_take]
  simp [hk]
theorem numsAt_next {ls : List Z.Str} {k : Nat} {ns : List Int} {n : Int} (h : NumsAt ls k ns) (hk : k < ls.length) (h7 : k < 7) (hn : Z.num (ls.getD k []) = some n) : NumsAt ls (k + 1) (ns ++ [n]) := by
  refine ⟨by rw [List.length_append, h.1]; rfl, ?_⟩
  rw [h.2, numsAt_split hk h7, List.mapM_cons, hn]
  cases ((ls.take 7).drop (k + 1)).mapM Z.num with
  | none => rfl
  | some r => simp
theorem numsAt_fail {ls : List Z.Str} {k : Nat} {ns : List Int} (h : NumsAt ls k ns) (hk : k < ls.length) (h7 : k < 7) (hn : Z.num (ls.getD k []) = none) : (ls.take 7).mapM Z.num = none := by
  rw [h.2, numsAt_split hk h7, List.mapM_cons, hn]
  rfl
theorem numsAt_end {ls : List Z.Str} {k : Nat} {ns : List Int} (h : NumsAt ls k ns) (hk : ¬ (k < ls.length ∧ k < 7)) : (ls.take 7).mapM Z.num = some ns := by
  rw [h.2, List.drop_eq_nil_of_le (by rw [List.length_take]; omega)]
  simp

theorem l13Cut_ls (s : ByteArray) (hs : s.size ≤ 67108864) (c : UInt8) (z : Int) (hz : Hid (z = (c.toNat : Int))) (ls : List Z.Str) (hls : Hid (Z.pieces c (lst s) [] = ls)) (w : World) :
    Calls Tryz.prog 79 #[.string s, .int .u8 z] w fun e w' => ∃ A q, e = .returned (.slice A ls.length q) ∧ Reads w' w'.heap.size A ls.length (ls.map sv) ∧ Below w.heap.size w w' := by
  have h := l13Cut_any s hs c z hz.out w
  rw [hls.out] at h
  exact h.mono fun e w' ⟨A, q, h1, h2, h3⟩ => ⟨A, q, h1, Reads.of_own h2, h3⟩
theorem own_below' {w w' : World} {base : Nat} {e : TypeId} {v : Value} {n : Nat} {xs : List Value} (h : w.ownsRow base e 1 v n xs) (hb : Below w.heap.size w w') : w'.ownsRow base e 1 v n xs := by
  obtain ⟨h1, h2⟩ := h
  refine ⟨h1, ?_⟩
  rcases h2 with h2 | ⟨g, cap, cur, hv, hg, hh, r⟩
  · exact Or.inl h2
  · have hlt : g < w.heap.size := by
      rcases Nat.lt_or_ge g w.heap.size with h | h
      · exact h
      · rw [Array.getElem?_eq_none h] at hh; cases hh
    exact Or.inr ⟨g, cap, cur, hv, hg, by rw [hb.block g hlt]; exact hh, r⟩
def numVal (o : Option Int) : Int := o.getD 0
theorem l13Num_some (s : ByteArray) (hs : s.size ≤ 67108864) {n : Int} (hn : Hid (Z.num (lst s) = some n)) (w : World) :
    Calls Tryz.prog 111 #[.string s] w fun e w' => e = .returned (.tuple #[.int .i64 n, .bool true]) ∧ w = w' := by
  have h := l13Num_any s hs w
  rw [hn.out] at h
  exact h
theorem l13Num_none (s : ByteArray) (hs : s.size ≤ 67108864) (hn : Hid (Z.num (lst s) = none)) (w : World) :
    Calls Tryz.prog 111 #[.string s] w fun e w' => e = .returned (.tuple #[.int .i64 0, .bool false]) ∧ w = w' := by
  have h := l13Num_any s hs w
  rw [hn.out] at h
  exact h

/-- What the reader of numbers finds in the pieces. -/
def NumsAre (ls : List Z.Str) (ns : List Int) (b : Bool) : Prop := ((ls.take 7).mapM Z.num).getD [] = ns ∧ ((ls.take 7).mapM Z.num).isSome = b
theorem piece_size {s : ByteArray} {c : UInt8} {x : ByteArray} {ls : List Z.Str} (hls : Z.pieces c (lst s) [] = ls) {k : Nat} (hk : k < ls.length) (hx : lst x = ls.getD k []) : x.size ≤ s.size := by
  have key : ∀ (l cur : Z.Str), ∀ p ∈ Z.pieces c l cur, p.length ≤ cur.length + l.length := by
    intro l
    induction l with
    | nil => intro cur p hp; simp [Z.pieces] at hp; subst hp; simp
    | cons y r ih =>
      intro cur p hp
      simp only [Z.pieces] at hp
      split at hp
      · rcases List.mem_cons.1 hp with rfl | hp
        · simp
        · have := ih [] p hp; simp at this ⊢; omega
      · have := ih _ p hp; simp at this ⊢; omega
  have hm : lst x ∈ Z.pieces c (lst s) [] := by
    rw [hx, hls, show ls.getD k [] = ls[k] by simp [hk]]
    exact List.getElem_mem _
  have := key _ _ _ hm
  rw [lst_length, lst_length] at this
  simpa using this

set_option maxHeartbeats 1000000 in
theorem l2Numbers_ls (s : ByteArray) (hs : s.size ≤ 67108864) (c : UInt8) (z : Int) (hz : Hid (z = (c.toNat : Int))) (ls : List Z.Str) (hls : Hid (Z.pieces c (lst s) [] = ls)) (hlen : ls.length ≤ 67108865) (xns : List Int) (xb : Bool) (hres : Hid (NumsAre ls xns xb)) (w : World) :
    Calls Tryz.prog 90 #[.string s, .int .u8 z] w fun e w' => ∃ A q, e = .returned (.tuple #[.slice A xns.length q, .bool xb]) ∧ w'.ownsRow w.heap.size 3 1 (.slice A xns.length q) xns.length (xns.map iv) ∧ Below w.heap.size w w' := by
  obtain ⟨i0, hi0, hz0, hz1, hz2⟩ := info_parts infoIntz
  go_enter Tryz.func90, Tryz.ntmps90
  go_wp2_with fail
  refine (l13Cut_ls s hs c z hz ls hls _).mono ?_
  rintro e w1 ⟨A, q, rfl, hrd, hb1⟩
  have hb0 : Below w.heap.size w w1 := ((Below.refl _ _).alloc (Nat.le_refl _) _).trans (hb1.mono (by simp))
  have hgr := hb1.size
  simp only [World.alloc, Array.size_push] at hgr
  have hown0 := (World.ownsRow_made (base := w.heap.size) (e := 3) (size := 1) w #[] 0 (Nat.le_refl _) (by decide) (by simp))
  have hown1 : w1.ownsRow w.heap.size 3 1 (.slice (some ⟨w.heap.size, 0, none⟩) 0 0) 0 [] := own_below' hown0 hb1
  clear hb1 hown0
  go_wp2_with fail
  go_loopw [6, 8] (fun v i wr => ∃ (k : Nat) (ns : List Int), i = .int .i64 k ∧ k ≤ ls.length ∧ k ≤ 7 ∧ Hid (NumsAt ls k ns) ∧ Below w1.heap.size w1 wr ∧
      ((k = 0 ∧ ns = [] ∧ v = .slice (some ⟨w.heap.size, 0, none⟩) 0 0) ∨ 0 < k ∧ wr.ownsRow w1.heap.size 3 1 v k (ns.map iv))) (fun _ i _ => 8 - (intOf i).toNat)
  case atStart => exact ⟨0, [], rfl, Nat.zero_le _, by omega, hid (numsAt_start ls), Below.refl _ _, .inl ⟨rfl, rfl, rfl⟩⟩
  case round =>
    obtain ⟨k, ns, rfl, hk, hk7, hat, hbr, hv⟩ := hrel
    have hbrs := hbr.size
    by_cases hlt : k < ls.length ∧ k < 7
    · obtain ⟨hlt, hlt7⟩ := hlt
      obtain ⟨ad, x, rfl, hab, hx, hcell⟩ := reads_str (hrd.below hbr (Nat.le_refl _)) hlt
      have hxs := piece_size hls.out hlt hx
      have Hx := hid hx
      clear hx
      cases hn : Z.num (lst x) with
      | none =>
        have HF := numsAt_fail hat.out hlt hlt7 (by rw [← Hx.out]; exact hn)
        obtain ⟨rfl, rfl⟩ : xns = [] ∧ xb = false := by have := hres.out; unfold NumsAre at this; rw [HF] at this; exact ⟨this.1.symm, this.2.symm⟩
        have HN := hid hn
        clear hn hres HF hv
        go_wp2_with (first | (go_at_call 111; refine (l13Num_none _ (by omega) HN _).mono ?_; rintro e w2 ⟨rfl, rfl⟩))
        all_goals go_ret2
        all_goals exact ⟨_, 0, rfl, World.ownsRow_made _ #[] 0 (by omega) (by decide) (by simp), (hb0.trans (hbr.mono (by omega))).alloc (by omega) _⟩
      | some n =>
        have HF := hid (numsAt_next hat.out hlt hlt7 (by rw [← Hx.out]; exact hn))
        have HN := hid hn
        clear hn
        rcases hv with ⟨hk0, hns0, rfl⟩ | ⟨hk0, hown⟩
        · have HK := hid hk0
          have HNS := hid hns0
          clear hk0 hns0
          go_wp2_with (first | (go_at_call 111; refine (l13Num_some _ (by omega) HN _).mono ?_; rintro e w2 ⟨rfl, rfl⟩) | (at_builtin; refine wpList_append1_new wr (.int .i64 n) _ rfl (.tmp 36) (.tmp 38) _ rfl 3 i0 _ 8 Tryz.underlying23 hi0 hz0 hz1 hz2 rfl _ rfl rfl rfl (by omega) ?_; intro v1 w2 hown2 hb2))
          go_roundw
          case rel => exact ⟨k + 1, ns ++ [n], by go_num, by omega, by omega, HF, hbr.trans (hb2.mono (by omega)), .inr ⟨by omega, by rw [HK.out, HNS.out]; exact own_mono hown2 hbrs⟩⟩
          case measure => simp [intOf]; try omega
        · go_wp2_with (first | (go_at_call 111; refine (l13Num_some _ (by omega) HN _).mono ?_; rintro e w2 ⟨rfl, rfl⟩) | (at_builtin; refine wpList_append1 wr (.int .i64 n) _ rfl (.tmp 36) (.tmp 38) _ rfl w1.heap.size 3 i0 _ 8 Tryz.underlying23 hi0 hz0 hz1 hz2 rfl _ _ _ rfl hown rfl rfl (by unfold maxLen; omega) (by omega) hbrs ?_; intro v1 w2 hown2 hb2))
          go_roundw
          case rel => exact ⟨k + 1, ns ++ [n], by go_num, by omega, by omega, HF, hbr.trans hb2, .inr ⟨by omega, by rw [List.map_append]; exact hown2⟩⟩
          case measure => simp [intOf]; try omega
    · have HE := numsAt_end hat.out hlt
      obtain ⟨rfl, rfl⟩ : xns = ns ∧ xb = true := by have := hres.out; unfold NumsAre at this; rw [HE] at this; exact ⟨this.1.symm, this.2.symm⟩
      obtain rfl := hat.out.1
      have hb9 := hb0.trans (hbr.mono (by omega : w.heap.size ≤ w1.heap.size))
      clear HE hres hat
      rcases hv with ⟨hk0, rfl, rfl⟩ | ⟨hk0, hown⟩
      · go_wp2
        all_goals go_ret2
        all_goals exact ⟨_, 0, rfl, own_below' hown1 hbr, hb9⟩
      · obtain ⟨A2, q2, rfl⟩ := own_slice hown
        go_wp2
        all_goals go_ret2
        all_goals exact ⟨A2, q2, rfl, own_mono hown (by omega), hb9⟩
theorem numbers_len (s : ByteArray) (hs : s.size ≤ 67108864) (c : UInt8) : (Z.pieces c (lst s) []).length ≤ 67108865 := by
  rw [pieces_length]
  have h2 := List.count_le_length (a := c) (l := lst s)
  rw [lst_length] at h2
  omega
theorem l2Numbers_some (s : ByteArray) (hs : s.size ≤ 67108864) (c : UInt8) (z : Int) (hz : z = (c.toNat : Int)) {ns : List Int} (h : Z.numbers c (lst s) = some ns) (w : World) :
    Calls Tryz.prog 90 #[.string s, .int .u8 z] w fun e w' => ∃ A q, e = .returned (.tuple #[.slice A ns.length q, .bool true]) ∧ w'.ownsRow w.heap.size 3 1 (.slice A ns.length q) ns.length (ns.map iv) ∧ Below w.heap.size w w' :=
  l2Numbers_ls s hs c z (hid hz) _ (hid rfl) (numbers_len s hs c) ns true (hid ⟨by unfold Z.numbers at h; rw [h]; rfl, by unfold Z.numbers at h; rw [h]; rfl⟩) w
theorem l2Numbers_none (s : ByteArray) (hs : s.size ≤ 67108864) (c : UInt8) (z : Int) (hz : z = (c.toNat : Int)) (h : Z.numbers c (lst s) = none) (w : World) :
    Calls Tryz.prog 90 #[.string s, .int .u8 z] w fun e w' => ∃ A q, e = .returned (.tuple #[.slice A 0 q, .bool false]) ∧ w'.ownsRow w.heap.size 3 1 (.slice A 0 q) 0 [] ∧ Below w.heap.size w w' :=
  l2Numbers_ls s hs c z (hid hz) _ (hid rfl) (numbers_len s hs c) [] false (hid ⟨by unfold Z.numbers at h; rw [h]; rfl, by unfold Z.numbers at h; rw [h]; rfl⟩) w
end Go.Proofs.YtpgeeeamcncpkaaGreatDoor

namespace Go.Proofs.YtpgeeeamcncpkaaGreatDoor
open Go.RowKit
set_option maxRecDepth 100000
set_option linter.unusedVariables false

theorem conv_byte {P : Program} {w : World} {src dst e : TypeId} {c : UInt8} {v : Int} (hs : P.underlying src = some (.slice e)) (he : P.underlying e = some (.int .u8)) (hd : P.underlying dst = some .string) (hv : v = c.toNat) :
    (convert src dst (.slice (some ⟨w.heap.size, 0, none⟩) 1 1)).run P (w.alloc (.cells #[.int .u8 v] e)) = .ok (.string (bs [c])) (w.alloc (.cells #[.int .u8 v] e)) := by
  subst hv
  have := run_convert_bytes_back (P := P) (w.alloc (.cells #[.int .u8 (c.toNat : Int)] e)) src dst e ⟨w.heap.size, 0, none⟩ 1 [c] hs he hd (fun j hj => by
    have hj0 : j = 0 := by simpa using hj
    subst hj0
    exact one_cell (x := .int .u8 (c.toNat : Int)) 0 _ rfl)
  exact this
theorem digit_nat (m : Nat) (h : m < 10) : (48 + (m : Int)) = ((UInt8.ofNat (48 + m)).toNat : Int) := by
  rw [UInt8.toNat_ofNat']
  omega
/-- The digits that are written, and the number that is left. -/
def DecAt (N m : Nat) (o : ByteArray) : Prop := Lib.decDigits N = Lib.decDigits m ++ lst o
theorem decAt_start (N : Nat) : DecAt N N ⟨#[]⟩ := by simp [DecAt, lst]
set_option maxHeartbeats 1000000 in
theorem l13Dec_any (N : Nat) (hN : N ≤ 9223372036854775807) (w : World) :
    Calls Tryz.prog 119 #[.int .i64 N] w fun e w' => e = .returned (.string (bs (Lib.itoa N))) ∧ Below w.heap.size w w' := by
  go_enter Tryz.func119, Tryz.ntmps119
  go_wp2
  go_loopw [0, 3] (fun i v wr => ∃ (m : Nat) (o : ByteArray), i = .int .i64 m ∧ m ≤ N ∧ v = .string o ∧ Hid (DecAt N m o) ∧ Below w.heap.size w wr) (fun i _ _ => (intOf i).toNat)
  case atStart => exact ⟨N, _, rfl, Nat.le_refl _, rfl, hid (decAt_start N), Below.refl _ _⟩
  case round =>
    obtain ⟨m, o, rfl, hm, rfl, hd, hb⟩ := hrel
    have hbs := hb.size
    have hos : o.size ≤ 19 := by
      have h1 := congrArg List.length hd.out
      have h2 := Z.dec_len (n := N) (k := 19) (by omega) (by omega)
      rw [List.length_append, lst_length] at h1
      omega
    by_cases h9 : 9 < m
    · obtain ⟨c, hc⟩ : ∃ c, c = UInt8.ofNat (48 + m % 10) := ⟨_, rfl⟩
      have hcv := conv_byte (P := Tryz.prog) (w := wr) (c := c) (v := 48 + (m : Int) % 10) Tryz.underlying22 Tryz.underlying5 Tryz.underlying9 (by have := digit_nat (m % 10) (Nat.mod_lt _ (by omega)); rw [hc, ← this]; omega)
      have ha : ∀ W : World, (Op.stringOp .add (bs [c]) o).run Tryz.prog W = .ok (.string (bs [c] ++ o)) W := fun W => run_string_add_sum W _ _ (by rw [bs_size]; simp; omega)
      have HD := hid (show DecAt N (m / 10) (bs [c] ++ o) by
        have := hd.out
        unfold DecAt at this ⊢
        rw [this, Z.dec_big (by omega), lst_append, lst_bs, hc]
        simp)
      clear hc
      go_wp2
      go_roundw
      case rel => exact ⟨m / 10, _, by go_num, by omega, rfl, HD, hb.alloc hbs _⟩
      case measure => simp [intOf]; omega
    · obtain ⟨c, hc⟩ : ∃ c, c = UInt8.ofNat (48 + m) := ⟨_, rfl⟩
      have hcv := conv_byte (P := Tryz.prog) (w := wr) (c := c) (v := 48 + (m : Int)) Tryz.underlying22 Tryz.underlying5 Tryz.underlying9 (by rw [hc]; exact digit_nat m (by omega))
      have ha : ∀ W : World, (Op.stringOp .add (bs [c]) o).run Tryz.prog W = .ok (.string (bs [c] ++ o)) W := fun W => run_string_add_sum W _ _ (by rw [bs_size]; simp; omega)
      have HD := hid (show bs (Lib.itoa N) = bs [c] ++ o by
        have := hd.out
        unfold DecAt at this
        apply lst_inj
        rw [Z.itoa_pos (by omega), Int.toNat_natCast, lst_bs, this, Z.dec_small (by omega), lst_append, lst_bs, hc])
      clear hc
      go_wp2
      go_ret
      exact ⟨ret_str HD.out.symm, hb.alloc hbs _⟩
end Go.Proofs.YtpgeeeamcncpkaaGreatDoor

/- What divides a line into fields step by step: plain functions. -/
import Derived.Test.YtpgeeeamcncpkaaGreatDoorMc
import Derived.Test.YtpgeeeamcncpkaaGreatDoorB
namespace Go.Proofs.YtpgeeeamcncpkaaGreatDoor
open Go.RowKit
set_option maxRecDepth 100000
set_option linter.unusedVariables false

theorem Z.fields_open {r : Z.Str} (h : (34 : UInt8) ∉ r) : Z.fields (34 :: r) = none := by
  have e : r.dropWhile (· != 34) = [] := by
    have := List.dropWhile_append_of_pos (p := (· != (34 : UInt8))) (l₂ := []) (l₁ := r) (fun x hx => by
      have : x ≠ 34 := fun e => h (e ▸ hx)
      simpa using this)
    simpa using this
  unfold Z.fields
  simp only [List.length_cons, Z.fieldsN]
  rw [if_neg (by decide), if_pos trivial, e]
theorem Z.fields_close {u t : Z.Str} (hu : (34 : UInt8) ∉ u) (ht : ¬ (t = [] ∨ t.head? = some 32)) : Z.fields (34 :: (u ++ 34 :: t)) = none := by
  have hs := Z.span_at (p := (· != 34)) (a := u) (b := 34 :: t) (fun x hx => by
    have : x ≠ 34 := fun e => hu (e ▸ hx)
    simpa using this) (Or.inr ⟨34, t, rfl, by decide⟩)
  unfold Z.fields
  simp only [List.length_cons, Z.fieldsN]
  rw [if_neg (by decide), if_pos trivial, hs.2]
  simp only
  rw [if_neg ht]
theorem Z.fields_within {c : UInt8} {r t : Z.Str} (hc1 : c ≠ 32) (hc2 : c ≠ 34) (h1 : ∀ x ∈ r, Z.isSep x = false) : Z.fields (c :: (r ++ 34 :: t)) = none := by
  have hs := Z.span_at (p := fun x => !Z.isSep x) (a := r) (b := 34 :: t) (fun x hx => by rw [h1 x hx]; rfl) (Or.inr ⟨34, t, rfl, by decide⟩)
  unfold Z.fields
  simp only [List.length_cons, Z.fieldsN]
  rw [if_neg hc1, if_neg hc2, hs.2]
  simp only [List.head?_cons, if_true]

/-- A part of a text all of whose bytes pass a test. -/
def Span (p : UInt8 → Bool) (s : ByteArray) (a k : Nat) : Prop := ∀ x ∈ ((lst s).drop a).take (k - a), p x = true
theorem span_start (p : UInt8 → Bool) (s : ByteArray) (a : Nat) : Span p s a a := by intro x hx; simp at hx
theorem span_succ {p : UInt8 → Bool} {s : ByteArray} {a k : Nat} (h : Span p s a k) (ha : a ≤ k) (hk : k < s.size) (hp : p s[k] = true) : Span p s a (k + 1) := by
  intro x hx
  rw [drop_take_snoc _ _ _ ha (by rw [lst_length]; exact hk)] at hx
  rcases List.mem_append.1 hx with hx | hx
  · exact h x hx
  · simp only [List.mem_singleton] at hx
    rw [hx]
    exact hp
/-- The fields that are done, and the place where the rest begins. -/
def FieldsAt (s : ByteArray) (k : Nat) (done : List Z.Str) : Prop := Z.fields (lst s) = (Z.fields ((lst s).drop k)).map (done ++ ·)
theorem fieldsAt_start (s : ByteArray) : FieldsAt s 0 [] := by simp [FieldsAt]
theorem fieldsAt_space {s : ByteArray} {k : Nat} {done : List Z.Str} (h : FieldsAt s k done) (hk : k < s.size) (hc : (s[k].toNat : Int) = 32) : FieldsAt s (k + 1) done := by
  unfold FieldsAt at h ⊢
  have e : s[k] = 32 := by rw [← UInt8.toNat_inj]; simp; omega
  rw [h, lst_drop s k hk, e, Z.fields_space]
theorem fieldsAt_all {s : ByteArray} {done : List Z.Str} (h : FieldsAt s s.size done) : Z.fields (lst s) = some done := by
  unfold FieldsAt at h
  rw [h, List.drop_eq_nil_of_le (by rw [lst_length]; exact Nat.le_refl _), Z.fields_nil]
  simp
theorem split_at (s : ByteArray) (a k : Nat) (h : a ≤ k) : (lst s).drop a = ((lst s).drop a).take (k - a) ++ (lst s).drop k := by
  have e3 := (List.take_append_drop (k - a) ((lst s).drop a)).symm
  rw [List.drop_drop, show a + (k - a) = k by omega] at e3
  exact e3
theorem head_drop {s : ByteArray} {k : Nat} (hk : k < s.size) : ((lst s).drop k).head? = some s[k] := by rw [lst_drop s k hk]; rfl
def isNo34 (c : UInt8) : Bool := c != 34
def isNoSep (c : UInt8) : Bool := !Z.isSep c
theorem no34_span {s : ByteArray} {a k : Nat} (h : Span isNo34 s a k) : (34 : UInt8) ∉ ((lst s).drop a).take (k - a) := fun hm => by have := h _ hm; simp [isNo34] at this
theorem fieldsAt_quoted {s : ByteArray} {k e : Nat} {done : List Z.Str} (h : FieldsAt s k done) (hk : k < s.size) (hc : (s[k].toNat : Int) = 34) (hke : k + 1 ≤ e) (he : e < s.size) (hs : Span isNo34 s (k + 1) e) (hq : (s[e].toNat : Int) = 34)
    (hz : ∀ hn : e + 1 < s.size, (s[e + 1].toNat : Int) = 32) : FieldsAt s (e + 1) (done ++ [lst (s.extract k (e + 1))]) := by
  unfold FieldsAt at h ⊢
  have e1 : s[k] = 34 := by rw [← UInt8.toNat_inj]; simp; omega
  have e2 : s[e] = 34 := by rw [← UInt8.toNat_inj]; simp; omega
  have hu := no34_span hs
  have hx : lst (s.extract k (e + 1)) = 34 :: (((lst s).drop (k + 1)).take (e - (k + 1)) ++ [34]) := by
    rw [lst_extract, lst_drop s k hk, e1, show e + 1 - k = (e - (k + 1) + 1) + 1 by omega, List.take_succ_cons]
    congr 1
    have := drop_take_snoc (lst s) (k + 1) e hke (by rw [lst_length]; exact he)
    rw [show e + 1 - (k + 1) = e - (k + 1) + 1 by omega] at this
    rw [this, lst_get s e he, e2]
  have hd : (lst s).drop k = lst (s.extract k (e + 1)) ++ (lst s).drop (e + 1) := by
    rw [lst_extract]
    exact split_at s k (e + 1) (by omega)
  rw [h, hd, Z.fields_atom (by rw [hx]; exact Z.atom_quoted hu) ?_]
  · cases Z.fields ((lst s).drop (e + 1)) <;> simp
  · by_cases hn : e + 1 < s.size
    · right
      rw [head_drop hn]
      congr 1
      rw [← UInt8.toNat_inj]
      have := hz hn
      simp
      omega
    · left
      exact List.drop_eq_nil_of_le (by rw [lst_length]; omega)
theorem fieldsAt_open {s : ByteArray} {k : Nat} {done : List Z.Str} (h : FieldsAt s k done) (hk : k < s.size) (hc : (s[k].toNat : Int) = 34) (hs : Span isNo34 s (k + 1) s.size) : Z.fields (lst s) = none := by
  unfold FieldsAt at h
  have e1 : s[k] = 34 := by rw [← UInt8.toNat_inj]; simp; omega
  have hu := no34_span hs
  rw [List.take_of_length_le (by rw [List.length_drop, lst_length]; omega)] at hu
  rw [h, lst_drop s k hk, e1, Z.fields_open hu]
  rfl
theorem fieldsAt_close {s : ByteArray} {k e : Nat} {done : List Z.Str} (h : FieldsAt s k done) (hk : k < s.size) (hc : (s[k].toNat : Int) = 34) (hke : k + 1 ≤ e) (hs : Span isNo34 s (k + 1) e) (hn : e + 1 < s.size) (hq : (s[e].toNat : Int) = 34)
    (hz : ¬ (s[e + 1].toNat : Int) = 32) : Z.fields (lst s) = none := by
  unfold FieldsAt at h
  have e1 : s[k] = 34 := by rw [← UInt8.toNat_inj]; simp; omega
  have e2 : s[e] = 34 := by rw [← UInt8.toNat_inj]; simp; omega
  have hu := no34_span hs
  have hd : (lst s).drop (k + 1) = ((lst s).drop (k + 1)).take (e - (k + 1)) ++ 34 :: (lst s).drop (e + 1) := by
    conv => lhs; rw [split_at s (k + 1) e hke]
    rw [lst_drop s e (by omega), e2]
  rw [h, lst_drop s k hk, e1, hd, Z.fields_close hu]
  · rfl
  · rintro (h9 | h9)
    · have := congrArg List.length h9
      rw [List.length_drop, lst_length] at this
      simp at this
      omega
    · rw [head_drop hn] at h9
      injection h9 with h9
      exact hz (by rw [h9]; rfl)
theorem sep_iff (c : UInt8) : isNoSep c = true ↔ ¬ (c.toNat : Int) = 32 ∧ ¬ (c.toNat : Int) = 34 := by
  unfold isNoSep Z.isSep
  simp only [Bool.not_eq_true', Bool.or_eq_false_iff, beq_eq_false_iff_ne, ne_eq, ← UInt8.toNat_inj]
  simp
  omega
theorem fieldsAt_plain {s : ByteArray} {k e : Nat} {done : List Z.Str} (h : FieldsAt s k done) (hke : k + 1 ≤ e) (he : e ≤ s.size) (hs : Span isNoSep s k e)
    (hz : ∀ hn : e < s.size, (s[e].toNat : Int) = 32) : FieldsAt s e (done ++ [lst (s.extract k e)]) := by
  unfold FieldsAt at h ⊢
  have hd : (lst s).drop k = lst (s.extract k e) ++ (lst s).drop e := by
    rw [lst_extract]
    exact split_at s k e (by omega)
  have hx : ∀ x ∈ lst (s.extract k e), isNoSep x = true := by rw [lst_extract]; exact hs
  have hat : Z.Atom (lst (s.extract k e)) := Z.atom_plain (fun h0 => by have := congrArg List.length h0; rw [lst_length, ByteArray.size_extract] at this; simp at this; omega)
    (fun hm => by have := hx _ hm; exact absurd this (by decide)) (fun hm => by have := hx _ hm; exact absurd this (by decide))
  rw [h, hd, Z.fields_atom hat ?_]
  · cases Z.fields ((lst s).drop e) <;> simp
  · by_cases hn : e < s.size
    · right
      rw [head_drop hn]
      congr 1
      rw [← UInt8.toNat_inj]
      have := hz hn
      simp
      omega
    · left
      exact List.drop_eq_nil_of_le (by rw [lst_length]; omega)
theorem fieldsAt_within {s : ByteArray} {k e : Nat} {done : List Z.Str} (h : FieldsAt s k done) (hke : k + 1 ≤ e) (he : e < s.size) (hs : Span isNoSep s k e) (hz : (s[e].toNat : Int) = 34) : Z.fields (lst s) = none := by
  unfold FieldsAt at h
  have e2 : s[e] = 34 := by rw [← UInt8.toNat_inj]; simp; omega
  have hk : k < s.size := by omega
  have hd : (lst s).drop k = s[k] :: (((lst s).drop (k + 1)).take (e - (k + 1)) ++ 34 :: (lst s).drop (e + 1)) := by
    rw [lst_drop s k hk]
    conv => lhs; rw [split_at s (k + 1) e hke]
    rw [lst_drop s e he, e2]
  have hs2 : ((lst s).drop k).take (e - k) = s[k] :: ((lst s).drop (k + 1)).take (e - (k + 1)) := by
    rw [lst_drop s k hk, show e - k = (e - (k + 1)) + 1 by omega, List.take_succ_cons]
  unfold Span at hs
  rw [hs2] at hs
  have h0 := (sep_iff _).1 (hs _ (List.mem_cons_self))
  rw [h, hd, Z.fields_within (fun h9 => h0.1 (by rw [h9]; rfl)) (fun h9 => h0.2 (by rw [h9]; rfl))]
  · rfl
  · intro x hx
    have := hs x (List.mem_cons_of_mem _ hx)
    unfold isNoSep at this
    simpa using this
theorem fieldsN_length : ∀ (n : Nat) (s : Z.Str) (fs : List Z.Str), Z.fieldsN n s = some fs → fs.length ≤ n := by
  intro n
  induction n with
  | zero =>
    intro s fs h
    match s with
    | [] => simp [Z.fieldsN] at h; subst h; simp
    | _ :: _ => simp [Z.fieldsN] at h
  | succ n ih =>
    intro s fs h
    match s with
    | [] => simp [Z.fieldsN] at h; subst h; simp
    | c :: r =>
      simp only [Z.fieldsN] at h
      split at h
      · have := ih _ _ h; omega
      · split at h
        · split at h
          · cases h
          · split at h
            · rename_i t _ _
              cases e : Z.fieldsN n t with
              | none => rw [e] at h; cases h
              | some gs => rw [e] at h; simp at h; subst h; have := ih _ _ e; simp; omega
            · cases h
        · split at h
          · cases h
          · cases e : Z.fieldsN n (r.dropWhile (fun x => !Z.isSep x)) with
            | none => rw [e] at h; cases h
            | some gs => rw [e] at h; simp at h; subst h; have := ih _ _ e; simp; omega
end Go.Proofs.YtpgeeeamcncpkaaGreatDoor

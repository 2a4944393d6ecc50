/- Lines and master files as plain functions: what the functions of chapter 3 compute, and that written lines are read. -/
import Derived.Test.YtaobfemjpnfliabMb
namespace Go.Proofs.Ytaobfemjpnfliab.Z

/-! ### comments -/

def strip : Bool → Str → Str
  | _, [] => []
  | q, c :: r => if c = 34 then c :: strip (!q) r else if c = 59 ∧ q = false then [] else c :: strip q r
/-- A text that a comment cannot begin in, with as many quotes as pairs. -/
def Clean (f : Str) : Prop := ∀ rest, strip false (f ++ rest) = f ++ strip false rest
theorem clean_nil : Clean [] := fun _ => rfl
theorem Clean.append {a b : Str} (ha : Clean a) (hb : Clean b) : Clean (a ++ b) := fun rest => by
  rw [List.append_assoc, ha, hb, List.append_assoc]
theorem clean_one {c : UInt8} (h1 : c ≠ 34) (h2 : c ≠ 59) : Clean [c] := fun rest => by simp [strip, h1, h2]
theorem clean_plain {f : Str} (h1 : (34 : UInt8) ∉ f) (h2 : (59 : UInt8) ∉ f) : Clean f := by
  induction f with
  | nil => exact clean_nil
  | cons c r ih =>
    have := (clean_one (c := c) (fun e => h1 (by rw [e]; simp)) (fun e => h2 (by rw [e]; simp))).append (ih (fun e => h1 (List.mem_cons_of_mem _ e)) (fun e => h2 (List.mem_cons_of_mem _ e)))
    exact this
theorem strip_in {t : Str} (h : (34 : UInt8) ∉ t) (rest : Str) : strip true (t ++ rest) = t ++ strip true rest := by
  induction t with
  | nil => rfl
  | cons c r ih =>
    have hc : c ≠ 34 := fun e => h (by rw [e]; simp)
    simp only [List.cons_append, strip]
    rw [if_neg hc, if_neg (by simp), ih (fun e => h (List.mem_cons_of_mem _ e))]
theorem clean_quoted {t : Str} (h : (34 : UInt8) ∉ t) : Clean (34 :: (t ++ [34])) := fun rest => by
  have e : (34 :: (t ++ [34])) ++ rest = 34 :: (t ++ 34 :: rest) := by simp
  rw [e]
  simp only [strip, if_pos]
  rw [show (!false) = true from rfl, strip_in h]
  simp [strip]
theorem Clean.self {f : Str} (h : Clean f) : strip false f = f := by
  have := h []
  simpa [strip] using this
theorem strip_idem (q : Bool) (s : Str) : strip q (strip q s) = strip q s := by
  induction s generalizing q with
  | nil => rfl
  | cons c r ih =>
    simp only [strip]
    split
    · rename_i h; simp only [strip, if_pos h]; rw [ih]
    · rename_i h
      split
      · rfl
      · rename_i h2; simp only [strip, if_neg h, if_neg h2]; rw [ih]
theorem strip_prefix (q : Bool) (s : Str) : strip q s <+: s := by
  induction s generalizing q with
  | nil => exact List.prefix_refl _
  | cons c r ih =>
    simp only [strip]
    split
    · exact List.cons_prefix_cons.2 ⟨rfl, ih _⟩
    · split
      · exact List.nil_prefix
      · exact List.cons_prefix_cons.2 ⟨rfl, ih _⟩

/-! ### fields -/

def isSep (c : UInt8) : Bool := c == 32 || c == 34
def fieldsN : Nat → Str → Option (List Str)
  | _, [] => some []
  | 0, _ :: _ => none
  | n + 1, c :: r =>
    if c = 32 then fieldsN n r
    else if c = 34 then
      match r.dropWhile (· != 34) with
      | [] => none
      | _ :: t => if t = [] ∨ t.head? = some 32 then (fieldsN n t).map ((34 :: (r.takeWhile (· != 34) ++ [34])) :: ·) else none
    else if (r.dropWhile (fun x => !isSep x)).head? = some 34 then none
    else (fieldsN n (r.dropWhile (fun x => !isSep x))).map ((c :: r.takeWhile (fun x => !isSep x)) :: ·)
def fields (s : Str) : Option (List Str) := fieldsN s.length s

theorem dropWhile_length (p : UInt8 → Bool) (l : Str) : (l.dropWhile p).length ≤ l.length := by
  induction l with
  | nil => exact Nat.le_refl _
  | cons a r ih => simp only [List.dropWhile]; split <;> simp <;> omega
theorem fieldsN_enough : ∀ (n m : Nat) (s : Str), s.length ≤ n → s.length ≤ m → fieldsN n s = fieldsN m s := by
  intro n
  induction n with
  | zero =>
    intro m s hn _
    have : s = [] := List.length_eq_zero_iff.1 (by omega)
    subst this
    cases m <;> rfl
  | succ n ih =>
    intro m s hn hm
    match s, m with
    | [], m => cases m <;> rfl
    | c :: r, 0 => simp at hm
    | c :: r, m + 1 =>
      have h1 : r.length ≤ n := by simpa using hn
      have h2 : r.length ≤ m := by simpa using hm
      have hd := dropWhile_length (fun x => !isSep x) r
      have hd2 := dropWhile_length (· != 34) r
      simp only [fieldsN]
      rw [ih m r h1 h2, ih m (r.dropWhile (fun x => !isSep x)) (by omega) (by omega)]
      split
      · rfl
      · split
        · split
          · rfl
          · rename_i x t heq
            rw [heq] at hd2
            have hl : t.length + 1 ≤ r.length := by simpa using hd2
            rw [ih m t (by omega) (by omega)]
        · rfl
theorem fields_len {n : Nat} {s : Str} (h : s.length ≤ n) : fieldsN n s = fields s := fieldsN_enough _ _ _ h (Nat.le_refl _)
theorem fields_nil : fields [] = some [] := rfl
theorem fields_space (r : Str) : fields (32 :: r) = fields r := by
  unfold fields
  simp only [List.length_cons, fieldsN, if_pos]

/-- What is one field, whatever is beside it. -/
def Atom (f : Str) : Prop := (∃ t, f = 34 :: (t ++ [34]) ∧ (34 : UInt8) ∉ t) ∨ (f ≠ [] ∧ (32 : UInt8) ∉ f ∧ (34 : UInt8) ∉ f)
theorem atom_quoted {t : Str} (h : (34 : UInt8) ∉ t) : Atom (34 :: (t ++ [34])) := Or.inl ⟨t, rfl, h⟩
theorem atom_plain {f : Str} (h : f ≠ []) (h1 : (32 : UInt8) ∉ f) (h2 : (34 : UInt8) ∉ f) : Atom f := Or.inr ⟨h, h1, h2⟩
theorem Atom.ne {f : Str} (h : Atom f) : f ≠ [] := by
  rcases h with ⟨t, rfl, _⟩ | ⟨h, _⟩
  · simp
  · exact h
theorem Atom.head {f : Str} (h : Atom f) : f.head? ≠ some 32 := by
  rcases h with ⟨t, rfl, _⟩ | ⟨_, h, _⟩
  · simp
  · exact fun e => h (List.mem_of_head? e)

theorem span_at {p : UInt8 → Bool} {a : Str} {b : Str} (h : ∀ x ∈ a, p x = true) (hb : b = [] ∨ ∃ c r, b = c :: r ∧ p c = false) : (a ++ b).takeWhile p = a ∧ (a ++ b).dropWhile p = b := by
  rw [List.takeWhile_append_of_pos h, List.dropWhile_append_of_pos h]
  rcases hb with rfl | ⟨c, r, rfl, hc⟩
  · simp
  · simp [List.takeWhile, List.dropWhile, hc]
theorem fields_atom {f t : Str} (h : Atom f) (ht : t = [] ∨ t.head? = some 32) : fields (f ++ t) = (fields t).map (f :: ·) := by
  rcases h with ⟨u, rfl, hu⟩ | ⟨hf, h1, h2⟩
  · have e : (34 :: (u ++ [34])) ++ t = 34 :: (u ++ 34 :: t) := by simp
    have hs := span_at (p := (· != 34)) (a := u) (b := 34 :: t) (fun x hx => by
      have : x ≠ 34 := fun e => hu (e ▸ hx)
      simpa using this) (Or.inr ⟨34, t, rfl, by decide⟩)
    rw [e]
    unfold fields
    simp only [List.length_cons, fieldsN]
    rw [if_neg (by decide), if_pos trivial, hs.1, hs.2]
    simp only
    rw [if_pos ht, fields_len (s := t) (by simp; omega)]
    rfl
  · match f, hf with
    | c :: r, _ =>
      have hc1 : c ≠ 32 := fun e => h1 (by rw [e]; simp)
      have hc2 : c ≠ 34 := fun e => h2 (by rw [e]; simp)
      have hs := span_at (p := fun x => !isSep x) (a := r) (b := t) (fun x hx => by
        have e1 : x ≠ 32 := fun e => h1 (by rw [← e]; exact List.mem_cons_of_mem _ hx)
        have e2 : x ≠ 34 := fun e => h2 (by rw [← e]; exact List.mem_cons_of_mem _ hx)
        simp [isSep, e1, e2]) (by
        rcases ht with rfl | ht
        · exact Or.inl rfl
        · match t, ht with
          | x :: y, hx =>
            simp at hx
            subst hx
            exact Or.inr ⟨32, y, rfl, by decide⟩)
      rw [List.cons_append]
      unfold fields
      simp only [List.length_cons, fieldsN]
      rw [if_neg hc1, if_neg hc2, hs.1, hs.2, if_neg, fields_len (s := t) (by simp)]
      · rfl
      · rcases ht with rfl | ht
        · simp
        · rw [ht]; decide

def spaced (fs : List Str) : Str := (fs.map (fun f => 32 :: f)).flatten
theorem spaced_cons (f : Str) (r : List Str) : spaced (f :: r) = 32 :: (f ++ spaced r) := by simp [spaced]
theorem spaced_head (fs : List Str) : spaced fs = [] ∨ (spaced fs).head? = some 32 := by
  cases fs with
  | nil => exact Or.inl rfl
  | cons f r => rw [spaced_cons]; exact Or.inr rfl
theorem fields_spaced : ∀ {fs : List Str}, (∀ f ∈ fs, Atom f) → fields (spaced fs) = some fs
  | [], _ => rfl
  | f :: r, h => by
    rw [spaced_cons, fields_space, fields_atom (h f (by simp)) (spaced_head r), fields_spaced (fun x hx => h x (List.mem_cons_of_mem _ hx))]
    rfl
theorem fields_first {f : Str} {r : List Str} (hf : Atom f) (h : ∀ x ∈ r, Atom x) : fields (f ++ spaced r) = some (f :: r) := by
  rw [fields_atom hf (spaced_head r), fields_spaced h]; rfl
theorem clean_spaced : ∀ {fs : List Str}, (∀ f ∈ fs, Clean f) → Clean (spaced fs)
  | [], _ => clean_nil
  | f :: r, h => by
    have := (clean_one (c := 32) (by decide) (by decide)).append ((h f (by simp)).append (clean_spaced (fun x hx => h x (List.mem_cons_of_mem _ hx))))
    rw [spaced_cons]
    exact this

/-- What fields are. -/
theorem fieldsN_atoms : ∀ (n : Nat) (s : Str) (fs : List Str), fieldsN n s = some fs → ∀ f ∈ fs, Atom f := by
  intro n
  induction n with
  | zero =>
    intro s fs h
    match s with
    | [] => simp [fieldsN] at h; subst h; simp
    | _ :: _ => simp [fieldsN] at h
  | succ n ih =>
    intro s fs h
    match s with
    | [] => simp [fieldsN] at h; subst h; simp
    | c :: r =>
      simp only [fieldsN] at h
      split at h
      · exact ih _ _ h
      · rename_i hc1
        split at h
        · split at h
          · cases h
          · split at h
            · rename_i t _ _
              cases e : fieldsN n t with
              | none => rw [e] at h; cases h
              | some gs =>
                rw [e] at h
                simp at h
                subst h
                intro f hf
                rcases List.mem_cons.1 hf with rfl | hf
                · refine atom_quoted fun hm => ?_
                  have := List.all_eq_true.1 (List.all_takeWhile (p := (· != 34)) (l := r)) _ hm
                  simp at this
                · exact ih _ _ e f hf
            · cases h
        · rename_i hc2
          split at h
          · cases h
          · cases e : fieldsN n (r.dropWhile (fun x => !isSep x)) with
            | none => rw [e] at h; cases h
            | some gs =>
              rw [e] at h
              simp at h
              subst h
              intro f hf
              rcases List.mem_cons.1 hf with rfl | hf
              · have key : ∀ x : UInt8, isSep x = true → x ∉ r.takeWhile (fun x => !isSep x) := fun x hx hm => by
                  have := List.all_eq_true.1 (List.all_takeWhile (p := fun x => !isSep x) (l := r)) _ hm
                  rw [hx] at this
                  cases this
                refine atom_plain (by simp) ?_ ?_
                · intro hm
                  rcases List.mem_cons.1 hm with h3 | h3
                  · exact hc1 h3.symm
                  · exact key 32 (by decide) h3
                · intro hm
                  rcases List.mem_cons.1 hm with h3 | h3
                  · exact hc2 h3.symm
                  · exact key 34 (by decide) h3
              · exact ih _ _ e f hf
theorem fields_atoms {s : Str} {fs : List Str} (h : fields s = some fs) : ∀ f ∈ fs, Atom f := fieldsN_atoms _ _ _ h
/-- Fields with spaces behind each are read again. -/
theorem fields_again {fs : List Str} (h : ∀ f ∈ fs, Atom f) : fields ((fs.map (fun f => f ++ [32, 32])).flatten) = some fs := by
  induction fs with
  | nil => rfl
  | cons f r ih =>
    have e : ((f :: r).map (fun f => f ++ [32, 32])).flatten = f ++ (32 :: 32 :: (r.map (fun f => f ++ [32, 32])).flatten) := by simp
    rw [e, fields_atom (h f (by simp)) (Or.inr rfl), fields_space, fields_space, ih (fun x hx => h x (List.mem_cons_of_mem _ hx))]
    rfl
theorem atom_quotes {f : Str} (h : Atom f) : (f.head? = some 34 ∧ f.count 34 = 2 ∧ f.getLast? = some 34) ∨ (f.head? ≠ some 34 ∧ f.count 34 = 0 ∧ f ≠ []) := by
  rcases h with ⟨t, rfl, ht⟩ | ⟨hf, _, h2⟩
  · refine Or.inl ⟨rfl, ?_, ?_⟩
    · rw [List.count_cons, List.count_append, List.count_eq_zero.2 ht]; decide
    · rw [last_cons (by simp), last_append (by simp)]; rfl
  · exact Or.inr ⟨fun e => h2 (List.mem_of_head? e), List.count_eq_zero.2 h2, hf⟩
end Go.Proofs.Ytaobfemjpnfliab.Z

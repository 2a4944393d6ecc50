/- Lines and master files as plain functions: what the functions of chapter 3 compute, and that written lines are read. Lines and master files as plain functions, continued: data, lines, files, and that what is written is read. Master files as plain functions, continued: what is written is read, empty lines are nothing, and what the laws of chapter 3 ask. How the program divides a line into fields, as plain functions. -/
import Derived.Test.YtgglakonkphbgaaMa
import Derived.Lib.SlTrimSet
namespace Go.Proofs.Ytgglakonkphbgaa.Z

/-! ### comments -/

def strip : Bool → Str → Str
  | _, [] => []
  | q, c :: r => if c = 34 then c :: strip (!q) r else if c = 59 ∧ q = false then [] else c :: strip q r
/-- A text that a comment cannot begin in, with as many quotes as pairs. -/
def Clean (f : Str) : Prop := ∀ rest, strip false (f ++ rest) = f ++ strip false rest
theorem clean_nil : Clean [] := fun _ => rfl
theorem Clean.append {a b : Str} (ha : Clean a) (hb : Clean b) : Clean (a ++ b) := fun rest => by
  rw [List.append_assoc, ha, hb, List.append_assoc]
theorem clean_one {c : UInt8} (h1 : c ≠ 34) (h2 : c ≠ 59) : Clean [c] := fun rest => by simp [strip, h1, h2]
theorem clean_plain {f : Str} (h1 : (34 : UInt8) ∉ f) (h2 : (59 : UInt8) ∉ f) : Clean f := by
  induction f with
  | nil => exact clean_nil
  | cons c r ih =>
    have := (clean_one (c := c) (fun e => h1 (by rw [e]; simp)) (fun e => h2 (by rw [e]; simp))).append (ih (fun e => h1 (List.mem_cons_of_mem _ e)) (fun e => h2 (List.mem_cons_of_mem _ e)))
    exact this
theorem strip_in {t : Str} (h : (34 : UInt8) ∉ t) (rest : Str) : strip true (t ++ rest) = t ++ strip true rest := by
  induction t with
  | nil => rfl
  | cons c r ih =>
    have hc : c ≠ 34 := fun e => h (by rw [e]; simp)
    simp only [List.cons_append, strip]
    rw [if_neg hc, if_neg (by simp), ih (fun e => h (List.mem_cons_of_mem _ e))]
theorem clean_quoted {t : Str} (h : (34 : UInt8) ∉ t) : Clean (34 :: (t ++ [34])) := fun rest => by
  have e : (34 :: (t ++ [34])) ++ rest = 34 :: (t ++ 34 :: rest) := by simp
  rw [e]
  simp only [strip, if_pos]
  rw [show (!false) = true from rfl, strip_in h]
  simp [strip]
theorem Clean.self {f : Str} (h : Clean f) : strip false f = f := by
  have := h []
  simpa [strip] using this
theorem strip_idem (q : Bool) (s : Str) : strip q (strip q s) = strip q s := by
  induction s generalizing q with
  | nil => rfl
  | cons c r ih =>
    simp only [strip]
    split
    · rename_i h; simp only [strip, if_pos h]; rw [ih]
    · rename_i h
      split
      · rfl
      · rename_i h2; simp only [strip, if_neg h, if_neg h2]; rw [ih]
theorem strip_prefix (q : Bool) (s : Str) : strip q s <+: s := by
  induction s generalizing q with
  | nil => exact List.prefix_refl _
  | cons c r ih =>
    simp only [strip]
    split
    · exact List.cons_prefix_cons.2 ⟨rfl, ih _⟩
    · split
      · exact List.nil_prefix
      · exact List.cons_prefix_cons.2 ⟨rfl, ih _⟩

/-! ### fields -/

def isSep (c : UInt8) : Bool := c == 32 || c == 34
def fieldsN : Nat → Str → Option (List Str)
  | _, [] => some []
  | 0, _ :: _ => none
  | n + 1, c :: r =>
    if c = 32 then fieldsN n r
    else if c = 34 then
      match r.dropWhile (· != 34) with
      | [] => none
      | _ :: t => if t = [] ∨ t.head? = some 32 then (fieldsN n t).map ((34 :: (r.takeWhile (· != 34) ++ [34])) :: ·) else none
    else if (r.dropWhile (fun x => !isSep x)).head? = some 34 then none
    else (fieldsN n (r.dropWhile (fun x => !isSep x))).map ((c :: r.takeWhile (fun x => !isSep x)) :: ·)
def fields (s : Str) : Option (List Str) := fieldsN s.length s

theorem dropWhile_length (p : UInt8 → Bool) (l : Str) : (l.dropWhile p).length ≤ l.length := by
  induction l with
  | nil => exact Nat.le_refl _
  | cons a r ih => simp only [List.dropWhile]; split <;> simp <;> omega
theorem fieldsN_enough : ∀ (n m : Nat) (s : Str), s.length ≤ n → s.length ≤ m → fieldsN n s = fieldsN m s := by
  intro n
  induction n with
  | zero =>
    intro m s hn _
    have : s = [] := List.length_eq_zero_iff.1 (by omega)
    subst this
    cases m <;> rfl
  | succ n ih =>
    intro m s hn hm
    match s, m with
    | [], m => cases m <;> rfl
    | c :: r, 0 => simp at hm
    | c :: r, m + 1 =>
      have h1 : r.length ≤ n := by simpa using hn
      have h2 : r.length ≤ m := by simpa using hm
      have hd := dropWhile_length (fun x => !isSep x) r
      have hd2 := dropWhile_length (· != 34) r
      simp only [fieldsN]
      rw [ih m r h1 h2, ih m (r.dropWhile (fun x => !isSep x)) (by omega) (by omega)]
      split
      · rfl
      · split
        · split
          · rfl
          · rename_i x t heq
            rw [heq] at hd2
            have hl : t.length + 1 ≤ r.length := by simpa using hd2
            rw [ih m t (by omega) (by omega)]
        · rfl
theorem fields_len {n : Nat} {s : Str} (h : s.length ≤ n) : fieldsN n s = fields s := fieldsN_enough _ _ _ h (Nat.le_refl _)
theorem fields_nil : fields [] = some [] := rfl
theorem fields_space (r : Str) : fields (32 :: r) = fields r := by
  unfold fields
  simp only [List.length_cons, fieldsN, if_pos]

/-- What is one field, whatever is beside it. -/
def Atom (f : Str) : Prop := (∃ t, f = 34 :: (t ++ [34]) ∧ (34 : UInt8) ∉ t) ∨ (f ≠ [] ∧ (32 : UInt8) ∉ f ∧ (34 : UInt8) ∉ f)
theorem atom_quoted {t : Str} (h : (34 : UInt8) ∉ t) : Atom (34 :: (t ++ [34])) := Or.inl ⟨t, rfl, h⟩
theorem atom_plain {f : Str} (h : f ≠ []) (h1 : (32 : UInt8) ∉ f) (h2 : (34 : UInt8) ∉ f) : Atom f := Or.inr ⟨h, h1, h2⟩
theorem Atom.ne {f : Str} (h : Atom f) : f ≠ [] := by
  rcases h with ⟨t, rfl, _⟩ | ⟨h, _⟩
  · simp
  · exact h
theorem Atom.head {f : Str} (h : Atom f) : f.head? ≠ some 32 := by
  rcases h with ⟨t, rfl, _⟩ | ⟨_, h, _⟩
  · simp
  · exact fun e => h (List.mem_of_head? e)

theorem span_at {p : UInt8 → Bool} {a : Str} {b : Str} (h : ∀ x ∈ a, p x = true) (hb : b = [] ∨ ∃ c r, b = c :: r ∧ p c = false) : (a ++ b).takeWhile p = a ∧ (a ++ b).dropWhile p = b := by
  rw [List.takeWhile_append_of_pos h, List.dropWhile_append_of_pos h]
  rcases hb with rfl | ⟨c, r, rfl, hc⟩
  · simp
  · simp [List.takeWhile, List.dropWhile, hc]
theorem fields_atom {f t : Str} (h : Atom f) (ht : t = [] ∨ t.head? = some 32) : fields (f ++ t) = (fields t).map (f :: ·) := by
  rcases h with ⟨u, rfl, hu⟩ | ⟨hf, h1, h2⟩
  · have e : (34 :: (u ++ [34])) ++ t = 34 :: (u ++ 34 :: t) := by simp
    have hs := span_at (p := (· != 34)) (a := u) (b := 34 :: t) (fun x hx => by
      have : x ≠ 34 := fun e => hu (e ▸ hx)
      simpa using this) (Or.inr ⟨34, t, rfl, by decide⟩)
    rw [e]
    unfold fields
    simp only [List.length_cons, fieldsN]
    rw [if_neg (by decide), if_pos trivial, hs.1, hs.2]
    simp only
    rw [if_pos ht, fields_len (s := t) (by simp; omega)]
    rfl
  · match f, hf with
    | c :: r, _ =>
      have hc1 : c ≠ 32 := fun e => h1 (by rw [e]; simp)
      have hc2 : c ≠ 34 := fun e => h2 (by rw [e]; simp)
      have hs := span_at (p := fun x => !isSep x) (a := r) (b := t) (fun x hx => by
        have e1 : x ≠ 32 := fun e => h1 (by rw [← e]; exact List.mem_cons_of_mem _ hx)
        have e2 : x ≠ 34 := fun e => h2 (by rw [← e]; exact List.mem_cons_of_mem _ hx)
        simp [isSep, e1, e2]) (by
        rcases ht with rfl | ht
        · exact Or.inl rfl
        · match t, ht with
          | x :: y, hx =>
            simp at hx
            subst hx
            exact Or.inr ⟨32, y, rfl, by decide⟩)
      rw [List.cons_append]
      unfold fields
      simp only [List.length_cons, fieldsN]
      rw [if_neg hc1, if_neg hc2, hs.1, hs.2, if_neg, fields_len (s := t) (by simp)]
      · rfl
      · rcases ht with rfl | ht
        · simp
        · rw [ht]; decide

def spaced (fs : List Str) : Str := (fs.map (fun f => 32 :: f)).flatten
theorem spaced_cons (f : Str) (r : List Str) : spaced (f :: r) = 32 :: (f ++ spaced r) := by simp [spaced]
theorem spaced_head (fs : List Str) : spaced fs = [] ∨ (spaced fs).head? = some 32 := by
  cases fs with
  | nil => exact Or.inl rfl
  | cons f r => rw [spaced_cons]; exact Or.inr rfl
theorem fields_spaced : ∀ {fs : List Str}, (∀ f ∈ fs, Atom f) → fields (spaced fs) = some fs
  | [], _ => rfl
  | f :: r, h => by
    rw [spaced_cons, fields_space, fields_atom (h f (by simp)) (spaced_head r), fields_spaced (fun x hx => h x (List.mem_cons_of_mem _ hx))]
    rfl
theorem fields_first {f : Str} {r : List Str} (hf : Atom f) (h : ∀ x ∈ r, Atom x) : fields (f ++ spaced r) = some (f :: r) := by
  rw [fields_atom hf (spaced_head r), fields_spaced h]; rfl
theorem clean_spaced : ∀ {fs : List Str}, (∀ f ∈ fs, Clean f) → Clean (spaced fs)
  | [], _ => clean_nil
  | f :: r, h => by
    have := (clean_one (c := 32) (by decide) (by decide)).append ((h f (by simp)).append (clean_spaced (fun x hx => h x (List.mem_cons_of_mem _ hx))))
    rw [spaced_cons]
    exact this

/-- What fields are. -/
theorem fieldsN_atoms : ∀ (n : Nat) (s : Str) (fs : List Str), fieldsN n s = some fs → ∀ f ∈ fs, Atom f := by
  intro n
  induction n with
  | zero =>
    intro s fs h
    match s with
    | [] => simp [fieldsN] at h; subst h; simp
    | _ :: _ => simp [fieldsN] at h
  | succ n ih =>
    intro s fs h
    match s with
    | [] => simp [fieldsN] at h; subst h; simp
    | c :: r =>
      simp only [fieldsN] at h
      split at h
      · exact ih _ _ h
      · rename_i hc1
        split at h
        · split at h
          · cases h
          · split at h
            · rename_i t _ _
              cases e : fieldsN n t with
              | none => rw [e] at h; cases h
              | some gs =>
                rw [e] at h
                simp at h
                subst h
                intro f hf
                rcases List.mem_cons.1 hf with rfl | hf
                · refine atom_quoted fun hm => ?_
                  have := List.all_eq_true.1 (List.all_takeWhile (p := (· != 34)) (l := r)) _ hm
                  simp at this
                · exact ih _ _ e f hf
            · cases h
        · rename_i hc2
          split at h
          · cases h
          · cases e : fieldsN n (r.dropWhile (fun x => !isSep x)) with
            | none => rw [e] at h; cases h
            | some gs =>
              rw [e] at h
              simp at h
              subst h
              intro f hf
              rcases List.mem_cons.1 hf with rfl | hf
              · have key : ∀ x : UInt8, isSep x = true → x ∉ r.takeWhile (fun x => !isSep x) := fun x hx hm => by
                  have := List.all_eq_true.1 (List.all_takeWhile (p := fun x => !isSep x) (l := r)) _ hm
                  rw [hx] at this
                  cases this
                refine atom_plain (by simp) ?_ ?_
                · intro hm
                  rcases List.mem_cons.1 hm with h3 | h3
                  · exact hc1 h3.symm
                  · exact key 32 (by decide) h3
                · intro hm
                  rcases List.mem_cons.1 hm with h3 | h3
                  · exact hc2 h3.symm
                  · exact key 34 (by decide) h3
              · exact ih _ _ e f hf
theorem fields_atoms {s : Str} {fs : List Str} (h : fields s = some fs) : ∀ f ∈ fs, Atom f := fieldsN_atoms _ _ _ h
/-- Fields with spaces behind each are read again. -/
theorem fields_again {fs : List Str} (h : ∀ f ∈ fs, Atom f) : fields ((fs.map (fun f => f ++ [32, 32])).flatten) = some fs := by
  induction fs with
  | nil => rfl
  | cons f r ih =>
    have e : ((f :: r).map (fun f => f ++ [32, 32])).flatten = f ++ (32 :: 32 :: (r.map (fun f => f ++ [32, 32])).flatten) := by simp
    rw [e, fields_atom (h f (by simp)) (Or.inr rfl), fields_space, fields_space, ih (fun x hx => h x (List.mem_cons_of_mem _ hx))]
    rfl
theorem atom_quotes {f : Str} (h : Atom f) : (f.head? = some 34 ∧ f.count 34 = 2 ∧ f.getLast? = some 34) ∨ (f.head? ≠ some 34 ∧ f.count 34 = 0 ∧ f ≠ []) := by
  rcases h with ⟨t, rfl, ht⟩ | ⟨hf, _, h2⟩
  · refine Or.inl ⟨rfl, ?_, ?_⟩
    · rw [List.count_cons, List.count_append, List.count_eq_zero.2 ht]; decide
    · rw [last_cons (by simp), last_append (by simp)]; rfl
  · exact Or.inr ⟨fun e => h2 (List.mem_of_head? e), List.count_eq_zero.2 h2, hf⟩
end Go.Proofs.Ytgglakonkphbgaa.Z

namespace Go.Proofs.Ytgglakonkphbgaa.Z

/-! ### reading -/

def nums3 (fs : List Str) : Option (List Int) := if fs.length < 6 then fs.mapM num else none
/-- The text between two quotes. -/
def unquote (f : Str) : Option Str := if 2 ≤ f.length ∧ f.head? = some 34 ∧ f.getLast? = some 34 then some ((f.drop 1).take (f.length - 2)) else none
theorem unquote_quoted (t : Str) : unquote (34 :: (t ++ [34])) = some t := by
  unfold unquote
  rw [if_pos]
  · simp
  · refine ⟨by simp, by simp, ?_⟩
    rw [← List.cons_append, List.getLast?_append]
    simp
def dataOf (k : Int) (fs : List Str) (origin : Str) : Option (List Int × Str × Str) :=
  if k = 1 then (if fs.length = 1 then (numbers 46 (fs.headD [])).map (fun n => (n, [], [])) else none)
  else if k = 16 then (if fs.length = 1 then (unquote (fs.headD [])).map (fun x => ([], [], x)) else none)
  else if k = 15 then
    match fs with
    | [a, b] => (nums3 [a]).bind fun n => (readName b origin).map fun t => (n, t, [])
    | _ => none
  else
    match fs with
    | [] => none
    | a :: r => (readName a origin).bind fun t => (nums3 r).map fun n => (n, t, [])
def readData (name : Str) (ttl k : Int) (fs : List Str) (origin : Str) : Option Rec :=
  if fs ≠ [] ∧ valid origin = true then
    match dataOf k fs origin with
    | some (n, t, x) => if recValid ⟨name, ttl, k, n, t, x⟩ then some ⟨name, ttl, k, n, t, x⟩ else none
    | none => none
  else none

structure St where
  origin : Str
  ttl : Int
  owner : Str
deriving DecidableEq
def stOk (s : St) : Bool := valid s.origin && decide (-1 ≤ s.ttl) && decide (s.ttl ≤ 100000) && (decide (s.owner = []) || valid s.owner)
def originWord : Str := [36, 79, 82, 73, 71, 73, 78]
def ttlWord : Str := [36, 84, 84, 76]
def inWord : Str := [73, 78]
def dollar (s : St) (fs : List Str) : Option St :=
  match fs with
  | [a, b] =>
    if a = originWord then (readName b s.origin).map (fun n => { s with origin := n })
    else if a = ttlWord then (num b).bind (fun n => if 0 ≤ n ∧ n ≤ 100000 then some { s with ttl := n } else none)
    else none
  | _ => none
def takeTtl (t : Int) (fs : List Str) : Int × List Str :=
  match fs with
  | [] => (t, [])
  | f :: r => match num f with
    | some n => (n, r)
    | none => (t, f :: r)
def takeIn (fs : List Str) : List Str :=
  match fs with
  | [] => []
  | f :: r => if f = inWord then r else f :: r
def record (s : St) (fs : List Str) : Option Rec :=
  match takeIn (takeTtl s.ttl fs).2 with
  | [] => none
  | f :: r => match kindOf f with
    | none => none
    | some k => readData s.owner (takeTtl s.ttl fs).1 k r s.origin
def readFields (s : St) (text : Str) (fs : List Str) : Option (St × Option Rec) :=
  match fs with
  | [] => some (s, none)
  | f :: r =>
    if text.head? = some 36 then (dollar s (f :: r)).map (fun s' => (s', none))
    else if text.head? = some 32 then (record s (f :: r)).map (fun x => (s, some x))
    else (readName f s.origin).bind fun o => (record { s with owner := o } r).map (fun x => ({ s with owner := o }, some x))
def readLine (s : St) (line : Str) : Option (St × Option Rec) :=
  if stOk s then (fields (strip false line)).bind (readFields s (strip false line)) else none
/-- The records of some lines, or the number of the first one that cannot be read. -/
def readLines : St → Nat → Nat → List Str → Except Nat (List Rec)
  | _, _, _, [] => .ok []
  | s, i, m, l :: r =>
    match readLine s l with
    | none => .error (i + 1)
    | some (s', none) => readLines s' (i + 1) m r
    | some (s', some x) => if 60 ≤ m then .error (i + 1) else (readLines s' (i + 1) (m + 1) r).map (x :: ·)
def startSt (origin : Str) : St := ⟨origin, -1, []⟩
def readMaster (text origin : Str) : Option (Except Nat (List Rec)) :=
  if text.length ≤ 4000 ∧ valid origin = true then some (readLines (startSt origin) 0 0 (pieces 10 text [])) else none

/-! ### writing -/

def short (s origin : Str) : Str := (shortName s origin).getD []
def dataFields (r : Rec) (origin : Str) : List Str :=
  if r.kind = 1 ∨ r.kind = 16 then [dataText r.kind r.nums r.target r.text]
  else if r.kind = 15 then [Lib.itoa (r.nums.headD 0), short r.target origin]
  else short r.target origin :: r.nums.map Lib.itoa
def lineFields (r : Rec) (origin : Str) : List Str := Lib.itoa r.ttl :: kindName r.kind :: dataFields r origin
def lineText (r : Rec) (origin owner : Str) : Str := (if r.name = owner then [] else short r.name origin) ++ spaced (lineFields r origin)
def writeLine (r : Rec) (origin owner : Str) : Option Str :=
  if recValid r && valid origin && (decide (owner = []) || valid owner) then some (lineText r origin owner) else none
def linesText : List Rec → Str → Str → Str
  | [], _, _ => []
  | r :: l, origin, owner => lineText r origin owner ++ 10 :: linesText l origin r.name
def masterText (l : List Rec) (origin : Str) : Str := originWord ++ 32 :: (origin ++ 10 :: linesText l origin [])
def writeMaster (l : List Rec) (origin : Str) : Option Str :=
  if valid origin && decide (l.length ≤ 60) && l.all recValid && decide ((masterText l origin).length ≤ 4000) then some (masterText l origin) else none

/-! ### the fields of a written line -/

theorem name_plain {s : Str} (h : valid s = true) {c : UInt8} (hc : okByte c = false) (h1 : c ≠ 46) (h2 : c ≠ 42) : c ∉ s := by
  intro hm
  rcases name_bytes h c hm with h3 | h3 | h3
  · rw [hc] at h3; cases h3
  · exact h1 h3
  · exact h2 h3
theorem short_spec {n o : Str} (hn : valid n = true) (ho : valid o = true) : shortName n o = some (short n o) ∧ readName (short n o) o = some n ∧ short n o ≠ [] ∧ (short n o).length ≤ 60 := by
  obtain ⟨x, h1, h2, h3, _, h5, _⟩ := readName_short hn ho
  have e : short n o = x := by unfold short; rw [h1]; rfl
  rw [e]
  exact ⟨h1, h2, h5, by have := (valid_len hn).2; omega⟩
theorem short_plain {n o : Str} (hn : valid n = true) (ho : valid o = true) {c : UInt8} (hc : okByte c = false) (h1 : c ≠ 46) (h2 : c ≠ 42) (h3 : c ≠ 64) : c ∉ short n o := by
  have hp := name_plain hn hc h1 h2
  unfold short
  rcases shortName_cases hn ho with ⟨_, h⟩ | ⟨_, _, h⟩ | ⟨_, _, _, p, e, _, _, h⟩
  · rw [h]; simpa using h3
  · rw [h]; exact hp
  · rw [h]; exact fun hm => hp (by rw [e]; simp [show c ∈ p from hm])
theorem short_atom {n o : Str} (hn : valid n = true) (ho : valid o = true) : Atom (short n o) :=
  atom_plain (short_spec hn ho).2.2.1 (short_plain hn ho (by decide) (by decide) (by decide) (by decide)) (short_plain hn ho (by decide) (by decide) (by decide) (by decide))
theorem short_clean {n o : Str} (hn : valid n = true) (ho : valid o = true) : Clean (short n o) :=
  clean_plain (short_plain hn ho (by decide) (by decide) (by decide) (by decide)) (short_plain hn ho (by decide) (by decide) (by decide) (by decide))
theorem itoa_atom {n : Int} (h : 0 ≤ n) : Atom (Lib.itoa n) := atom_plain (itoa_ne h) (itoa_noSign h (by decide)) (itoa_noSign h (by decide))
theorem itoa_clean {n : Int} (h : 0 ≤ n) : Clean (Lib.itoa n) := clean_plain (itoa_noSign h (by decide)) (itoa_noSign h (by decide))
theorem kindName_plain (k : Int) {c : UInt8} (h : ¬ (65 ≤ c ∧ c ≤ 90)) : c ∉ kindName k := fun hm => h (kindName_letters k c hm)
theorem kindName_atom {k : Int} (h : isKind k) : Atom (kindName k) := atom_plain (kindName_ne.2 h) (kindName_plain k (by decide)) (kindName_plain k (by decide))
theorem kindName_clean (k : Int) : Clean (kindName k) := clean_plain (kindName_plain k (by decide)) (kindName_plain k (by decide))
theorem between_plain {c d : UInt8} (hd : c ≠ d) : ∀ {ls : List Str}, (∀ l ∈ ls, c ∉ l) → c ∉ between d ls
  | [], _ => by simp [between]
  | [a], h => by simpa [between] using h a (by simp)
  | a :: b :: r, h => by
    rw [between]
    intro hm
    rcases List.mem_append.1 hm with h1 | h1
    · exact h a (by simp) h1
    · rcases List.mem_cons.1 h1 with h1 | h1
      · exact hd h1
      · exact between_plain hd (ls := b :: r) (fun l hl => h l (List.mem_cons_of_mem _ hl)) h1
theorem text_noQuote {s : Str} (h : okText s = true) : (34 : UInt8) ∉ s := by
  intro hm
  simp only [okText, Bool.and_eq_true, List.all_eq_true] at h
  have := h.2 34 hm
  revert this; decide

/-- The data of a valid record as fields. -/
theorem dataFields_spec {r : Rec} {o : Str} (h : recValid r = true) (ho : valid o = true) :
    (∀ f ∈ dataFields r o, Atom f ∧ Clean f) ∧ dataFields r o ≠ [] ∧ dataOf r.kind (dataFields r o) o = some (r.nums, r.target, r.text) := by
  obtain ⟨_, _, _, hk, hn, hr⟩ := recValid_iff.1 h
  have hl := okNums_length hn
  have hrg := okNums_range hn (lims_le _)
  obtain ⟨name, ttl, kind, nums, target, text⟩ := r
  dsimp only at hk hn hr hl hrg
  unfold dataFields
  dsimp only
  by_cases h1 : kind = 1
  · subst h1
    simp [okRest] at hr
    obtain ⟨⟨rfl, _⟩, rfl⟩ := hr
    simp [lims] at hl
    have hnn : nums ≠ [] := by intro e; subst e; simp at hl
    have hnb := numbers_between (c := 46) (by decide) hrg (by omega) hnn
    have hd : dataText 1 nums [] [] = between 46 (nums.map Lib.itoa) := by unfold dataText; rw [if_pos rfl]
    have hpl : ∀ c : UInt8, c ≠ 46 → digit c = false → c ∉ between 46 (nums.map Lib.itoa) := fun c hc hdg => between_plain hc (fun l hl => by
      obtain ⟨n, hn, rfl⟩ := List.mem_map.1 hl
      exact itoa_noSign (hrg n hn).1 hdg)
    rw [if_pos (Or.inl rfl), hd]
    refine ⟨fun f hf => ?_, by simp, ?_⟩
    · simp at hf
      subst hf
      refine ⟨atom_plain ?_ (hpl 32 (by decide) (by decide)) (hpl 34 (by decide) (by decide)), clean_plain (hpl 34 (by decide) (by decide)) (hpl 59 (by decide) (by decide))⟩
      intro e
      rw [e, show numbers 46 [] = none by decide] at hnb
      cases hnb
    · unfold dataOf
      rw [if_pos rfl, if_pos (by simp)]
      simp only [List.headD_cons]
      rw [hnb]; rfl
  · by_cases h16 : kind = 16
    · subst h16
      simp [okRest] at hr
      obtain ⟨rfl, ht⟩ := hr
      simp [lims] at hl
      subst hl
      have hd : dataText 16 [] [] text = 34 :: (text ++ [34]) := by unfold dataText; rw [if_neg (by decide), if_pos rfl]
      rw [if_pos (Or.inr rfl), hd]
      refine ⟨fun f hf => ?_, by simp, ?_⟩
      · simp only [List.mem_singleton] at hf
        subst hf
        exact ⟨atom_quoted (text_noQuote ht), clean_quoted (text_noQuote ht)⟩
      · unfold dataOf
        rw [if_neg (by decide), if_pos rfl, if_pos (by simp)]
        simp only [List.headD_cons]
        rw [unquote_quoted]; rfl
    · rcases okRest_target hr with ⟨p, _⟩ | ⟨_, ht, hx⟩
      · exact absurd p (by omega)
      · subst hx
        have hsp := short_spec ht ho
        have hsa := short_atom ht ho
        have hsc := short_clean ht ho
        rw [if_neg (by omega)]
        by_cases h15 : kind = 15
        · subst h15
          simp [lims] at hl
          obtain ⟨n0, rfl⟩ : ∃ n0, nums = [n0] := List.length_eq_one_iff.1 hl
          have h0 := hrg n0 (by simp)
          rw [if_pos rfl]
          refine ⟨fun f hf => ?_, by simp, ?_⟩
          · simp at hf
            rcases hf with rfl | rfl
            · exact ⟨itoa_atom h0.1, itoa_clean h0.1⟩
            · exact ⟨hsa, hsc⟩
          · unfold dataOf
            rw [if_neg (by decide), if_neg (by decide), if_pos rfl]
            simp only [List.headD_cons]
            have hm := mapM_num (ns := [n0]) hrg
            simp only [List.map_cons, List.map_nil] at hm
            unfold nums3
            rw [if_pos (by simp), hm, hsp.2.1]
            rfl
        · rw [if_neg h15]
          refine ⟨fun f hf => ?_, by simp, ?_⟩
          · rcases List.mem_cons.1 hf with rfl | hf
            · exact ⟨hsa, hsc⟩
            · obtain ⟨n, hn, rfl⟩ := List.mem_map.1 hf
              exact ⟨itoa_atom (hrg n hn).1, itoa_clean (hrg n hn).1⟩
          · have h5 : nums.length < 6 := by
              have := (valid_sizes h).2.1
              dsimp only at this
              omega
            unfold dataOf
            rw [if_neg h1, if_neg h16, if_neg h15]
            dsimp only
            unfold nums3
            rw [if_pos (by simpa using h5), mapM_num hrg, hsp.2.1]
            rfl
theorem readData_fields {r : Rec} {o : Str} (h : recValid r = true) (ho : valid o = true) : readData r.name r.ttl r.kind (dataFields r o) o = some r := by
  obtain ⟨_, h2, h3⟩ := dataFields_spec h ho
  unfold readData
  rw [if_pos ⟨h2, ho⟩, h3]
  dsimp only
  have e : (⟨r.name, r.ttl, r.kind, r.nums, r.target, r.text⟩ : Rec) = r := by cases r; rfl
  rw [e, if_pos h]
theorem readData_some {name : Str} {ttl k : Int} {fs : List Str} {o : Str} {r : Rec} (h : readData name ttl k fs o = some r) : recValid r = true ∧ r.name = name ∧ r.ttl = ttl ∧ r.kind = k ∧ valid o = true ∧ fs ≠ [] := by
  unfold readData at h
  split at h
  · rename_i hh
    split at h
    · split at h
      · rename_i hv
        injection h with h
        subst h
        exact ⟨hv, rfl, rfl, rfl, hh.2, hh.1⟩
      · cases h
    · cases h
  · cases h
theorem lineFields_spec {r : Rec} {o : Str} (h : recValid r = true) (ho : valid o = true) : ∀ f ∈ lineFields r o, Atom f ∧ Clean f := by
  obtain ⟨_, h2, _, hk, _, _⟩ := recValid_iff.1 h
  intro f hf
  unfold lineFields at hf
  rcases List.mem_cons.1 hf with rfl | hf
  · exact ⟨itoa_atom h2, itoa_clean h2⟩
  · rcases List.mem_cons.1 hf with rfl | hf
    · exact ⟨kindName_atom hk, kindName_clean _⟩
    · exact (dataFields_spec h ho).1 f hf
theorem kindName_notIn (k : Int) : kindName k ≠ inWord := by
  unfold kindName inWord
  repeat' split
  all_goals decide
theorem takeIn_kind (k : Int) (r : List Str) : takeIn (kindName k :: r) = kindName k :: r := by
  unfold takeIn
  dsimp only
  rw [if_neg (kindName_notIn k)]
theorem record_line {r : Rec} {o : Str} (h : recValid r = true) (ho : valid o = true) (t : Int) : record ⟨o, t, r.name⟩ (lineFields r o) = some r := by
  obtain ⟨_, h2, h3, hk, _, _⟩ := recValid_iff.1 h
  unfold record lineFields takeTtl
  dsimp only
  rw [num_itoa h2 (by omega)]
  dsimp only
  rw [takeIn_kind]
  dsimp only
  rw [kindName_kind (kindName_ne.2 hk)]
  exact readData_fields h ho

/-- A written line is read. -/
theorem readLine_line {r : Rec} {s : St} (h : recValid r = true) (hs : stOk s = true) : readLine s (lineText r s.origin s.owner) = some ({ s with owner := r.name }, some r) := by
  have ho : valid s.origin = true := by
    simp only [stOk, Bool.and_eq_true] at hs
    exact hs.1.1.1
  have hn := (recValid_iff.1 h).1
  have hf := lineFields_spec h ho
  have hfa : ∀ f ∈ lineFields r s.origin, Atom f := fun f x => (hf f x).1
  have hc := clean_spaced (fun f x => (hf f x).2)
  unfold readLine
  rw [if_pos hs]
  unfold lineText
  by_cases e : r.name = s.owner
  · rw [if_pos e, List.nil_append, hc.self, fields_spaced hfa]
    have hh : (spaced (lineFields r s.origin)).head? = some 32 := by unfold lineFields; rw [spaced_cons]; rfl
    have hrec := record_line h ho s.ttl
    rw [e] at hrec
    have e2 : (⟨s.origin, s.ttl, s.owner⟩ : St) = s := by cases s; rfl
    rw [e2] at hrec
    have e3 : ({ s with owner := r.name } : St) = s := by rw [e]
    rw [e3]
    rw [Option.bind_some]
    unfold lineFields at hrec hh ⊢
    unfold readFields
    dsimp only
    rw [hh, if_neg (by decide), if_pos rfl, hrec]
    rfl
  · rw [if_neg e, ((short_clean hn ho).append hc).self, fields_first (short_atom hn ho) hfa]
    have hne := (short_spec hn ho).2.2.1
    have hh : ∀ c : UInt8, c ∉ short r.name s.origin → (short r.name s.origin ++ spaced (lineFields r s.origin)).head? ≠ some c := fun c hc => by
      rw [head_snoc hne]
      exact fun e => hc (List.mem_of_head? e)
    rw [Option.bind_some]
    unfold readFields
    dsimp only
    rw [if_neg (hh 36 (short_plain hn ho (by decide) (by decide) (by decide) (by decide))), if_neg (hh 32 (short_plain hn ho (by decide) (by decide) (by decide) (by decide))), (short_spec hn ho).2.1]
    show (record { s with owner := r.name } (lineFields r s.origin)).map _ = _
    have hrec := record_line h ho s.ttl
    rw [show ({ s with owner := r.name } : St) = ⟨s.origin, s.ttl, r.name⟩ from rfl, hrec]
    rfl
theorem readLine_some {s s' : St} {line : Str} {x : Rec} (h : readLine s line = some (s', some x)) : recValid x = true := by
  unfold readLine at h
  split at h
  · cases e : fields (strip false line) with
    | none => rw [e] at h; cases h
    | some fs =>
      rw [e] at h
      have h' : readFields s (strip false line) fs = some (s', some x) := h
      have hrec : ∀ (t : St) (gs : List Str) (y : Rec), record t gs = some y → recValid y = true := fun t gs y hy => by
        unfold record at hy
        split at hy
        · cases hy
        · split at hy
          · cases hy
          · exact (readData_some hy).1
      unfold readFields at h'
      split at h'
      · simp at h'
      · split at h'
        · cases e2 : dollar s _ with
          | none => rw [e2] at h'; cases h'
          | some t => rw [e2] at h'; simp at h'
        · split at h'
          · rename_i f r _ _
            cases e2 : record s (f :: r) with
            | none => rw [e2] at h'; cases h'
            | some y => rw [e2] at h'; simp at h'; rw [← h'.2]; exact hrec _ _ _ e2
          · rename_i f r _ _
            cases e2 : readName f s.origin with
            | none => rw [e2] at h'; cases h'
            | some o =>
              rw [e2] at h'
              have h2 : (record { s with owner := o } r).map (fun x => (({ s with owner := o } : St), some x)) = some (s', some x) := h'
              cases e3 : record { s with owner := o } r with
              | none => rw [e3] at h2; cases h2
              | some y => rw [e3] at h2; simp at h2; rw [← h2.2]; exact hrec _ _ _ e3
  · cases h
end Go.Proofs.Ytgglakonkphbgaa.Z

namespace Go.Proofs.Ytgglakonkphbgaa.Z

theorem readName_full {n o : Str} (hn : valid n = true) (ho : valid o = true) : readName n o = some n := by
  have hl := valid_len hn
  have hat : n ≠ [64] := fun e => no_at hn (by rw [e]; simp)
  have hne : n ≠ [] := fun e => by subst e; simp at hl
  have hf : fullText n o = n := by
    unfold fullText
    rw [if_neg hat, if_pos (valid_last hn), lower_name hn]
  simp [readName, ho, hf, hn, hl.2, hne]

/-! ### no newline in a line -/

theorem okText_low {s : Str} (h : okText s = true) {c : UInt8} (hc : c < 32) : c ∉ s := by
  intro hm
  simp only [okText, Bool.and_eq_true, List.all_eq_true] at h
  have h2 := h.2 c hm
  simp only [okChar, Bool.and_eq_true, decide_eq_true_eq] at h2
  have h3 := h2.1.1.1
  rw [UInt8.le_iff_toNat_le] at h3
  rw [UInt8.lt_iff_toNat_lt] at hc
  omega
theorem dataFields_line {r : Rec} {o : Str} (h : recValid r = true) (ho : valid o = true) : ∀ f ∈ dataFields r o, (10 : UInt8) ∉ f := by
  obtain ⟨_, _, _, hk, hn, hr⟩ := recValid_iff.1 h
  have hrg := okNums_range hn (lims_le _)
  obtain ⟨name, ttl, kind, nums, target, text⟩ := r
  dsimp only at hk hn hr hrg
  have hsh : valid target = true → (10 : UInt8) ∉ short target o := fun ht => short_plain ht ho (by decide) (by decide) (by decide) (by decide)
  have hnum : ∀ n ∈ nums, (10 : UInt8) ∉ Lib.itoa n := fun n hn => itoa_noSign (hrg n hn).1 (by decide)
  have hhd : (10 : UInt8) ∉ Lib.itoa (nums.headD 0) := by
    cases nums with
    | nil => exact itoa_noSign (by decide) (by decide)
    | cons a b => exact hnum a (by simp)
  unfold dataFields
  dsimp only
  intro f hf
  by_cases h16 : kind = 1 ∨ kind = 16
  · rw [if_pos h16] at hf
    simp only [List.mem_singleton] at hf
    subst hf
    unfold okRest at hr
    rw [if_pos h16] at hr
    simp at hr
    unfold dataText
    rcases h16 with rfl | rfl
    · rw [if_pos rfl]
      exact between_plain (by decide) (fun l hl => by
        obtain ⟨n, hn, rfl⟩ := List.mem_map.1 hl
        exact hnum n hn)
    · rw [if_neg (by decide), if_pos rfl]
      have := okText_low hr.1.2 (c := 10) (by decide)
      simpa using this
  · rw [if_neg h16] at hf
    unfold okRest at hr
    rw [if_neg h16] at hr
    simp at hr
    split at hf
    · simp at hf
      rcases hf with rfl | rfl
      · simpa using hhd
      · exact hsh hr.1
    · rcases List.mem_cons.1 hf with rfl | hf
      · exact hsh hr.1
      · obtain ⟨n, hn, rfl⟩ := List.mem_map.1 hf
        exact hnum n hn
theorem spaced_line : ∀ {fs : List Str}, (∀ f ∈ fs, (10 : UInt8) ∉ f) → (10 : UInt8) ∉ spaced fs
  | [], _ => by simp [spaced]
  | f :: r, h => by
    rw [spaced_cons]
    have h1 := h f (by simp)
    have h2 := spaced_line (fs := r) (fun x hx => h x (List.mem_cons_of_mem _ hx))
    intro hm
    rcases List.mem_cons.1 hm with h3 | h3
    · revert h3; decide
    · rcases List.mem_append.1 h3 with h3 | h3
      · exact h1 h3
      · exact h2 h3
theorem lineText_line {r : Rec} {o : Str} (owner : Str) (h : recValid r = true) (ho : valid o = true) : (10 : UInt8) ∉ lineText r o owner := by
  obtain ⟨h1, h2, _, _, _, _⟩ := recValid_iff.1 h
  have hsp : (10 : UInt8) ∉ spaced (lineFields r o) := spaced_line (fun f hf => by
    unfold lineFields at hf
    rcases List.mem_cons.1 hf with rfl | hf
    · exact itoa_noSign h2 (by decide)
    · rcases List.mem_cons.1 hf with rfl | hf
      · exact kindName_plain _ (by decide)
      · exact dataFields_line h ho f hf)
  unfold lineText
  intro hm
  rcases List.mem_append.1 hm with h3 | h3
  · split at h3
    · cases h3
    · exact short_plain h1 ho (by decide) (by decide) (by decide) (by decide) h3
  · exact hsp h3

/-! ### files -/

/-- The records, if all lines can be read. -/
def linesOk (s : St) (m : Nat) (ls : List Str) : Option (List Rec) :=
  match readLines s 0 m ls with
  | .ok l => some l
  | .error _ => none
theorem readLines_shift : ∀ (ls : List Str) (s : St) (i j m : Nat),
    (match readLines s i m ls with | .ok l => some l | .error _ => none) = (match readLines s j m ls with | .ok l => some l | .error _ => none)
  | [], _, _, _, _ => rfl
  | l :: r, s, i, j, m => by
    simp only [readLines]
    cases readLine s l with
    | none => rfl
    | some p =>
      obtain ⟨s', x⟩ := p
      cases x with
      | none => exact readLines_shift r s' (i + 1) (j + 1) m
      | some x =>
        dsimp only
        by_cases h : 60 ≤ m
        · rw [if_pos h, if_pos h]
        · rw [if_neg h, if_neg h]
          have := readLines_shift r s' (i + 1) (j + 1) (m + 1)
          cases h1 : readLines s' (i + 1) (m + 1) r with
          | ok a => 
            cases h2 : readLines s' (j + 1) (m + 1) r with
            | ok b => rw [h1, h2] at this; simp at this; rw [this]
            | error b => rw [h1, h2] at this; simp at this
          | error a =>
            cases h2 : readLines s' (j + 1) (m + 1) r with
            | ok b => rw [h1, h2] at this; simp at this
            | error b => rfl
theorem linesOk_nil (s : St) (m : Nat) : linesOk s m [] = some [] := rfl
theorem linesOk_bad {s : St} {m : Nat} {l : Str} {r : List Str} (h : readLine s l = none) : linesOk s m (l :: r) = none := by
  unfold linesOk; simp only [readLines, h]
theorem linesOk_none {s s' : St} {m : Nat} {l : Str} {r : List Str} (h : readLine s l = some (s', none)) : linesOk s m (l :: r) = linesOk s' m r := by
  unfold linesOk
  simp only [readLines, h]
  exact readLines_shift r s' 1 0 m
theorem linesOk_some {s s' : St} {m : Nat} {l : Str} {r : List Str} {x : Rec} (h : readLine s l = some (s', some x)) : linesOk s m (l :: r) = if 60 ≤ m then none else (linesOk s' (m + 1) r).map (x :: ·) := by
  unfold linesOk
  simp only [readLines, h]
  by_cases h6 : 60 ≤ m
  · rw [if_pos h6, if_pos h6]
  · rw [if_neg h6, if_neg h6]
    have := readLines_shift r s' 1 0 (m + 1)
    rw [← this]
    rw [show 0 + 1 = 1 from rfl]
    cases readLines s' 1 (m + 1) r <;> rfl
theorem readLines_ok {s : St} {i m : Nat} {ls : List Str} {l : List Rec} : readLines s i m ls = .ok l ↔ linesOk s m ls = some l := by
  unfold linesOk
  have := readLines_shift ls s i 0 m
  cases h1 : readLines s i m ls with
  | ok a =>
    rw [h1] at this
    rw [← this]
    simp
  | error a =>
    rw [h1] at this
    rw [← this]
    simp
theorem linesOk_valid : ∀ (ls : List Str) (s : St) (m : Nat) (l : List Rec), linesOk s m ls = some l → (∀ x ∈ l, recValid x = true) ∧ (m ≤ 60 → m + l.length ≤ 60)
  | [], s, m, l, h => by
    rw [linesOk_nil] at h
    injection h with h
    subst h
    exact ⟨by simp, fun h => h⟩
  | t :: r, s, m, l, h => by
    cases e : readLine s t with
    | none => rw [linesOk_bad e] at h; cases h
    | some p =>
      obtain ⟨s', x⟩ := p
      cases x with
      | none => rw [linesOk_none e] at h; exact linesOk_valid r s' m l h
      | some x =>
        rw [linesOk_some e] at h
        split at h
        · cases h
        · cases e2 : linesOk s' (m + 1) r with
          | none => rw [e2] at h; cases h
          | some a =>
            rw [e2] at h
            simp at h
            subst h
            obtain ⟨h1, h2⟩ := linesOk_valid r s' (m + 1) a e2
            refine ⟨fun y hy => ?_, fun _ => by have := h2 (by omega); simp; omega⟩
            rcases List.mem_cons.1 hy with rfl | hy
            · exact readLine_some e
            · exact h1 y hy

/-- A line that is nothing. -/
def Blank (l : Str) : Prop := fields (strip false l) = some []
theorem readLine_blank {s : St} {l : Str} (hs : stOk s = true) (h : Blank l) : readLine s l = some (s, none) := by
  unfold readLine
  rw [if_pos hs, h]
  rfl
theorem blank_nil : Blank [] := rfl
theorem blank_comment (t : Str) : Blank (59 :: t) := by
  unfold Blank
  simp [strip, fields, fieldsN]
theorem blank_spaces : Blank [32, 32] := by unfold Blank; decide

theorem dollar_some {s s' : St} {fs : List Str} (hs : stOk s = true) (h : dollar s fs = some s') : stOk s' = true ∧ s'.owner = s.owner := by
  simp only [stOk, Bool.and_eq_true, decide_eq_true_eq] at hs ⊢
  unfold dollar at h
  split at h
  · split at h
    · rename_i a b _
      cases e : readName b s.origin with
      | none => rw [e] at h; cases h
      | some n =>
        rw [e] at h
        simp at h
        subst h
        exact ⟨⟨⟨⟨(readName_some e).2.2.2.2, hs.1.1.2⟩, hs.1.2⟩, hs.2⟩, rfl⟩
    · split at h
      · rename_i a b _ _
        cases e : num b with
        | none => rw [e] at h; cases h
        | some n =>
          rw [e] at h
          simp at h
          obtain ⟨h1, h2⟩ := h
          subst h2
          refine ⟨⟨⟨⟨hs.1.1.1, ?_⟩, ?_⟩, hs.2⟩, rfl⟩
          · dsimp only; omega
          · dsimp only; omega
      · cases h
  · cases h
theorem record_some {s : St} {fs : List Str} {x : Rec} (h : record s fs = some x) : recValid x = true ∧ x.name = s.owner := by
  unfold record at h
  split at h
  · cases h
  · split at h
    · cases h
    · have := readData_some h
      exact ⟨this.1, this.2.1⟩
/-- The state behind a line is valid. -/
theorem readLine_state {s s' : St} {line : Str} {x : Option Rec} (h : readLine s line = some (s', x)) : stOk s = true ∧ stOk s' = true ∧ (x = none → s'.owner = s.owner) ∧ (x ≠ none → s'.origin = s.origin ∧ s'.ttl = s.ttl) := by
  unfold readLine at h
  split at h
  · rename_i hs
    refine ⟨hs, ?_⟩
    cases e : fields (strip false line) with
    | none => rw [e] at h; cases h
    | some fs =>
      rw [e, Option.bind_some] at h
      unfold readFields at h
      split at h
      · simp at h
        obtain ⟨rfl, rfl⟩ := h
        exact ⟨hs, fun _ => rfl, fun h => absurd rfl h⟩
      · split at h
        · rename_i f r _
          cases e2 : dollar s (f :: r) with
          | none => rw [e2] at h; cases h
          | some t =>
            rw [e2] at h
            simp at h
            obtain ⟨rfl, rfl⟩ := h
            obtain ⟨h1, h2⟩ := dollar_some hs e2
            exact ⟨h1, fun _ => h2, fun h => absurd rfl h⟩
        · split at h
          · rename_i f r _ _
            cases e2 : record s (f :: r) with
            | none => rw [e2] at h; cases h
            | some y =>
              rw [e2] at h
              simp at h
              obtain ⟨rfl, rfl⟩ := h
              exact ⟨hs, (fun h => by cases h), fun _ => ⟨rfl, rfl⟩⟩
          · rename_i f r _ _
            cases e2 : readName f s.origin with
            | none => rw [e2] at h; cases h
            | some o =>
              rw [e2, Option.bind_some] at h
              cases e3 : record { s with owner := o } r with
              | none => rw [e3] at h; cases h
              | some y =>
                rw [e3] at h
                simp at h
                obtain ⟨rfl, rfl⟩ := h
                refine ⟨?_, (fun h => by cases h), fun _ => ⟨rfl, rfl⟩⟩
                simp only [stOk, Bool.and_eq_true, decide_eq_true_eq] at hs ⊢
                exact ⟨hs.1, by simp [(readName_some e2).2.2.2.2]⟩
  · cases h

theorem linesOk_blankEnd : ∀ (ls : List Str) (s : St) (m : Nat) (bl : List Str), stOk s = true → (∀ b ∈ bl, Blank b) → linesOk s m (ls ++ bl) = linesOk s m ls
  | [], s, m, bl, hs, hb => by
    rw [List.nil_append, linesOk_nil]
    induction bl with
    | nil => rfl
    | cons b r ih =>
      rw [linesOk_none (readLine_blank hs (hb b (by simp)))]
      exact ih (fun x hx => hb x (List.mem_cons_of_mem _ hx))
  | t :: r, s, m, bl, hs, hb => by
    rw [List.cons_append]
    cases e : readLine s t with
    | none => rw [linesOk_bad e, linesOk_bad e]
    | some p =>
      obtain ⟨s', x⟩ := p
      have hs' := (readLine_state e).2.1
      cases x with
      | none => rw [linesOk_none e, linesOk_none e]; exact linesOk_blankEnd r s' m bl hs' hb
      | some x => rw [linesOk_some e, linesOk_some e, linesOk_blankEnd r s' (m + 1) bl hs' hb]

theorem readLine_origin {s : St} {o : Str} (hs : stOk s = true) (ho : valid o = true) : readLine s (originWord ++ 32 :: o) = some ({ s with origin := o }, none) := by
  have hso : valid s.origin = true := by
    simp only [stOk, Bool.and_eq_true] at hs
    exact hs.1.1.1
  have h34 : (34 : UInt8) ∉ o := name_noQuote ho
  have h59 : (59 : UInt8) ∉ o := name_plain ho (by decide) (by decide) (by decide)
  have hc : Clean (originWord ++ 32 :: o) := by
    refine clean_plain ?_ ?_
    · simp [originWord, h34]
    · simp [originWord, h59]
  have hone : o ≠ [] := fun e => by rw [e] at ho; revert ho; decide
  have hf : fields (originWord ++ 32 :: o) = some [originWord, o] := by
    have h1 : originWord ++ 32 :: o = originWord ++ spaced [o] := by simp [spaced]
    rw [h1]
    refine fields_first (atom_plain (by decide) (by decide) (by decide)) (fun x hx => ?_)
    simp only [List.mem_singleton] at hx
    subst hx
    exact atom_plain hone (name_noSpace ho) h34
  unfold readLine
  rw [if_pos hs, hc.self, hf, Option.bind_some]
  unfold readFields
  have hh : (originWord ++ 32 :: o).head? = some 36 := rfl
  dsimp only
  rw [hh, if_pos rfl]
  unfold dollar
  dsimp only
  rw [if_pos rfl, readName_full ho hso]
  rfl

/-- The lines of written records are read. -/
theorem linesOk_lines : ∀ (l : List Rec) (s : St) (m : Nat) (rest : Str), stOk s = true → (∀ x ∈ l, recValid x = true) → m + l.length ≤ 60 →
    ∃ s' : St, stOk s' = true ∧ linesOk s m (pieces 10 (linesText l s.origin s.owner ++ rest) []) = (linesOk s' (m + l.length) (pieces 10 rest [])).map (l ++ ·)
  | [], s, m, rest, hs, _, _ => ⟨s, hs, by simp [linesText]⟩
  | r :: l, s, m, rest, hs, hv, hm => by
    have hso : valid s.origin = true := by
      simp only [stOk, Bool.and_eq_true] at hs
      exact hs.1.1.1
    have hr := hv r (by simp)
    have h1 := readLine_line hr hs
    have hs2 := (readLine_state h1).2.1
    have hm' : m + 1 + l.length ≤ 60 := by simp at hm; omega
    obtain ⟨s', h3, h4⟩ := linesOk_lines l { s with owner := r.name } (m + 1) rest hs2 (fun x hx => hv x (List.mem_cons_of_mem _ hx)) hm'
    refine ⟨s', h3, ?_⟩
    have e : linesText (r :: l) s.origin s.owner ++ rest = lineText r s.origin s.owner ++ 10 :: (linesText l s.origin r.name ++ rest) := by simp [linesText]
    rw [e, pieces_noSign _ _ _ (lineText_line _ hr hso), List.nil_append, linesOk_some h1, if_neg (by omega)]
    dsimp only at h4
    rw [h4]
    have e2 : m + (r :: l).length = m + 1 + l.length := by simp; omega
    rw [e2]
    cases linesOk s' (m + 1 + l.length) (pieces 10 rest []) <;> simp
theorem linesOk_master {l : List Rec} {s : St} {o : Str} {m : Nat} (rest : Str) (hs : stOk s = true) (hs0 : s.owner = []) (ho : valid o = true) (hv : ∀ x ∈ l, recValid x = true) (hm : m + l.length ≤ 60) :
    ∃ s' : St, stOk s' = true ∧ linesOk s m (pieces 10 (masterText l o ++ rest) []) = (linesOk s' (m + l.length) (pieces 10 rest [])).map (l ++ ·) := by
  have h1 := readLine_origin hs ho
  have hs2 := (readLine_state h1).2.1
  obtain ⟨s', h3, h4⟩ := linesOk_lines l { s with origin := o } m rest hs2 hv hm
  refine ⟨s', h3, ?_⟩
  have h10 : (10 : UInt8) ∉ originWord ++ 32 :: o := by
    have := name_plain ho (c := 10) (by decide) (by decide) (by decide)
    simp [originWord, this]
  have e : masterText l o ++ rest = (originWord ++ 32 :: o) ++ 10 :: (linesText l o [] ++ rest) := by simp [masterText]
  rw [e, pieces_noSign _ _ _ h10, List.nil_append, linesOk_none h1]
  dsimp only at h4
  rw [hs0] at h4
  rw [show ({ s with origin := o } : St) = ⟨o, s.ttl, []⟩ by rw [← hs0]]
  exact h4

theorem start_ok {o : Str} (ho : valid o = true) : stOk (startSt o) = true := by simp [stOk, startSt, ho]
theorem readMaster_ok {text o : Str} {l : List Rec} : readMaster text o = some (.ok l) ↔ text.length ≤ 4000 ∧ valid o = true ∧ linesOk (startSt o) 0 (pieces 10 text []) = some l := by
  unfold readMaster
  by_cases h : text.length ≤ 4000 ∧ valid o = true
  · rw [if_pos h]
    simp only [Option.some.injEq, readLines_ok]
    exact ⟨fun k => ⟨h.1, h.2, k⟩, fun k => k.2.2⟩
  · rw [if_neg h]
    simp only [reduceCtorEq, false_iff]
    exact fun k => h ⟨k.1, k.2.1⟩
theorem writeMaster_some {l : List Rec} {o t : Str} (h : writeMaster l o = some t) : valid o = true ∧ l.length ≤ 60 ∧ (∀ x ∈ l, recValid x = true) ∧ t.length ≤ 4000 ∧ t = masterText l o := by
  unfold writeMaster at h
  split at h
  · rename_i hh
    simp only [Bool.and_eq_true, decide_eq_true_eq, List.all_eq_true] at hh
    injection h with h
    subst h
    exact ⟨hh.1.1.1, hh.1.1.2, hh.1.2, hh.2, rfl⟩
  · cases h
/-- Written files are read, below every origin. -/
theorem readMaster_write {l : List Rec} {o b t : Str} (h : writeMaster l o = some t) (hb : valid b = true) : readMaster t b = some (.ok l) := by
  obtain ⟨ho, hl, hv, ht, rfl⟩ := writeMaster_some h
  rw [readMaster_ok]
  refine ⟨ht, hb, ?_⟩
  obtain ⟨s', h1, h2⟩ := linesOk_master (m := 0) [] (start_ok hb) rfl ho hv (by omega)
  rw [List.append_nil] at h2
  rw [h2]
  have : linesOk s' (0 + l.length) (pieces 10 [] []) = some [] := by
    rw [show pieces 10 [] [] = [[]] from rfl, linesOk_none (readLine_blank h1 blank_nil)]
    rfl
  rw [this]
  simp
theorem readMaster_valid {t o : Str} {l : List Rec} (h : readMaster t o = some (.ok l)) : (∀ x ∈ l, recValid x = true) ∧ l.length ≤ 60 := by
  obtain ⟨_, _, h⟩ := readMaster_ok.1 h
  obtain ⟨h1, h2⟩ := linesOk_valid _ _ _ _ h
  exact ⟨h1, by have := h2 (by omega); omega⟩
theorem pieces_head (s : Str) : ∀ cur : Str, ∃ a r, pieces 10 s cur = (cur ++ a) :: r ∧ pieces 10 s [] = a :: r := by
  induction s with
  | nil => intro cur; exact ⟨[], [], by simp [pieces], rfl⟩
  | cons c t ih =>
    intro cur
    simp only [pieces]
    by_cases h : c = 10
    · rw [if_pos h, if_pos h]
      exact ⟨[], pieces 10 t [], by simp, rfl⟩
    · rw [if_neg h, if_neg h]
      obtain ⟨a, r, h1, _⟩ := ih (cur ++ [c])
      obtain ⟨a2, r2, h3, h4⟩ := ih ([] ++ [c])
      obtain ⟨a3, r3, h5, h6⟩ := ih (cur ++ [c])
      rw [h4] at h6
      injection h6 with e1 e2
      subst e1; subst e2
      exact ⟨[c] ++ a2, r2, by rw [h5]; simp, by rw [h3]; simp⟩
theorem pieces_append (a b : Str) : ∀ cur : Str, pieces 10 (a ++ 10 :: b) cur = pieces 10 a cur ++ pieces 10 b [] := by
  induction a with
  | nil => intro cur; simp [pieces]
  | cons c t ih =>
    intro cur
    simp only [List.cons_append, pieces]
    by_cases h : c = 10
    · rw [if_pos h, if_pos h, ih]; rfl
    · rw [if_neg h, if_neg h, ih]
/-- Two files, one behind the other; the owner of the first record of a written file is told. -/
theorem linesText_owner {r : Rec} {l : List Rec} {o a b : Str} (h : r.name ≠ a) (k : r.name ≠ b) : linesText (r :: l) o a = linesText (r :: l) o b := by
  simp [linesText, lineText, h, k]
/-- Empty lines and comments are nothing. -/
theorem master_blank {text o : Str} (pre post : List Str) (hpre : ∀ b ∈ pre, Blank b) (hpost : ∀ b ∈ post, Blank b) (ho : valid o = true) :
    linesOk (startSt o) 0 (pre ++ (pieces 10 text [] ++ post)) = linesOk (startSt o) 0 (pieces 10 text []) := by
  induction pre with
  | nil => exact linesOk_blankEnd _ _ _ _ (start_ok ho) hpost
  | cons b r ih =>
    rw [List.cons_append, linesOk_none (readLine_blank (start_ok ho) (hpre b (by simp)))]
    exact ih (fun x hx => hpre x (List.mem_cons_of_mem _ hx))

/-! ### classes -/

theorem num_in : num inWord = none := by decide
/-- A record with its class told is read. -/
theorem readLine_class {r : Rec} {s : St} (h : recValid r = true) (hs : stOk s = true) :
    readLine s (short r.name s.origin ++ spaced (Lib.itoa r.ttl :: inWord :: kindName r.kind :: dataFields r s.origin)) = some ({ s with owner := r.name }, some r) := by
  have ho : valid s.origin = true := by
    simp only [stOk, Bool.and_eq_true] at hs
    exact hs.1.1.1
  obtain ⟨hn, h2, h3, hk, _, _⟩ := recValid_iff.1 h
  have hf : ∀ f ∈ Lib.itoa r.ttl :: inWord :: kindName r.kind :: dataFields r s.origin, Atom f ∧ Clean f := by
    intro f hf
    rcases List.mem_cons.1 hf with rfl | hf
    · exact ⟨itoa_atom h2, itoa_clean h2⟩
    · rcases List.mem_cons.1 hf with rfl | hf
      · exact ⟨atom_plain (by decide) (by decide) (by decide), clean_plain (by decide) (by decide)⟩
      · rcases List.mem_cons.1 hf with rfl | hf
        · exact ⟨kindName_atom hk, kindName_clean _⟩
        · exact (dataFields_spec h ho).1 f hf
  have hfa := fun f x => (hf f x).1
  have hc := clean_spaced (fun f x => (hf f x).2)
  have hne := (short_spec hn ho).2.2.1
  unfold readLine
  rw [if_pos hs, ((short_clean hn ho).append hc).self, fields_first (short_atom hn ho) hfa, Option.bind_some]
  have hh : ∀ c : UInt8, c ∉ short r.name s.origin → (short r.name s.origin ++ spaced (Lib.itoa r.ttl :: inWord :: kindName r.kind :: dataFields r s.origin)).head? ≠ some c := fun c hc => by
    rw [head_snoc hne]
    exact fun e => hc (List.mem_of_head? e)
  unfold readFields
  dsimp only
  rw [if_neg (hh 36 (short_plain hn ho (by decide) (by decide) (by decide) (by decide))), if_neg (hh 32 (short_plain hn ho (by decide) (by decide) (by decide) (by decide))), (short_spec hn ho).2.1, Option.bind_some]
  have hrec : record { s with owner := r.name } (Lib.itoa r.ttl :: inWord :: kindName r.kind :: dataFields r s.origin) = some r := by
    unfold record takeTtl
    dsimp only
    rw [num_itoa h2 (by omega)]
    unfold takeIn
    dsimp only
    rw [if_pos rfl]
    dsimp only
    rw [kindName_kind (kindName_ne.2 hk)]
    exact readData_fields h ho
  rw [hrec]
  rfl
/-- A line that begins with a dollar sign tells no record. -/
theorem readLine_dollar {s s' : St} {t : Str} {x : Option Rec} (h : readLine s (36 :: t) = some (s', x)) : x = none := by
  unfold readLine at h
  split at h
  · have e : strip false (36 :: t) = 36 :: strip false t := by simp [strip]
    rw [e] at h
    cases e2 : fields (36 :: strip false t) with
    | none => rw [e2] at h; cases h
    | some fs =>
      rw [e2, Option.bind_some] at h
      unfold readFields at h
      split at h
      · simp at h; exact h.2.symm
      · rename_i f r
        rw [if_pos (show (36 :: strip false t).head? = some 36 from rfl)] at h
        cases e3 : dollar s (f :: r) with
        | none => rw [e3] at h; cases h
        | some a => rw [e3] at h; simp at h; exact h.2.symm
  · cases h
theorem readLine_strip (s : St) (l : Str) : readLine s (strip false l) = readLine s l := by
  unfold readLine
  rw [strip_idem]
end Go.Proofs.Ytgglakonkphbgaa.Z

namespace Go.Proofs.Ytgglakonkphbgaa.Z

theorem lib_cut (c : UInt8) (s : Str) : Lib.cut s [c] = if c ∈ s then (hd c s, tl c s, true) else (s, [], false) := by
  unfold Lib.cut
  rw [index_one]
  by_cases h : c ∈ s
  · rw [if_pos h, if_pos (by omega), if_pos h]
    have e : (((s.takeWhile (· != c)).length : Nat) : Int).toNat = (hd c s).length := by rw [Int.toNat_natCast]; rfl
    rw [e, take_hd]
    show (_, s.drop ((hd c s).length + 1), true) = _
    rw [drop_hd]
  · rw [if_neg h, if_neg (by omega), if_neg h]
theorem lib_contains (c : UInt8) (s : Str) : Lib.contains s [c] = decide (c ∈ s) := by
  unfold Lib.contains
  rw [index_one]
  by_cases h : c ∈ s
  · rw [if_pos h]; simp [h]
  · rw [if_neg h]; simp [h]
def trim (s : Str) : Str := s.dropWhile (· == 32)
theorem lib_trim (s : Str) : Lib.trimLeftS s [32] = trim s := by
  unfold Lib.trimLeftS trim
  congr 1
  funext x
  rw [Bool.eq_iff_iff]
  simp
theorem lib_prefix (c : UInt8) (s : Str) : Lib.hasPrefix s [c] = decide (s.head? = some c) := by
  unfold Lib.hasPrefix
  cases s with
  | nil => simp
  | cons x r =>
    rw [Bool.eq_iff_iff, decide_eq_true_eq, List.head?_cons, Option.some.injEq]
    show (c == x && true) = true ↔ x = c
    rw [Bool.and_true, beq_iff_eq]
    exact eq_comm
theorem fields_trim (s : Str) : fields (trim s) = fields s := by
  induction s with
  | nil => rfl
  | cons x r ih =>
    unfold trim at ih ⊢
    by_cases h : x = 32
    · subst h
      rw [List.dropWhile_cons, if_pos (by decide), ih, fields_space]
    · rw [List.dropWhile_cons, if_neg (by simpa using h)]
theorem trim_head (s : Str) : (trim s).head? ≠ some 32 := by
  induction s with
  | nil => simp [trim]
  | cons x r ih =>
    unfold trim at ih ⊢
    by_cases h : x = 32
    · subst h
      rw [List.dropWhile_cons, if_pos (by decide)]
      exact ih
    · rw [List.dropWhile_cons, if_neg (by simpa using h)]
      simpa using h
theorem trim_length (s : Str) : (trim s).length ≤ s.length := by
  unfold trim
  exact dropWhile_length _ _

/-- What the program cuts off a text behind a quote: the field, what is behind it, and whether it is one. -/
def cutQ (r : Str) : Str × Str × Bool :=
  if (34 : UInt8) ∈ r then (34 :: (hd 34 r ++ [34]), tl 34 r, decide (tl 34 r = []) || decide ((tl 34 r).head? = some 32))
  else (34 :: (r ++ [34]), [], false)
/-- What it cuts off a text that is not empty. -/
def cutF (t : Str) : Str × Str × Bool :=
  if t.head? = some 34 then cutQ (t.drop 1) else (hd 32 t, t.drop (hd 32 t).length, decide ((34 : UInt8) ∉ hd 32 t))
theorem hd_head {t : Str} (h : t ≠ []) (h32 : t.head? ≠ some 32) : ∃ c r, t = c :: r ∧ hd 32 t = c :: hd 32 r := by
  match t, h with
  | c :: r, _ =>
    refine ⟨c, r, rfl, ?_⟩
    have hc : c ≠ 32 := fun e => h32 (by rw [e]; rfl)
    unfold hd
    rw [List.takeWhile_cons, if_pos (by simpa using hc)]
theorem drop_hd_head (s : Str) : s.drop (hd 32 s).length = [] ∨ (s.drop (hd 32 s).length).head? = some 32 := by
  have h : s = hd 32 s ++ s.dropWhile (· != 32) := (List.takeWhile_append_dropWhile).symm
  have e : s.drop (hd 32 s).length = s.dropWhile (· != 32) := by
    conv => lhs; arg 2; rw [h]
    simp
  rw [e]
  cases hd2 : s.dropWhile (· != 32) with
  | nil => exact Or.inl rfl
  | cons x r =>
    right
    have := List.head?_dropWhile_not (· != (32 : UInt8)) s
    rw [hd2] at this
    simp at this
    rw [this]
    rfl
theorem hd_append (s : Str) : hd 32 s ++ s.drop (hd 32 s).length = s := by
  have h := List.take_append_drop (hd 32 s).length s
  rwa [take_hd] at h
theorem first_quote {u : Str} (h32 : (32 : UInt8) ∉ u) (h34 : (34 : UInt8) ∈ u) : ∃ a b, u = a ++ 34 :: b ∧ ∀ x ∈ a, isSep x = false := by
  refine ⟨hd 34 u, tl 34 u, cut_at h34, fun x hx => ?_⟩
  have h1 : x ≠ 34 := fun e => hd_not 34 u (e ▸ hx)
  have h2 : x ≠ 32 := fun e => h32 (by rw [cut_at h34]; exact List.mem_append_left _ (e ▸ hx))
  simp [isSep, h1, h2]
theorem fields_cut {t : Str} (h : t ≠ []) (h32 : t.head? ≠ some 32) : fields t = if (cutF t).2.2 = true then (fields (cutF t).2.1).map ((cutF t).1 :: ·) else none := by
  unfold cutF
  by_cases h34 : t.head? = some 34
  · rw [if_pos h34]
    match t, h34 with
    | c34 :: r, h34 =>
      obtain rfl : c34 = 34 := by simpa using h34
      simp only [List.drop_succ_cons, List.drop_zero]
      unfold cutQ
      by_cases hm : (34 : UInt8) ∈ r
      · rw [if_pos hm]
        have e := cut_at hm
        have hn := hd_not 34 r
        dsimp only
        by_cases ht : tl 34 r = [] ∨ (tl 34 r).head? = some 32
        · rw [if_pos (by rcases ht with ht | ht <;> simp [ht])]
          have e2 : (34 : UInt8) :: r = (34 :: (hd 34 r ++ [34])) ++ tl 34 r := by
            conv => lhs; rw [e]
            simp
          conv => lhs; rw [e2]
          rw [fields_atom (atom_quoted hn) ht]
        · rw [if_neg (by simpa using ht)]
          have hs := span_at (p := (· != 34)) (a := hd 34 r) (b := 34 :: tl 34 r) (fun x hx => by
            have : x ≠ 34 := fun e => hn (e ▸ hx)
            simpa using this) (Or.inr ⟨34, tl 34 r, rfl, by decide⟩)
          conv => lhs; rw [e]
          unfold fields
          simp only [List.length_cons, fieldsN]
          rw [if_neg (by decide), if_pos trivial, hs.2]
          simp only
          rw [if_neg ht]
      · rw [if_neg hm]
        have e : r.dropWhile (· != 34) = [] := by
          have := List.dropWhile_append_of_pos (p := (· != (34 : UInt8))) (l₂ := []) (l₁ := r) (fun x hx => by
            have : x ≠ 34 := fun e => hm (e ▸ hx)
            simpa using this)
          simpa using this
        unfold fields
        simp only [List.length_cons, fieldsN]
        rw [if_neg (by decide), if_pos trivial, e]
        simp
  · rw [if_neg h34]
    dsimp only
    obtain ⟨c, r, rfl, hh⟩ := hd_head h h32
    have hc32 : c ≠ 32 := fun e => h32 (by rw [e]; rfl)
    have hc34 : c ≠ 34 := fun e => h34 (by rw [e]; rfl)
    have hno := hd_not 32 (c :: r)
    by_cases hq : (34 : UInt8) ∈ hd 32 (c :: r)
    · rw [if_neg (by simpa using hq)]
      rw [hh] at hq hno
      have hq2 : (34 : UInt8) ∈ hd 32 r := by
        rcases List.mem_cons.1 hq with e | e
        · exact absurd e.symm hc34
        · exact e
      obtain ⟨a, b, e1, e2⟩ := first_quote (u := hd 32 r) (fun e => hno (List.mem_cons_of_mem _ e)) hq2
      have er : r = a ++ 34 :: (b ++ r.drop (hd 32 r).length) := by
        have := hd_append r
        rw [e1] at this
        conv => lhs; rw [← this]
        rw [e1]
        simp
      have hs := span_at (p := fun x => !isSep x) (a := a) (b := 34 :: (b ++ r.drop (hd 32 r).length)) (fun x hx => by rw [e2 x hx]; rfl) (Or.inr ⟨34, _, rfl, by decide⟩)
      conv => lhs; rw [er]
      unfold fields
      simp only [List.length_cons, fieldsN]
      rw [if_neg hc32, if_neg hc34, hs.2]
      simp only [List.head?_cons, if_true]
    · rw [if_pos (by simpa using hq)]
      conv => lhs; rw [← hd_append (c :: r)]
      rw [fields_atom (atom_plain (by rw [hh]; simp) hno hq) (drop_hd_head _)]
/-- What is left is shorter. -/
theorem cutF_length {t : Str} (h : t ≠ []) (h32 : t.head? ≠ some 32) : (cutF t).2.1.length < t.length ∧ (cutF t).1.length ≤ t.length + 1 := by
  have hp : 0 < t.length := List.length_pos_iff.2 h
  unfold cutF
  by_cases h34 : t.head? = some 34
  · rw [if_pos h34]
    obtain ⟨c34, r, rfl⟩ : ∃ c34 r, t = c34 :: r := by
      cases t with
      | nil => exact absurd rfl h
      | cons a b => exact ⟨a, b, rfl⟩
    simp only [List.drop_succ_cons, List.drop_zero]
    unfold cutQ
    by_cases hm : (34 : UInt8) ∈ r
    · rw [if_pos hm]
      have := congrArg List.length (cut_at hm)
      simp only [List.length_append, List.length_cons] at this
      simp
      omega
    · rw [if_neg hm]; simp
  · rw [if_neg h34]
    obtain ⟨c, r, rfl, hh⟩ := hd_head h h32
    have h1 : (hd 32 (c :: r)).length ≤ (c :: r).length := by unfold hd; exact (List.takeWhile_sublist _).length_le
    refine ⟨?_, by dsimp only; omega⟩
    dsimp only
    rw [List.length_drop, hh, List.length_cons, List.length_cons]
    omega
end Go.Proofs.Ytgglakonkphbgaa.Z

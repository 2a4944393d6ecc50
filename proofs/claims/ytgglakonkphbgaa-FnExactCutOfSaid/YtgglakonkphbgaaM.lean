/- Names as lists of labels, each a list of bytes: what the functions of chapter 1 compute, and the laws of these plain functions. -/
namespace Go.Proofs.Ytgglakonkphbgaa.Z

abbrev Str := List UInt8

def okByte (c : UInt8) : Bool := (97 ≤ c && c ≤ 122) || (48 ≤ c && c ≤ 57) || c == 45 || c == 95
def okLabel (s : Str) : Bool := s.all okByte && decide (1 ≤ s.length) && decide (s.length ≤ 10)
/-- The pieces of a text in front of its dots; what is behind the last dot is dropped. -/
def cut : Str → Str → List Str
  | [], _ => []
  | c :: r, cur => if c = 46 then cur :: cut r [] else cut r (cur ++ [c])
def labs (s : Str) : List Str := if s = [46] then [] else cut s []
def okLabs : List Str → Bool
  | [] => true
  | a :: r => (okLabel a || a == [42]) && r.all okLabel
def valid (s : Str) : Bool := decide (1 ≤ s.length) && decide (s.length ≤ 60) && (s.getLast? == some 46) && okLabs (labs s) && decide ((labs s).length ≤ 8)
def labels (s : Str) : List Str := if valid s then labs s else []
def joined (ls : List Str) : Str := (ls.map (· ++ [46])).flatten
def join (ls : List Str) : Str := if ls = [] then [46] else joined ls
def nameOf (ls : List Str) : Option Str := if decide (ls.length ≤ 8) && okLabs ls && decide ((join ls).length ≤ 60) then some (join ls) else none
def lowByte (c : UInt8) : UInt8 := if 65 ≤ c ∧ c ≤ 90 then c + 32 else c
def lower (s : Str) : Str := s.map lowByte
def fullText (text origin : Str) : Str :=
  if text = [64] then origin
  else if text.getLast? = some 46 then lower text
  else if origin = [46] then lower text ++ [46]
  else lower text ++ [46] ++ origin
def readName (text origin : Str) : Option Str :=
  if valid origin && !text.isEmpty && decide (text.length ≤ 60) && valid (fullText text origin) then some (fullText text origin) else none
def below (s top : Str) : Bool := valid s && valid top && (labs top).isSuffixOf (labs s)
def shortName (s origin : Str) : Option Str :=
  if valid s && valid origin then
    some (if s = origin then [64] else if origin = [46] || !(below s origin) then s else s.take (s.length - origin.length - 1))
  else none
/-- Lists of labels, the last label in front. -/
def ltRev : List Str → List Str → Bool
  | [], [] => false
  | [], _ :: _ => true
  | _ :: _, [] => false
  | p :: ps, q :: qs => if p = q then ltRev ps qs else decide (p < q)
def before (a b : Str) : Bool := valid a && valid b && ltRev (labs a).reverse (labs b).reverse
def parentOf (s : Str) : Option Str := if valid s && s != [46] then some (join (labs s).tail) else none
def starOf (s : Str) : Option Str := if valid s && s != [46] then some (join ([42] :: (labs s).tail)) else none
/-- How many elements two lists have in common, from the front. -/
def common : List Str → List Str → Nat
  | p :: ps, q :: qs => if p = q then common ps qs + 1 else 0
  | _, _ => 0
def sameEnds (x y : List Str) : Nat := common x.reverse y.reverse
def commonTop (a b : Str) : Option Str :=
  if valid a && valid b then some (join ((labs a).drop ((labs a).length - sameEnds (labs a) (labs b)))) else none

/-! ### labels and texts -/

theorem okByte_dot : okByte 46 = false := by decide
theorem okByte_star : okByte 42 = false := by decide
theorem okByte_at : okByte 64 = false := by decide

def noDot (l : Str) : Prop := ∀ c ∈ l, c ≠ 46

theorem noDot_of_okLabel {l : Str} (h : okLabel l = true) : noDot l := by
  intro c hc e
  subst e
  simp only [okLabel, Bool.and_eq_true, List.all_eq_true] at h
  have := h.1.1 _ hc
  rw [okByte_dot] at this
  cases this

theorem noDot_star : noDot [42] := by intro c hc; simp at hc; subst hc; decide

theorem cut_noDot (l r cur : Str) (h : noDot l) : cut (l ++ 46 :: r) cur = (cur ++ l) :: cut r [] := by
  induction l generalizing cur with
  | nil => simp [cut]
  | cons a l ih =>
    have ha : a ≠ 46 := h a (by simp)
    simp only [List.cons_append, cut, if_neg ha]
    rw [ih (cur ++ [a]) (fun c hc => h c (by simp [hc]))]
    simp

theorem cut_joined (ls : List Str) (h : ∀ l ∈ ls, noDot l) : cut (joined ls) [] = ls := by
  induction ls with
  | nil => rfl
  | cons a r ih =>
    have e : joined (a :: r) = a ++ 46 :: joined r := by simp [joined]
    rw [e, cut_noDot _ _ _ (h a (by simp)), ih (fun l hl => h l (by simp [hl]))]
    simp

theorem cut_length (s cur : Str) : (cut s cur).length = s.count 46 := by
  induction s generalizing cur with
  | nil => rfl
  | cons c r ih =>
    by_cases hc : c = 46
    · subst hc; simp [cut, ih]
    · simp [cut, hc, ih]

/-- A text that ends with a dot is its pieces, each with its dot. -/
theorem joined_cut (s cur : Str) (h : (cur ++ s) = [] ∨ (cur ++ s).getLast? = some 46) (hc : noDot cur) : joined (cut s cur) = cur ++ s := by
  induction s generalizing cur with
  | nil =>
    rcases h with h | h
    · simp at h; subst h; rfl
    · simp at h
      exact absurd rfl (hc 46 (List.mem_of_getLast? h))
  | cons c r ih =>
    by_cases e : c = 46
    · subst e
      have : cut (46 :: r) cur = cur :: cut r [] := by simp [cut]
      rw [this]
      have e2 : joined (cur :: cut r []) = cur ++ 46 :: joined (cut r []) := by simp [joined]
      rw [e2, ih [] ?_ (fun c hc => by cases hc)]
      · simp
      · rcases h with h | h
        · simp at h
        · cases r with
          | nil => left; rfl
          | cons a r => right; simpa using h
    · have : cut (c :: r) cur = cut r (cur ++ [c]) := by simp [cut, e]
      rw [this, ih (cur ++ [c])]
      · simp
      · rcases h with h | h
        · simp at h
        · right; simpa using h
      · intro x hx
        simp at hx
        rcases hx with hx | hx
        · exact hc x hx
        · subst hx; exact e

theorem okLabs_noDot {ls : List Str} (h : okLabs ls = true) : ∀ l ∈ ls, noDot l := by
  cases ls with
  | nil => intro l hl; cases hl
  | cons a r =>
    simp only [okLabs, Bool.and_eq_true, Bool.or_eq_true, List.all_eq_true, beq_iff_eq] at h
    intro l hl
    rcases List.mem_cons.1 hl with rfl | hl
    · rcases h.1 with h1 | h1
      · exact noDot_of_okLabel h1
      · rw [h1]; exact noDot_star
    · exact noDot_of_okLabel (h.2 l hl)

theorem okLabs_pos {ls : List Str} (h : okLabs ls = true) : ∀ l ∈ ls, 1 ≤ l.length ∧ l.length ≤ 10 := by
  cases ls with
  | nil => intro l hl; cases hl
  | cons a r =>
    simp only [okLabs, Bool.and_eq_true, Bool.or_eq_true, List.all_eq_true, beq_iff_eq] at h
    intro l hl
    rcases List.mem_cons.1 hl with rfl | hl
    · rcases h.1 with h1 | h1
      · simp only [okLabel, Bool.and_eq_true, decide_eq_true_eq] at h1; omega
      · rw [h1]; decide
    · have := h.2 l hl; simp only [okLabel, Bool.and_eq_true, decide_eq_true_eq] at this; omega

theorem valid_iff {s : Str} : valid s = true ↔ 1 ≤ s.length ∧ s.length ≤ 60 ∧ s.getLast? = some 46 ∧ okLabs (labs s) = true ∧ (labs s).length ≤ 8 := by
  simp [valid, and_assoc]

theorem join_labs {s : Str} (h : valid s = true) : join (labs s) = s := by
  obtain ⟨h1, h2, h3, h4, h5⟩ := valid_iff.1 h
  unfold labs
  by_cases e : s = [46]
  · simp [e, join]
  · rw [if_neg e]
    have hj := joined_cut s [] (Or.inr (by simpa using h3)) (fun c hc => by cases hc)
    unfold join
    rw [if_neg, hj]
    · rfl
    · intro h0
      rw [h0] at hj
      simp [joined] at hj
      subst hj
      simp at h1

theorem joined_ne_dot {ls : List Str} (h : ∀ l ∈ ls, 1 ≤ l.length) : joined ls ≠ [46] := by
  cases ls with
  | nil => simp [joined]
  | cons a r =>
    intro e
    have h1 := h a (by simp)
    have e2 : joined (a :: r) = a ++ 46 :: joined r := by simp [joined]
    rw [e2] at e
    have := congrArg List.length e
    simp at this
    omega

theorem joined_last {ls : List Str} (h : ls ≠ []) : (joined ls).getLast? = some 46 := by
  induction ls with
  | nil => exact absurd rfl h
  | cons a r ih =>
    have e2 : joined (a :: r) = (a ++ [46]) ++ joined r := by simp [joined]
    rw [e2]
    by_cases hr : r = []
    · subst hr; simp [joined]
    · rw [List.getLast?_append, ih hr]; simp

theorem labs_join {ls : List Str} (h : okLabs ls = true) : labs (join ls) = ls := by
  unfold join
  by_cases e : ls = []
  · simp [e, labs]
  · rw [if_neg e]
    unfold labs
    rw [if_neg (joined_ne_dot fun l hl => (okLabs_pos h l hl).1), cut_joined _ (okLabs_noDot h)]

theorem valid_join {ls : List Str} (h : okLabs ls = true) (h8 : ls.length ≤ 8) (h60 : (join ls).length ≤ 60) : valid (join ls) = true := by
  rw [valid_iff, labs_join h]
  refine ⟨?_, h60, ?_, h, h8⟩
  · unfold join
    by_cases e : ls = []
    · simp [e]
    · rw [if_neg e]
      have := joined_last e
      cases hj : joined ls with
      | nil => rw [hj] at this; cases this
      | cons => simp
  · unfold join
    by_cases e : ls = []
    · simp [e]
    · rw [if_neg e]; exact joined_last e

theorem labs_inj {a b : Str} (ha : valid a = true) (hb : valid b = true) (h : labs a = labs b) : a = b := by
  rw [← join_labs ha, ← join_labs hb, h]

theorem nameOf_labels {s : Str} (h : valid s = true) : nameOf (labels s) = some s := by
  obtain ⟨h1, h2, h3, h4, h5⟩ := valid_iff.1 h
  simp [nameOf, labels, h, join_labs h, h4, h5, h2]

theorem labels_nameOf {ls : List Str} {s : Str} (h : nameOf ls = some s) : valid s = true ∧ labels s = ls ∧ s = join ls := by
  unfold nameOf at h
  split at h
  · rename_i hc
    simp only [Bool.and_eq_true, decide_eq_true_eq] at hc
    obtain rfl : join ls = s := by simpa using h
    have hv := valid_join hc.1.2 hc.1.1 hc.2
    exact ⟨hv, by rw [labels, if_pos hv, labs_join hc.1.2], rfl⟩
  · cases h

/-- The model's way to make a name of labels. -/
theorem nameOf_spec (ls : List Str) (h8 : ls.length ≤ 8) :
    nameOf ls = if valid (join ls) && decide ((labs (join ls)).length = ls.length) then some (join ls) else none := by
  by_cases hc : okLabs ls = true ∧ (join ls).length ≤ 60
  · have hv := valid_join hc.1 h8 hc.2
    simp [nameOf, h8, hc.1, hc.2, hv, labs_join hc.1]
  · have hn : nameOf ls = none := by
      unfold nameOf
      rw [if_neg]
      simp only [Bool.and_eq_true, decide_eq_true_eq]
      exact fun h => hc ⟨h.1.2, h.2⟩
    rw [hn, if_neg]
    simp only [Bool.and_eq_true, decide_eq_true_eq]
    rintro ⟨hv, hl⟩
    obtain ⟨h1, h2, h3, h4, h5⟩ := valid_iff.1 hv
    refine hc ⟨?_, h2⟩
    -- the labels hold no dot: as many pieces as labels
    by_cases e : ls = []
    · subst e; rfl
    · have hj : join ls = joined ls := by unfold join; rw [if_neg e]
      rw [hj] at hl h4
      by_cases hd : joined ls = [46]
      · rw [hd] at hl
        have : ls.length = 0 := by simpa [labs] using hl.symm
        exact absurd (List.eq_nil_of_length_eq_zero this) e
      · have hlab : labs (joined ls) = cut (joined ls) [] := by unfold labs; rw [if_neg hd]
        rw [hlab, cut_length] at hl
        have hno : ∀ l ∈ ls, noDot l := by
          clear h4 hlab hd hj hn hc hv h1 h2 h3 h5 e h8
          have cnt : ∀ ms : List Str, (joined ms).count 46 = ms.length + (ms.map (·.count 46)).sum := by
            intro ms
            induction ms with
            | nil => rfl
            | cons a r ih =>
              have e2 : joined (a :: r) = (a ++ [46]) ++ joined r := by simp [joined]
              rw [e2, List.count_append, List.count_append, ih]
              simp; omega
          rw [cnt] at hl
          have h0 : (ls.map (·.count 46)).sum = 0 := by omega
          intro l hl2 c hc e
          subst e
          have : l.count 46 = 0 := by
            have := List.sum_eq_zero_iff_forall_eq_nat.1 h0 (l.count 46) (List.mem_map.2 ⟨l, hl2, rfl⟩)
            exact this
          rw [List.count_eq_zero] at this
          exact this hc
        rw [hlab, cut_joined _ hno] at h4
        exact h4

/-! ### small letters -/

theorem lowByte_ok {c : UInt8} (h : okByte c = true) : lowByte c = c := by
  unfold lowByte
  rw [if_neg]
  rintro ⟨h1, h2⟩
  simp only [okByte, Bool.or_eq_true, Bool.and_eq_true, decide_eq_true_eq, beq_iff_eq, UInt8.le_iff_toNat_le, ← UInt8.toNat_inj] at h h1 h2
  simp at h h1 h2
  omega

theorem lowByte_idem (c : UInt8) : lowByte (lowByte c) = lowByte c := by
  unfold lowByte
  by_cases h : 65 ≤ c ∧ c ≤ 90
  · rw [if_pos h, if_neg]
    rintro ⟨h1, h2⟩
    simp only [UInt8.le_iff_toNat_le, UInt8.toNat_add] at h h1 h2
    simp at h h1 h2
    omega
  · rw [if_neg h, if_neg h]

theorem lowByte_dot {c : UInt8} : lowByte c = 46 ↔ c = 46 := by
  unfold lowByte
  by_cases h : 65 ≤ c ∧ c ≤ 90
  · rw [if_pos h]
    simp only [UInt8.le_iff_toNat_le, ← UInt8.toNat_inj, UInt8.toNat_add] at h ⊢
    simp at h ⊢
    omega
  · rw [if_neg h]

theorem lower_length (s : Str) : (lower s).length = s.length := by simp [lower]
theorem lower_getLast? (s : Str) : (lower s).getLast? = some 46 ↔ s.getLast? = some 46 := by
  unfold lower
  rw [List.getLast?_map]
  cases s.getLast? with
  | none => simp
  | some c => simp [lowByte_dot]

/-- The bytes of a name. -/
theorem name_bytes {s : Str} (h : valid s = true) : ∀ c ∈ s, okByte c = true ∨ c = 46 ∨ c = 42 := by
  rw [← join_labs h]
  have hok := (valid_iff.1 h).2.2.2.1
  unfold join
  split
  · intro c hc; simp at hc; subst hc; right; left; rfl
  · intro c hc
    unfold joined at hc
    obtain ⟨l, hl, hcl⟩ := List.mem_flatten.1 hc
    obtain ⟨l', hl', rfl⟩ := List.mem_map.1 hl
    rcases List.mem_append.1 hcl with hcl | hcl
    · revert hok hl'
      cases labs s with
      | nil => intro _ hl'; cases hl'
      | cons a r =>
        intro hok hl'
        simp only [okLabs, Bool.and_eq_true, Bool.or_eq_true, List.all_eq_true, beq_iff_eq] at hok
        have key : okLabel l' = true → okByte c = true := fun h => by
          simp only [okLabel, Bool.and_eq_true, List.all_eq_true] at h
          exact h.1.1 c hcl
        rcases List.mem_cons.1 hl' with rfl | hl'
        · rcases hok.1 with h1 | h1
          · exact Or.inl (key h1)
          · rw [h1] at hcl; simp at hcl; subst hcl; right; right; rfl
        · exact Or.inl (key (hok.2 _ hl'))
    · simp at hcl; subst hcl; right; left; rfl

theorem lower_name {s : Str} (h : valid s = true) : lower s = s := by
  have hb := name_bytes h
  unfold lower
  conv => rhs; rw [← List.map_id s]
  apply List.map_congr_left
  intro c hc
  rcases hb c hc with h | h | h
  · exact lowByte_ok h
  · subst h; decide
  · subst h; decide

theorem no_at {s : Str} (h : valid s = true) : (64 : UInt8) ∉ s := by
  intro hm
  rcases name_bytes h 64 hm with h | h | h
  · rw [okByte_at] at h; cases h
  · exact absurd h (by decide)
  · exact absurd h (by decide)

theorem valid_last {s : Str} (h : valid s = true) : s.getLast? = some 46 := (valid_iff.1 h).2.2.1
theorem valid_len {s : Str} (h : valid s = true) : 1 ≤ s.length ∧ s.length ≤ 60 := ⟨(valid_iff.1 h).1, (valid_iff.1 h).2.1⟩
theorem valid_root : valid [46] = true := by decide
theorem labs_root : labs [46] = [] := by simp [labs]
theorem labs_nil {s : Str} (h : valid s = true) : labs s = [] ↔ s = [46] :=
  ⟨fun e => labs_inj h valid_root (by rw [e, labs_root]), fun e => by rw [e, labs_root]⟩

/-! ### being below -/

theorem joined_append (a b : List Str) : joined (a ++ b) = joined a ++ joined b := by simp [joined]
theorem joined_length (a : List Str) : (joined a).length = (a.map (fun l => l.length + 1)).sum := by
  simp [joined, List.length_flatten, Function.comp_def]

theorem below_iff {s top : Str} : below s top = true ↔ valid s = true ∧ valid top = true ∧ labs top <:+ labs s := by
  simp [below, and_assoc, List.isSuffixOf_iff_suffix]

theorem below_self {s : Str} (h : valid s = true) : below s s = true := below_iff.2 ⟨h, h, List.suffix_refl _⟩
theorem below_root {s : Str} (h : valid s = true) : below s [46] = true := below_iff.2 ⟨h, valid_root, by rw [labs_root]; exact List.nil_suffix⟩
theorem below_trans {a b c : Str} (h : below a b = true) (k : below b c = true) : below a c = true := by
  rw [below_iff] at *
  exact ⟨h.1, k.2.1, k.2.2.trans h.2.2⟩
theorem below_antisymm {a b : Str} (h : below a b = true) (k : below b a = true) : a = b := by
  rw [below_iff] at *
  refine labs_inj h.1 h.2.1 ?_
  have h1 := h.2.2.length_le
  have h2 := k.2.2.length_le
  exact (h.2.2.eq_of_length (by omega)).symm

/-- A name below another one, not the root: the labels in front, with their dots, and then the other one. -/
theorem below_split {s o : Str} (h : below s o = true) (ho : o ≠ [46]) (hs : s ≠ o) :
    ∃ p : Str, s = p ++ [46] ++ o ∧ p ≠ [] ∧ p.getLast? ≠ some 46 := by
  obtain ⟨h1, h2, pre, hp⟩ := below_iff.1 h
  have ho' : labs o ≠ [] := fun e => ho ((labs_nil h2).1 e)
  have hpre : pre ≠ [] := fun e => hs (labs_inj h1 h2 (by rw [← hp, e]; rfl))
  have hs' : labs s ≠ [] := by rw [← hp]; simp [hpre]
  have es : s = joined pre ++ o := by
    rw [← join_labs h1, ← hp]
    conv => rhs; rw [← join_labs h2]
    unfold join
    rw [if_neg ho', if_neg (by simp [hpre]), joined_append]
  have hok : ∀ l ∈ pre, noDot l ∧ 1 ≤ l.length := fun l hl =>
    have hm : l ∈ labs s := by rw [← hp]; simp [hl]
    ⟨okLabs_noDot (valid_iff.1 h1).2.2.2.1 l hm, (okLabs_pos (valid_iff.1 h1).2.2.2.1 l hm).1⟩
  clear hp hs' h1 h
  obtain ⟨init, last, rfl⟩ : ∃ init last, pre = init ++ [last] := ⟨pre.dropLast, pre.getLast hpre, (List.dropLast_concat_getLast hpre).symm⟩
  obtain ⟨hd, hl⟩ := hok last (by simp)
  have hne : last ≠ [] := fun e => by subst e; simp at hl
  refine ⟨joined init ++ last, ?_, by simp [hne], ?_⟩
  · rw [es, joined_append]; simp [joined]
  · rw [List.getLast?_append, List.getLast?_eq_some_getLast hne]
    simp only [Option.some_or]
    intro e
    injection e with e
    exact hd _ (List.getLast_mem hne) e

theorem shortName_some {s o x : Str} (h : shortName s o = some x) : valid s = true ∧ valid o = true := by
  unfold shortName at h
  split at h
  · rename_i hc; simpa using hc
  · cases h

/-- The three ways of a short text. -/
theorem shortName_cases {s o : Str} (hs : valid s = true) (ho : valid o = true) :
    (s = o ∧ shortName s o = some [64]) ∨
    (s ≠ o ∧ (o = [46] ∨ below s o = false) ∧ shortName s o = some s) ∨
    (s ≠ o ∧ o ≠ [46] ∧ below s o = true ∧ ∃ p : Str, s = p ++ [46] ++ o ∧ p ≠ [] ∧ p.getLast? ≠ some 46 ∧ shortName s o = some p) := by
  unfold shortName
  rw [if_pos (by simp [hs, ho])]
  by_cases h1 : s = o
  · left; simp [h1]
  · right
    by_cases h2 : o = [46] ∨ below s o = false
    · left; refine ⟨h1, h2, ?_⟩
      rw [if_neg h1, if_pos]
      simpa using h2
    · right
      have h3 : o ≠ [46] := fun e => h2 (Or.inl e)
      have h4 : below s o = true := by
        cases hb : below s o with
        | true => rfl
        | false => exact absurd (Or.inr hb) h2
      obtain ⟨p, e, hp, hl⟩ := below_split h4 h3 h1
      refine ⟨h1, h3, h4, p, e, hp, hl, ?_⟩
      rw [if_neg h1, if_neg (by simp [h3, h4])]
      congr 1
      rw [e]
      have e3 : (p ++ [46] ++ o).length - o.length - 1 = p.length := by rw [List.length_append, List.length_append, List.length_singleton]; omega
      rw [e3]
      simp

theorem readName_short {n o : Str} (hn : valid n = true) (ho : valid o = true) : ∃ x, shortName n o = some x ∧ readName x o = some n ∧ x.length ≤ n.length ∧ (x = [64] ↔ n = o) ∧
    (x ≠ []) ∧ (x.getLast? = some 46 ↔ ¬ ((below n o = true ∧ o ≠ [46]) ∨ n = o)) := by
  have hl := valid_len hn
  have hat : n ≠ [64] := fun e => no_at hn (by rw [e]; simp)
  rcases shortName_cases hn ho with ⟨rfl, h⟩ | ⟨h1, h2, h⟩ | ⟨h1, h2, h3, p, e, hp, hlp, h⟩
  · refine ⟨_, h, ?_, hl.1, by simp, by simp, by simp⟩
    simp [readName, ho, fullText]
  · refine ⟨_, h, ?_, Nat.le_refl _, ?_, ?_, ?_⟩
    · have hne : n ≠ [] := fun e => by subst e; simp at hl
      have hf : fullText n o = n := by
        unfold fullText
        rw [if_neg hat, if_pos (valid_last hn), lower_name hn]
      simp [readName, ho, hf, hn, hl.2, hne]
    · exact ⟨fun e => absurd e hat, fun e => absurd e h1⟩
    · exact fun e => by subst e; simp at hl
    · rw [valid_last hn]
      simp only [true_iff, not_or, not_and]
      refine ⟨fun hb => ?_, h1⟩
      rcases h2 with h2 | h2
      · exact fun h => h h2
      · rw [h2] at hb; cases hb
  · have hmem : ∀ c ∈ p, c ∈ n := fun c hc => by rw [e]; simp [hc]
    have hlow : lower p = p := by
      have := lower_name hn
      rw [e] at this
      unfold lower at this ⊢
      rw [List.append_assoc, List.map_append] at this
      exact (List.append_inj this (by simp)).1
    have hlen : p.length ≤ n.length := by rw [e]; simp
    refine ⟨_, h, ?_, hlen, ?_, hp, ?_⟩
    · have hf : fullText p o = n := by
        unfold fullText
        rw [if_neg (fun e2 => no_at hn (hmem 64 (by rw [e2]; simp))), if_neg hlp, if_neg h2, hlow, e]
      simp [readName, ho, hf, hn, hp]
      omega
    · refine ⟨fun e2 => absurd (hmem 64 (by rw [e2]; simp)) (no_at hn), fun e2 => absurd e2 h1⟩
    · simp only [hlp, false_iff, Classical.not_not]
      exact Or.inl ⟨h3, h2⟩

theorem readName_some {t o n : Str} (h : readName t o = some n) : valid o = true ∧ t ≠ [] ∧ t.length ≤ 60 ∧ n = fullText t o ∧ valid n = true := by
  unfold readName at h
  split at h
  · rename_i hc
    simp only [Bool.and_eq_true, decide_eq_true_eq] at hc
    injection h with h
    refine ⟨hc.1.1.1, ?_, hc.1.2, h.symm, by rw [← h]; exact hc.2⟩
    intro e; subst e; simp at hc
  · cases h

/-! ### the order of names -/

theorem lt_irrefl' (p : Str) : ¬ p < p := List.lt_irrefl p

theorem ltRev_irrefl (a : List Str) : ltRev a a = false := by
  induction a with
  | nil => rfl
  | cons p ps ih => simp [ltRev, ih]

theorem ltRev_trans {a b c : List Str} (h : ltRev a b = true) (k : ltRev b c = true) : ltRev a c = true := by
  induction a generalizing b c with
  | nil =>
    cases c with
    | nil => cases b <;> simp [ltRev] at h k
    | cons => rfl
  | cons p ps ih =>
    cases b with
    | nil => simp [ltRev] at h
    | cons q qs =>
      cases c with
      | nil => simp [ltRev] at k
      | cons r rs =>
        by_cases e1 : p = q
        · subst e1
          by_cases e2 : p = r
          · subst e2
            simp [ltRev] at h k ⊢
            exact ih h k
          · simp [ltRev, e2] at k ⊢
            exact k
        · simp [ltRev, e1] at h
          by_cases e2 : q = r
          · subst e2
            simp [ltRev, e1]
            exact h
          · simp [ltRev, e2] at k
            have hlt : p < r := List.lt_trans h k
            have : p ≠ r := fun e => by subst e; exact lt_irrefl' _ hlt
            simp [ltRev, this, hlt]

theorem ltRev_total {a b : List Str} (h : a ≠ b) : ltRev a b = true ∨ ltRev b a = true := by
  induction a generalizing b with
  | nil =>
    cases b with
    | nil => exact absurd rfl h
    | cons => left; rfl
  | cons p ps ih =>
    cases b with
    | nil => right; rfl
    | cons q qs =>
      by_cases e : p = q
      · subst e
        have : ps ≠ qs := fun e => h (by rw [e])
        simpa [ltRev] using ih this
      · have e' : q ≠ p := fun x => e x.symm
        simp only [ltRev, if_neg e, if_neg e', decide_eq_true_eq]
        by_cases h1 : p < q
        · exact Or.inl h1
        · by_cases h2 : q < p
          · exact Or.inr h2
          · exact absurd (List.le_antisymm (List.not_lt.1 h2) (List.not_lt.1 h1)) e

theorem ltRev_prefix {a b : List Str} (h : b <+: a) : ltRev a b = false := by
  obtain ⟨t, rfl⟩ := h
  induction b with
  | nil => cases t <;> rfl
  | cons q qs ih => simp [ltRev, ih]

theorem before_iff {a b : Str} : before a b = true ↔ valid a = true ∧ valid b = true ∧ ltRev (labs a).reverse (labs b).reverse = true := by simp [before, and_assoc]
theorem before_trans {a b c : Str} (h : before a b = true) (k : before b c = true) : before a c = true := by
  rw [before_iff] at *
  exact ⟨h.1, k.2.1, ltRev_trans h.2.2 k.2.2⟩
theorem before_irrefl (a : Str) : before a a = false := by
  cases h : before a a with
  | false => rfl
  | true => rw [before_iff, ltRev_irrefl] at h; simp at h
theorem before_asymm {a b : Str} (h : before a b = true) : before b a = false := by
  cases k : before b a with
  | false => rfl
  | true => have := before_trans h k; rw [before_irrefl] at this; cases this
theorem before_total {a b : Str} (ha : valid a = true) (hb : valid b = true) (h : a ≠ b) : before a b = true ∨ before b a = true := by
  have : (labs a).reverse ≠ (labs b).reverse := fun e => h (labs_inj ha hb (by simpa using e))
  rcases ltRev_total this with k | k
  · left; rw [before_iff]; exact ⟨ha, hb, k⟩
  · right; rw [before_iff]; exact ⟨hb, ha, k⟩
theorem not_before_of_below {a b : Str} (h : below a b = true) : before a b = false := by
  cases k : before a b with
  | false => rfl
  | true =>
    rw [before_iff] at k
    have := ltRev_prefix (List.reverse_prefix.2 (below_iff.1 h).2.2)
    rw [this] at k
    simp at k

/-! ### parents, wildcards, common tops -/

theorem okLabs_tail {ls : List Str} (h : okLabs ls = true) : okLabs ls.tail = true := by
  cases ls with
  | nil => rfl
  | cons a r =>
    simp only [okLabs, Bool.and_eq_true] at h
    cases r with
    | nil => rfl
    | cons b r => simp only [List.all_cons, Bool.and_eq_true] at h; simp [okLabs, h.2.1, h.2.2]

theorem okLabs_drop {ls : List Str} (h : okLabs ls = true) (k : Nat) : okLabs (ls.drop k) = true := by
  induction k generalizing ls with
  | zero => simpa using h
  | succ k ih =>
    have := ih (okLabs_tail h)
    rwa [← List.drop_one, List.drop_drop, Nat.add_comm] at this

theorem join_drop_length (ls : List Str) (k : Nat) : (join (ls.drop k)).length ≤ (join ls).length := by
  unfold join
  by_cases e : ls = []
  · simp [e]
  · by_cases e2 : ls.drop k = []
    · rw [if_pos e2, if_neg e]
      have := joined_last e
      cases hj : joined ls with
      | nil => rw [hj] at this; cases this
      | cons => simp
    · rw [if_neg e2, if_neg e]
      conv => rhs; rw [← List.take_append_drop k ls, joined_append]
      simp

theorem valid_drop {s : Str} (h : valid s = true) (k : Nat) : valid (join ((labs s).drop k)) = true := by
  obtain ⟨h1, h2, h3, h4, h5⟩ := valid_iff.1 h
  refine valid_join (okLabs_drop h4 k) (by rw [List.length_drop]; omega) ?_
  have := join_drop_length (labs s) k
  rw [join_labs h] at this
  omega
theorem labs_drop {s : Str} (h : valid s = true) (k : Nat) : labs (join ((labs s).drop k)) = (labs s).drop k := labs_join (okLabs_drop (valid_iff.1 h).2.2.2.1 k)

theorem parentOf_some {s p : Str} (h : parentOf s = some p) : valid s = true ∧ s ≠ [46] ∧ valid p = true ∧ labs p = (labs s).tail ∧ labs s ≠ [] := by
  unfold parentOf at h
  split at h
  · rename_i hc
    simp only [Bool.and_eq_true, bne_iff_ne, ne_eq] at hc
    injection h with h
    subst h
    rw [← List.drop_one]
    exact ⟨hc.1, hc.2, valid_drop hc.1 1, labs_drop hc.1 1, fun e => hc.2 ((labs_nil hc.1).1 e)⟩
  · cases h
theorem parentOf_none {s : Str} (h : parentOf s = none) (hv : valid s = true) : s = [46] := by
  unfold parentOf at h
  split at h
  · cases h
  · rename_i hc
    simpa [hv] using hc

theorem below_parent {s p top : Str} (h : parentOf s = some p) (ht : valid top = true) : below s top = (decide (s = top) || below p top) := by
  obtain ⟨h1, h2, h3, h4, h5⟩ := parentOf_some h
  rw [Bool.eq_iff_iff]
  simp only [Bool.or_eq_true, decide_eq_true_eq]
  constructor
  · intro hb
    obtain ⟨_, _, hs⟩ := below_iff.1 hb
    by_cases e : labs top = labs s
    · left; exact labs_inj h1 ht e.symm
    · right
      refine below_iff.2 ⟨h3, ht, ?_⟩
      rw [h4]
      obtain ⟨pre, hp⟩ := hs
      cases pre with
      | nil => exact absurd (by simpa using hp) e
      | cons a r => rw [← hp]; exact ⟨r, by simp⟩
  · rintro (rfl | hb)
    · exact below_self h1
    · obtain ⟨_, _, hs⟩ := below_iff.1 hb
      refine below_iff.2 ⟨h1, ht, hs.trans ?_⟩
      rw [h4]
      exact List.tail_suffix _

theorem before_parent {s p : Str} (h : parentOf s = some p) : before p s = true ∧ below s p = true := by
  obtain ⟨h1, h2, h3, h4, h5⟩ := parentOf_some h
  have hb : below s p = true := below_iff.2 ⟨h1, h3, by rw [h4]; exact List.tail_suffix _⟩
  refine ⟨?_, hb⟩
  have hne : p ≠ s := fun e => by
    rw [e] at h4
    cases hl : labs s with
    | nil => exact h5 hl
    | cons a r => rw [hl] at h4; have := congrArg List.length h4; simp at this
  rcases before_total h3 h1 hne with k | k
  · exact k
  · rw [not_before_of_below hb] at k; cases k

theorem starOf_eq (s : Str) : starOf s = (parentOf s).map (fun p => if p = [46] then [42, 46] else [42, 46] ++ p) := by
  unfold starOf
  by_cases hc : (valid s && s != [46]) = true
  · have hp : parentOf s = some (join (labs s).tail) := by unfold parentOf; rw [if_pos hc]
    rw [if_pos hc, hp]
    obtain ⟨h1, h2, h3, h4, h5⟩ := parentOf_some hp
    simp only [Option.map_some, Option.some.injEq]
    by_cases e : (labs s).tail = []
    · rw [e]; simp [join, joined]
    · have hj : join (labs s).tail = joined (labs s).tail := by unfold join; rw [if_neg e]
      have : joined (labs s).tail ≠ [46] := joined_ne_dot fun l hl => (okLabs_pos (valid_iff.1 h1).2.2.2.1 l (List.mem_of_mem_tail hl)).1
      rw [hj, if_neg this]
      simp [join, joined]
  · have hp : parentOf s = none := by unfold parentOf; rw [if_neg hc]
    rw [if_neg hc, hp]; rfl

/-! ### common tops -/

theorem common_le (x y : List Str) : common x y ≤ x.length := by
  induction x generalizing y with
  | nil => cases y <;> simp [common]
  | cons p ps ih =>
    cases y with
    | nil => simp [common]
    | cons q qs =>
      simp only [common]
      split
      · have := ih qs; simp; omega
      · simp

theorem common_comm (x y : List Str) : common x y = common y x := by
  induction x generalizing y with
  | nil => cases y <;> rfl
  | cons p ps ih =>
    cases y with
    | nil => rfl
    | cons q qs =>
      simp only [common]
      by_cases e : p = q
      · subst e; simp [ih]
      · have e' : q ≠ p := fun x => e x.symm
        simp [e, e']

theorem take_common (x y : List Str) : x.take (common x y) = y.take (common x y) := by
  induction x generalizing y with
  | nil => cases y <;> simp [common]
  | cons p ps ih =>
    cases y with
    | nil => simp [common]
    | cons q qs =>
      simp only [common]
      by_cases e : p = q
      · subst e; simp [ih]
      · simp [e]

theorem take_prefix_iff (x y : List Str) (j : Nat) (h : j ≤ x.length) : x.take j <+: y ↔ j ≤ common x y := by
  induction x generalizing y j with
  | nil =>
    have : j = 0 := by simpa using h
    subst this
    simp
  | cons p ps ih =>
    cases j with
    | zero => simp
    | succ j =>
      cases y with
      | nil => simp [common]
      | cons q qs =>
        simp only [List.take_succ_cons, List.cons_prefix_cons, common]
        by_cases e : p = q
        · subst e
          simp only [true_and, if_true]
          rw [ih qs j (by simpa using h)]
          omega
        · simp [e]

theorem drop_rev (x : List Str) (k : Nat) : (x.drop (x.length - k)).reverse = x.reverse.take k := by
  rw [List.reverse_drop]
  by_cases h : k ≤ x.length
  · congr 1; omega
  · rw [List.take_of_length_le (by simp; omega), List.take_of_length_le (by simp; omega)]

theorem sameEnds_le (x y : List Str) : sameEnds x y ≤ x.length := by
  have := common_le x.reverse y.reverse
  simpa [sameEnds] using this
theorem sameEnds_comm (x y : List Str) : sameEnds x y = sameEnds y x := common_comm _ _

theorem ends_same (x y : List Str) : x.drop (x.length - sameEnds x y) = y.drop (y.length - sameEnds x y) := by
  have := take_common x.reverse y.reverse
  have h : (x.drop (x.length - sameEnds x y)).reverse = (y.drop (y.length - sameEnds x y)).reverse := by
    rw [drop_rev, drop_rev]; exact this
  simpa using h

theorem drop_suffix_iff (x y : List Str) (k : Nat) (h : k ≤ x.length) : x.drop k <:+ y ↔ x.length - k ≤ sameEnds x y := by
  rw [← List.reverse_prefix]
  have e : (x.drop k).reverse = x.reverse.take (x.length - k) := by
    have := drop_rev x (x.length - k)
    rwa [show x.length - (x.length - k) = k by omega] at this
  rw [e, take_prefix_iff _ _ _ (by simp)]
  rfl

theorem commonTop_eq {a b : Str} (ha : valid a = true) (hb : valid b = true) :
    commonTop a b = some (join ((labs a).drop ((labs a).length - sameEnds (labs a) (labs b)))) := by simp [commonTop, ha, hb]
theorem commonTop_comm (a b : Str) : commonTop a b = commonTop b a := by
  unfold commonTop
  rw [Bool.and_comm (valid b)]
  split
  · rw [ends_same, sameEnds_comm]
  · rfl
theorem commonTop_some {a b c : Str} (h : commonTop a b = some c) :
    valid a = true ∧ valid b = true ∧ valid c = true ∧ labs c = (labs a).drop ((labs a).length - sameEnds (labs a) (labs b)) ∧ (labs c).length = sameEnds (labs a) (labs b) := by
  unfold commonTop at h
  split at h
  · rename_i hc
    simp only [Bool.and_eq_true] at hc
    injection h with h
    subst h
    have := sameEnds_le (labs a) (labs b)
    refine ⟨hc.1, hc.2, valid_drop hc.1 _, labs_drop hc.1 _, ?_⟩
    rw [labs_drop hc.1, List.length_drop]
    omega
  · cases h
theorem commonTop_below {a b c : Str} (h : commonTop a b = some c) : below a c = true ∧ below b c = true := by
  obtain ⟨ha, hb, hc, hl, hn⟩ := commonTop_some h
  refine ⟨below_iff.2 ⟨ha, hc, by rw [hl]; exact List.drop_suffix _ _⟩, below_iff.2 ⟨hb, hc, ?_⟩⟩
  rw [hl, ends_same]
  exact List.drop_suffix _ _
/-- Of the names above a, those that b is below too are those with no more labels than the common top. -/
theorem commonTop_longest {a b c s : Str} (h : commonTop a b = some c) (hs : below a s = true) : below b s = decide ((labs s).length ≤ (labs c).length) := by
  obtain ⟨ha, hb, hc, hl, hn⟩ := commonTop_some h
  obtain ⟨_, hsv, pre, hp⟩ := below_iff.1 hs
  have e : labs s = (labs a).drop pre.length := by rw [← hp]; simp
  have hle : pre.length ≤ (labs a).length := by rw [← hp]; simp
  rw [Bool.eq_iff_iff, decide_eq_true_eq, hn, e, List.length_drop, ← drop_suffix_iff _ _ _ hle, below_iff, e]
  exact ⟨fun h => h.2.2, fun h => ⟨hb, hsv, h⟩⟩

/-! ### wildcards -/

theorem starOf_some {s x : Str} (h : starOf s = some x) : ∃ p, parentOf s = some p ∧ x = (if p = [46] then [42, 46] else [42, 46] ++ p) := by
  rw [starOf_eq] at h
  cases hp : parentOf s with
  | none => rw [hp] at h; cases h
  | some p => rw [hp] at h; exact ⟨p, rfl, by simpa using h.symm⟩

theorem star_inj {p q : Str} (hp : valid p = true) (hq : valid q = true) :
    (if p = [46] then ([42, 46] : Str) else [42, 46] ++ p) = (if q = [46] then [42, 46] else [42, 46] ++ q) ↔ p = q := by
  constructor
  · intro h
    have h1 := (valid_len hp).1
    have h2 := (valid_len hq).1
    by_cases e1 : p = [46] <;> by_cases e2 : q = [46]
    · rw [e1, e2]
    · rw [if_pos e1, if_neg e2] at h
      have := congrArg List.length h
      simp at this
      subst this; simp at h2
    · rw [if_neg e1, if_pos e2] at h
      have := congrArg List.length h
      simp at this
      subst this; simp at h1
    · rw [if_neg e1, if_neg e2] at h
      simpa using h
  · intro h; rw [h]

theorem joined_cons (a : Str) (r : List Str) : joined (a :: r) = a ++ 46 :: joined r := by simp [joined]

/-- A wildcard's name has the parent of the name, and is its own wildcard. -/
theorem star_star {s x : Str} (h : starOf s = some x) : starOf x = some x ∧ parentOf x = parentOf s ∧ x.head? = some 42 := by
  unfold starOf at h
  split at h
  · rename_i hc
    simp only [Bool.and_eq_true, bne_iff_ne, ne_eq] at hc
    injection h with h
    obtain ⟨hv, hr⟩ := hc
    obtain ⟨h1, h2, h3, h4, h5⟩ := valid_iff.1 hv
    have hne : labs s ≠ [] := fun e => hr ((labs_nil hv).1 e)
    cases hl : labs s with
    | nil => exact absurd hl hne
    | cons a r =>
      rw [hl] at h h4 h5
      simp only [List.tail_cons] at h
      have hok : okLabs ([42] :: r) = true := by
        simp only [okLabs, Bool.and_eq_true] at h4 ⊢
        exact ⟨by decide, h4.2⟩
      have ha := (okLabs_pos h4 a (by simp)).1
      have hx : valid x = true := by
        rw [← h]
        refine valid_join hok (by simpa using h5) ?_
        have e : join (labs s) = s := join_labs hv
        rw [hl] at e
        unfold join at e ⊢
        rw [if_neg (by simp)] at e ⊢
        rw [joined_cons] at e ⊢
        have := congrArg List.length e
        simp at this ⊢
        omega
      have hlx : labs x = [42] :: r := by rw [← h]; exact labs_join hok
      have hxr : x ≠ [46] := fun e => by rw [e, labs_root] at hlx; cases hlx
      refine ⟨?_, ?_, ?_⟩
      · unfold starOf
        rw [if_pos (by simp [hx, hxr]), hlx, List.tail_cons, h]
      · unfold parentOf
        rw [if_pos (by simp [hx, hxr]), if_pos (by simp [hv, hr]), hlx, hl]
        rfl
      · rw [← h]
        simp [join, joined]
  · cases h

/-! ### great letters -/

def upByte (c : UInt8) : UInt8 := if 97 ≤ c ∧ c ≤ 122 then c - 32 else c
def upper (s : Str) : Str := s.map upByte

theorem upByte_cases (c : UInt8) : (97 ≤ c.toNat ∧ c.toNat ≤ 122 ∧ (upByte c).toNat = c.toNat - 32) ∨ (¬ (97 ≤ c.toNat ∧ c.toNat ≤ 122) ∧ upByte c = c) := by
  unfold upByte
  by_cases h : 97 ≤ c ∧ c ≤ 122
  · left
    rw [if_pos h]
    simp only [UInt8.le_iff_toNat_le] at h
    simp at h
    refine ⟨h.1, h.2, ?_⟩
    rw [UInt8.toNat_sub]
    simp
    omega
  · right
    rw [if_neg h]
    simp only [UInt8.le_iff_toNat_le] at h
    simpa using h

theorem upByte_dot (c : UInt8) : upByte c = 46 ↔ c = 46 := by
  rcases upByte_cases c with ⟨h1, h2, h3⟩ | ⟨h1, h2⟩
  · rw [← UInt8.toNat_inj, ← UInt8.toNat_inj, h3]; simp; omega
  · rw [h2]
theorem upByte_at (c : UInt8) : upByte c = 64 ↔ c = 64 := by
  rcases upByte_cases c with ⟨h1, h2, h3⟩ | ⟨h1, h2⟩
  · rw [← UInt8.toNat_inj, ← UInt8.toNat_inj, h3]; simp; omega
  · rw [h2]
theorem low_up (c : UInt8) : lowByte (upByte c) = lowByte c := by
  rcases upByte_cases c with ⟨h1, h2, h3⟩ | ⟨h1, h2⟩
  · have e1 : lowByte c = c := by
      unfold lowByte
      rw [if_neg]
      simp only [UInt8.le_iff_toNat_le]; simp; omega
    rw [e1, ← UInt8.toNat_inj]
    unfold lowByte
    rw [if_pos]
    · rw [UInt8.toNat_add, h3]; simp; omega
    · simp only [UInt8.le_iff_toNat_le, h3]; simp; omega
  · rw [h2]

theorem readName_upper (t o : Str) : readName (upper t) o = readName t o := by
  have hf : fullText (upper t) o = fullText t o := by
    have h1 : upper t = [64] ↔ t = [64] := by
      unfold upper
      match t with
      | [] => simp
      | [c] => simp [upByte_at]
      | _ :: _ :: _ => simp
    have h2 : (upper t).getLast? = some 46 ↔ t.getLast? = some 46 := by
      unfold upper
      rw [List.getLast?_map]
      cases t.getLast? with
      | none => simp
      | some c => simp [upByte_dot]
    have h3 : lower (upper t) = lower t := by
      unfold lower upper
      rw [List.map_map]
      exact List.map_congr_left fun c _ => low_up c
    unfold fullText
    simp only [h1, h2, h3]
  have hl : (upper t).length = t.length := by simp [upper]
  have he : (upper t).isEmpty = t.isEmpty := by simp [upper]
  unfold readName
  rw [hf, hl, he]

/-- The bytes of a valid name: those of its labels, and a dot for each; the root alone has one more. -/
theorem name_sum {s : Str} (h : valid s = true) : ((labs s).map (fun l => l.length + 1)).sum = s.length ∨ s = [46] := by
  by_cases e : s = [46]
  · right; exact e
  · left
    have hj := join_labs h
    have hne : labs s ≠ [] := fun e2 => e ((labs_nil h).1 e2)
    unfold join at hj
    rw [if_neg hne] at hj
    have := joined_length (labs s)
    rw [hj] at this
    exact this.symm

/-! ### labels by their places -/

def okAt (ls : List Str) (j : Nat) : Bool := okLabel (ls.getD j []) || (j == 0 && ls.getD 0 [] == [42])
theorem okLabs_iff (ls : List Str) : okLabs ls = true ↔ ∀ j, j < ls.length → okAt ls j = true := by
  cases ls with
  | nil => simp [okLabs]
  | cons a r =>
    simp only [okLabs, Bool.and_eq_true, List.all_eq_true]
    constructor
    · rintro ⟨h1, h2⟩ j hj
      cases j with
      | zero => simpa [okAt] using h1
      | succ j =>
        have hj' : j < r.length := by simpa using hj
        simp [okAt, hj', h2 _ (List.getElem_mem hj')]
    · intro h
      refine ⟨by simpa [okAt] using h 0 (by simp), fun x hx => ?_⟩
      obtain ⟨j, hj, rfl⟩ := List.getElem_of_mem hx
      have := h (j + 1) (by simpa using hj)
      simpa [okAt, hj] using this
theorem okLabs_false {ls : List Str} {j : Nat} (hj : j < ls.length) (h : okAt ls j = false) : okLabs ls = false := by
  rw [Bool.eq_false_iff]
  intro e
  rw [(okLabs_iff ls).1 e j hj] at h
  cases h

theorem cut_piece (s cur : Str) : ∀ l ∈ cut s cur, l.length ≤ cur.length + s.length := by
  induction s generalizing cur with
  | nil => intro l hl; cases hl
  | cons c r ih =>
    intro l hl
    by_cases e : c = 46
    · simp only [cut, if_pos e, List.mem_cons] at hl
      rcases hl with rfl | hl
      · omega
      · have := ih [] l hl; simp at this ⊢; omega
    · simp only [cut, if_neg e] at hl
      have := ih _ l hl; simp at this ⊢; omega
theorem labs_piece (s : Str) : ∀ l ∈ labs s, l.length ≤ s.length := by
  intro l hl
  unfold labs at hl
  split at hl
  · cases hl
  · simpa using cut_piece s [] l hl
theorem labs_count (s : Str) : (labs s).length ≤ s.length := by
  unfold labs
  split
  · simp
  · rw [cut_length]; exact List.count_le_length
end Go.Proofs.Ytgglakonkphbgaa.Z

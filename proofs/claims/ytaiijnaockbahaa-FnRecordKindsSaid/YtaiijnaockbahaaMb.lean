/- The order of records, and what the laws of chapter 2 say of the plain functions. -/
import Derived.Test.YtaiijnaockbahaaMa
namespace Go.Proofs.Ytaiijnaockbahaa.Z

/-! ### the order -/

def ltInts : List Int → List Int → Bool
  | n :: r, m :: q => if n = m then ltInts r q else decide (n < m)
  | _, _ => false
def ltName (a b : Str) : Bool := ltRev (labs a).reverse (labs b).reverse
def ltRec (a b : Rec) : Bool :=
  if a.name = b.name then
    if a.kind = b.kind then
      if a.nums = b.nums then
        if a.target = b.target then
          if a.text = b.text then decide (a.ttl < b.ttl) else decide (a.text < b.text)
        else ltName a.target b.target
      else ltInts a.nums b.nums
    else decide (a.kind < b.kind)
  else ltName a.name b.name
def recBefore (a b : Rec) : Bool := recValid a && recValid b && ltRec a b

theorem ltInts_irrefl (a : List Int) : ltInts a a = false := by
  induction a with
  | nil => rfl
  | cons n r ih => simp [ltInts, ih]
theorem ltInts_trans : ∀ {a b c : List Int}, ltInts a b = true → ltInts b c = true → ltInts a c = true
  | n :: r, m :: q, k :: p, h1, h2 => by
    unfold ltInts at h1 h2 ⊢
    by_cases e1 : n = m
    · subst e1
      rw [if_pos rfl] at h1
      by_cases e2 : n = k
      · subst e2
        rw [if_pos rfl] at h2 ⊢
        exact ltInts_trans h1 h2
      · rw [if_neg e2] at h2 ⊢
        exact h2
    · rw [if_neg e1] at h1
      by_cases e2 : m = k
      · subst e2
        rw [if_neg e1]
        exact h1
      · rw [if_neg e2] at h2
        simp only [decide_eq_true_eq] at h1 h2
        rw [if_neg (by omega)]
        simp only [decide_eq_true_eq]; omega
  | [], _, _, h1, _ => by simp [ltInts] at h1
  | _ :: _, [], _, h1, _ => by simp [ltInts] at h1
  | _ :: _, _ :: _, [], _, h2 => by simp [ltInts] at h2
theorem ltInts_total : ∀ {a b : List Int}, a.length = b.length → a ≠ b → ltInts a b = true ∨ ltInts b a = true
  | [], [], _, h => absurd rfl h
  | n :: r, m :: q, hl, h => by
    unfold ltInts
    by_cases e : n = m
    · subst e
      rw [if_pos rfl, if_pos rfl]
      exact ltInts_total (by simpa using hl) (fun e => h (by rw [e]))
    · rw [if_neg e, if_neg (Ne.symm e)]
      simp only [decide_eq_true_eq]; omega
  | [], _ :: _, hl, _ => by simp at hl
  | _ :: _, [], hl, _ => by simp at hl
theorem ltName_irrefl (a : Str) : ltName a a = false := ltRev_irrefl _
theorem ltName_trans {a b c : Str} (h : ltName a b = true) (k : ltName b c = true) : ltName a c = true := ltRev_trans h k
theorem ltName_total {a b : Str} (ha : valid a = true) (hb : valid b = true) (h : a ≠ b) : ltName a b = true ∨ ltName b a = true :=
  ltRev_total (fun e => h (labs_inj ha hb (by have := congrArg List.reverse e; rwa [List.reverse_reverse, List.reverse_reverse] at this)))
theorem before_name (a b : Str) : before a b = (valid a && valid b && ltName a b) := rfl
theorem str_trans {a b c : Str} (h : a < b) (k : b < c) : a < c := List.lt_trans h k
theorem str_total {a b : Str} (h : a ≠ b) : a < b ∨ b < a := by
  by_cases h1 : a < b
  · exact Or.inl h1
  · by_cases h2 : b < a
    · exact Or.inr h2
    · exact absurd (List.le_antisymm (List.not_lt.1 h2) (List.not_lt.1 h1)) h

theorem lex_trans {α : Type} [DecidableEq α] {x y z : α} {l1 l2 l3 r1 r2 r3 : Bool} (h : (if x = y then r1 else l1) = true) (k : (if y = z then r2 else l2) = true)
    (hr : x = y → y = z → r1 = true → r2 = true → r3 = true) (hl : l1 = true → l2 = true → l3 = true ∧ x ≠ z)
    (hxy : x = y → l2 = l3) (hyz : y = z → l1 = l3) : (if x = z then r3 else l3) = true := by
  by_cases e1 : x = y
  · rw [if_pos e1] at h
    by_cases e2 : y = z
    · rw [if_pos e2] at k
      rw [if_pos (e1.trans e2)]
      exact hr e1 e2 h k
    · rw [if_neg e2] at k
      rw [if_neg (fun e => e2 (e1 ▸ e)), ← hxy e1]
      exact k
  · rw [if_neg e1] at h
    by_cases e2 : y = z
    · rw [if_pos e2] at k
      rw [if_neg (fun e => e1 (e.trans e2.symm)), ← hyz e2]
      exact h
    · rw [if_neg e2] at k
      obtain ⟨p, q⟩ := hl h k
      rw [if_neg q]
      exact p

theorem ltRec_irrefl (a : Rec) : ltRec a a = false := by simp [ltRec]
theorem ltName_ne {a b c : Str} (h : ltName a b = true) (k : ltName b c = true) : a ≠ c := by
  intro e; subst e
  have := ltName_trans h k
  rw [ltName_irrefl] at this; cases this
theorem ltInts_ne {a b c : List Int} (h : ltInts a b = true) (k : ltInts b c = true) : a ≠ c := by
  intro e; subst e
  have := ltInts_trans h k
  rw [ltInts_irrefl] at this; cases this

theorem ltRec_trans {a b c : Rec} (h : ltRec a b = true) (k : ltRec b c = true) : ltRec a c = true := by
  unfold ltRec at h k ⊢
  refine lex_trans h k (fun _ _ h k => lex_trans h k (fun _ _ h k => lex_trans h k (fun _ _ h k => lex_trans h k (fun _ _ h k => lex_trans h k (fun _ _ h k => ?_) ?_ ?_ ?_) ?_ ?_ ?_) ?_ ?_ ?_) ?_ ?_ ?_) ?_ ?_ ?_
  · simp only [decide_eq_true_eq] at h k ⊢; omega
  · intro h k
    simp only [decide_eq_true_eq] at h k ⊢
    exact ⟨str_trans h k, fun e => lt_irrefl' _ (e ▸ str_trans h k)⟩
  · intro e; rw [e]
  · intro e; rw [e]
  · exact fun h k => ⟨ltName_trans h k, ltName_ne h k⟩
  · intro e; rw [e]
  · intro e; rw [e]
  · exact fun h k => ⟨ltInts_trans h k, ltInts_ne h k⟩
  · intro e; rw [e]
  · intro e; rw [e]
  · intro h k
    simp only [decide_eq_true_eq] at h k ⊢
    exact ⟨by omega, by omega⟩
  · intro e; rw [e]
  · intro e; rw [e]
  · exact fun h k => ⟨ltName_trans h k, ltName_ne h k⟩
  · intro e; rw [e]
  · intro e; rw [e]

theorem recBefore_iff {a b : Rec} : recBefore a b = true ↔ recValid a = true ∧ recValid b = true ∧ ltRec a b = true := by simp [recBefore, and_assoc]
theorem recBefore_trans {a b c : Rec} (h : recBefore a b = true) (k : recBefore b c = true) : recBefore a c = true := by
  rw [recBefore_iff] at h k ⊢
  exact ⟨h.1, k.2.1, ltRec_trans h.2.2 k.2.2⟩
theorem recBefore_asymm {a b : Rec} (h : recBefore a b = true) : recBefore b a = false := by
  rw [Bool.eq_false_iff]
  intro k
  have := (recBefore_iff.1 (recBefore_trans h k)).2.2
  rw [ltRec_irrefl] at this; cases this
theorem recBefore_irrefl (a : Rec) : recBefore a a = false := by simp [recBefore, ltRec_irrefl]

theorem okRest_target {k : Int} {t x : Str} (h : okRest k t x = true) : (k = 1 ∨ k = 16) ∧ t = [] ∨ ¬ (k = 1 ∨ k = 16) ∧ valid t = true ∧ x = [] := by
  unfold okRest at h
  split at h
  · rename_i hk
    simp at h
    exact Or.inl ⟨hk, h.1.1⟩
  · rename_i hk
    simp at h
    exact Or.inr ⟨hk, h⟩
theorem ltRec_total {a b : Rec} (ha : recValid a = true) (hb : recValid b = true) (h : a ≠ b) : ltRec a b = true ∨ ltRec b a = true := by
  obtain ⟨a1, _, _, a4, a5, a6⟩ := recValid_iff.1 ha
  obtain ⟨b1, _, _, b4, b5, b6⟩ := recValid_iff.1 hb
  unfold ltRec
  by_cases e1 : a.name = b.name
  · rw [if_pos e1, if_pos e1.symm]
    by_cases e2 : a.kind = b.kind
    · rw [if_pos e2, if_pos e2.symm]
      by_cases e3 : a.nums = b.nums
      · rw [if_pos e3, if_pos e3.symm]
        by_cases e4 : a.target = b.target
        · rw [if_pos e4, if_pos e4.symm]
          by_cases e5 : a.text = b.text
          · rw [if_pos e5, if_pos e5.symm]
            have : a.ttl ≠ b.ttl := fun e6 => h (by cases a; cases b; simp_all)
            simp only [decide_eq_true_eq]; omega
          · rw [if_neg e5, if_neg (Ne.symm e5)]
            simp only [decide_eq_true_eq]
            exact str_total e5
        · rw [if_neg e4, if_neg (Ne.symm e4)]
          rw [← e2] at b6
          rcases okRest_target a6 with ⟨p, q⟩ | ⟨p, q, _⟩
          · rcases okRest_target b6 with ⟨_, q'⟩ | ⟨p', _⟩
            · exact absurd (q.trans q'.symm) e4
            · exact absurd p p'
          · rcases okRest_target b6 with ⟨p', _⟩ | ⟨_, q', _⟩
            · exact absurd p' p
            · exact ltName_total q q' e4
      · rw [if_neg e3, if_neg (Ne.symm e3)]
        exact ltInts_total (by rw [okNums_length a5, okNums_length b5, e2]) e3
    · rw [if_neg e2, if_neg (Ne.symm e2)]
      simp only [decide_eq_true_eq]; omega
  · rw [if_neg e1, if_neg (Ne.symm e1)]
    exact ltName_total a1 b1 e1
theorem recBefore_total {a b : Rec} (ha : recValid a = true) (hb : recValid b = true) : (recBefore a b || recBefore b a) = !recSame a b := by
  by_cases e : a = b
  · rw [(recSame_iff a b).2 e, e, recBefore_irrefl]; rfl
  · have h1 : recSame a b = false := by
      rw [Bool.eq_false_iff]; exact fun h => e ((recSame_iff a b).1 h)
    rw [h1]
    simp only [recBefore, ha, hb, Bool.true_and]
    rcases ltRec_total ha hb e with h | h <;> simp [h]

/-! ### what the laws ask -/

theorem recBefore_names {a b : Rec} (ha : recValid a = true) (hb : recValid b = true) (h : a.name ≠ b.name) : recBefore a b = before a.name b.name := by
  have h1 := (recValid_iff.1 ha).1
  have h2 := (recValid_iff.1 hb).1
  unfold recBefore ltRec
  rw [ha, hb, if_neg h, before_name, h1, h2]
theorem recBefore_kinds {a b : Rec} (ha : recValid a = true) (hb : recValid b = true) (h : a.name = b.name) (hk : a.kind ≠ b.kind) : recBefore a b = decide (a.kind < b.kind) := by
  unfold recBefore ltRec
  rw [ha, hb, if_pos h, if_neg hk]; rfl

theorem valid_ttl {r : Rec} {t : Int} (h : recValid r = true) (h0 : 0 ≤ t) (h1 : t ≤ 100000) : recValid { r with ttl := t } = true := by
  rw [recValid_iff] at h ⊢
  exact ⟨h.1, h0, h1, h.2.2.2⟩
theorem before_ttl {r : Rec} {t : Int} (h : recValid r = true) (h0 : 0 ≤ t) (h1 : t ≤ 100000) : recBefore r { r with ttl := t } = decide (r.ttl < t) := by
  unfold recBefore
  rw [h, valid_ttl h h0 h1]
  simp [ltRec]
theorem same_ttl (r : Rec) (t : Int) : sameData { r with ttl := t } r = true := by simp [sameData]
theorem format_ttl {r : Rec} {t : Int} (h : recValid r = true) (h0 : 0 ≤ t) (h1 : t ≤ 100000) (hne : t ≠ r.ttl) : format { r with ttl := t } ≠ format r := by
  intro e
  have := format_inj (valid_ttl h h0 h1) h e
  exact hne (congrArg Rec.ttl this)

theorem valid_name {r : Rec} {n : Str} (h : recValid r = true) (hn : valid n = true) : recValid { r with name := n } = true := by
  rw [recValid_iff] at h ⊢
  exact ⟨hn, h.2⟩
theorem before_move {r : Rec} {n m : Str} (h : recValid r = true) (hn : valid n = true) (hm : valid m = true) (hne : n ≠ m) : recBefore { r with name := n } { r with name := m } = before n m := by
  rw [recBefore_names (valid_name h hn) (valid_name h hm) hne]
theorem root_before {n : Str} (hn : valid n = true) (hne : n ≠ [46]) : before [46] n = true := by
  rw [before_name, valid_root, hn]
  unfold ltName
  rw [labs_root]
  have h1 : labs n ≠ [] := fun e => hne ((labs_nil hn).1 e)
  have h2 : (labs n).reverse ≠ [] := by simpa using h1
  match e : (labs n).reverse with
  | [] => exact absurd e h2
  | a :: b => rfl
theorem valid_zz : valid [122, 122, 46] = true := by decide
theorem root_zz : before [46] [122, 122, 46] = true := root_before valid_zz (by decide)

theorem okText_nil : okText [] = true := by decide
def bare (k : Int) : Prop := k = 2 ∨ k = 5 ∨ k = 12
theorem valid_kind {r : Rec} (h : recValid r = true) (k : Int) : recValid { r with kind := k } = true ↔ k = r.kind ∨ bare r.kind ∧ bare k := by
  obtain ⟨a1, a2, a3, a4, a5, a6⟩ := recValid_iff.1 h
  obtain ⟨name, ttl, kind, nums, target, text⟩ := r
  dsimp only at *
  constructor
  · intro hk
    obtain ⟨_, _, _, b4, b5, b6⟩ := recValid_iff.1 hk
    dsimp only at b4 b5 b6
    have hl := okNums_length a5
    have hl2 := okNums_length b5
    rw [hl] at hl2
    have hv : ∀ t : Str, t = [] → valid t = false := fun t e => by subst e; decide
    rcases okRest_target a6 with ⟨p, q⟩ | ⟨p, q, _⟩
    · rcases okRest_target b6 with ⟨p', q'⟩ | ⟨p', q', _⟩
      · rcases p with rfl | rfl <;> rcases p' with rfl | rfl <;> simp_all [lims]
      · rw [hv _ q] at q'; cases q'
    · rcases okRest_target b6 with ⟨p', q'⟩ | ⟨p', q', _⟩
      · rw [hv _ q'] at q; cases q
      · rcases a4 with rfl | rfl | rfl | rfl | rfl | rfl | rfl <;> rcases b4 with rfl | rfl | rfl | rfl | rfl | rfl | rfl <;> simp_all [lims, bare]
  · rintro (e | ⟨h1, h2⟩)
    · subst e; exact h
    · rw [recValid_iff]
      refine ⟨a1, a2, a3, ?_, ?_, ?_⟩
      · rcases h2 with rfl | rfl | rfl <;> simp [isKind]
      · have e1 : lims kind = [] := by rcases h1 with rfl | rfl | rfl <;> rfl
        have e2 : lims k = [] := by rcases h2 with rfl | rfl | rfl <;> rfl
        rw [e1] at a5
        rw [e2]; exact a5
      · have e1 : okRest kind target text = (valid target && decide (text = [])) := by rcases h1 with rfl | rfl | rfl <;> rfl
        have e2 : okRest k target text = (valid target && decide (text = [])) := by rcases h2 with rfl | rfl | rfl <;> rfl
        rw [e1] at a6
        rw [e2]; exact a6

theorem last_append {a b : Str} (h : b ≠ []) : (a ++ b).getLast? = b.getLast? := by
  rw [List.getLast?_append]
  cases e : b.getLast? with
  | none => exact absurd (List.getLast?_eq_none_iff.1 e) h
  | some c => rfl
theorem last_cons {a : UInt8} {b : Str} (h : b ≠ []) : (a :: b).getLast? = b.getLast? := last_append (a := [a]) h
theorem last_itoa {n : Int} (h : 0 ≤ n) : (Lib.itoa n).getLast? ≠ some 32 := by
  intro e
  exact itoa_noSign h (c := 32) (by decide) (List.mem_of_getLast? e)
theorem itoa_ne {n : Int} (h : 0 ≤ n) : Lib.itoa n ≠ [] := by rw [itoa_pos h]; exact dec_ne _
theorem last_nums : ∀ {ns : List Int}, (∀ n ∈ ns, 0 ≤ n ∧ n ≤ 4294967295) → ns ≠ [] → (ns.map (fun n => 32 :: Lib.itoa n)).flatten ≠ [] ∧ (ns.map (fun n => 32 :: Lib.itoa n)).flatten.getLast? ≠ some 32
  | [], _, h => absurd rfl h
  | [a], h, _ => by
    have ha := (h a (by simp)).1
    simp only [List.map_cons, List.map_nil, List.flatten_cons, List.flatten_nil, List.append_nil]
    exact ⟨by simp, by rw [last_cons (itoa_ne ha)]; exact last_itoa ha⟩
  | a :: b :: r, h, _ => by
    obtain ⟨h1, h2⟩ := last_nums (ns := b :: r) (fun n hn => h n (List.mem_cons_of_mem _ hn)) (by simp)
    rw [List.map_cons, List.flatten_cons]
    exact ⟨by simp, by rw [last_append h1]; exact h2⟩
theorem last_data {r : Rec} (h : recValid r = true) : dataText r.kind r.nums r.target r.text ≠ [] ∧ (dataText r.kind r.nums r.target r.text).getLast? ≠ some 32 := by
  obtain ⟨_, _, _, hk, hn, hr⟩ := recValid_iff.1 h
  have hl := okNums_length hn
  have hrg := okNums_range hn (lims_le _)
  obtain ⟨name, ttl, kind, nums, target, text⟩ := r
  dsimp only at hk hn hr hl hrg ⊢
  by_cases h1 : kind = 1
  · subst h1
    match nums, hl with
    | [a, b, c, d], _ =>
      have hd := (hrg d (by simp)).1
      simp only [dataText, if_pos, List.map_cons, List.map_nil, between]
      refine ⟨by simp, ?_⟩
      rw [last_append (by simp), last_cons (by simp), last_append (by simp), last_cons (by simp), last_append (by simp), last_cons (itoa_ne hd)]
      exact last_itoa hd
  · by_cases h16 : kind = 16
    · subst h16
      have hd : dataText 16 nums target text = 34 :: (text ++ [34]) := by unfold dataText; rw [if_neg (by decide), if_pos rfl]
      rw [hd]
      refine ⟨by simp, ?_⟩
      rw [last_cons (by simp), last_append (by simp)]
      decide
    · rcases okRest_target hr with ⟨p, _⟩ | ⟨_, ht, _⟩
      · exact absurd p (by omega)
      · have htl := valid_last ht
        have htn : target ≠ [] := by intro e; subst e; revert ht; decide
        by_cases h15 : kind = 15
        · subst h15
          have hd : dataText 15 nums target text = Lib.itoa (nums.headD 0) ++ 32 :: target := by unfold dataText; rw [if_neg (by decide), if_neg (by decide), if_pos rfl]
          rw [hd]
          refine ⟨by simp, ?_⟩
          rw [last_append (by simp), last_cons htn, htl]
          decide
        · have hd : dataText kind nums target text = target ++ (nums.map (fun n => 32 :: Lib.itoa n)).flatten := by unfold dataText; rw [if_neg h1, if_neg h16, if_neg h15]
          rw [hd]
          by_cases hne : nums = []
          · subst hne
            simp only [List.map_nil, List.flatten_nil, List.append_nil]
            exact ⟨htn, by rw [htl]; decide⟩
          · obtain ⟨k1, k2⟩ := last_nums hrg hne
            exact ⟨by simp [htn], by rw [last_append k1]; exact k2⟩
theorem last_format {r : Rec} (h : recValid r = true) : (format r).getLast? ≠ some 32 := by
  unfold format
  rw [if_pos h]
  obtain ⟨h1, h2⟩ := last_data h
  rw [last_append (by simp), last_cons (by simp), last_append (by simp), last_cons (by simp), last_append (by simp), last_cons h1]
  exact h2
theorem head_format {r : Rec} (h : recValid r = true) : (format r).head? ≠ some 32 := by
  unfold format
  rw [if_pos h]
  have hn := (recValid_iff.1 h).1
  have h2 : r.name ≠ [] := by intro e; rw [e] at hn; revert hn; decide
  rw [head_snoc h2]
  intro e
  exact name_noSpace hn (List.mem_of_head? e)
theorem parse_behind (s : Str) : parse (s ++ [32]) = none := by
  cases e : parse (s ++ [32]) with
  | none => rfl
  | some r =>
    obtain ⟨h1, h2⟩ := parse_some e
    have := last_format h1
    rw [h2, last_append (by simp)] at this
    exact absurd rfl this
theorem parse_front (s : Str) : parse (32 :: s) = none := by
  cases e : parse (32 :: s) with
  | none => rfl
  | some r =>
    obtain ⟨h1, h2⟩ := parse_some e
    have := head_format h1
    rw [h2] at this
    exact absurd rfl this

/-! ### how long things are -/

theorem valid_sizes {r : Rec} (h : recValid r = true) : r.name.length ≤ 60 ∧ r.nums.length ≤ 5 ∧ r.target.length ≤ 60 ∧ r.text.length ≤ 20 := by
  obtain ⟨h1, _, _, _, h5, h6⟩ := recValid_iff.1 h
  have hl := okNums_length h5
  have h5' : (lims r.kind).length ≤ 5 := by
    unfold lims
    repeat' split
    all_goals decide
  refine ⟨(valid_len h1).2, by omega, ?_, ?_⟩
  · rcases okRest_target h6 with ⟨_, q⟩ | ⟨_, q, _⟩
    · rw [q]; simp
    · exact (valid_len q).2
  · unfold okRest at h6
    split at h6
    · simp [okText] at h6; omega
    · simp at h6; rw [h6.2]; simp

end Go.Proofs.Ytaiijnaockbahaa.Z

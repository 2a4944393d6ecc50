/- Zones as plain functions: sorted records, faults, and what valid zones are. -/
import Derived.Test.YtgglakonkphbgaaMc
namespace Go.Proofs.Ytgglakonkphbgaa.Z

/-! ### sorted records -/

def Srt (l : List Rec) : Prop := l.Pairwise (fun a b => recBefore a b = true)
def insertR (r : Rec) : List Rec → List Rec
  | [] => [r]
  | a :: l => if ltRec r a then r :: a :: l else a :: insertR r l
def sortStep (out : List Rec) (x : Rec) : List Rec := if x ∈ out then out else insertR x out
def sortR (l : List Rec) : List Rec := l.foldl sortStep []
def sortRecords (l : List Rec) : Option (List Rec) := if l.length ≤ 60 ∧ l.all recValid = true then some (sortR l) else none

theorem mem_insertR {x r : Rec} : ∀ {l : List Rec}, x ∈ insertR r l ↔ x = r ∨ x ∈ l
  | [] => by simp [insertR]
  | a :: l => by
    simp only [insertR]
    split
    · simp
    · rw [List.mem_cons, mem_insertR, List.mem_cons]
      constructor
      · rintro (h | h | h)
        · exact Or.inr (Or.inl h)
        · exact Or.inl h
        · exact Or.inr (Or.inr h)
      · rintro (h | h | h)
        · exact Or.inr (Or.inl h)
        · exact Or.inl h
        · exact Or.inr (Or.inr h)
theorem length_insertR (r : Rec) : ∀ l : List Rec, (insertR r l).length = l.length + 1
  | [] => rfl
  | a :: l => by
    simp only [insertR]
    split
    · simp
    · simp [length_insertR r l]
theorem srt_insertR {r : Rec} (hr : recValid r = true) : ∀ {l : List Rec}, Srt l → (∀ x ∈ l, recValid x = true) → r ∉ l → Srt (insertR r l)
  | [], _, _, _ => by simp [insertR, Srt]
  | a :: l, hs, hv, hn => by
    have ha := hv a (by simp)
    obtain ⟨h1, h2⟩ := List.pairwise_cons.1 hs
    simp only [insertR]
    split
    · rename_i hlt
      have hb : recBefore r a = true := recBefore_iff.2 ⟨hr, ha, hlt⟩
      refine List.pairwise_cons.2 ⟨fun x hx => ?_, hs⟩
      rcases List.mem_cons.1 hx with rfl | hx
      · exact hb
      · exact recBefore_trans hb (h1 x hx)
    · rename_i hlt
      refine List.pairwise_cons.2 ⟨fun x hx => ?_, srt_insertR hr h2 (fun x hx => hv x (List.mem_cons_of_mem _ hx)) (fun h => hn (List.mem_cons_of_mem _ h))⟩
      rcases mem_insertR.1 hx with rfl | hx
      · have hne : a ≠ x := fun e => hn (by rw [e]; simp)
        rcases ltRec_total ha hr hne with h | h
        · exact recBefore_iff.2 ⟨ha, hr, h⟩
        · exact absurd h hlt
      · exact h1 x hx
theorem srt_nodup {l : List Rec} (h : Srt l) : l.Nodup := by
  refine List.Pairwise.imp ?_ h
  intro a b hab e
  subst e
  rw [recBefore_irrefl] at hab
  cases hab
/-- Sorted lists with the same members are equal. -/
theorem srt_ext : ∀ {a b : List Rec}, Srt a → Srt b → (∀ x, x ∈ a ↔ x ∈ b) → a = b
  | [], [], _, _, _ => rfl
  | [], y :: b, _, _, h => absurd ((h y).2 (by simp)) (by simp)
  | x :: a, [], _, _, h => absurd ((h x).1 (by simp)) (by simp)
  | x :: a, y :: b, ha, hb, h => by
    obtain ⟨a1, a2⟩ := List.pairwise_cons.1 ha
    obtain ⟨b1, b2⟩ := List.pairwise_cons.1 hb
    have hxy : x = y := by
      rcases List.mem_cons.1 ((h x).1 (by simp)) with e | e
      · exact e
      · rcases List.mem_cons.1 ((h y).2 (by simp)) with k | k
        · exact k.symm
        · have p := b1 x e
          have q := a1 y k
          rw [recBefore_asymm p] at q
          cases q
    subst hxy
    have hx1 : x ∉ a := fun hm => by
      have := a1 x hm
      rw [recBefore_irrefl] at this; cases this
    have hx2 : x ∉ b := fun hm => by
      have := b1 x hm
      rw [recBefore_irrefl] at this; cases this
    rw [srt_ext a2 b2 (fun z => ?_)]
    constructor
    · intro hz
      rcases List.mem_cons.1 ((h z).1 (List.mem_cons_of_mem _ hz)) with e | e
      · subst e; exact absurd hz hx1
      · exact e
    · intro hz
      rcases List.mem_cons.1 ((h z).2 (List.mem_cons_of_mem _ hz)) with e | e
      · subst e; exact absurd hz hx2
      · exact e
theorem srt_valid : ∀ {l : List Rec}, Srt l → 2 ≤ l.length → ∀ x ∈ l, recValid x = true
  | [], _, h, _, _ => by simp at h
  | [a], _, h, _, _ => by simp at h
  | a :: b :: l, hs, _, x, hx => by
    obtain ⟨h1, h2⟩ := List.pairwise_cons.1 hs
    rcases List.mem_cons.1 hx with rfl | hx
    · exact (recBefore_iff.1 (h1 b (by simp))).1
    · exact (recBefore_iff.1 (h1 x hx)).2.1

theorem sortStep_spec {out : List Rec} {x : Rec} (hx : recValid x = true) (hs : Srt out) (hv : ∀ y ∈ out, recValid y = true) :
    Srt (sortStep out x) ∧ (∀ y ∈ sortStep out x, recValid y = true) ∧ (∀ y, y ∈ sortStep out x ↔ y = x ∨ y ∈ out) ∧ (sortStep out x).length ≤ out.length + 1 := by
  unfold sortStep
  split
  · rename_i h
    refine ⟨hs, hv, fun y => ⟨Or.inr, ?_⟩, by omega⟩
    rintro (rfl | hy)
    · exact h
    · exact hy
  · rename_i h
    refine ⟨srt_insertR hx hs hv h, fun y hy => ?_, fun y => mem_insertR, by rw [length_insertR]; exact Nat.le_refl _⟩
    rcases mem_insertR.1 hy with rfl | hy
    · exact hx
    · exact hv y hy
theorem foldl_sort : ∀ (l out : List Rec), (∀ x ∈ l, recValid x = true) → Srt out → (∀ y ∈ out, recValid y = true) →
    Srt (l.foldl sortStep out) ∧ (∀ y ∈ l.foldl sortStep out, recValid y = true) ∧ (∀ y, y ∈ l.foldl sortStep out ↔ y ∈ l ∨ y ∈ out) ∧ (l.foldl sortStep out).length ≤ l.length + out.length
  | [], out, _, hs, hv => ⟨hs, hv, fun y => by simp, by simp⟩
  | x :: l, out, hl, hs, hv => by
    obtain ⟨h1, h2, h3, h4⟩ := sortStep_spec (hl x (by simp)) hs hv
    obtain ⟨k1, k2, k3, k4⟩ := foldl_sort l (sortStep out x) (fun y hy => hl y (List.mem_cons_of_mem _ hy)) h1 h2
    refine ⟨k1, k2, fun y => ?_, by simp only [List.foldl_cons, List.length_cons]; omega⟩
    rw [List.foldl_cons, k3, h3, List.mem_cons]
    constructor
    · rintro (h | h | h)
      · exact Or.inl (Or.inr h)
      · exact Or.inl (Or.inl h)
      · exact Or.inr h
    · rintro ((h | h) | h)
      · exact Or.inr (Or.inl h)
      · exact Or.inl h
      · exact Or.inr (Or.inr h)
theorem srt_nil : Srt [] := List.Pairwise.nil
theorem sortR_spec {l : List Rec} (hl : ∀ x ∈ l, recValid x = true) : Srt (sortR l) ∧ (∀ y ∈ sortR l, recValid y = true) ∧ (∀ y, y ∈ sortR l ↔ y ∈ l) ∧ (sortR l).length ≤ l.length := by
  obtain ⟨h1, h2, h3, h4⟩ := foldl_sort l [] hl srt_nil (by simp)
  exact ⟨h1, h2, fun y => by rw [sortR, h3]; simp, by unfold sortR; simpa using h4⟩
theorem sortR_sorted {l : List Rec} (hs : Srt l) (hl : ∀ x ∈ l, recValid x = true) : sortR l = l :=
  srt_ext (sortR_spec hl).1 hs (sortR_spec hl).2.2.1
theorem sortR_same {a b : List Rec} (ha : ∀ x ∈ a, recValid x = true) (h : ∀ x, x ∈ a ↔ x ∈ b) : sortR a = sortR b := by
  have hb : ∀ x ∈ b, recValid x = true := fun x hx => ha x ((h x).2 hx)
  exact srt_ext (sortR_spec ha).1 (sortR_spec hb).1 (fun x => by rw [(sortR_spec ha).2.2.1, (sortR_spec hb).2.2.1, h])
theorem sortR_reverse {l : List Rec} (hl : ∀ x ∈ l, recValid x = true) : sortR l.reverse = sortR l :=
  (sortR_same hl (fun x => by simp)).symm
theorem sortR_count {l : List Rec} (hl : ∀ x ∈ l, recValid x = true) {x : Rec} (hx : x ∈ l) : (sortR l).count x = 1 := by
  have h1 := srt_nodup (sortR_spec hl).1
  have h2 : x ∈ sortR l := ((sortR_spec hl).2.2.1 x).2 hx
  have h3 := List.count_pos_iff.2 h2
  have h4 := List.nodup_iff_count.1 h1 x
  omega

theorem srt_erase {l : List Rec} (r : Rec) (h : Srt l) : Srt (l.erase r) := List.Pairwise.sublist List.erase_sublist h
theorem mem_erase' {l : List Rec} {r x : Rec} (h : Srt l) : x ∈ l.erase r ↔ x ≠ r ∧ x ∈ l := by
  rw [List.Nodup.mem_erase_iff (srt_nodup h)]
/-- Adding is undone. -/
theorem erase_insertR {l : List Rec} {r : Rec} (hs : Srt l) (hv : ∀ x ∈ l, recValid x = true) (hr : recValid r = true) (hn : r ∉ l) : (insertR r l).erase r = l := by
  have h1 := srt_insertR hr hs hv hn
  refine srt_ext (srt_erase r h1) hs (fun x => ?_)
  rw [mem_erase' h1, mem_insertR]
  constructor
  · rintro ⟨h, k | k⟩
    · exact absurd k h
    · exact k
  · exact fun h => ⟨fun e => hn (e ▸ h), Or.inr h⟩
/-- Dropping is undone. -/
theorem insertR_erase {l : List Rec} {r : Rec} (hs : Srt l) (hv : ∀ x ∈ l, recValid x = true) (hr : r ∈ l) : insertR r (l.erase r) = l := by
  have h1 := srt_erase r hs
  have h2 : r ∉ l.erase r := fun h => ((mem_erase' hs).1 h).1 rfl
  refine srt_ext (srt_insertR (hv r hr) h1 (fun x hx => hv x ((mem_erase' hs).1 hx).2) h2) hs (fun x => ?_)
  rw [mem_insertR, mem_erase' hs]
  constructor
  · rintro (rfl | ⟨_, h⟩)
    · exact hr
    · exact h
  · intro h
    by_cases e : x = r
    · exact Or.inl e
    · exact Or.inr ⟨e, h⟩
theorem insertR_comm {l : List Rec} {a b : Rec} (hs : Srt l) (hv : ∀ x ∈ l, recValid x = true) (ha : recValid a = true) (hb : recValid b = true) (hna : a ∉ l) (hnb : b ∉ l) (hne : a ≠ b) :
    insertR a (insertR b l) = insertR b (insertR a l) := by
  have h1 := srt_insertR ha hs hv hna
  have h2 := srt_insertR hb hs hv hnb
  have v1 : ∀ x ∈ insertR a l, recValid x = true := fun x hx => by
    rcases mem_insertR.1 hx with rfl | hx
    · exact ha
    · exact hv x hx
  have v2 : ∀ x ∈ insertR b l, recValid x = true := fun x hx => by
    rcases mem_insertR.1 hx with rfl | hx
    · exact hb
    · exact hv x hx
  refine srt_ext (srt_insertR ha h2 v2 ?_) (srt_insertR hb h1 v1 ?_) (fun x => ?_)
  · intro h
    rcases mem_insertR.1 h with h | h
    · exact hne h
    · exact hna h
  · intro h
    rcases mem_insertR.1 h with h | h
    · exact hne h.symm
    · exact hnb h
  · rw [mem_insertR, mem_insertR, mem_insertR, mem_insertR]
    constructor
    · rintro (h | h | h)
      · exact Or.inr (Or.inl h)
      · exact Or.inl h
      · exact Or.inr (Or.inr h)
    · rintro (h | h | h)
      · exact Or.inr (Or.inl h)
      · exact Or.inl h
      · exact Or.inr (Or.inr h)

/-! ### faults -/

def one (o : Str) (p : Option Rec) (i : Nat) (r : Rec) : Nat :=
  if 60 ≤ i ∨ recValid r = false then 2
  else if below r.name o = false then 3
  else if p.any (fun q => !ltRec q r) = true then 4
  else if r.kind = 6 ∧ r.name ≠ o then 5 else 0
def scan (o : Str) : Option Rec → Nat → Bool → List Rec → Except (Nat × Nat) Bool
  | _, _, seen, [] => .ok seen
  | p, i, seen, r :: l =>
    if one o p i r ≠ 0 then .error (one o p i r, i)
    else if r.kind = 6 ∧ seen = true then .error (5, i)
    else scan o (some r) (i + 1) (seen || decide (r.kind = 6)) l
def pair (a r : Rec) : Nat := if a.name ≠ r.name then 0 else if a.kind = r.kind ∧ a.ttl ≠ r.ttl then 6 else if a.kind = 5 ∨ r.kind = 5 then 7 else 0
def pairAt : List Rec → Rec → Nat
  | [], _ => 0
  | a :: l, r => if pair a r ≠ 0 then pair a r else pairAt l r
def scan2 : List Rec → Nat → List Rec → Nat × Nat
  | _, _, [] => (0, 0)
  | b, i, r :: l => if pairAt b r ≠ 0 then (pairAt b r, i) else scan2 (b ++ [r]) (i + 1) l
def fault (o : Str) (l : List Rec) : Nat × Nat :=
  if valid o = false then (1, 0) else
    match scan o none 0 false l with
    | .error e => e
    | .ok false => (5, 0)
    | .ok true => scan2 [] 0 l
def zoneValid (o : Str) (l : List Rec) : Bool := (fault o l).1 == 0

theorem one_zero {o : Str} {p : Option Rec} {i : Nat} {r : Rec} : one o p i r = 0 ↔ i < 60 ∧ recValid r = true ∧ below r.name o = true ∧ (∀ q, p = some q → ltRec q r = true) ∧ (r.kind = 6 → r.name = o) := by
  unfold one
  constructor
  · intro h
    split at h
    · cases h
    · rename_i h1
      split at h
      · cases h
      · rename_i h2
        split at h
        · cases h
        · rename_i h3
          split at h
          · cases h
          · rename_i h4
            refine ⟨by omega, by simpa using fun e => h1 (Or.inr e), by simpa using h2, fun q e => ?_, fun e => Classical.byContradiction fun k => h4 ⟨e, k⟩⟩
            subst e
            simpa using h3
  · rintro ⟨h1, h2, h3, h4, h5⟩
    rw [if_neg (by simp [h2]; omega), if_neg (by simp [h3]), if_neg, if_neg]
    · exact fun k => k.2 (h5 k.1)
    · cases p with
      | none => simp
      | some q => simp [h4 q rfl]
theorem one_le (o : Str) (p : Option Rec) (i : Nat) (r : Rec) : one o p i r ≤ 7 := by
  unfold one
  repeat' split
  all_goals omega

/-- What the first look at the records finds in order. -/
def Looked (o : Str) (p : Option Rec) (i : Nat) (seen : Bool) (l : List Rec) (b : Bool) : Prop :=
  (l = [] ∨ i + l.length ≤ 60) ∧ (∀ x ∈ l, recValid x = true ∧ below x.name o = true ∧ (x.kind = 6 → x.name = o)) ∧ Srt l ∧ (∀ q, p = some q → ∀ x ∈ l, ltRec q x = true) ∧
    (if seen = true then ((l.filter (fun x => decide (x.kind = 6))).length = 0 ∧ b = true) else ((l.filter (fun x => decide (x.kind = 6))).length ≤ 1 ∧ (b = true ↔ (l.filter (fun x => decide (x.kind = 6))).length = 1)))
theorem scan_ok : ∀ (l : List Rec) (o : Str) (p : Option Rec) (i : Nat) (seen b : Bool), scan o p i seen l = .ok b ↔ Looked o p i seen l b
  | [], o, p, i, seen, b => by
    unfold Looked scan
    cases seen <;> cases b <;> simp [Srt]
  | r :: l, o, p, i, seen, b => by
    simp only [scan]
    constructor
    · intro h
      split at h
      · cases h
      · rename_i h1
        have h1' : one o p i r = 0 := by simpa using h1
        obtain ⟨k1, k2, k3, k4, k5⟩ := one_zero.1 h1'
        split at h
        · cases h
        · rename_i h2
          obtain ⟨m1, m2, m3, m4, m5⟩ := (scan_ok l o (some r) (i + 1) _ b).1 h
          have m4' := m4 r rfl
          refine ⟨Or.inr ?_, ?_, ?_, ?_, ?_⟩
          · rcases m1 with rfl | m1
            · simp; omega
            · simp; omega
          · intro x hx
            rcases List.mem_cons.1 hx with rfl | hx
            · exact ⟨k2, k3, k5⟩
            · exact m2 x hx
          · exact List.pairwise_cons.2 ⟨fun x hx => recBefore_iff.2 ⟨k2, (m2 x hx).1, m4' x hx⟩, m3⟩
          · intro q e x hx
            rcases List.mem_cons.1 hx with rfl | hx
            · exact k4 q e
            · exact ltRec_trans (k4 q e) (m4' x hx)
          · by_cases hk : r.kind = 6
            · have hse : seen = false := by
                cases seen with
                | false => rfl
                | true => exact absurd ⟨hk, rfl⟩ h2
              subst hse
              simp [hk] at m5
              simp [hk, m5]
              exact m5.1
            · cases seen with
              | false => simp [hk] at m5 ⊢; exact m5
              | true => simp [hk] at m5 ⊢; exact m5
    · rintro ⟨m1, m2, m3, m4, m5⟩
      have m1' : i + (l.length + 1) ≤ 60 := by
        rcases m1 with m1 | m1
        · cases m1
        · simpa using m1
      obtain ⟨k2, k3, k5⟩ := m2 r (by simp)
      obtain ⟨s1, s2⟩ := List.pairwise_cons.1 m3
      have h1 : one o p i r = 0 := one_zero.2 ⟨by omega, k2, k3, fun q e => m4 q e r (by simp), k5⟩
      rw [if_neg (by simp [h1])]
      have hkey : Looked o (some r) (i + 1) (seen || decide (r.kind = 6)) l b ∧ ¬ (r.kind = 6 ∧ seen = true) := by
        refine ⟨⟨Or.inr (by omega), fun x hx => m2 x (List.mem_cons_of_mem _ hx), s2, fun q e x hx => ?_, ?_⟩, ?_⟩
        · injection e with e
          subst e
          exact (recBefore_iff.1 (s1 x hx)).2.2
        · by_cases hk : r.kind = 6
          · cases seen with
            | false => simp [hk] at m5 ⊢; exact ⟨m5.1, m5.2.2 m5.1⟩
            | true => simp [hk] at m5
          · cases seen with
            | false => simp [hk] at m5 ⊢; exact m5
            | true => simp [hk] at m5 ⊢; exact m5
        · rintro ⟨hk, hs⟩
          subst hs
          simp [hk] at m5
      rw [if_neg hkey.2]
      exact (scan_ok l o (some r) (i + 1) _ b).2 hkey.1

theorem pairAt_zero : ∀ {l : List Rec} {r : Rec}, pairAt l r = 0 ↔ ∀ a ∈ l, pair a r = 0
  | [], _ => by simp [pairAt]
  | a :: l, r => by
    simp only [pairAt]
    split
    · rename_i h
      constructor
      · intro k; exact absurd k h
      · intro k; exact absurd (k a (by simp)) h
    · rename_i h
      rw [pairAt_zero]
      constructor
      · intro k x hx
        rcases List.mem_cons.1 hx with rfl | hx
        · simpa using h
        · exact k x hx
      · exact fun k x hx => k x (List.mem_cons_of_mem _ hx)
theorem scan2_zero : ∀ (l b : List Rec) (i : Nat), (scan2 b i l).1 = 0 ↔ (∀ a ∈ b, ∀ x ∈ l, pair a x = 0) ∧ l.Pairwise (fun a x => pair a x = 0)
  | [], b, i => by simp [scan2]
  | r :: l, b, i => by
    simp only [scan2]
    split
    · rename_i h
      constructor
      · intro k; exact absurd k h
      · rintro ⟨k, _⟩
        exact absurd (pairAt_zero.2 (fun a ha => k a ha r (by simp))) h
    · rename_i h
      have h0 : pairAt b r = 0 := by simpa using h
      rw [scan2_zero l (b ++ [r]) (i + 1), List.pairwise_cons]
      constructor
      · rintro ⟨k1, k2⟩
        refine ⟨fun a ha x hx => ?_, fun x hx => k1 r (by simp) x hx, k2⟩
        rcases List.mem_cons.1 hx with rfl | hx
        · exact pairAt_zero.1 h0 a ha
        · exact k1 a (by simp [ha]) x hx
      · rintro ⟨k1, k2, k3⟩
        refine ⟨fun a ha x hx => ?_, k3⟩
        rcases List.mem_append.1 ha with ha | ha
        · exact k1 a ha x (List.mem_cons_of_mem _ hx)
        · simp at ha; subst ha; exact k2 x hx

def starts (l : List Rec) : Nat := (l.filter (fun x => decide (x.kind = 6))).length
structure ZoneOk (o : Str) (l : List Rec) : Prop where
  origin : valid o = true
  few : l.length ≤ 60
  each : ∀ x ∈ l, recValid x = true ∧ below x.name o = true ∧ (x.kind = 6 → x.name = o)
  srt : Srt l
  start : starts l = 1
  pairs : l.Pairwise (fun a x => pair a x = 0)
theorem zoneValid_iff {o : Str} {l : List Rec} : zoneValid o l = true ↔ ZoneOk o l := by
  unfold zoneValid fault
  rw [beq_iff_eq]
  constructor
  · intro h
    split at h
    · cases h
    · rename_i ho
      split at h
      · rename_i e he
        exfalso
        have herr : ∀ (l : List Rec) (p : Option Rec) (i : Nat) (seen : Bool) (e : Nat × Nat), scan o p i seen l = .error e → e.1 ≠ 0 := by
          intro l
          induction l with
          | nil => intro p i seen e h; simp [scan] at h
          | cons r l ih =>
            intro p i seen e h
            simp only [scan] at h
            split at h
            · rename_i h1; injection h with h; subst h; exact h1
            · split at h
              · injection h with h; subst h; exact (by decide : (5 : Nat) ≠ 0)
              · exact ih _ _ _ _ h
        exact herr _ _ _ _ _ he h
      · cases h
      · rename_i hsc
        obtain ⟨m1, m2, m3, _, m5⟩ := (scan_ok l o none 0 false true).1 hsc
        have m5' := m5.2.1 rfl
        refine ⟨by simpa using ho, ?_, m2, m3, m5', ((scan2_zero l [] 0).1 h).2⟩
        rcases m1 with rfl | m1
        · simp
        · omega
  · intro h
    rw [if_neg (by simp [h.origin])]
    have hsc : scan o none 0 false l = .ok true := (scan_ok l o none 0 false true).2
      ⟨Or.inr (by have := h.few; omega), h.each, h.srt, (fun q e => by cases e), ⟨Nat.le_of_eq h.start, ⟨fun _ => h.start, fun _ => rfl⟩⟩⟩
    rw [hsc]
    exact (scan2_zero l [] 0).2 ⟨(fun a ha => by cases ha), h.pairs⟩
end Go.Proofs.Ytgglakonkphbgaa.Z

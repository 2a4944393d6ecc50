/- Zones as plain functions, continued: adding, dropping, serials, and what the laws of chapter 4 ask. -/
import Derived.Test.YtgglakonkphbgaaMf
namespace Go.Proofs.Ytgglakonkphbgaa.Z

def addR (o : Str) (l : List Rec) (r : Rec) : Option (List Rec) :=
  if zoneValid o l = true ∧ recValid r = true ∧ r ∉ l ∧ zoneValid o (insertR r l) = true then some (insertR r l) else none
def dropR (o : Str) (l : List Rec) (r : Rec) : Option (List Rec) :=
  if zoneValid o l = true ∧ r ∈ l ∧ r.kind ≠ 6 then some (l.erase r) else none
def isAt (n : Str) (k : Int) (x : Rec) : Bool := decide (x.name = n) && decide (x.kind = k)
def recsAt (o : Str) (l : List Rec) (n : Str) (k : Int) : List Rec := if zoneValid o l = true then l.filter (isAt n k) else []
def soaOf (o : Str) (l : List Rec) : Option Rec := if zoneValid o l = true then (l.filter (isAt o 6)).head? else none
def setSer1 (s : Int) (x : Rec) : Rec := if x.kind = 6 then { x with nums := s :: x.nums.tail } else x
def setSer (o : Str) (l : List Rec) (s : Int) : Option (List Rec) :=
  if zoneValid o l = true ∧ 0 ≤ s ∧ s ≤ 4294967295 then some (l.map (setSer1 s)) else none

theorem pair_zero {a r : Rec} : pair a r = 0 ↔ (a.name = r.name → (a.kind = r.kind → a.ttl = r.ttl) ∧ a.kind ≠ 5 ∧ r.kind ≠ 5) := by
  unfold pair
  by_cases h : a.name = r.name
  · rw [if_neg (by simpa using h)]
    by_cases h2 : a.kind = r.kind ∧ a.ttl ≠ r.ttl
    · rw [if_pos h2]
      simp only [h, true_implies, reduceCtorEq, false_iff]
      exact fun k => h2.2 (k.1 h2.1)
    · rw [if_neg h2]
      by_cases h3 : a.kind = 5 ∨ r.kind = 5
      · rw [if_pos h3]
        simp only [h, true_implies, reduceCtorEq, false_iff]
        rintro ⟨_, k1, k2⟩
        exact h3.elim k1 k2
      · rw [if_neg h3]
        simp only [h, true_implies, true_iff]
        exact ⟨fun k => Classical.byContradiction fun k2 => h2 ⟨k, k2⟩, fun k => h3 (Or.inl k), fun k => h3 (Or.inr k)⟩
  · rw [if_pos h]
    simp [h]
theorem pair_comm {a r : Rec} (h : pair a r = 0) : pair r a = 0 := by
  rw [pair_zero] at h ⊢
  intro e
  obtain ⟨h1, h2, h3⟩ := h e.symm
  exact ⟨fun k => (h1 k.symm).symm, h3, h2⟩
theorem pairs_all {l : List Rec} (h : l.Pairwise (fun a x => pair a x = 0)) : ∀ a ∈ l, ∀ x ∈ l, a ≠ x → pair a x = 0 := by
  induction l with
  | nil => intro a ha; cases ha
  | cons r l ih =>
    obtain ⟨h1, h2⟩ := List.pairwise_cons.1 h
    intro a ha x hx hne
    rcases List.mem_cons.1 ha with rfl | hal
    · rcases List.mem_cons.1 hx with rfl | hx
      · exact absurd rfl hne
      · exact h1 x hx
    · 
      rcases List.mem_cons.1 hx with e | hx
      · rw [e]; exact pair_comm (h1 a hal)
      · exact ih h2 a hal x hx hne
theorem pairs_of {l : List Rec} (hs : Srt l) (h : ∀ a ∈ l, ∀ x ∈ l, a ≠ x → pair a x = 0) : l.Pairwise (fun a x => pair a x = 0) := by
  induction l with
  | nil => exact List.Pairwise.nil
  | cons r l ih =>
    obtain ⟨h1, h2⟩ := List.pairwise_cons.1 hs
    refine List.pairwise_cons.2 ⟨fun x hx => h r (by simp) x (List.mem_cons_of_mem _ hx) (fun e => ?_), ih h2 (fun a ha x hx => h a (List.mem_cons_of_mem _ ha) x (List.mem_cons_of_mem _ hx))⟩
    have := h1 x hx
    rw [e, recBefore_irrefl] at this
    cases this

theorem starts_insertR (r : Rec) : ∀ l : List Rec, starts (insertR r l) = starts l + (if r.kind = 6 then 1 else 0)
  | [] => by unfold starts insertR; by_cases h : r.kind = 6 <;> simp [h]
  | a :: l => by
    have ih := starts_insertR r l
    unfold starts at ih ⊢
    simp only [insertR]
    split
    · by_cases h : r.kind = 6 <;> by_cases h2 : a.kind = 6 <;> simp [h, h2]
    · by_cases h2 : a.kind = 6
      · simp [h2]; omega
      · simpa [h2] using ih
theorem starts_mem {l : List Rec} {x : Rec} (h : x ∈ l) (hk : x.kind = 6) : 1 ≤ starts l :=
  List.length_pos_iff.2 (fun e => by
    have : x ∈ l.filter (fun x => decide (x.kind = 6)) := List.mem_filter.2 ⟨h, by simpa using hk⟩
    rw [e] at this; cases this)
theorem starts_erase {l : List Rec} {r : Rec} (hs : Srt l) (hv : ∀ x ∈ l, recValid x = true) (hr : r ∈ l) : starts l = starts (l.erase r) + (if r.kind = 6 then 1 else 0) := by
  have := starts_insertR r (l.erase r)
  rw [insertR_erase hs hv hr] at this
  exact this

section
variable {o : Str} {l : List Rec} {r : Rec}
theorem ZoneOk.valid (h : ZoneOk o l) : ∀ x ∈ l, recValid x = true := fun x hx => (h.each x hx).1
theorem ZoneOk.erase (h : ZoneOk o l) (hr : r ∈ l) (hk : r.kind ≠ 6) : ZoneOk o (l.erase r) where
  origin := h.origin
  few := by have := List.length_erase_of_mem hr; have := h.few; omega
  each := fun x hx => h.each x (List.mem_of_mem_erase hx)
  srt := srt_erase r h.srt
  start := by have := starts_erase h.srt h.valid hr; rw [if_neg hk, h.start] at this; omega
  pairs := h.pairs.sublist List.erase_sublist
theorem ZoneOk.addKind (h : ZoneOk o l) (k : ZoneOk o (insertR r l)) : r.kind ≠ 6 := by
  intro e
  have := starts_insertR r l
  rw [if_pos e, h.start, k.start] at this
  omega
theorem addR_some {x : List Rec} (h : addR o l r = some x) : ZoneOk o l ∧ recValid r = true ∧ r ∉ l ∧ x = insertR r l ∧ ZoneOk o x ∧ r.kind ≠ 6 ∧ r ∈ x := by
  unfold addR at h
  split at h
  · rename_i hh
    injection h with h
    subst h
    have h1 := zoneValid_iff.1 hh.1
    have h2 := zoneValid_iff.1 hh.2.2.2
    exact ⟨h1, hh.2.1, hh.2.2.1, rfl, h2, h1.addKind h2, mem_insertR.2 (Or.inl rfl)⟩
  · cases h
theorem dropR_some {x : List Rec} (h : dropR o l r = some x) : ZoneOk o l ∧ r ∈ l ∧ r.kind ≠ 6 ∧ x = l.erase r ∧ ZoneOk o x := by
  unfold dropR at h
  split at h
  · rename_i hh
    injection h with h
    subst h
    have h1 := zoneValid_iff.1 hh.1
    exact ⟨h1, hh.2.1, hh.2.2, rfl, h1.erase hh.2.1 hh.2.2⟩
  · cases h
theorem drop_add {x : List Rec} (h : addR o l r = some x) : dropR o x r = some l ∧ x.length = l.length + 1 := by
  obtain ⟨h1, h2, h3, rfl, h5, h6, h7⟩ := addR_some h
  refine ⟨?_, length_insertR _ _⟩
  unfold dropR
  rw [if_pos ⟨zoneValid_iff.2 h5, h7, h6⟩, erase_insertR h1.srt h1.valid h2 h3]
theorem add_drop {x : List Rec} (h : dropR o l r = some x) : addR o x r = some l := by
  obtain ⟨h1, h2, h3, rfl, h5⟩ := dropR_some h
  have e := insertR_erase h1.srt h1.valid h2
  unfold addR
  rw [if_pos ⟨zoneValid_iff.2 h5, h1.valid r h2, fun hm => ((mem_erase' h1.srt).1 hm).1 rfl, by rw [e]; exact zoneValid_iff.2 h1⟩, e]
/-- The order of two additions does not matter. -/
theorem add_comm' {q : Rec} {x a : List Rec} (h : addR o l r = some x) (k : addR o x q = some a) (hne : r ≠ q) : ∃ y, addR o l q = some y ∧ addR o y r = some a := by
  obtain ⟨h1, h2, h3, rfl, h5, h6, h7⟩ := addR_some h
  obtain ⟨_, k2, k3, rfl, k5, k6, k7⟩ := addR_some k
  have hql : q ∉ l := fun hm => k3 (mem_insertR.2 (Or.inr hm))
  have e := insertR_comm h1.srt h1.valid k2 h2 hql h3 (Ne.symm hne)
  have hrm : r ∈ insertR q (insertR r l) := mem_insertR.2 (Or.inr h7)
  have hrq : r ∉ insertR q l := fun hm => by
    rcases mem_insertR.1 hm with hm | hm
    · exact hne hm
    · exact h3 hm
  have hy : ZoneOk o (insertR q l) := by
    have := k5.erase hrm h6
    rw [e, erase_insertR (srt_insertR k2 h1.srt h1.valid hql) (fun x hx => by
      rcases mem_insertR.1 hx with rfl | hx
      · exact k2
      · exact h1.valid x hx) h2 hrq] at this
    exact this
  refine ⟨insertR q l, ?_, ?_⟩
  · unfold addR
    rw [if_pos ⟨zoneValid_iff.2 h1, k2, hql, zoneValid_iff.2 hy⟩]
  · unfold addR
    rw [if_pos ⟨zoneValid_iff.2 hy, h2, hrq, by rw [← e]; exact zoneValid_iff.2 k5⟩, e]
theorem ZoneOk.sorted (h : ZoneOk o l) : sortRecords l = some l := by
  unfold sortRecords
  rw [if_pos ⟨h.few, List.all_eq_true.2 h.valid⟩, sortR_sorted h.srt h.valid]

/-! ### the start -/

theorem ZoneOk.filterSoa (h : ZoneOk o l) : l.filter (isAt o 6) = l.filter (fun x => decide (x.kind = 6)) := by
  refine List.filter_congr fun x hx => ?_
  unfold isAt
  by_cases hk : x.kind = 6
  · simp [hk, (h.each x hx).2.2 hk]
  · simp [hk]
theorem ZoneOk.soa (h : ZoneOk o l) : ∃ x, l.filter (isAt o 6) = [x] ∧ x ∈ l ∧ x.kind = 6 ∧ x.name = o ∧ soaOf o l = some x := by
  have h1 : (l.filter (isAt o 6)).length = 1 := by rw [h.filterSoa]; exact h.start
  obtain ⟨x, hx⟩ := List.length_eq_one_iff.1 h1
  have hm : x ∈ l.filter (isAt o 6) := by rw [hx]; simp
  obtain ⟨m1, m2⟩ := List.mem_filter.1 hm
  simp [isAt] at m2
  refine ⟨x, hx, m1, m2.2, m2.1, ?_⟩
  unfold soaOf
  rw [if_pos (zoneValid_iff.2 h), hx]
  rfl
theorem ZoneOk.soaOnly (h : ZoneOk o l) {x y : Rec} (hx : x ∈ l) (hy : y ∈ l) (kx : x.kind = 6) (ky : y.kind = 6) : x = y := by
  obtain ⟨z, hz, _⟩ := h.soa
  have key : ∀ x ∈ l, x.kind = 6 → x = z := fun x hx kx => by
    have : x ∈ l.filter (isAt o 6) := List.mem_filter.2 ⟨hx, by simp [isAt, kx, (h.each x hx).2.2 kx]⟩
    rw [hz] at this
    simpa using this
  rw [key x hx kx, key y hy ky]
theorem soaOf_none (h : zoneValid o l = false) : soaOf o l = none := by unfold soaOf; rw [if_neg (by simp [h])]

theorem setSer1_name (s : Int) (x : Rec) : (setSer1 s x).name = x.name ∧ (setSer1 s x).kind = x.kind ∧ (setSer1 s x).ttl = x.ttl ∧ (setSer1 s x).target = x.target ∧ (setSer1 s x).text = x.text := by
  unfold setSer1; split <;> simp
theorem setSer1_other {s : Int} {x : Rec} (h : x.kind ≠ 6) : setSer1 s x = x := by unfold setSer1; rw [if_neg h]
theorem setSer1_valid {s : Int} {x : Rec} (h : recValid x = true) (h0 : 0 ≤ s) (h1 : s ≤ 4294967295) : recValid (setSer1 s x) = true := by
  unfold setSer1
  split
  · rename_i hk
    rw [recValid_iff] at h ⊢
    obtain ⟨a1, a2, a3, a4, a5, a6⟩ := h
    refine ⟨a1, a2, a3, a4, ?_, a6⟩
    dsimp only
    rw [hk] at a5 ⊢
    simp only [lims, if_pos] at a5 ⊢
    match e : x.nums with
    | [] => rw [e] at a5; simp [okNums] at a5
    | n :: r =>
      rw [e] at a5
      simp [okNums] at a5 ⊢
      exact ⟨⟨h0, h1⟩, a5.2⟩
  · exact h
theorem ltRec_name {a b a' b' : Rec} (h : ltRec a b = true) (hn : ¬ (a.name = b.name ∧ a.kind = b.kind)) (e1 : a'.name = a.name) (e2 : a'.kind = a.kind) (e3 : b'.name = b.name) (e4 : b'.kind = b.kind) : ltRec a' b' = true := by
  unfold ltRec at h ⊢
  rw [e1, e2, e3, e4]
  by_cases h1 : a.name = b.name
  · rw [if_pos h1] at h ⊢
    have h2 : a.kind ≠ b.kind := fun k => hn ⟨h1, k⟩
    rw [if_neg h2] at h ⊢
    exact h
  · rw [if_neg h1] at h ⊢
    exact h
theorem starts_map (s : Int) (l : List Rec) : starts (l.map (setSer1 s)) = starts l := by
  induction l with
  | nil => rfl
  | cons a l ih =>
    unfold starts at ih ⊢
    rw [List.map_cons, List.filter_cons, List.filter_cons, (setSer1_name s a).2.1]
    split
    · simp only [List.length_cons, ih]
    · exact ih
theorem ZoneOk.setSer {s : Int} (h : ZoneOk o l) (h0 : 0 ≤ s) (h1 : s ≤ 4294967295) : ZoneOk o (l.map (setSer1 s)) where
  origin := h.origin
  few := by rw [List.length_map]; exact h.few
  each := fun x hx => by
    obtain ⟨y, hy, rfl⟩ := List.mem_map.1 hx
    obtain ⟨k1, k2, k3⟩ := h.each y hy
    obtain ⟨e1, e2, _⟩ := setSer1_name s y
    rw [e1, e2]
    exact ⟨setSer1_valid k1 h0 h1, k2, k3⟩
  srt := by
    have hkey : ∀ a ∈ l, ∀ b ∈ l, recBefore a b = true → recBefore (setSer1 s a) (setSer1 s b) = true := fun a ha b hb hab => by
      obtain ⟨va, vb, hlt⟩ := recBefore_iff.1 hab
      obtain ⟨a1, a2, _⟩ := setSer1_name s a
      obtain ⟨b1, b2, _⟩ := setSer1_name s b
      refine recBefore_iff.2 ⟨setSer1_valid va h0 h1, setSer1_valid vb h0 h1, ?_⟩
      by_cases hk : a.kind = 6 ∧ b.kind = 6
      · have := h.soaOnly ha hb hk.1 hk.2
        subst this
        rw [recBefore_irrefl] at hab; cases hab
      · by_cases hn : a.name = b.name ∧ a.kind = b.kind
        · have ha6 : a.kind ≠ 6 := fun e => hk ⟨e, hn.2 ▸ e⟩
          have hb6 : b.kind ≠ 6 := fun e => hk ⟨hn.2.trans e, e⟩
          rw [setSer1_other ha6, setSer1_other hb6]
          exact hlt
        · exact ltRec_name hlt hn a1 a2 b1 b2
    have : ∀ m : List Rec, (∀ x ∈ m, x ∈ l) → Srt m → Srt (m.map (setSer1 s)) := by
      intro m
      induction m with
      | nil => intro _ _; exact srt_nil
      | cons a m ih =>
        intro hm hs
        obtain ⟨s1, s2⟩ := List.pairwise_cons.1 hs
        refine List.pairwise_cons.2 ⟨fun x hx => ?_, ih (fun x hx => hm x (List.mem_cons_of_mem _ hx)) s2⟩
        obtain ⟨y, hy, rfl⟩ := List.mem_map.1 hx
        exact hkey a (hm a (by simp)) y (hm y (List.mem_cons_of_mem _ hy)) (s1 y hy)
    exact this l (fun x hx => hx) h.srt
  start := by rw [starts_map]; exact h.start
  pairs := by
    have e : ∀ a x : Rec, pair a x = 0 → pair (setSer1 s a) (setSer1 s x) = 0 := fun a x hp => by
      obtain ⟨a1, a2, a3, _⟩ := setSer1_name s a
      obtain ⟨b1, b2, b3, _⟩ := setSer1_name s x
      unfold pair at hp ⊢
      rw [a1, a2, a3, b1, b2, b3]
      exact hp
    exact List.pairwise_map.2 (h.pairs.imp (fun hp => e _ _ hp))
theorem setSer1_twice (s t : Int) (x : Rec) : setSer1 t (setSer1 s x) = setSer1 t x := by
  unfold setSer1
  split
  · rename_i h
    simp [h]
  · rfl
theorem setSer1_back {x : Rec} {n : Int} (h : x.kind = 6 → x.nums.head? = some n) : setSer1 n x = x := by
  unfold setSer1
  split
  · rename_i hk
    have := h hk
    match e : x.nums with
    | [] => rw [e] at this; cases this
    | a :: b =>
      rw [e] at this
      simp at this
      subst this
      obtain ⟨name, ttl, kind, nums, target, text⟩ := x
      dsimp only at e
      subst e
      rfl
  · rfl

/-! ### records of a name and a kind -/

theorem ZoneOk.sameTtl (h : ZoneOk o l) {x y : Rec} (hx : x ∈ l) (hy : y ∈ l) (hn : x.name = y.name) (hk : x.kind = y.kind) : x.ttl = y.ttl := by
  by_cases e : x = y
  · rw [e]
  · exact ((pair_zero.1 (pairs_all h.pairs x hx y hy e)) hn).1 hk
theorem ZoneOk.alias (h : ZoneOk o l) {x y : Rec} (hx : x ∈ l) (hy : y ∈ l) (hn : x.name = y.name) (hk : x.kind = 5) : x = y := by
  by_cases e : x = y
  · exact e
  · exact absurd hk ((pair_zero.1 (pairs_all h.pairs x hx y hy e)) hn).2.1
/-- A record with another time cannot be added beside one of the same name and kind. -/
theorem add_otherTtl {x : List Rec} (h : addR o l r = some x) {t : Int} (ht : t ≠ r.ttl) : addR o x { r with ttl := t } = none := by
  obtain ⟨_, _, _, _, _, _, h7⟩ := addR_some h
  cases e : addR o x { r with ttl := t } with
  | none => rfl
  | some y =>
    exfalso
    obtain ⟨_, _, _, rfl, k5, _, k7⟩ := addR_some e
    have := k5.sameTtl k7 (mem_insertR.2 (Or.inr h7)) rfl rfl
    exact ht this
end
end Go.Proofs.Ytgglakonkphbgaa.Z

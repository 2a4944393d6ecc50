/- The looks for faults, step by step. -/
import Derived.Test.YtgglakonkphbgaaMf
namespace Go.Proofs.Ytgglakonkphbgaa.Z

def prevAt (zs : List Rec) (k : Nat) : Option Rec := if k = 0 then none else zs[k - 1]?
def seenAt (zs : List Rec) (k : Nat) : Bool := (zs.take k).any (fun x => decide (x.kind = 6))
def fin (zs : List Rec) : Except (Nat × Nat) Bool → Nat × Nat
  | .error e => e
  | .ok false => (5, 0)
  | .ok true => scan2 [] 0 zs
/-- The fault that a record has by itself or by its place. -/
def aloneF (o : Str) (zs : List Rec) (k : Nat) (x : Rec) : Nat := if one o (prevAt zs k) k x ≠ 0 then one o (prevAt zs k) k x else if x.kind = 6 ∧ seenAt zs k = true then 5 else 0
/-- What is left of the first look at place k. -/
def look (o : Str) (zs : List Rec) (k : Nat) : Nat × Nat := fin zs (scan o (prevAt zs k) k (seenAt zs k) (zs.drop k))
def look2 (zs : List Rec) (k : Nat) : Nat × Nat := scan2 (zs.take k) k (zs.drop k)
theorem seenAt_succ {zs : List Rec} {k : Nat} {x : Rec} (h : zs[k]? = some x) : seenAt zs (k + 1) = (seenAt zs k || decide (x.kind = 6)) := by
  obtain ⟨hk, e⟩ := List.getElem?_eq_some_iff.1 h
  unfold seenAt
  rw [List.take_succ_eq_append_getElem hk, List.any_append, e]
  simp
theorem look_step {o : Str} {zs : List Rec} {k : Nat} {x : Rec} (h : zs[k]? = some x) : look o zs k = if aloneF o zs k x ≠ 0 then (aloneF o zs k x, k) else look o zs (k + 1) := by
  obtain ⟨hk, e⟩ := List.getElem?_eq_some_iff.1 h
  have hp : prevAt zs (k + 1) = some x := by unfold prevAt; rw [if_neg (by omega)]; exact h
  unfold look aloneF
  rw [seenAt_succ h, hp, List.drop_eq_getElem_cons hk, e]
  simp only [scan]
  by_cases h1 : one o (prevAt zs k) k x = 0
  · rw [if_neg (by simp [h1]), if_neg (c := one o (prevAt zs k) k x ≠ 0) (by simp [h1])]
    by_cases h2 : x.kind = 6 ∧ seenAt zs k = true
    · rw [if_pos h2, if_pos h2, if_pos (by decide)]
      rfl
    · rw [if_neg h2, if_neg h2, if_neg (by decide)]
  · rw [if_pos h1, if_pos h1, if_pos h1]
    rfl
theorem look_end {o : Str} {zs : List Rec} {k : Nat} (h : zs.length = k) : look o zs k = if seenAt zs k = true then look2 zs 0 else (5, 0) := by
  unfold look
  rw [List.drop_of_length_le (by omega)]
  simp only [scan]
  cases seenAt zs k <;> rfl
theorem look_start {o : Str} {zs : List Rec} (h : valid o = true) : fault o zs = look o zs 0 := by
  unfold fault look fin
  rw [if_neg (by simp [h])]
  rfl
theorem fault_origin {o : Str} {zs : List Rec} (h : valid o = false) : fault o zs = (1, 0) := by unfold fault; rw [if_pos h]
theorem look2_step {zs : List Rec} {k : Nat} {x : Rec} (h : zs[k]? = some x) : look2 zs k = if pairAt (zs.take k) x ≠ 0 then (pairAt (zs.take k) x, k) else look2 zs (k + 1) := by
  obtain ⟨hk, e⟩ := List.getElem?_eq_some_iff.1 h
  unfold look2
  rw [List.drop_eq_getElem_cons hk, e, List.take_succ_eq_append_getElem hk, e]
  simp only [scan2]
theorem look2_end {zs : List Rec} {k : Nat} (h : zs.length = k) : look2 zs k = (0, 0) := by
  unfold look2
  rw [List.drop_of_length_le (by omega)]
  rfl
theorem pairAt_step {l : List Rec} {k : Nat} {x r : Rec} (h : l[k]? = some x) : pairAt (l.drop k) r = if pair x r ≠ 0 then pair x r else pairAt (l.drop (k + 1)) r := by
  obtain ⟨hk, e⟩ := List.getElem?_eq_some_iff.1 h
  rw [List.drop_eq_getElem_cons hk, e]
  rfl
theorem aloneF_valid {o : Str} {zs : List Rec} {k : Nat} {x : Rec} (h : aloneF o zs k x = 0) : recValid x = true ∧ one o (prevAt zs k) k x = 0 ∧ (x.kind = 6 → seenAt zs k = false) := by
  unfold aloneF at h
  split at h
  · rename_i h1
    exact absurd h h1
  · rename_i h1
    have h1' : one o (prevAt zs k) k x = 0 := by simpa using h1
    refine ⟨(one_zero.1 h1').2.1, h1', fun hk => ?_⟩
    split at h
    · cases h
    · rename_i h2
      cases hs : seenAt zs k with
      | false => rfl
      | true => exact absurd ⟨hk, hs⟩ h2
/-- The ways in which a record has a fault by itself, in order. -/
theorem one_2 {o : Str} {p : Option Rec} {i : Nat} {x : Rec} (h : 60 ≤ i ∨ recValid x = false) : one o p i x = 2 := by unfold one; rw [if_pos h]
theorem one_3 {o : Str} {p : Option Rec} {i : Nat} {x : Rec} (h : i < 60) (hv : recValid x = true) (hb : below x.name o = false) : one o p i x = 3 := by unfold one; rw [if_neg (by simp [hv]; omega), if_pos hb]
theorem one_4 {o : Str} {p : Option Rec} {i : Nat} {x q : Rec} (h : i < 60) (hv : recValid x = true) (hb : below x.name o = true) (hp : p = some q) (hl : ltRec q x = false) : one o p i x = 4 := by unfold one; rw [if_neg (by simp [hv]; omega), if_neg (by simp [hb]), if_pos (by simp [hp, hl])]
theorem one_5 {o : Str} {p : Option Rec} {i : Nat} {x : Rec} (h : i < 60) (hv : recValid x = true) (hb : below x.name o = true) (hp : ∀ q, p = some q → ltRec q x = true) (hk : x.kind = 6) (hn : x.name ≠ o) : one o p i x = 5 := by
  unfold one
  rw [if_neg (by simp [hv]; omega), if_neg (by simp [hb]), if_neg, if_pos ⟨hk, hn⟩]
  cases p with
  | none => simp
  | some q => simp [hp q rfl]
theorem one_0 {o : Str} {p : Option Rec} {i : Nat} {x : Rec} (h : i < 60) (hv : recValid x = true) (hb : below x.name o = true) (hp : ∀ q, p = some q → ltRec q x = true) (hk : x.kind = 6 → x.name = o) : one o p i x = 0 := one_zero.2 ⟨h, hv, hb, hp, hk⟩
theorem pair_ne {a r : Rec} (h : a.name ≠ r.name) : pair a r = 0 := by unfold pair; rw [if_pos h]
theorem pair_6 {a r : Rec} (h : a.name = r.name) (hk : a.kind = r.kind) (ht : a.ttl ≠ r.ttl) : pair a r = 6 := by unfold pair; rw [if_neg (by simp [h]), if_pos ⟨hk, ht⟩]
theorem pair_7 {a r : Rec} (h : a.name = r.name) (hk : a.kind = r.kind → a.ttl = r.ttl) (h5 : a.kind = 5 ∨ r.kind = 5) : pair a r = 7 := by unfold pair; rw [if_neg (by simp [h]), if_neg (fun k => k.2 (hk k.1)), if_pos h5]
theorem pair_0 {a r : Rec} (h : a.name = r.name) (hk : a.kind = r.kind → a.ttl = r.ttl) (h5 : a.kind ≠ 5) (h6 : r.kind ≠ 5) : pair a r = 0 := by unfold pair; rw [if_neg (by simp [h]), if_neg (fun k => k.2 (hk k.1)), if_neg (fun k => k.elim h5 h6)]
theorem pairAt_no {l : List Rec} {k u : Nat} {x r : Rec} (h : l[k]? = some x) (hp : pair x r = 0) (hu : pairAt (l.drop k) r = u) : pairAt (l.drop (k + 1)) r = u := by rw [← hu, pairAt_step h, if_neg (by simp [hp])]
theorem pairAt_yes {l : List Rec} {k u v : Nat} {x r : Rec} (h : l[k]? = some x) (hp : pair x r = v) (hv : v ≠ 0) (hu : pairAt (l.drop k) r = u) : u = v := by rw [← hu, pairAt_step h, hp, if_pos hv]
theorem alone_ne {o : Str} {zs : List Rec} {k v : Nat} {x : Rec} (h : one o (prevAt zs k) k x = v) (hv : v ≠ 0) : aloneF o zs k x = v := by unfold aloneF; rw [h, if_pos hv]
theorem alone_0 {o : Str} {zs : List Rec} {k : Nat} {x : Rec} (h : one o (prevAt zs k) k x = 0) (hk : ¬ (x.kind = 6 ∧ seenAt zs k = true)) : aloneF o zs k x = 0 := by unfold aloneF; rw [h, if_neg (by simp), if_neg hk]
theorem alone_5 {o : Str} {zs : List Rec} {k : Nat} {x : Rec} (h : one o (prevAt zs k) k x = 0) (hk : x.kind = 6) (hs : seenAt zs k = true) : aloneF o zs k x = 5 := by unfold aloneF; rw [h, if_neg (by simp), if_pos ⟨hk, hs⟩]
/-- The place of the first start, or less than 0. -/
def StartAt (zs : List Rec) (m : Int) : Prop := (m < 0 ∧ seenAt zs zs.length = false) ∨ (∃ k : Nat, m = k ∧ ∃ x, zs[k]? = some x ∧ x.kind = 6 ∧ seenAt zs k = false)
theorem seen_mono {zs : List Rec} {k : Nat} {x : Rec} (h : zs[k]? = some x) (hx : x.kind = 6) : seenAt zs zs.length = true := by
  unfold seenAt
  rw [List.take_length, List.any_eq_true]
  exact ⟨x, List.mem_of_getElem? h, by simp [hx]⟩
theorem StartAt.neg {zs : List Rec} {m : Int} (h : StartAt zs m) : (m < 0 ↔ seenAt zs zs.length = false) := by
  rcases h with ⟨h1, h2⟩ | ⟨k, rfl, x, h1, h2, h3⟩
  · exact ⟨fun _ => h2, fun _ => h1⟩
  · exact ⟨fun h => by omega, fun h => by rw [seen_mono h1 h2] at h; cases h⟩
theorem seen_take {zs : List Rec} {k : Nat} (_ : k ≤ zs.length) : seenAt (zs.take k) (zs.take k).length = seenAt zs k := by
  unfold seenAt
  rw [List.take_length]
end Go.Proofs.Ytgglakonkphbgaa.Z

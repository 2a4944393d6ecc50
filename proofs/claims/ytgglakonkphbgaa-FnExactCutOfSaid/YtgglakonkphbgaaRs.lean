/- Lists of records in memory, and what the helpers of the laws return for them. -/
import Derived.Test.YtgglakonkphbgaaEa
namespace Go.Proofs.Ytgglakonkphbgaa
open Go.RowKit
set_option maxRecDepth 100000
set_option linter.unusedVariables false
set_option linter.unusedSimpArgs false

/-- A record as it lies in memory: its cells, and the numbers that its slice reads. -/
structure RV where
  N : ByteArray
  T : Int
  K : Int
  A : Option Addr
  L : Nat
  C : Nat
  G : ByteArray
  X : ByteArray
  Z : List Int
def RV.cells (r : RV) : List Value := [.string r.N, .int .i64 r.T, .int .i64 r.K, .slice r.A r.L r.C, .string r.G, .string r.X]
def RV.z (r : RV) : Z.Rec := ⟨lst r.N, r.T, r.K, r.Z, lst r.G, lst r.X⟩
def flat (rs : List RV) : List Value := (rs.map RV.cells).flatten
theorem flat_cons (r : RV) (rs : List RV) : flat (r :: rs) = r.cells ++ flat rs := rfl
theorem flat_length : ∀ rs : List RV, (flat rs).length = rs.length * 6
  | [] => rfl
  | r :: rs => by rw [flat_cons, List.length_append, flat_length rs, List.length_cons]; show 6 + _ = _; omega
theorem flat_at : ∀ {rs : List RV} {k : Nat} {r : RV} (h : rs[k]? = some r) (j : Nat) (hj : j < 6), (flat rs)[k * 6 + j]? = r.cells[j]?
  | [], k, r, h, j, hj => by simp at h
  | x :: rs, 0, r, h, j, hj => by
    simp at h
    subst h
    rw [flat_cons, List.getElem?_append_left (by show 0 * 6 + j < 6; omega)]
    simp
  | x :: rs, k + 1, r, h, j, hj => by
    rw [flat_cons, List.getElem?_append_right (by show 6 ≤ _; omega)]
    have e : (k + 1) * 6 + j - x.cells.length = k * 6 + j := by show (k + 1) * 6 + j - 6 = _; omega
    rw [e]
    exact flat_at (by simpa using h) j hj
/-- A slice of records that can be read below B. -/
def Recs (w : World) (B : Nat) (A : Option Addr) (n : Nat) (rs : List RV) : Prop :=
  Reads w B A (n * 6) (flat rs) ∧ rs.length = n ∧ ∀ r ∈ rs, Reads w B r.A r.L (r.Z.map iv)
theorem Recs.below {w w' : World} {B C n : Nat} {A : Option Addr} {rs : List RV} (h : Recs w B A n rs) (hb : Below C w w') (hC : B ≤ C) : Recs w' B A n rs :=
  ⟨h.1.below hb hC, h.2.1, fun r hr => (h.2.2 r hr).below hb hC⟩
theorem Recs.more {w : World} {B C n : Nat} {A : Option Addr} {rs : List RV} (h : Recs w B A n rs) (hC : B ≤ C) : Recs w C A n rs :=
  ⟨h.1.more hC, h.2.1, fun r hr => (h.2.2 r hr).more hC⟩
theorem add_off (a : Addr) (n : Nat) : (a.add n).off = a.off + n := by unfold Addr.add; split <;> simp_all
theorem add_plus (a : Addr) (n j : Nat) : a.add (n + (j + 1)) = ⟨(a.add n).block, (a.add n).off + (j + 1), none⟩ := by
  rw [add_off, block_of_add]
  unfold Addr.add
  rw [if_neg (by omega), Nat.add_assoc]
theorem Recs.at_ {w : World} {B n : Nat} {A : Option Addr} {rs : List RV} (h : Recs w B A n rs) {k : Nat} (hk : k < n) :
    ∃ ad r p, A = some ad ∧ ad.add (k * 6) = p ∧ p.block < B ∧ rs[k]? = some r ∧ Reads w B r.A r.L (r.Z.map iv) ∧ w.cell? p = some (.string r.N) ∧ w.cell? ⟨p.block, p.off + 1, none⟩ = some (.int .i64 r.T) ∧ w.cell? ⟨p.block, p.off + 2, none⟩ = some (.int .i64 r.K) ∧ w.cell? ⟨p.block, p.off + 3, none⟩ = some (.slice r.A r.L r.C) ∧ w.cell? ⟨p.block, p.off + 4, none⟩ = some (.string r.G) ∧ w.cell? ⟨p.block, p.off + 5, none⟩ = some (.string r.X) := by
  obtain ⟨h1, h2, h3⟩ := h
  obtain ⟨ad, e, hb, hc⟩ := h1.2 (by omega)
  have hlt : k < rs.length := by omega
  refine ⟨ad, rs[k], _, e, rfl, by rw [block_of_add]; exact hb, List.getElem?_eq_getElem hlt, h3 _ (List.getElem_mem _), ?_, ?_, ?_, ?_, ?_, ?_⟩
  · exact hc (k * 6) _ (by rw [show k * 6 = k * 6 + 0 from rfl, flat_at (List.getElem?_eq_getElem hlt) 0 (by omega)]; rfl)
  · rw [← add_plus]; exact hc _ _ (by rw [flat_at (List.getElem?_eq_getElem hlt) 1 (by omega)]; rfl)
  · rw [← add_plus]; exact hc _ _ (by rw [flat_at (List.getElem?_eq_getElem hlt) 2 (by omega)]; rfl)
  · rw [← add_plus]; exact hc _ _ (by rw [flat_at (List.getElem?_eq_getElem hlt) 3 (by omega)]; rfl)
  · rw [← add_plus]; exact hc _ _ (by rw [flat_at (List.getElem?_eq_getElem hlt) 4 (by omega)]; rfl)
  · rw [← add_plus]; exact hc _ _ (by rw [flat_at (List.getElem?_eq_getElem hlt) 5 (by omega)]; rfl)

set_option maxHeartbeats 1000000 in
theorem eqRecordS_any (rs : List RV) (xs : List RV) (hsame : xs.map RV.z = rs.map RV.z) (B B' : Nat) (A A' : Option Addr) (n c c' : Nat) (w : World) (hr : Recs w B A n rs) (hx : Recs w B' A' n xs) (hB : B ≤ w.heap.size) (hB' : B' ≤ w.heap.size) (hn : n ≤ 1048576) (hlz : ∀ (k : Nat) (r : RV), rs[k]? = some r → r.L ≤ 67108864) :
    Calls Try.prog 34 #[.slice A n c, .slice A' n c'] w fun e w' => e = .returned (.bool true) ∧ Below w.heap.size w w' := by
  go_enter Try.func34, Try.ntmps34
  go_wp2_with fail
  go_loopw [5] (fun i wr => ∃ k : Nat, k ≤ n ∧ i = .int .i64 k ∧ Below w.heap.size w wr) (fun i _ => n - (intOf i).toNat)
  case atStart => exact ⟨0, Nat.zero_le _, rfl, Below.refl _ _⟩
  case round =>
    obtain ⟨k, hk, rfl, hb⟩ := hrel
    by_cases hlt : k < n
    · obtain ⟨ad, r, p, rfl, hp, hab, hrk, hrr, c0, c1, c2, c3, c4, c5⟩ := (hr.below hb hB).at_ hlt
      obtain ⟨ad', x, q, rfl, hq, hab', hxk, hxr, d0, d1, d2, d3, d4, d5⟩ := (hx.below hb hB').at_ hlt
      have hz : x.z = r.z := by
        have h9 := congrArg (fun l => l[k]?) hsame
        simp only [List.getElem?_map, hxk, hrk, Option.map_some, Option.some.injEq] at h9
        exact h9
      have hlr := reads_len hrr
      have hlx := reads_len hxr
      obtain ⟨rN, rT, rK, rA, rL, rC, rG, rX, rZ⟩ := r
      obtain ⟨xN, xT, xK, xA, xL, xC, xG, xX, xZ⟩ := x
      simp only [RV.z, Z.Rec.mk.injEq] at hz
      obtain ⟨e1, rfl, rfl, rfl, e5, e6⟩ := hz
      obtain rfl := lst_inj e1
      obtain rfl := lst_inj e5
      obtain rfl := lst_inj e6
      dsimp only at hrr hxr hlr hlx c0 c1 c2 c3 c4 c5 d0 d1 d2 d3 d4 d5
      obtain rfl : rL = xL := hlr.symm.trans hlx
      have hl : rL ≤ 67108864 := hlz _ _ hrk
      have hbs := hb.size
      have p1 : 0 ≤ (k : Int) := by omega
      have p2 : (k : Int) < n := by omega
      clear hrk hxk hlr hlx e1 e5 e6
      go_wp2_with fail
      go_region_with (first | (go_at_call 53; refine (eqRecord_any xN xT xK rA rL rC xG xX xZ B xA xC B' _ hrr.drew (show B ≤ wr.heap.size by omega) hl hxr.drew (show B' ≤ wr.heap.size by omega)).mono ?_; rintro e w9 ⟨rfl, hb9⟩))
      all_goals (have hb10 : Below w.heap.size w w9 := (below_drewN hb 1).trans (hb9.mono (show w.heap.size ≤ wr.heap.size from hbs)))
      all_goals go_wp2_with fail
      all_goals exact ⟨⟨k + 1, by omega, by go_num, hb10⟩, by simp [intOf]; omega⟩
    · obtain rfl : k = n := by omega
      go_wp2_with fail
      go_ret
      exact ⟨rfl, hb⟩

/-- What is known of a record that came in. -/
def RV.fits (r : RV) : Prop := r.N.size ≤ maxLen ∧ r.L ≤ maxLen ∧ r.G.size ≤ maxLen ∧ r.X.size ≤ maxLen
def RV.small (r : RV) : Prop := r.N.size + r.L + r.G.size + r.X.size ≤ 1048576
def RV.fine (r : RV) : Prop := r.N.size ≤ 67108864 ∧ r.L ≤ 67108864 ∧ r.G.size ≤ 67108864 ∧ r.X.size ≤ 67108864
set_option maxHeartbeats 1000000 in
theorem szRecordS_m (M : Nat) (hM : M ≤ 1048576) (rs : List RV) (B : Nat) (A : Option Addr) (n c : Nat) (w : World) (hr : Recs w B A n rs) (hB : B ≤ w.heap.size) (hn : n ≤ maxLen) (hf : Hid (∀ r ∈ rs, r.fits)) :
    Calls Try.prog 28 #[.slice A n c, .int .i64 (M : Int)] w fun e w' => ∃ k : Int, e = .returned (.int .i64 k) ∧ Hid (k < 0 ∨ (0 ≤ k ∧ k ≤ M ∧ n ≤ 1048576 ∧ ∀ r ∈ rs, r.small)) ∧ Below w.heap.size w w' := by
  unfold maxLen at hn
  have hlen := hr.2.1
  by_cases hb0 : n ≤ M
  · go_enter Try.func28, Try.ntmps28
    go_wp2_with fail
    go_loopw [1, 5] (fun v i wr => ∃ (k : Nat) (t : Nat), k ≤ n ∧ i = .int .i64 k ∧ v = .int .i64 (t : Int) ∧ t ≤ M ∧ Hid (∀ j r, j < k → rs[j]? = some r → r.small) ∧ Below w.heap.size w wr) (fun _ i _ => n - (intOf i).toNat)
    case atStart => exact ⟨0, M - n, Nat.zero_le _, rfl, by go_num, by omega, hid (fun j r hj => absurd hj (by omega)), Below.refl _ _⟩
    case round =>
      obtain ⟨k, t, hk, rfl, rfl, ht, hall, hb⟩ := hrel
      by_cases hlt : k < n
      · obtain ⟨ad, r, p, rfl, hp, hab, hrk, hrr, c0, c1, c2, c3, c4, c5⟩ := (hr.below hb hB).at_ hlt
        obtain ⟨f1, f2, f3, f4⟩ := hf.out r (List.mem_of_getElem? hrk)
        have hbs := hb.size
        have p1 : 0 ≤ (k : Int) := by omega
        have p2 : (k : Int) < n := by omega
        have HRK := hid hrk
        clear hrk
        go_wp2_with fail
        refine (szRecord_any r.N r.T r.K r.A r.L r.C r.G r.X r.Z 0 (t : Int) _ f1 f2 f3 f4 (by omega) (by omega)).mono ?_
        rintro e w2 ⟨m, rfl, hm, hb2⟩
        have hb3 := hb.trans (hb2.mono hbs)
        by_cases hneg : m < 0
        · clear f1 f2 f3 f4
          go_wp2_with fail
          all_goals go_ret
          all_goals exact ⟨_, rfl, hid (Or.inl (by omega)), hb3⟩
        · obtain ⟨m', rfl⟩ : ∃ m' : Nat, m = m' := ⟨m.toNat, by omega⟩
          obtain ⟨g1, g2⟩ := hm.out
          have g3 := g2 (by omega)
          have HN := hid (show ∀ j x, j < k + 1 → rs[j]? = some x → x.small from fun j x hj hx => by
            rcases Nat.lt_or_ge j k with h1 | h1
            · exact hall.out j x h1 hx
            · obtain rfl : j = k := by omega
              obtain rfl := Option.some.inj (HRK.out.symm.trans hx)
              unfold RV.small
              omega)
          clear g2 g3 f1 f2 f3 f4 hm
          go_wp2_with fail
          all_goals exact ⟨⟨k + 1, m', by omega, by go_num, rfl, by omega, HN, hb3⟩, by simp [intOf]; omega⟩
      · obtain rfl : k = n := by omega
        have hfin : Hid (∀ r ∈ rs, r.small) := hid (fun r hr9 => by
          obtain ⟨j, hj⟩ := List.getElem?_of_mem hr9
          exact hall.out j r (by have := (List.getElem?_eq_some_iff.1 hj).1; omega) hj)
        go_wp2_with fail
        go_ret
        exact ⟨_, rfl, hid (Or.inr ⟨by omega, by omega, by omega, hfin.out⟩), hb⟩
  · go_enter Try.func28, Try.ntmps28
    go_wp2_with fail
    go_ret
    exact ⟨_, rfl, hid (Or.inl (by omega)), Below.refl _ _⟩

theorem szRecordS_any (rs : List RV) (B : Nat) (A : Option Addr) (n c : Nat) (w : World) (hr : Recs w B A n rs) (hB : B ≤ w.heap.size) (hn : n ≤ maxLen) (hf : Hid (∀ r ∈ rs, r.fits)) :
    Calls Try.prog 28 #[.slice A n c, .int .i64 1048576] w fun e w' => ∃ k : Int, e = .returned (.int .i64 k) ∧ Hid (k < 0 ∨ (0 ≤ k ∧ n ≤ 1048576 ∧ ∀ r ∈ rs, r.small)) ∧ Below w.heap.size w w' :=
  (szRecordS_m 1048576 (by decide) rs B A n c w hr hB hn hf).mono fun _ _ ⟨k, h1, h2, h3⟩ => ⟨k, h1, hid (h2.out.elim Or.inl fun h => Or.inr ⟨h.1, h.2.2.1, h.2.2.2⟩), h3⟩

/-! ### copies -/

def noRV : RV := ⟨⟨#[]⟩, 0, 0, none, 0, 0, ⟨#[]⟩, ⟨#[]⟩, []⟩
theorem flat_made (n : Nat) : (madeCells #[Value.string ⟨#[]⟩, .int .i64 0, .int .i64 0, .slice none 0 0, .string ⟨#[]⟩, .string ⟨#[]⟩] (n * 6)).toList = flat (List.replicate n noRV) := by
  apply List.ext_getElem?
  intro i
  by_cases h : i < n * 6
  · have e : i = i / 6 * 6 + i % 6 := by omega
    have hk : i / 6 < n := by omega
    have hj : i % 6 < 6 := by omega
    have h1 : (List.replicate n noRV)[i / 6]? = some noRV := by rw [List.getElem?_replicate, if_pos hk]
    have h2 := flat_at h1 (i % 6) hj
    rw [← e] at h2
    rw [h2]
    have h3 : (madeCells #[Value.string ⟨#[]⟩, .int .i64 0, .int .i64 0, .slice none 0 0, .string ⟨#[]⟩, .string ⟨#[]⟩] (n * 6)).toList[i]? = some ((#[Value.string ⟨#[]⟩, .int .i64 0, .int .i64 0, .slice none 0 0, .string ⟨#[]⟩, .string ⟨#[]⟩] : Array Value)[i % 6]!) := by
      simp [madeCells, h]
    rw [h3]
    have key : ∀ j, j < 6 → some ((#[Value.string ⟨#[]⟩, .int .i64 0, .int .i64 0, .slice none 0 0, .string ⟨#[]⟩, .string ⟨#[]⟩] : Array Value)[j]!) = noRV.cells[j]? := fun j hj => by
      match j, hj with
      | 0, _ => rfl
      | 1, _ => rfl
      | 2, _ => rfl
      | 3, _ => rfl
      | 4, _ => rfl
      | 5, _ => rfl
    exact key _ hj
  · have h1 : (flat (List.replicate n noRV))[i]? = none := List.getElem?_eq_none (by rw [flat_length, List.length_replicate]; omega)
    rw [h1]
    apply List.getElem?_eq_none
    simp [madeCells]
    omega
theorem flat_set : ∀ {rs : List RV} {k : Nat} (hk : k < rs.length) (x : RV), flat (rs.set k x) = ((((((flat rs).set (k * 6) (.string x.N)).set (k * 6 + 1) (.int .i64 x.T)).set (k * 6 + 2) (.int .i64 x.K)).set (k * 6 + 3) (.slice x.A x.L x.C)).set (k * 6 + 4) (.string x.G)).set (k * 6 + 5) (.string x.X)
  | r :: rs, 0, _, x => by rfl
  | r :: rs, k + 1, hk, x => by
    have ih := flat_set (rs := rs) (k := k) (by simpa using hk) x
    rw [List.set_cons_succ, flat_cons, flat_cons, ih]
    have e : ∀ (l : List Value) (j : Nat) (v : Value), (r.cells ++ l).set ((k + 1) * 6 + j) v = r.cells ++ l.set (k * 6 + j) v := fun l j v => by
      rw [List.set_append_right _ _ (by show 6 ≤ _; omega)]
      congr 2
      show (k + 1) * 6 + j - 6 = _
      omega
    have e0 := e (flat rs) 0 (.string x.N)
    simp only [Nat.add_zero] at e0
    rw [e0, e, e, e, e, e]

theorem six_below_at {w w' : World} {B g : Nat} (h : Below B w w') (hg : B ≤ g) (o : Nat) (d0 d1 d2 d3 d4 d5 : Value) :
    Below B w ((((((w'.setCell ⟨g, o, none⟩ d0).setCell ⟨g, o + 1, none⟩ d1).setCell ⟨g, o + 2, none⟩ d2).setCell ⟨g, o + 3, none⟩ d3).setCell ⟨g, o + 4, none⟩ d4).setCell ⟨g, o + 5, none⟩ d5) :=
  (((((h.setCell (p := ⟨g, o, none⟩) hg d0).setCell (p := ⟨g, o + 1, none⟩) hg d1).setCell (p := ⟨g, o + 2, none⟩) hg d2).setCell (p := ⟨g, o + 3, none⟩) hg d3).setCell (p := ⟨g, o + 4, none⟩) hg d4).setCell (p := ⟨g, o + 5, none⟩) hg d5
theorem six_put_at {w : World} {g : Nat} {t : TypeId} {cs : List Value} (h : Blk w g t cs) (o : Nat) (d0 d1 d2 d3 d4 d5 : Value) :
    Blk ((((((w.setCell ⟨g, o, none⟩ d0).setCell ⟨g, o + 1, none⟩ d1).setCell ⟨g, o + 2, none⟩ d2).setCell ⟨g, o + 3, none⟩ d3).setCell ⟨g, o + 4, none⟩ d4).setCell ⟨g, o + 5, none⟩ d5) g t ((((((cs.set o d0).set (o + 1) d1).set (o + 2) d2).set (o + 3) d3).set (o + 4) d4).set (o + 5) d5) :=
  (((((h.put o d0).put (o + 1) d1).put (o + 2) d2).put (o + 3) d3).put (o + 4) d4).put (o + 5) d5
theorem six_own_at {w : World} {base : Nat} {e : TypeId} {size : Nat} {v : Value} {n : Nat} {xs : List Value} (h : w.ownsRow base e size v n xs) {g : Nat} (hg : g < base) (o : Nat) (d0 d1 d2 d3 d4 d5 : Value) :
    ((((((w.setCell ⟨g, o, none⟩ d0).setCell ⟨g, o + 1, none⟩ d1).setCell ⟨g, o + 2, none⟩ d2).setCell ⟨g, o + 3, none⟩ d3).setCell ⟨g, o + 4, none⟩ d4).setCell ⟨g, o + 5, none⟩ d5).ownsRow base e size v n xs :=
  ownsRow_setCell_below (ownsRow_setCell_below (ownsRow_setCell_below (ownsRow_setCell_below (ownsRow_setCell_below (ownsRow_setCell_below h (a := ⟨g, o, none⟩) hg d0) (a := ⟨g, o + 1, none⟩) hg d1) (a := ⟨g, o + 2, none⟩) hg d2) (a := ⟨g, o + 3, none⟩) hg d3) (a := ⟨g, o + 4, none⟩) hg d4) (a := ⟨g, o + 5, none⟩) hg d5
theorem copied_next {rs os : List RV} {n k g : Nat} {wr w2 : World} {r : RV} {A2 : Option Addr} {c2 : Nat} (hol : os.length = n) (hk : k ≤ n) (hlt : k < n)
    (hall : ∀ j x, j < k → os[j]? = some x → (rs.map RV.z)[j]? = some x.z ∧ wr.ownsRow (g + 1) 3 1 (.slice x.A x.L x.C) x.L (x.Z.map iv)) (hb : Below wr.heap.size wr w2)
    (hown : w2.ownsRow (g + 1) 3 1 (.slice A2 r.L c2) r.L (r.Z.map iv)) (hrk : rs[k]? = some r) (d0 d1 d2 d3 d4 d5 : Value) :
    ∀ j x, j < k + 1 → (os.set k ⟨r.N, r.T, r.K, A2, r.L, c2, r.G, r.X, r.Z⟩)[j]? = some x → (rs.map RV.z)[j]? = some x.z ∧ ((((((w2.setCell ⟨g, k * 6, none⟩ d0).setCell ⟨g, k * 6 + 1, none⟩ d1).setCell ⟨g, k * 6 + 2, none⟩ d2).setCell ⟨g, k * 6 + 3, none⟩ d3).setCell ⟨g, k * 6 + 4, none⟩ d4).setCell ⟨g, k * 6 + 5, none⟩ d5).ownsRow (g + 1) 3 1 (.slice x.A x.L x.C) x.L (x.Z.map iv) := by
  intro j x hj hx
  rcases Nat.lt_or_ge j k with h1 | h1
  · rw [List.getElem?_set_ne (by omega)] at hx
    obtain ⟨h2, h3⟩ := hall j x h1 hx
    exact ⟨h2, six_own_at (own_next h3 hb) (by omega) _ _ _ _ _ _ _⟩
  · obtain rfl : j = k := by omega
    rw [List.getElem?_set_self (by omega)] at hx
    obtain rfl := Option.some.inj hx
    refine ⟨?_, six_own_at hown (by omega) _ _ _ _ _ _ _⟩
    rw [List.getElem?_map, hrk]
    rfl

set_option maxHeartbeats 2000000 in
theorem infoRec : (Try.prog.info? 54).map (fun i => (i.zero, i.size, i.bytes)) = some (some (.agg #[.string ⟨#[]⟩, .int .i64 0, .int .i64 0, .slice none 0 0, .string ⟨#[]⟩, .string ⟨#[]⟩]), 6, 88) := by kernel_rfl
set_option maxHeartbeats 2000000 in
theorem toRecordS_own (rs : List RV) (B : Nat) (A : Option Addr) (n c : Nat) (w : World) (hr : Recs w B A n rs) (hB : B ≤ w.heap.size) (hn : n ≤ 1048576) (hf : Hid (∀ r ∈ rs, r.L ≤ 1048576)) :
    Calls Try.prog 31 #[.slice A n c] w fun e w' => ∃ os : List RV, e = .returned (.slice (some ⟨w.heap.size, 0, none⟩) n n) ∧ os.map RV.z = rs.map RV.z ∧ Blk w' w.heap.size 54 (flat os) ∧ (∀ x ∈ os, w'.ownsRow (w.heap.size + 1) 3 1 (.slice x.A x.L x.C) x.L (x.Z.map iv)) ∧ Below w.heap.size w w' := by
  have hlen := hr.2.1
  obtain ⟨i0, hi0, hz0, hz1, hz2⟩ := info_parts infoRec
  go_enter Try.func31, Try.ntmps31
  go_wp2_with (at_make; refine wpList_make_full _ rfl _ _ 28 rfl w.heap.size 54 i0 _ 6 Try.underlying28 hi0 hz0 hz1 _ _ _ _ n rfl rfl rfl rfl (by rw [hz2]; omega) (by unfold maxLen; omega) (Nat.le_refl _) ?_; intro w1 hown1 hg1)
  have hb1 : Below w.heap.size w w1 := (Below.refl _ _).grown hg1 (Nat.le_refl _) (fun k h => by cases h)
  have hblk : Blk w1 w.heap.size 54 (flat (List.replicate n noRV)) := by
    obtain ⟨e1, h | ⟨g, cap, cur, hv, hg, hh, hc1, hc2, hc3, hc4⟩⟩ := hown1
    · cases h.1
    · injection hv with hA _ hcap
      injection hA with hA
      injection hA with hA
      subst hA
      subst hcap
      have e2 : cur.toList = flat (List.replicate n noRV) := by
        rw [← flat_made]
        refine Eq.trans ?_ hc4
        exact (List.take_of_length_le (by rw [Array.length_toList, hc3]; exact Nat.le_refl _)).symm
      unfold Blk
      rw [hh, ← e2]
  have HBLK := hid hblk
  clear hown1 hg1 hblk
  go_loopw [4] (fun i wr => ∃ (k : Nat) (os : List RV), k ≤ n ∧ i = .int .i64 k ∧ os.length = n ∧ Blk wr w.heap.size 54 (flat os) ∧ Hid (∀ j x, j < k → os[j]? = some x → (rs.map RV.z)[j]? = some x.z ∧ wr.ownsRow (w.heap.size + 1) 3 1 (.slice x.A x.L x.C) x.L (x.Z.map iv)) ∧ Below w.heap.size w wr) (fun i _ => n - (intOf i).toNat)
  case atStart => exact ⟨0, List.replicate n noRV, Nat.zero_le _, rfl, by simp, HBLK.out, hid (fun j x hj => absurd hj (by omega)), hb1⟩
  case round =>
    obtain ⟨k, os, hk, rfl, hol, hblkr, hall, hb⟩ := hrel
    by_cases hlt : k < n
    · obtain ⟨ad, r, p, rfl, hp, hab, hrk, hrr, c0, c1, c2, c3, c4, c5⟩ := (hr.below hb hB).at_ hlt
      have hrL := hf.out r (List.mem_of_getElem? hrk)
      have hbs := hb.size
      have hgl := hblkr.lt
      have p1 : 0 ≤ (k : Int) := by omega
      have p2 : (k : Int) < n := by omega
      have HRK := hid hrk
      clear hrk
      obtain ⟨y, hy⟩ : ∃ y, os[k]? = some y := ⟨os[k]'(by omega), List.getElem?_eq_getElem (by omega)⟩
      go_wp2_with fail
      refine (toRecord_own r.N r.T r.K r.A r.L r.C r.G r.X r.Z B _ hrr (by omega) (by omega) hrL).mono ?_
      rintro e w2 ⟨A2, C2, rfl, hown2, hb2⟩
      have hblk2 := hblkr.next hb2
      have hb3 := hb.trans (hb2.mono hbs)
      have o0 : w2.cell? ⟨w.heap.size, k * 6, none⟩ = some (.string y.N) := (hblk2.cell _).trans (flat_at hy 0 (by omega))
      have o1 : w2.cell? ⟨w.heap.size, k * 6 + 1, none⟩ = some (.int .i64 y.T) := (hblk2.cell _).trans (flat_at hy 1 (by omega))
      have o2 : w2.cell? ⟨w.heap.size, k * 6 + 2, none⟩ = some (.int .i64 y.K) := (hblk2.cell _).trans (flat_at hy 2 (by omega))
      have o3 : w2.cell? ⟨w.heap.size, k * 6 + 3, none⟩ = some (.slice y.A y.L y.C) := (hblk2.cell _).trans (flat_at hy 3 (by omega))
      have o4 : w2.cell? ⟨w.heap.size, k * 6 + 4, none⟩ = some (.string y.G) := (hblk2.cell _).trans (flat_at hy 4 (by omega))
      have o5 : w2.cell? ⟨w.heap.size, k * 6 + 5, none⟩ = some (.string y.X) := (hblk2.cell _).trans (flat_at hy 5 (by omega))
      have z0 := hblk2.frozen (k * 6)
      have z1 := hblk2.frozen (k * 6 + 1)
      have z2 := hblk2.frozen (k * 6 + 2)
      have z3 := hblk2.frozen (k * 6 + 3)
      have z4 := hblk2.frozen (k * 6 + 4)
      have z5 := hblk2.frozen (k * 6 + 5)
      have hb4 := six_below_at hb3 (Nat.le_refl _) (k * 6) (.string r.N) (.int .i64 r.T) (.int .i64 r.K) (.slice A2 r.L C2) (.string r.G) (.string r.X)
      have hblk4 := six_put_at hblk2 (k * 6) (.string r.N) (.int .i64 r.T) (.int .i64 r.K) (.slice A2 r.L C2) (.string r.G) (.string r.X)
      rw [← flat_set (show k < os.length by omega) ⟨r.N, r.T, r.K, A2, r.L, C2, r.G, r.X, r.Z⟩] at hblk4
      have HALL := hid (copied_next hol hk hlt hall.out hb2 (own_mono hown2 (show w.heap.size + 1 ≤ wr.heap.size by omega)) HRK.out (.string r.N) (.int .i64 r.T) (.int .i64 r.K) (.slice A2 r.L C2) (.string r.G) (.string r.X))
      clear hblkr hblk2 hall hown2 hb3 hb2 c0 c1 c2 c3 c4 c5 hrr
      go_wp2_with fail
      all_goals exact ⟨⟨k + 1, _, by omega, by go_num, by simp [hol], hblk4, HALL, hb4⟩, by simp [intOf]; omega⟩
    · obtain rfl : k = n := by omega
      have hfin : os.map RV.z = rs.map RV.z := by
        apply List.ext_getElem?
        intro j
        rcases Nat.lt_or_ge j os.length with h | h
        · have h1 := hall.out j os[j] (by omega) (List.getElem?_eq_getElem h)
          rw [h1.1, List.getElem?_map, List.getElem?_eq_getElem h]
          rfl
        · rw [List.getElem?_eq_none (by simpa using h), List.getElem?_eq_none (by simpa [hlen, hol] using h)]
      have HF := hid hfin
      have HO := hid (show ∀ x ∈ os, wr.ownsRow (w.heap.size + 1) 3 1 (.slice x.A x.L x.C) x.L (x.Z.map iv) from fun x hx => by
        obtain ⟨j, hj⟩ := List.getElem?_of_mem hx
        exact (hall.out j x (by have := (List.getElem?_eq_some_iff.1 hj).1; omega) hj).2)
      clear hfin
      go_wp2_with fail
      go_ret
      exact ⟨os, rfl, HF.out, hblkr, HO.out, hb⟩
end Go.Proofs.Ytgglakonkphbgaa

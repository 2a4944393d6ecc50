/- Zones in memory: what a law is told of a zone that comes in, and what the helpers of the laws return for zones. -/
import Derived.Test.YtgglakonkphbgaaZa
import Derived.Test.YtgglakonkphbgaaRo
namespace Go.Proofs.Ytgglakonkphbgaa
open Go.ChangeShapes Go.WideShapes Go.ChangeAt Go.RowKit
set_option maxRecDepth 100000
set_option linter.unusedVariables false
set_option linter.unusedSimpArgs false

/-- A zone that came in. -/
def ZoneIn (w : World) (v : Value) : Prop :=
  ∃ (o : ByteArray) (A : Option Addr) (n c : Nat) (rs : List RV), v = .agg #[.string o, .slice A n c] ∧ o.size ≤ maxLen ∧ n ≤ c ∧ c ≤ maxLen ∧ Recs w w.heap.size A n rs ∧ ∀ r ∈ rs, r.fits

set_option maxHeartbeats 1000000 in
theorem recs_cells {H : Type} {enc : TypeId × Value → H} {w : World} {fuel : Nat} {v : Value} {x : DataW H × List MemPlace} (hf : DataW.trod enc Try.prog w 0 (fun _ => true) true fuel 22 [v] = some x) : RecsIn w v := by
  have h6 : Try.prog.cellsOf 65 = 6 := by kernel_rfl
  rcases Go.Deep.open_slice Try.underlying22 hf with ⟨hcs, _⟩ | ⟨a, len, cap, m, n, D, Pl, hcs, _, hl, hm, hmm, _, hi⟩
  · simp at hcs
    subst hcs
    exact ⟨none, 0, 0, [], rfl, Nat.le_refl _, by decide, ⟨Reads.none_, rfl, fun r hr => by cases hr⟩, fun r hr => by cases hr⟩
  · simp at hcs
    subst hcs
    rw [h6] at hi
    simp only [if_true] at hmm
    subst hmm
    have hex : ∀ i, ∃ r : RV, i < len → (∀ t, t < 6 → w.cell? (a.add (i * 6 + t)) = r.cells[t]?) ∧ r.fits ∧ Reads w w.heap.size r.A r.L (r.Z.map iv) := fun i => by
      by_cases hil : i < len
      · obtain ⟨cs', hc, ht⟩ := hi i (by omega)
        obtain ⟨_, hcl, hat⟩ := World.cells?_some hc
        obtain ⟨r, rfl, h1, h2⟩ := rec_cells hcl ht
        refine ⟨r, fun _ => ⟨fun t htt => ?_, h1, h2⟩⟩
        rw [← add_of_add]
        exact hat t htt
      · exact ⟨noRV, fun h => absurd h hil⟩
    obtain ⟨f, hfx⟩ : ∃ f : Nat → RV, ∀ i, i < len → (∀ t, t < 6 → w.cell? (a.add (i * 6 + t)) = (f i).cells[t]?) ∧ (f i).fits ∧ Reads w w.heap.size (f i).A (f i).L ((f i).Z.map iv) := ⟨fun i => Classical.choose (hex i), fun i => Classical.choose_spec (hex i)⟩
    have hat : ∀ i, i < len → ((List.range len).map f)[i]? = some (f i) := fun i hil => by
      rw [List.getElem?_map, List.getElem?_range hil]
      rfl
    refine ⟨some a, len, _, (List.range len).map f, rfl, hl, hm, ⟨⟨by rw [flat_length]; simp, fun hn => ⟨a, rfl, ?_, fun j u hu => ?_⟩⟩, by simp, fun r hr => ?_⟩, fun r hr => ?_⟩
    · have h1 := (hfx 0 (by omega)).1 0 (by omega)
      have h2 := cell_lt (w := w) (a := a.add (0 * 6 + 0)) (v := (.string (f 0).N)) (h1.trans rfl)
      rwa [block_of_add] at h2
    · have hj : j < len * 6 := by
        rcases Nat.lt_or_ge j (len * 6) with h | h
        · exact h
        · rw [List.getElem?_eq_none (by rw [flat_length]; simpa using h)] at hu; cases hu
      have e : j = j / 6 * 6 + j % 6 := by omega
      rw [e] at hu ⊢
      rw [flat_at (hat (j / 6) (by omega)) (j % 6) (by omega)] at hu
      rw [(hfx (j / 6) (by omega)).1 (j % 6) (by omega)]
      exact hu
    · obtain ⟨i, hi9, rfl⟩ := List.mem_map.1 hr
      exact (hfx i (List.mem_range.1 hi9)).2.2
    · obtain ⟨i, hi9, rfl⟩ := List.mem_map.1 hr
      exact (hfx i (List.mem_range.1 hi9)).2.1

set_option maxHeartbeats 1000000 in
theorem open_zone {H : Type} {enc : TypeId × Value → H} {w : World} {r : Reach} {b0 : Nat} {v : Value} {d : DataW H} {p : List MemPlace} (hv : Value.okWide Try.prog w r b0 24 v) (h : DataW.Trod enc Try.prog w 0 (fun _ => true) true 24 v d p) : ZoneIn w v := by
  obtain ⟨cs, rfl, hsz⟩ := okWide_struct Try.underlying24 hv
  obtain ⟨fuel, hf⟩ := h
  obtain ⟨xs, n, _, hx, _, hlen, hg⟩ := DataW.trod_struct Try.underlying24 hf
  have h2 : Try.prog.cellsOf 24 = 2 := by kernel_rfl
  rw [h2] at hsz
  obtain ⟨l⟩ := cs
  obtain ⟨c0, c1, rfl⟩ : ∃ c0 c1, l = [c0, c1] := by
    match l, hsz with
    | [a, b], _ => exact ⟨a, b, rfl⟩
  obtain ⟨y0, y1, rfl⟩ : ∃ c0 c1, xs = [c0, c1] := by
    match xs, hlen with
    | [a, b], _ => exact ⟨a, b, rfl⟩
  have g0 := hg 0 _ rfl
  have g1 := hg 1 _ rfl
  obtain ⟨s, e0, _, hs⟩ := DataW.trod_string Try.underlying9 (g0.trans rfl)
  have k9 : Try.prog.cellsOf 9 = 1 := by kernel_rfl
  have k24 : Try.prog.cellsOf 22 = 1 := by kernel_rfl
  simp [Value.cells, k9] at e0
  simp [Value.cells, k9, k24] at g1
  obtain ⟨A, n', c, rs, e1, h3, h4, h5, h6⟩ := recs_cells g1
  subst e0 e1
  exact ⟨_, _, _, _, _, rfl, hs, h3, h4, h5, h6⟩

/-- Records that are equal to some others, in memory of their own. -/
structure Copy (W : World) (rs : List RV) (A : Option Addr) (n : Nat) : Prop where
  ex : ∃ os : List RV, os.map RV.z = rs.map RV.z ∧ Recs W W.heap.size A n os
theorem recsNow {W W' : World} {A : Option Addr} {n : Nat} {os : List RV} (h : Recs W W.heap.size A n os) (hb : Below W.heap.size W W') : Recs W' W'.heap.size A n os := (h.below hb (Nat.le_refl _)).more hb.size
theorem Copy.next {W W' : World} {rs : List RV} {A : Option Addr} {n : Nat} (h : Copy W rs A n) (hb : Below W.heap.size W W') : Copy W' rs A n := by
  obtain ⟨os, h1, h2⟩ := h.ex
  exact ⟨⟨os, h1, recsNow h2 hb⟩⟩
theorem Copy.drewN {W : World} {rs : List RV} {A : Option Addr} {n : Nat} (h : Copy W rs A n) (q : Nat) : Copy (W.drewN q) rs A n := h.next (below_drewN (Below.refl _ _) q)
theorem Copy.drew {W : World} {rs : List RV} {A : Option Addr} {n : Nat} (h : Copy W rs A n) : Copy W.drew rs A n := h.drewN 1
theorem Copy.alloc {W : World} {rs : List RV} {A : Option Addr} {n : Nat} (h : Copy W rs A n) (o : Obj) : Copy (W.alloc o) rs A n := h.next ((Below.refl _ _).alloc (Nat.le_refl _) o)
theorem zlen_of {rs os : List RV} (h : os.map RV.z = rs.map RV.z) : os.length = rs.length := by simpa using congrArg List.length h
theorem fine_of {rs os : List RV} {w : World} {A : Option Addr} {n B B' : Nat} {w' : World} {A' : Option Addr} {n' : Nat} (h : os.map RV.z = rs.map RV.z) (ho : Recs w B A n os) (hr : Recs w' B' A' n' rs) (hs : Hid (∀ r ∈ rs, r.small)) : Hid (∀ x ∈ os, x.fine) := hid (fun x hx => by
  have hm : x.z ∈ rs.map RV.z := by rw [← h]; exact List.mem_map_of_mem hx
  obtain ⟨r, hr9, e⟩ := List.mem_map.1 hm
  have h1 := hs.out r hr9
  have l1 := reads_len (ho.2.2 x hx)
  have l2 := reads_len (hr.2.2 r hr9)
  simp only [RV.z, Z.Rec.mk.injEq] at e
  obtain ⟨e1, _, _, e4, e5, e6⟩ := e
  have s1 := congrArg ByteArray.size (lst_inj e1)
  have s5 := congrArg ByteArray.size (lst_inj e5)
  have s6 := congrArg ByteArray.size (lst_inj e6)
  rw [← e4] at l1
  unfold RV.small at h1
  unfold RV.fine
  omega)

theorem szZone_any (M : Nat) (hM : M ≤ 1048576) (aO : ByteArray) (rs : List RV) (B : Nat) (A : Option Addr) (n c : Nat) (w : World) (ho : aO.size ≤ maxLen) (hr : Recs w B A n rs) (hB : B ≤ w.heap.size) (hn : n ≤ maxLen) (hf : Hid (∀ r ∈ rs, r.fits)) :
    Calls Try.prog 8 #[.agg #[.string aO, .slice A n c], .int .i64 (M : Int)] w fun e w' => ∃ k : Int, e = .returned (.int .i64 k) ∧ Hid (k < 0 ∨ (0 ≤ k ∧ k ≤ M ∧ aO.size ≤ M ∧ n ≤ 1048576 ∧ ∀ r ∈ rs, r.small)) ∧ Below w.heap.size w w' := by
  unfold maxLen at ho
  have hbox : Below w.heap.size w (w.alloc (.cells #[.string aO, .slice A n c] 24)) := (Below.refl _ _).alloc (Nat.le_refl _) _
  go_enter Try.func8, Try.ntmps8
  by_cases h1 : (M : Int) - aO.size < 0
  · go_wp2
    go_ret
    exact ⟨_, rfl, hid (Or.inl (by omega)), hbox⟩
  · obtain ⟨m, hm⟩ : ∃ m : Nat, (M : Int) - aO.size = m := ⟨M - aO.size, by omega⟩
    have HM := hid hm
    clear hm
    go_wp2_with fail
    rw [HM.out]
    refine (szRecordS_m m (by have := HM.out; omega) rs B A n c _ (hr.below hbox hB) (by simp; omega) hn hf).mono ?_
    rintro e w2 ⟨k, rfl, hk, hb2⟩
    have hb3 := hbox.trans (hb2.mono (by simp))
    by_cases hneg : k < 0
    · go_wp2_with fail
      go_ret
      exact ⟨_, rfl, hid (Or.inl (by omega)), hb3⟩
    · go_wp2_with fail
      go_ret
      exact ⟨_, rfl, hid (by
        have h0 := HM.out
        rcases hk.out with h | ⟨h2, h3, h4, h5⟩
        · omega
        · exact Or.inr ⟨h2, by omega, by omega, h4, h5⟩), hb3⟩

theorem ret_toZone {a : Act} {W : World} {post : Ending → World → Prop} (b : Nat) {c0 c1 : Value} (hp : a.tmps[2]?.getD undef = .pointer (some ⟨b, 0, none⟩)) (hd : a.defers = [])
    (h0 : W.cell? ⟨b, 0, none⟩ = some c0) (h1 : W.cell? ⟨b, 1, none⟩ = some c1) (h : post (.returned (.agg #[c0, c1])) W) : bodyPost Try.prog Try.f10 post Exit.ret a W :=
  bodyPost_ret (by simp [results, Try.results10, go_sem, hp, h0, h1]) hd h

set_option maxHeartbeats 4000000 in
theorem toZone_own (aO : ByteArray) (rs : List RV) (B : Nat) (A : Option Addr) (n c : Nat) (w : World) (hr : Recs w B A n rs) (hB : B ≤ w.heap.size) (hn : n ≤ 1048576) (hf : Hid (∀ r ∈ rs, r.L ≤ 1048576)) :
    Calls Try.prog 10 #[.agg #[.string aO, .slice A n c]] w fun e w' => ∃ os : List RV, e = .returned (.agg #[.string aO, .slice (some ⟨w.heap.size + 3, 0, none⟩) n n]) ∧ os.map RV.z = rs.map RV.z ∧ Blk w' (w.heap.size + 3) 54 (flat os) ∧ (∀ x ∈ os, w'.ownsRow (w.heap.size + 4) 3 1 (.slice x.A x.L x.C) x.L (x.Z.map iv)) ∧ Below w.heap.size w w' := by
  go_enter Try.func10, Try.ntmps10
  go_wp2_with fail
  refine (toRecordS_own rs B A n c _ (hr.below (by go_grown) hB) (by simp; omega) hn hf).mono ?_
  rintro e w3 ⟨os, rfl, hz, hblk, hrow, hb3⟩
  have hblk3 : Blk w3 (w.heap.size + 3) 54 (flat os) := by simpa using hblk
  have hrow3 : ∀ x ∈ os, w3.ownsRow (w.heap.size + 4) 3 1 (.slice x.A x.L x.C) x.L (x.Z.map iv) := by simpa using hrow
  clear hblk hrow
  obtain ⟨hc3, hf3⟩ := bcell hb3
  have hbw : Below w.heap.size w w3 := Below.trans (by go_grown) (hb3.mono (by simp; omega))
  have r0 : w3.cell? ⟨w.heap.size + 1, 0, none⟩ = some (.string ⟨#[]⟩) := (hc3 _ _ (by simp)).trans (by go_simp)
  have r1 : w3.cell? ⟨w.heap.size + 1, 1, none⟩ = some (.slice none 0 0) := (hc3 _ _ (by simp)).trans (by go_simp)
  have HROW := hid hrow3
  clear hrow3
  go_wp2
  have hrow3 := HROW.out
  refine ret_toZone (w.heap.size + 1) rfl rfl (c0 := .string aO) (c1 := .slice (some ⟨w.heap.size + 3, 0, none⟩) n n) (by go_simp) (by go_simp) ⟨os, rfl, hz, ?_, ?_, ?_⟩
  · exact ((hblk3.far (p := ⟨w.heap.size + 2, 1, none⟩) (by simp) _).far (p := ⟨w.heap.size + 1, 0, none⟩) (by simp) _).far (p := ⟨w.heap.size + 1, 1, none⟩) (by simp) _
  · intro x hx
    exact ownsRow_setCell_below (ownsRow_setCell_below (ownsRow_setCell_below (hrow3 x hx) (a := ⟨w.heap.size + 2, 1, none⟩) (by simp) _) (a := ⟨w.heap.size + 1, 0, none⟩) (by simp) _) (a := ⟨w.heap.size + 1, 1, none⟩) (by simp) _
  · clear hb3 hc3 hf3
    go_grown

theorem recs_at {w : World} {g n m : Nat} {os : List RV} (hm : m = g + 1) (hblk : Blk w g 54 (flat os)) (hl : os.length = n) (hrow : ∀ x ∈ os, w.ownsRow m 3 1 (.slice x.A x.L x.C) x.L (x.Z.map iv)) : Recs w w.heap.size (some ⟨g, 0, none⟩) n os := by
  subst hm
  exact recs_of hblk hl hrow
theorem small_L {rs : List RV} (hs : Hid (∀ r ∈ rs, r.small)) : Hid (∀ r ∈ rs, r.L ≤ 1048576) := hid (fun r hr9 => by have := hs.out r hr9; unfold RV.small at this; omega)
theorem toZone_law {w W : World} {b : Nat} {cs : List Value} {aO : ByteArray} {rs : List RV} {aA : Option Addr} {aL aC : Nat} (hra : Recs w w.heap.size aA aL rs) (hh : Held w W b cs) (hs : Hid (∀ r ∈ rs, r.small)) (la : aL ≤ 1048576) :
    Calls Try.prog 10 #[.agg #[.string aO, .slice aA aL aC]] W fun e W' => ∃ A, e = .returned (.agg #[.string aO, .slice A aL aL]) ∧ Copy W' rs A aL ∧ Below W.heap.size W W' :=
  (toZone_own aO rs w.heap.size aA aL aC W (hra.below hh.1 (Nat.le_refl _)) (hh.up (Nat.le_refl _)) la (small_L hs)).mono fun e W' ⟨os, h1, h2, h3, h4, h5⟩ =>
    ⟨_, h1, ⟨⟨os, h2, recs_at rfl h3 (by rw [zlen_of h2]; exact hra.2.1) h4⟩⟩, h5⟩

set_option maxHeartbeats 1000000 in
theorem eqZone_law {w W : World} {aO : ByteArray} {rs : List RV} {aA A A' : Option Addr} {aL c c' : Nat} (hra : Recs w w.heap.size aA aL rs) (h1 : Copy W rs A aL) (h2 : Copy W rs A' aL) (hs : Hid (∀ r ∈ rs, r.small)) (la : aL ≤ 1048576) :
    Calls Try.prog 13 #[.agg #[.string aO, .slice A aL c], .agg #[.string aO, .slice A' aL c']] W fun e W' => e = .returned (.bool true) ∧ Below W.heap.size W W' := by
  obtain ⟨os, z1, r1⟩ := h1.ex
  obtain ⟨xs, z2, r2⟩ := h2.ex
  have hf := fine_of z1 r1 hra hs
  have hz : xs.map RV.z = os.map RV.z := z2.trans z1.symm
  have HZ := hid hz
  clear z1 z2 hz
  have hb2 : Below W.heap.size W ((W.alloc (.cells #[.string aO, .slice A aL c] 30)).alloc (.cells #[.string aO, .slice A' aL c'] 30)) := ((Below.refl _ _).alloc (Nat.le_refl _) _).alloc (by simp) _
  go_enter Try.func13, Try.ntmps13
  go_wp2_with fail
  refine (eqRecordS_any os xs HZ.out W.heap.size W.heap.size A A' aL c c' _ (r1.below hb2 (Nat.le_refl _)) (r2.below hb2 (Nat.le_refl _)) (by simp; omega) (by simp; omega) la (fun k r h => (hf.out r (List.mem_of_getElem? h)).2.1)).mono ?_
  rintro e w9 ⟨rfl, hb9⟩
  go_wp2_with fail
  go_ret
  exact ⟨rfl, hb2.trans (hb9.mono (by simp; omega))⟩

theorem sameZ_copy {aO bO : ByteArray} {rs ss os xs : List RV} (h1 : os.map RV.z = rs.map RV.z) (h2 : xs.map RV.z = ss.map RV.z) : sameZ aO bO os xs = sameZ aO bO rs ss := by unfold sameZ; rw [h1, h2]
theorem cells4 {w W : World} {b b' : Nat} {c0 c1 d0 d1 : Value} (h : Held w W b [c0, c1]) (k : Held w W b' [d0, d1]) :
    Held w W b [c0, c1] ∧ Held w W b' [d0, d1] ∧ W.cell? ⟨b, 0, none⟩ = some c0 ∧ W.cell? ⟨b, 1, none⟩ = some c1 ∧ W.cell? ⟨b', 0, none⟩ = some d0 ∧ W.cell? ⟨b', 1, none⟩ = some d1 := by
  obtain ⟨h0, h1⟩ := h.cells2
  obtain ⟨k0, k1⟩ := k.cells2
  exact ⟨h, k, h0, h1, k0, k1⟩
theorem cells4b {w W : World} {b b' l m : Nat} {c0 c1 d0 d1 : Value} {cs ds : List Value} {P Q : Prop} (h : Held w W b [c0, c1]) (k : Held w W b' [d0, d1]) (hl : Held w W l cs) (hm : Held w W m ds) (hp : P) (hq : Q) :
    Held w W b [c0, c1] ∧ Held w W b' [d0, d1] ∧ Held w W l cs ∧ Held w W m ds ∧ P ∧ Q ∧ W.cell? ⟨b, 0, none⟩ = some c0 ∧ W.cell? ⟨b, 1, none⟩ = some c1 ∧ W.cell? ⟨b', 0, none⟩ = some d0 ∧ W.cell? ⟨b', 1, none⟩ = some d1 := by
  obtain ⟨h0, h1⟩ := h.cells2
  obtain ⟨k0, k1⟩ := k.cells2
  exact ⟨h, k, hl, hm, hp, hq, h0, h1, k0, k1⟩
end Go.Proofs.Ytgglakonkphbgaa

/- Differences in memory: what a law is told of one that comes in, what the helpers of the laws return for them, and what DiffSame of program and model returns. -/
import Derived.Test.YtbbldgpoegkokaaZb
namespace Go.Proofs.Ytbbldgpoegkokaa
open Go.ChangeShapes Go.WideShapes Go.ChangeAt Go.RowKit
set_option maxRecDepth 100000
set_option linter.unusedVariables false
set_option linter.unusedSimpArgs false

/-- Records that are equal to some others, in a block g of their own. -/
structure OwnL (W : World) (g : Nat) (rs : List RV) : Prop where
  ex : ∃ os : List RV, os.map RV.z = rs.map RV.z ∧ Blk W g 48 (flat os) ∧ ∀ x ∈ os, W.ownsRow (g + 1) 3 1 (.slice x.A x.L x.C) x.L (x.Z.map iv)
theorem OwnL.lt {W : World} {g : Nat} {rs : List RV} (h : OwnL W g rs) : g < W.heap.size := by
  obtain ⟨os, h1, h2, h3⟩ := h.ex
  exact h2.lt
theorem OwnL.next {W W' : World} {g : Nat} {rs : List RV} (h : OwnL W g rs) (hb : Below W.heap.size W W') : OwnL W' g rs := by
  obtain ⟨os, h1, h2, h3⟩ := h.ex
  exact ⟨⟨os, h1, h2.next hb, fun x hx => own_next (h3 x hx) hb⟩⟩
theorem OwnL.far {W : World} {g : Nat} {rs : List RV} (h : OwnL W g rs) {p : Addr} (hp : p.block < g) (u : Value) : OwnL (W.setCell p u) g rs := by
  obtain ⟨os, h1, h2, h3⟩ := h.ex
  exact ⟨⟨os, h1, h2.far (by omega) u, fun x hx => ownsRow_setCell_below (h3 x hx) (by omega) u⟩⟩
theorem OwnL.copy {W w : World} {g n B : Nat} {A : Option Addr} {rs : List RV} (h : OwnL W g rs) (hr : Recs w B A n rs) : Copy W rs (some ⟨g, 0, none⟩) n := by
  obtain ⟨os, h1, h2, h3⟩ := h.ex
  exact ⟨⟨os, h1, recs_of h2 (by rw [zlen_of h1]; exact hr.2.1) h3⟩⟩
theorem toRecordS_ownL (rs : List RV) (B : Nat) (A : Option Addr) (n c : Nat) (w : World) (hr : Recs w B A n rs) (hB : B ≤ w.heap.size) (hn : n ≤ 1048576) (hf : Hid (∀ r ∈ rs, r.L ≤ 1048576)) :
    Calls Try.prog 13 #[.slice A n c] w fun e w' => e = .returned (.slice (some ⟨w.heap.size, 0, none⟩) n n) ∧ OwnL w' w.heap.size rs ∧ Below w.heap.size w w' :=
  (toRecordS_own rs B A n c w hr hB hn hf).mono fun _ _ ⟨os, h1, h2, h3, h4, h5⟩ => ⟨h1, ⟨⟨os, h2, h3, h4⟩⟩, h5⟩

/-- A difference that came in. -/
def DiffIn (w : World) (v : Value) : Prop :=
  ∃ (f t : Int) (A : Option Addr) (n c : Nat) (A' : Option Addr) (n' c' : Nat) (rs ss : List RV), v = .agg #[.int .i64 f, .int .i64 t, .slice A n c, .slice A' n' c'] ∧ n ≤ c ∧ c ≤ maxLen ∧ n' ≤ c' ∧ c' ≤ maxLen ∧ Recs w w.heap.size A n rs ∧ (∀ r ∈ rs, r.fits) ∧ Recs w w.heap.size A' n' ss ∧ (∀ r ∈ ss, r.fits)

set_option maxHeartbeats 1000000 in
theorem open_diff {H : Type} {enc : TypeId × Value → H} {w : World} {r : Reach} {b0 : Nat} {v : Value} {d : DataW H} {p : List MemPlace} (hv : Value.okWide Try.prog w r b0 54 v) (h : DataW.Trod enc Try.prog w 0 (fun _ => true) true 54 v d p) : DiffIn w v := by
  obtain ⟨cs, rfl, hsz⟩ := okWide_struct Try.underlying54 hv
  obtain ⟨fuel, hf⟩ := h
  obtain ⟨xs, n, _, hx, _, hlen, hg⟩ := DataW.trod_struct Try.underlying54 hf
  have h4 : Try.prog.cellsOf 54 = 4 := by kernel_rfl
  rw [h4] at hsz
  obtain ⟨l⟩ := cs
  obtain ⟨c0, c1, c2, c3, rfl⟩ : ∃ c0 c1 c2 c3, l = [c0, c1, c2, c3] := by
    match l, hsz with
    | [a, b, c, d], _ => exact ⟨a, b, c, d, rfl⟩
  obtain ⟨y0, y1, y2, y3, rfl⟩ : ∃ c0 c1 c2 c3, xs = [c0, c1, c2, c3] := by
    match xs, hlen with
    | [a, b, c, d], _ => exact ⟨a, b, c, d, rfl⟩
  have g0 := hg 0 _ rfl
  have g1 := hg 1 _ rfl
  have g2 := hg 2 _ rfl
  have g3 := hg 3 _ rfl
  obtain ⟨f, e0, _, _⟩ := DataW.trod_int Try.underlying3 (g0.trans rfl)
  obtain ⟨t, e1, _, _⟩ := DataW.trod_int Try.underlying3 (g1.trans rfl)
  have k3 : Try.prog.cellsOf 3 = 1 := by kernel_rfl
  have k24 : Try.prog.cellsOf 22 = 1 := by kernel_rfl
  simp [Value.cells, k3] at e0 e1
  simp [Value.cells, k3, k24] at g2 g3
  obtain ⟨A, m, c, rs, e2, h5, h6, h7, h8⟩ := recs_cells g2
  obtain ⟨A', m', c', ss, e3, h9, h10, h11, h12⟩ := recs_cells g3
  subst e0 e1 e2 e3
  exact ⟨_, _, _, _, _, _, _, _, _, _, rfl, h5, h6, h9, h10, h7, h8, h11, h12⟩

theorem szDiff_any (M : Nat) (hM : M ≤ 1048576) (f t : Int) (rs ss : List RV) (B : Nat) (A A' : Option Addr) (n c n' c' : Nat) (w : World) (hr : Recs w B A n rs) (hs : Recs w B A' n' ss) (hB : B ≤ w.heap.size) (hn : n ≤ maxLen) (hn' : n' ≤ maxLen) (hf : Hid (∀ r ∈ rs, r.fits)) (hf' : Hid (∀ r ∈ ss, r.fits)) :
    Calls Try.prog 35 #[.agg #[.int .i64 f, .int .i64 t, .slice A n c, .slice A' n' c'], .int .i64 (M : Int)] w fun e w' => ∃ k : Int, e = .returned (.int .i64 k) ∧ Hid (k < 0 ∨ (0 ≤ k ∧ k ≤ M ∧ n ≤ 1048576 ∧ n' ≤ 1048576 ∧ (∀ r ∈ rs, r.small) ∧ ∀ r ∈ ss, r.small)) ∧ Below w.heap.size w w' := by
  have hx0 := Held.box w [.int .i64 f, .int .i64 t, .slice A n c, .slice A' n' c'] 54
  go_enter Try.func35, Try.ntmps35
  go_wp2_with fail
  refine (szRecordS_m M hM rs B A n c _ (hr.below hx0.1 hB) (by simp; omega) hn hf).mono ?_
  rintro e w2 ⟨k, rfl, hk, hb2⟩
  have hx2 := hx0.next hb2
  have s3 : w2.cell? ⟨w.heap.size, 3, none⟩ = some (.slice A' n' c') := hx2.2.2.2 3 _ rfl
  by_cases hneg : k < 0
  · go_wp2_with fail
    go_ret
    exact ⟨_, rfl, hid (Or.inl (by omega)), hx2.1⟩
  · have hk2 : 0 ≤ k ∧ k ≤ M ∧ n ≤ 1048576 ∧ ∀ r ∈ rs, r.small := by
      rcases hk.out with h | h
      · omega
      · exact h
    obtain ⟨k0, k1, k2, k3⟩ := hk2
    have K3 := hid k3
    obtain ⟨m, rfl⟩ : ∃ m : Nat, k = m := ⟨k.toNat, by omega⟩
    clear k3 hk
    go_wp2_with fail
    refine (szRecordS_m m (by omega) ss B A' n' c' _ (hs.below hx2.1 hB) (hx2.up hB) hn' hf').mono ?_
    rintro e w3 ⟨k, rfl, hk, hb3⟩
    have hx3 := hx2.next hb3
    by_cases hneg2 : k < 0
    · go_wp2_with fail
      go_ret
      exact ⟨_, rfl, hid (Or.inl (by omega)), hx3.1⟩
    · go_wp2_with fail
      go_ret
      exact ⟨_, rfl, hid (by
        rcases hk.out with h | ⟨h2, h3, h4, h5⟩
        · omega
        · exact Or.inr ⟨h2, by omega, k2, h4, K3.out, h5⟩), hx3.1⟩

theorem ret_toDiff {a : Act} {W : World} {post : Ending → World → Prop} (b : Nat) {c0 c1 c2 c3 : Value} (hp : a.tmps[2]?.getD undef = .pointer (some ⟨b, 0, none⟩)) (hd : a.defers = [])
    (h0 : W.cell? ⟨b, 0, none⟩ = some c0) (h1 : W.cell? ⟨b, 1, none⟩ = some c1) (h2 : W.cell? ⟨b, 2, none⟩ = some c2) (h3 : W.cell? ⟨b, 3, none⟩ = some c3) (h : post (.returned (.agg #[c0, c1, c2, c3])) W) : bodyPost Try.prog Try.f37 post Exit.ret a W :=
  bodyPost_ret (by simp [results, Try.results37, go_sem, hp, h0, h1, h2, h3]) hd h

set_option maxHeartbeats 4000000 in
theorem toDiff_own (f t : Int) (rs ss : List RV) (B : Nat) (A A' : Option Addr) (n c n' c' : Nat) (w : World) (hr : Recs w B A n rs) (hs : Recs w B A' n' ss) (hB : B ≤ w.heap.size) (hn : n ≤ 1048576) (hn' : n' ≤ 1048576) (hf : Hid (∀ r ∈ rs, r.L ≤ 1048576)) (hf' : Hid (∀ r ∈ ss, r.L ≤ 1048576)) :
    Calls Try.prog 37 #[.agg #[.int .i64 f, .int .i64 t, .slice A n c, .slice A' n' c']] w fun e w' => ∃ g g' : Nat, e = .returned (.agg #[.int .i64 f, .int .i64 t, .slice (some ⟨g, 0, none⟩) n n, .slice (some ⟨g', 0, none⟩) n' n']) ∧ OwnL w' g rs ∧ OwnL w' g' ss ∧ w.heap.size ≤ g ∧ g < g' ∧ Below w.heap.size w w' := by
  go_enter Try.func37, Try.ntmps37
  go_wp2_with fail
  refine (toRecordS_ownL rs B A n c _ (hr.below (by go_grown) hB) (by simp; omega) hn hf).mono ?_
  rintro e w3 ⟨rfl, hown, hb3⟩
  have hown3 : OwnL w3 (w.heap.size + 3) rs := by simpa using hown
  clear hown
  obtain ⟨hc3, hf3⟩ := bcell hb3
  have hbw : Below w.heap.size w w3 := Below.trans (by go_grown) (hb3.mono (by simp; omega))
  have hl3 := hown3.lt
  have a3 : w3.cell? ⟨w.heap.size, 3, none⟩ = some (.slice A' n' c') := (hc3 _ _ (by simp; omega)).trans (by go_simp)
  go_wp2_with fail
  have hw4 : Below w.heap.size w (w3.setCell ⟨w.heap.size + 2, 2, none⟩ (.slice (some ⟨w.heap.size + 3, 0, none⟩) n n)) := hbw.setCell (by show w.heap.size ≤ w.heap.size + 2; omega) _
  have hown4 := hown3.far (p := ⟨w.heap.size + 2, 2, none⟩) (by simp) (.slice (some ⟨w.heap.size + 3, 0, none⟩) n n)
  refine (toRecordS_ownL ss B A' n' c' _ (hs.below hw4 hB) (by simp; omega) hn' hf').mono ?_
  rintro e w5 ⟨rfl, hown, hb5⟩
  have hown5 : OwnL w5 w3.heap.size ss := by simpa using hown
  have hown6 := hown4.next hb5
  clear hown hown4
  obtain ⟨hc5, hf5⟩ := bcell hb5
  have hb6 := hw4.trans (hb5.mono (by simp; omega))
  have hl5 := hown5.lt
  have r20 : w5.cell? ⟨w.heap.size + 2, 0, none⟩ = some (.int .i64 f) := (hc5 _ _ (by simp; omega)).trans (by go_simp)
  have r21 : w5.cell? ⟨w.heap.size + 2, 1, none⟩ = some (.int .i64 t) := (hc5 _ _ (by simp; omega)).trans (by go_simp)
  have r22 : w5.cell? ⟨w.heap.size + 2, 2, none⟩ = some (.slice (some ⟨w.heap.size + 3, 0, none⟩) n n) := (hc5 _ _ (by simp; omega)).trans (by go_simp)
  have r23 : w5.cell? ⟨w.heap.size + 2, 3, none⟩ = some (.slice none 0 0) := (hc5 _ _ (by simp; omega)).trans (by go_simp)
  have r10 : w5.cell? ⟨w.heap.size + 1, 0, none⟩ = some (.int .i64 0) := (hc5 _ _ (by simp; omega)).trans (by go_simp)
  have r11 : w5.cell? ⟨w.heap.size + 1, 1, none⟩ = some (.int .i64 0) := (hc5 _ _ (by simp; omega)).trans (by go_simp)
  have r12 : w5.cell? ⟨w.heap.size + 1, 2, none⟩ = some (.slice none 0 0) := (hc5 _ _ (by simp; omega)).trans (by go_simp)
  have r13 : w5.cell? ⟨w.heap.size + 1, 3, none⟩ = some (.slice none 0 0) := (hc5 _ _ (by simp; omega)).trans (by go_simp)
  have z10 : w5.frozen? ⟨w.heap.size + 1, 0, none⟩ = false := (hf5 _ _ (by simp; omega)).trans (by go_simp)
  have z11 : w5.frozen? ⟨w.heap.size + 1, 1, none⟩ = false := (hf5 _ _ (by simp; omega)).trans (by go_simp)
  have z12 : w5.frozen? ⟨w.heap.size + 1, 2, none⟩ = false := (hf5 _ _ (by simp; omega)).trans (by go_simp)
  have z13 : w5.frozen? ⟨w.heap.size + 1, 3, none⟩ = false := (hf5 _ _ (by simp; omega)).trans (by go_simp)
  have z20 : w5.frozen? ⟨w.heap.size + 2, 0, none⟩ = false := (hf5 _ _ (by simp; omega)).trans (by go_simp)
  have z21 : w5.frozen? ⟨w.heap.size + 2, 1, none⟩ = false := (hf5 _ _ (by simp; omega)).trans (by go_simp)
  have z22 : w5.frozen? ⟨w.heap.size + 2, 2, none⟩ = false := (hf5 _ _ (by simp; omega)).trans (by go_simp)
  have z23 : w5.frozen? ⟨w.heap.size + 2, 3, none⟩ = false := (hf5 _ _ (by simp; omega)).trans (by go_simp)
  clear hc5 hf5
  go_wp2
  refine ret_toDiff (w.heap.size + 1) rfl rfl (c0 := .int .i64 f) (c1 := .int .i64 t) (c2 := .slice (some ⟨w.heap.size + 3, 0, none⟩) n n) (c3 := .slice (some ⟨w3.heap.size, 0, none⟩) n' n') (by go_simp) (by go_simp) (by go_simp) (by go_simp) ⟨w.heap.size + 3, w3.heap.size, rfl, ?_, ?_, by omega, hl3, ?_⟩
  · exact ((((hown6.far (p := ⟨w.heap.size + 2, 3, none⟩) (by simp) _).far (p := ⟨w.heap.size + 1, 0, none⟩) (by simp) _).far (p := ⟨w.heap.size + 1, 1, none⟩) (by simp) _).far (p := ⟨w.heap.size + 1, 2, none⟩) (by simp) _).far (p := ⟨w.heap.size + 1, 3, none⟩) (by simp) _
  · exact ((((hown5.far (p := ⟨w.heap.size + 2, 3, none⟩) (by simp; omega) _).far (p := ⟨w.heap.size + 1, 0, none⟩) (by simp; omega) _).far (p := ⟨w.heap.size + 1, 1, none⟩) (by simp; omega) _).far (p := ⟨w.heap.size + 1, 2, none⟩) (by simp; omega) _).far (p := ⟨w.heap.size + 1, 3, none⟩) (by simp; omega) _
  · clear hb3 hc3 hf3 hb5
    go_grown

/-- Are two differences equal? -/
def sameD (f t f' t' : Int) (rs ss xs ys : List RV) : Bool := decide (f = f') && decide (t = t') && (sameL (rs.map RV.z) (xs.map RV.z) && sameL (ss.map RV.z) (ys.map RV.z))

set_option maxHeartbeats 8000000 in
theorem DiffSame_any (f t f' t' : Int) (rs ss xs ys : List RV) (B : Nat) (A A' D D' : Option Addr) (n c n' c' m d m' d' : Nat) (w : World) (h1 : Recs w B A n rs) (h2 : Recs w B A' n' ss) (h3 : Recs w B D m xs) (h4 : Recs w B D' m' ys) (hB : B ≤ w.heap.size) (hn : n ≤ 67108864) (hn' : n' ≤ 67108864) (hm : m ≤ 67108864) (hm' : m' ≤ 67108864) (k1 : Hid (∀ r ∈ rs, r.fine)) (k2 : Hid (∀ r ∈ ss, r.fine)) (k3 : Hid (∀ r ∈ xs, r.fine)) (k4 : Hid (∀ r ∈ ys, r.fine)) (v : Bool) (hv : Hid (sameD f t f' t' rs ss xs ys = v)) :
    Calls Try.prog 40 #[.agg #[.int .i64 f, .int .i64 t, .slice A n c, .slice A' n' c'], .agg #[.int .i64 f', .int .i64 t', .slice D m d, .slice D' m' d']] w fun e w' => e = .returned (.bool v) ∧ Below w.heap.size w w' := by
  have hx0 := (Held.box w [.int .i64 f, .int .i64 t, .slice A n c, .slice A' n' c'] 58).alloc (.cells [.int .i64 f', .int .i64 t', .slice D m d, .slice D' m' d'].toArray 58)
  have hy0 := (Held.box w [.int .i64 f, .int .i64 t, .slice A n c, .slice A' n' c'] 58).again (cs' := [.int .i64 f', .int .i64 t', .slice D m d, .slice D' m' d']) 58 (w.heap.size + 1) (by simp)
  by_cases hf : f = f'
  · have qf : (f == f') = true := by rw [beq_iff_eq]; exact hf
    by_cases ht : t = t'
    · have qt : (t == t') = true := by rw [beq_iff_eq]; exact ht
      obtain ⟨u1, hu1⟩ : ∃ u, sameL (rs.map RV.z) (xs.map RV.z) = u := ⟨_, rfl⟩
      obtain ⟨u2, hu2⟩ : ∃ u, sameL (ss.map RV.z) (ys.map RV.z) = u := ⟨_, rfl⟩
      have hvv := hv.out
      unfold sameD at hvv
      rw [decide_eq_true hf, decide_eq_true ht, hu1, hu2] at hvv
      have HV := hid hvv
      have HU1 := hid hu1
      have HU2 := hid hu2
      clear hf ht hvv hu1 hu2 hv
      go_enter Try.func40, Try.ntmps40
      go_wp2_with fail
      refine (ZoneSame_any ⟨#[]⟩ ⟨#[]⟩ rs xs B B A D n m c d _ (h1.below hx0.1 hB) (hx0.up hB) (h3.below hx0.1 hB) (hx0.up hB) hn hm k1 k3 u1 (hid (by unfold sameZ; rw [decide_eq_true rfl, Bool.true_and]; exact HU1.out))).mono ?_
      rintro e w2 ⟨rfl, hb2⟩
      have hx2 := hx0.next hb2
      have hy2 := hy0.next hb2
      have s3 : w2.cell? ⟨w.heap.size, 3, none⟩ = some (.slice A' n' c') := hx2.2.2.2 3 _ rfl
      have t3 : w2.cell? ⟨w.heap.size + 1, 3, none⟩ = some (.slice D' m' d') := hy2.2.2.2 3 _ rfl
      clear hx0 hy0 hb2
      cases u1 with
      | false =>
        obtain rfl : v = false := by rw [← HV.out]; rfl
        go_wp2_with fail
        go_ret
        exact ⟨rfl, hx2.1⟩
      | true =>
        obtain rfl : u2 = v := HV.out
        go_wp2_with fail
        refine (ZoneSame_any ⟨#[]⟩ ⟨#[]⟩ ss ys B B A' D' n' m' c' d' _ (h2.below hx2.1 hB) (hx2.up hB) (h4.below hx2.1 hB) (hx2.up hB) hn' hm' k2 k4 u2 (hid (by unfold sameZ; rw [decide_eq_true rfl, Bool.true_and]; exact HU2.out))).mono ?_
        rintro e w3 ⟨rfl, hb3⟩
        go_wp2_with fail
        go_ret
        exact ⟨rfl, (hx2.next hb3).1⟩
    · have qt : (t == t') = false := by rw [beq_eq_false_iff_ne]; exact ht
      obtain rfl : v = false := by rw [← hv.out]; unfold sameD; rw [decide_eq_false ht, Bool.and_false]; rfl
      clear hf ht
      go_enter Try.func40, Try.ntmps40
      go_wp2_with fail
      go_ret
      exact ⟨rfl, hx0.1⟩
  · have qf : (f == f') = false := by rw [beq_eq_false_iff_ne]; exact hf
    obtain rfl : v = false := by rw [← hv.out]; unfold sameD; rw [decide_eq_false hf, Bool.false_and]; rfl
    clear hf
    go_enter Try.func40, Try.ntmps40
    go_wp2_with fail
    go_ret
    exact ⟨rfl, hx0.1⟩

set_option maxHeartbeats 8000000 in
theorem iDiffSame_any (f t f' t' : Int) (rs ss xs ys : List RV) (B : Nat) (A A' D D' : Option Addr) (n c n' c' m d m' d' : Nat) (w : World) (h1 : Recs w B A n rs) (h2 : Recs w B A' n' ss) (h3 : Recs w B D m xs) (h4 : Recs w B D' m' ys) (hB : B ≤ w.heap.size) (hn : n ≤ 67108864) (hn' : n' ≤ 67108864) (hm : m ≤ 67108864) (hm' : m' ≤ 67108864) (k1 : Hid (∀ r ∈ rs, r.fine)) (k2 : Hid (∀ r ∈ ss, r.fine)) (k3 : Hid (∀ r ∈ xs, r.fine)) (k4 : Hid (∀ r ∈ ys, r.fine)) (v : Bool) (hv : Hid (sameD f t f' t' rs ss xs ys = v)) :
    Calls Try.prog 41 #[.agg #[.int .i64 f, .int .i64 t, .slice A n c, .slice A' n' c'], .agg #[.int .i64 f', .int .i64 t', .slice D m d, .slice D' m' d']] w fun e w' => e = .returned (.bool v) ∧ Below w.heap.size w w' := by
  have hx0 := (Held.box w [.int .i64 f, .int .i64 t, .slice A n c, .slice A' n' c'] 58).alloc (.cells [.int .i64 f', .int .i64 t', .slice D m d, .slice D' m' d'].toArray 58)
  have hy0 := (Held.box w [.int .i64 f, .int .i64 t, .slice A n c, .slice A' n' c'] 58).again (cs' := [.int .i64 f', .int .i64 t', .slice D m d, .slice D' m' d']) 58 (w.heap.size + 1) (by simp)
  by_cases hf : f = f'
  · have qf : (f == f') = true := by rw [beq_iff_eq]; exact hf
    by_cases ht : t = t'
    · have qt : (t == t') = true := by rw [beq_iff_eq]; exact ht
      obtain ⟨u1, hu1⟩ : ∃ u, sameL (rs.map RV.z) (xs.map RV.z) = u := ⟨_, rfl⟩
      obtain ⟨u2, hu2⟩ : ∃ u, sameL (ss.map RV.z) (ys.map RV.z) = u := ⟨_, rfl⟩
      have hvv := hv.out
      unfold sameD at hvv
      rw [decide_eq_true hf, decide_eq_true ht, hu1, hu2] at hvv
      have HV := hid hvv
      have HU1 := hid hu1
      have HU2 := hid hu2
      clear hf ht hvv hu1 hu2 hv
      go_enter Try.func41, Try.ntmps41
      go_wp2_with fail
      refine (EqualFunc_any rs xs B B A D n m c d _ (h1.below hx0.1 hB) (hx0.up hB) (h3.below hx0.1 hB) (hx0.up hB) hn hm k1 k3 u1 HU1).mono ?_
      rintro e w2 ⟨rfl, hb2⟩
      have hx2 := hx0.next hb2
      have hy2 := hy0.next hb2
      have s3 : w2.cell? ⟨w.heap.size, 3, none⟩ = some (.slice A' n' c') := hx2.2.2.2 3 _ rfl
      have t3 : w2.cell? ⟨w.heap.size + 1, 3, none⟩ = some (.slice D' m' d') := hy2.2.2.2 3 _ rfl
      clear hx0 hy0 hb2
      cases u1 with
      | false =>
        obtain rfl : v = false := by rw [← HV.out]; rfl
        go_wp2_with fail
        go_ret
        exact ⟨rfl, hx2.1⟩
      | true =>
        obtain rfl : u2 = v := HV.out
        go_wp2_with fail
        refine (EqualFunc_any ss ys B B A' D' n' m' c' d' _ (h2.below hx2.1 hB) (hx2.up hB) (h4.below hx2.1 hB) (hx2.up hB) hn' hm' k2 k4 u2 HU2).mono ?_
        rintro e w3 ⟨rfl, hb3⟩
        go_wp2_with fail
        go_ret
        exact ⟨rfl, (hx2.next hb3).1⟩
    · have qt : (t == t') = false := by rw [beq_eq_false_iff_ne]; exact ht
      obtain rfl : v = false := by rw [← hv.out]; unfold sameD; rw [decide_eq_false ht, Bool.and_false]; rfl
      clear hf ht
      go_enter Try.func41, Try.ntmps41
      go_wp2_with fail
      go_ret
      exact ⟨rfl, hx0.1⟩
  · have qf : (f == f') = false := by rw [beq_eq_false_iff_ne]; exact hf
    obtain rfl : v = false := by rw [← hv.out]; unfold sameD; rw [decide_eq_false hf, Bool.false_and]; rfl
    clear hf
    go_enter Try.func41, Try.ntmps41
    go_wp2_with fail
    go_ret
    exact ⟨rfl, hx0.1⟩

set_option maxHeartbeats 4000000 in
theorem eqDiff_law {w W : World} {f t : Int} {rs ss : List RV} {aA bA A A' D D' : Option Addr} {aL bL c c' d d' : Nat} (hra : Recs w w.heap.size aA aL rs) (hrb : Recs w w.heap.size bA bL ss) (h1 : Copy W rs A aL) (h2 : Copy W ss A' bL) (h3 : Copy W rs D aL) (h4 : Copy W ss D' bL) (hs : Hid (∀ r ∈ rs, r.small)) (hs' : Hid (∀ r ∈ ss, r.small)) (la : aL ≤ 1048576) (lb : bL ≤ 1048576) :
    Calls Try.prog 39 #[.agg #[.int .i64 f, .int .i64 t, .slice A aL c, .slice A' bL c'], .agg #[.int .i64 f, .int .i64 t, .slice D aL d, .slice D' bL d']] W fun e W' => e = .returned (.bool true) ∧ Below W.heap.size W W' := by
  obtain ⟨os, z1, r1⟩ := h1.ex
  obtain ⟨ps, z2, r2⟩ := h2.ex
  obtain ⟨xs, z3, r3⟩ := h3.ex
  obtain ⟨ys, z4, r4⟩ := h4.ex
  have hf := fine_of z1 r1 hra hs
  have hf' := fine_of z2 r2 hrb hs'
  have HZ := hid (z3.trans z1.symm)
  have HY := hid (z4.trans z2.symm)
  clear z1 z2 z3 z4
  have hx0 := (Held.box W [.int .i64 f, .int .i64 t, .slice A aL c, .slice A' bL c'] 58).alloc (.cells [.int .i64 f, .int .i64 t, .slice D aL d, .slice D' bL d'].toArray 58)
  have hy0 := (Held.box W [.int .i64 f, .int .i64 t, .slice A aL c, .slice A' bL c'] 58).again (cs' := [.int .i64 f, .int .i64 t, .slice D aL d, .slice D' bL d']) 58 (W.heap.size + 1) (by simp)
  go_enter Try.func39, Try.ntmps39
  go_wp2_with fail
  refine (eqRecordS_any os xs HZ.out W.heap.size W.heap.size A D aL c d _ (r1.below hx0.1 (Nat.le_refl _)) (r3.below hx0.1 (Nat.le_refl _)) (hx0.up (Nat.le_refl _)) (hx0.up (Nat.le_refl _)) la (fun k r h => (hf.out r (List.mem_of_getElem? h)).2.1)).mono ?_
  rintro e w2 ⟨rfl, hb2⟩
  have hx2 := hx0.next hb2
  have hy2 := hy0.next hb2
  have s3 : w2.cell? ⟨W.heap.size, 3, none⟩ = some (.slice A' bL c') := hx2.2.2.2 3 _ rfl
  have t3 : w2.cell? ⟨W.heap.size + 1, 3, none⟩ = some (.slice D' bL d') := hy2.2.2.2 3 _ rfl
  clear hx0 hy0 hb2
  go_wp2_with fail
  refine (eqRecordS_any ps ys HY.out W.heap.size W.heap.size A' D' bL c' d' _ (r2.below hx2.1 (Nat.le_refl _)) (r4.below hx2.1 (Nat.le_refl _)) (hx2.up (Nat.le_refl _)) (hx2.up (Nat.le_refl _)) lb (fun k r h => (hf'.out r (List.mem_of_getElem? h)).2.1)).mono ?_
  rintro e w3 ⟨rfl, hb3⟩
  go_wp2_with fail
  go_ret
  exact ⟨rfl, (hx2.next hb3).1⟩
end Go.Proofs.Ytbbldgpoegkokaa

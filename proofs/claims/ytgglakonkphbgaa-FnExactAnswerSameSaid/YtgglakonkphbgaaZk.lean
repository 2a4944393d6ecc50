/- Answers in memory: what a law is told of one that comes in, what the helpers of the laws return for them, and what AnswerSame of program and model returns. -/
import Derived.Test.YtgglakonkphbgaaZb
namespace Go.Proofs.Ytgglakonkphbgaa
open Go.ChangeShapes Go.WideShapes Go.ChangeAt Go.RowKit
set_option maxRecDepth 100000
set_option linter.unusedVariables false
set_option linter.unusedSimpArgs false

/-- An answer that came in. -/
def AnswerIn (w : World) (v : Value) : Prop :=
  ∃ (q : Int) (o : ByteArray) (A : Option Addr) (n c : Nat) (rs : List RV), v = .agg #[.int .i64 q, .string o, .slice A n c] ∧ o.size ≤ maxLen ∧ n ≤ c ∧ c ≤ maxLen ∧ Recs w w.heap.size A n rs ∧ ∀ r ∈ rs, r.fits

set_option maxHeartbeats 1000000 in
theorem open_answer {H : Type} {enc : TypeId × Value → H} {w : World} {r : Reach} {b0 : Nat} {v : Value} {d : DataW H} {p : List MemPlace} (hv : Value.okWide Try.prog w r b0 42 v) (h : DataW.Trod enc Try.prog w 0 (fun _ => true) true 42 v d p) : AnswerIn w v := by
  obtain ⟨cs, rfl, hsz⟩ := okWide_struct Try.underlying42 hv
  obtain ⟨fuel, hf⟩ := h
  obtain ⟨xs, n, _, hx, _, hlen, hg⟩ := DataW.trod_struct Try.underlying42 hf
  have h2 : Try.prog.cellsOf 42 = 3 := by kernel_rfl
  rw [h2] at hsz
  obtain ⟨l⟩ := cs
  obtain ⟨c0, c1, c2, rfl⟩ : ∃ c0 c1 c2, l = [c0, c1, c2] := by
    match l, hsz with
    | [a, b, c], _ => exact ⟨a, b, c, rfl⟩
  obtain ⟨y0, y1, y2, rfl⟩ : ∃ c0 c1 c2, xs = [c0, c1, c2] := by
    match xs, hlen with
    | [a, b, c], _ => exact ⟨a, b, c, rfl⟩
  have g0 := hg 0 _ rfl
  have g1 := hg 1 _ rfl
  have g2 := hg 2 _ rfl
  obtain ⟨q, e0, _, _⟩ := DataW.trod_int Try.underlying3 (g0.trans rfl)
  obtain ⟨s, e1, _, hs⟩ := DataW.trod_string Try.underlying9 (g1.trans rfl)
  have k3 : Try.prog.cellsOf 3 = 1 := by kernel_rfl
  have k9 : Try.prog.cellsOf 9 = 1 := by kernel_rfl
  have k24 : Try.prog.cellsOf 22 = 1 := by kernel_rfl
  simp [Value.cells, k3, k9] at e0 e1
  simp [Value.cells, k3, k9, k24] at g2
  obtain ⟨A, n', c, rs, e2, h3, h4, h5, h6⟩ := recs_cells g2
  subst e0 e1 e2
  exact ⟨_, _, _, _, _, _, rfl, hs, h3, h4, h5, h6⟩

theorem szAnswer_any (M : Nat) (hM : M ≤ 1048576) (q : Int) (aO : ByteArray) (rs : List RV) (B : Nat) (A : Option Addr) (n c : Nat) (w : World) (ho : aO.size ≤ maxLen) (hr : Recs w B A n rs) (hB : B ≤ w.heap.size) (hn : n ≤ maxLen) (hf : Hid (∀ r ∈ rs, r.fits)) :
    Calls Try.prog 23 #[.agg #[.int .i64 q, .string aO, .slice A n c], .int .i64 (M : Int)] w fun e w' => ∃ k : Int, e = .returned (.int .i64 k) ∧ Hid (k < 0 ∨ (0 ≤ k ∧ k ≤ M ∧ aO.size ≤ M ∧ n ≤ 1048576 ∧ ∀ r ∈ rs, r.small)) ∧ Below w.heap.size w w' := by
  unfold maxLen at ho
  have hbox : Below w.heap.size w (w.alloc (.cells #[.int .i64 q, .string aO, .slice A n c] 42)) := (Below.refl _ _).alloc (Nat.le_refl _) _
  go_enter Try.func23, Try.ntmps23
  by_cases h1 : (M : Int) - aO.size < 0
  · go_wp2
    go_ret
    exact ⟨_, rfl, hid (Or.inl (by omega)), hbox⟩
  · obtain ⟨m, hm⟩ : ∃ m : Nat, (M : Int) - aO.size = m := ⟨M - aO.size, by omega⟩
    have HM := hid hm
    clear hm
    go_wp2_with fail
    rw [HM.out]
    refine (szRecordS_m m (by have := HM.out; omega) rs B A n c _ (hr.below hbox hB) (by simp; omega) hn hf).mono ?_
    rintro e w2 ⟨k, rfl, hk, hb2⟩
    have hb3 := hbox.trans (hb2.mono (by simp))
    by_cases hneg : k < 0
    · go_wp2_with fail
      go_ret
      exact ⟨_, rfl, hid (Or.inl (by omega)), hb3⟩
    · go_wp2_with fail
      go_ret
      exact ⟨_, rfl, hid (by
        have h0 := HM.out
        rcases hk.out with h | ⟨h2, h3, h4, h5⟩
        · omega
        · exact Or.inr ⟨h2, by omega, by omega, h4, h5⟩), hb3⟩

theorem ret_toAnswer {a : Act} {W : World} {post : Ending → World → Prop} (b : Nat) {c0 c1 c2 : Value} (hp : a.tmps[2]?.getD undef = .pointer (some ⟨b, 0, none⟩)) (hd : a.defers = [])
    (h0 : W.cell? ⟨b, 0, none⟩ = some c0) (h1 : W.cell? ⟨b, 1, none⟩ = some c1) (h2 : W.cell? ⟨b, 2, none⟩ = some c2) (h : post (.returned (.agg #[c0, c1, c2])) W) : bodyPost Try.prog Try.f25 post Exit.ret a W :=
  bodyPost_ret (by simp [results, Try.results25, go_sem, hp, h0, h1, h2]) hd h

set_option maxHeartbeats 4000000 in
theorem toAnswer_own (q : Int) (aO : ByteArray) (rs : List RV) (B : Nat) (A : Option Addr) (n c : Nat) (w : World) (hr : Recs w B A n rs) (hB : B ≤ w.heap.size) (hn : n ≤ 1048576) (hf : Hid (∀ r ∈ rs, r.L ≤ 1048576)) :
    Calls Try.prog 25 #[.agg #[.int .i64 q, .string aO, .slice A n c]] w fun e w' => ∃ os : List RV, e = .returned (.agg #[.int .i64 q, .string aO, .slice (some ⟨w.heap.size + 3, 0, none⟩) n n]) ∧ os.map RV.z = rs.map RV.z ∧ Blk w' (w.heap.size + 3) 54 (flat os) ∧ (∀ x ∈ os, w'.ownsRow (w.heap.size + 4) 3 1 (.slice x.A x.L x.C) x.L (x.Z.map iv)) ∧ Below w.heap.size w w' := by
  go_enter Try.func25, Try.ntmps25
  go_wp2_with fail
  refine (toRecordS_own rs B A n c _ (hr.below (by go_grown) hB) (by simp; omega) hn hf).mono ?_
  rintro e w3 ⟨os, rfl, hz, hblk, hrow, hb3⟩
  have hblk3 : Blk w3 (w.heap.size + 3) 54 (flat os) := by simpa using hblk
  have hrow3 : ∀ x ∈ os, w3.ownsRow (w.heap.size + 4) 3 1 (.slice x.A x.L x.C) x.L (x.Z.map iv) := by simpa using hrow
  clear hblk hrow
  obtain ⟨hc3, hf3⟩ := bcell hb3
  have hbw : Below w.heap.size w w3 := Below.trans (by go_grown) (hb3.mono (by simp; omega))
  have r0 : w3.cell? ⟨w.heap.size + 1, 0, none⟩ = some (.int .i64 0) := (hc3 _ _ (by simp)).trans (by go_simp)
  have r1 : w3.cell? ⟨w.heap.size + 1, 1, none⟩ = some (.string ⟨#[]⟩) := (hc3 _ _ (by simp)).trans (by go_simp)
  have r2 : w3.cell? ⟨w.heap.size + 1, 2, none⟩ = some (.slice none 0 0) := (hc3 _ _ (by simp)).trans (by go_simp)
  have HROW := hid hrow3
  clear hrow3
  go_wp2
  have hrow3 := HROW.out
  refine ret_toAnswer (w.heap.size + 1) rfl rfl (c0 := .int .i64 q) (c1 := .string aO) (c2 := .slice (some ⟨w.heap.size + 3, 0, none⟩) n n) (by go_simp) (by go_simp) (by go_simp) ⟨os, rfl, hz, ?_, ?_, ?_⟩
  · exact (((hblk3.far (p := ⟨w.heap.size + 2, 2, none⟩) (by simp) _).far (p := ⟨w.heap.size + 1, 0, none⟩) (by simp) _).far (p := ⟨w.heap.size + 1, 1, none⟩) (by simp) _).far (p := ⟨w.heap.size + 1, 2, none⟩) (by simp) _
  · intro x hx
    exact ownsRow_setCell_below (ownsRow_setCell_below (ownsRow_setCell_below (ownsRow_setCell_below (hrow3 x hx) (a := ⟨w.heap.size + 2, 2, none⟩) (by simp) _) (a := ⟨w.heap.size + 1, 0, none⟩) (by simp) _) (a := ⟨w.heap.size + 1, 1, none⟩) (by simp) _) (a := ⟨w.heap.size + 1, 2, none⟩) (by simp) _
  · clear hb3 hc3 hf3
    go_grown

theorem toAnswer_law {w W : World} {b : Nat} {cs : List Value} {q : Int} {aO : ByteArray} {rs : List RV} {aA : Option Addr} {aL aC : Nat} (hra : Recs w w.heap.size aA aL rs) (hh : Held w W b cs) (hs : Hid (∀ r ∈ rs, r.small)) (la : aL ≤ 1048576) :
    Calls Try.prog 25 #[.agg #[.int .i64 q, .string aO, .slice aA aL aC]] W fun e W' => ∃ A, e = .returned (.agg #[.int .i64 q, .string aO, .slice A aL aL]) ∧ Copy W' rs A aL ∧ Below W.heap.size W W' :=
  (toAnswer_own q aO rs w.heap.size aA aL aC W (hra.below hh.1 (Nat.le_refl _)) (hh.up (Nat.le_refl _)) la (small_L hs)).mono fun e W' ⟨os, h1, h2, h3, h4, h5⟩ =>
    ⟨_, h1, ⟨⟨os, h2, recs_at rfl h3 (by rw [zlen_of h2]; exact hra.2.1) h4⟩⟩, h5⟩

set_option maxHeartbeats 1000000 in
theorem eqAnswer_law {w W : World} {q : Int} {aO : ByteArray} {rs : List RV} {aA A A' : Option Addr} {aL c c' : Nat} (hra : Recs w w.heap.size aA aL rs) (h1 : Copy W rs A aL) (h2 : Copy W rs A' aL) (hs : Hid (∀ r ∈ rs, r.small)) (la : aL ≤ 1048576) :
    Calls Try.prog 27 #[.agg #[.int .i64 q, .string aO, .slice A aL c], .agg #[.int .i64 q, .string aO, .slice A' aL c']] W fun e W' => e = .returned (.bool true) ∧ Below W.heap.size W W' := by
  obtain ⟨os, z1, r1⟩ := h1.ex
  obtain ⟨xs, z2, r2⟩ := h2.ex
  have hf := fine_of z1 r1 hra hs
  have hz : xs.map RV.z = os.map RV.z := z2.trans z1.symm
  have HZ := hid hz
  clear z1 z2 hz
  have hb2 : Below W.heap.size W ((W.alloc (.cells #[.int .i64 q, .string aO, .slice A aL c] 46)).alloc (.cells #[.int .i64 q, .string aO, .slice A' aL c'] 46)) := ((Below.refl _ _).alloc (Nat.le_refl _) _).alloc (by simp) _
  go_enter Try.func27, Try.ntmps27
  go_wp2_with fail
  refine (eqRecordS_any os xs HZ.out W.heap.size W.heap.size A A' aL c c' _ (r1.below hb2 (Nat.le_refl _)) (r2.below hb2 (Nat.le_refl _)) (by simp; omega) (by simp; omega) la (fun k r h => (hf.out r (List.mem_of_getElem? h)).2.1)).mono ?_
  rintro e w9 ⟨rfl, hb9⟩
  go_wp2_with fail
  go_ret
  exact ⟨rfl, hb2.trans (hb9.mono (by simp; omega))⟩


theorem Held.cells3 {w W : World} {b : Nat} {c0 c1 c2 : Value} (h : Held w W b [c0, c1, c2]) : W.cell? ⟨b, 0, none⟩ = some c0 ∧ W.cell? ⟨b, 1, none⟩ = some c1 ∧ W.cell? ⟨b, 2, none⟩ = some c2 := ⟨h.2.2.2 0 _ rfl, h.2.2.2 1 _ rfl, h.2.2.2 2 _ rfl⟩
/-- Are two answers equal? -/
def sameA (f f' : Int) (t t' : ByteArray) (rs xs : List RV) : Bool := decide (f = f') && (decide (lst t = lst t') && sameL (rs.map RV.z) (xs.map RV.z))
theorem sameA_copy {f f' : Int} {t t' : ByteArray} {rs ss os xs : List RV} (h1 : os.map RV.z = rs.map RV.z) (h2 : xs.map RV.z = ss.map RV.z) : sameA f f' t t' os xs = sameA f f' t t' rs ss := by unfold sameA; rw [h1, h2]

set_option maxHeartbeats 8000000 in
theorem AnswerSame_any (f f' : Int) (t t' : ByteArray) (rs xs : List RV) (B B' : Nat) (A D : Option Addr) (n c m d : Nat) (w : World) (h1 : Recs w B A n rs) (h3 : Recs w B' D m xs) (hB : B ≤ w.heap.size) (hB' : B' ≤ w.heap.size) (hn : n ≤ 67108864) (hm : m ≤ 67108864) (k1 : Hid (∀ r ∈ rs, r.fine)) (k3 : Hid (∀ r ∈ xs, r.fine)) (v : Bool) (hv : Hid (sameA f f' t t' rs xs = v)) :
    Calls Try.prog 24 #[.agg #[.int .i64 f, .string t, .slice A n c], .agg #[.int .i64 f', .string t', .slice D m d]] w fun e w' => e = .returned (.bool v) ∧ Below w.heap.size w w' := by
  have hx0 := (Held.box w [.int .i64 f, .string t, .slice A n c] 46).alloc (.cells [.int .i64 f', .string t', .slice D m d].toArray 46)
  have hl1 := hid h1.2.1
  have hl2 := hid h3.2.1
  by_cases hf : f = f'
  · have qf : (f == f') = true := by rw [beq_iff_eq]; exact hf
    have qf2 : (f != f') = false := by simp [hf]
    by_cases ht : lst t = lst t'
    · have qt : (t.toList == t'.toList) = true := by rw [eq_toList]; simpa using ht
      have hvv := hv.out
      unfold sameA at hvv
      rw [decide_eq_true hf, decide_eq_true ht] at hvv
      have HV : Hid (sameL (rs.map RV.z) (xs.map RV.z) = v) := hid hvv
      clear hf ht hvv hv hx0
      by_cases hnn : n = m
      · subst hnn
        have hx0 := (Held.box w [.int .i64 f, .string t, .slice A n c] 46).alloc (.cells #[.int .i64 f', .string t', .slice D n d] 46)
        have hy0 := (Held.box w [.int .i64 f, .string t, .slice A n c] 46).again (cs' := [.int .i64 f', .string t', .slice D n d]) 46 (w.heap.size + 1) (by simp)
        go_enter Try.func24, Try.ntmps24
        go_wp2_with fail
        go_loopw [5] (fun i wr => ∃ k : Nat, k ≤ n ∧ i = .int .i64 k ∧ Hid (sameL ((rs.map RV.z).drop k) ((xs.map RV.z).drop k) = v) ∧ Held w wr w.heap.size [.int .i64 f, .string t, .slice A n c] ∧ Held w wr (w.heap.size + 1) [.int .i64 f', .string t', .slice D n d]) (fun i _ => n - (intOf i).toNat)
        case atStart => exact ⟨0, Nat.zero_le _, rfl, hid (by simpa using HV.out), hx0, hy0⟩
        case round =>
          obtain ⟨k, hk, rfl, hv9, hx, hy⟩ := hrel
          clear hx0 hy0
          obtain ⟨s0, s1, s2⟩ := hx.cells3
          obtain ⟨t0, t1, t2⟩ := hy.cells3
          have hb := hx.1
          have hbs := hb.size
          by_cases hlt : k < n
          · obtain ⟨ad, r, p, rfl, hp, hab, hrk, hrr, c0, c1, c2, c3, c4, c5⟩ := (h1.below hb hB).at_ hlt
            obtain ⟨ad', x, q, rfl, hq', hab', hxk, hxr, d0, d1, d2, d3, d4, d5⟩ := (h3.below hb hB').at_ hlt
            obtain ⟨y, hyv⟩ : ∃ y, Z.recSame r.z x.z = y := ⟨_, rfl⟩
            have hst := sameL_drop (zat hrk) (zat hxk)
            rw [hv9.out, hyv] at hst
            have HST := hid hst
            have HY := hid hyv
            have hlr := (k1.out r (List.mem_of_getElem? hrk)).2.1
            have hlx := (k3.out x (List.mem_of_getElem? hxk)).2.1
            clear hst hyv hrk hxk hv9
            obtain ⟨rN, rT, rK, rA, rL, rC, rG, rX, rZ⟩ := r
            obtain ⟨xN, xT, xK, xA, xL, xC, xG, xX, xZ⟩ := x
            dsimp only at hrr hxr hlr hlx c0 c1 c2 c3 c4 c5 d0 d1 d2 d3 d4 d5
            have p1 : 0 ≤ (k : Int) := by omega
            have p2 : (k : Int) < n := by omega
            go_wp2_with fail
            go_region_with (first | (go_at_call 46; refine (RecordSame_eq rN rT rK rA rL rC rG rX rZ B xN xT xK xA xL xC xG xX xZ B' _ hrr.drew (show B ≤ wr.heap.size by omega) hlr hxr.drew (show B' ≤ wr.heap.size by omega) hlx y HY.out).mono ?_; rintro e w9 ⟨rfl, hb9⟩))
            all_goals (have hx9 := (hx.drewN 1).next hb9)
            all_goals (have hy9 := (hy.drewN 1).next hb9)
            all_goals clear hb9
            all_goals (cases y with
              | false =>
                obtain rfl : v = false := HST.out
                go_wp2_with fail
                go_ret
                exact ⟨rfl, hx9.1⟩
              | true =>
                have hv10 : Hid (sameL ((rs.map RV.z).drop (k + 1)) ((xs.map RV.z).drop (k + 1)) = v) := hid (by rw [HST.out, Bool.true_and])
                go_wp2_with fail
                exact ⟨⟨k + 1, by omega, by go_num, hv10, hx9, hy9⟩, by simp [intOf]; omega⟩)
          · obtain rfl : k = n := by omega
            obtain rfl : v = true := by rw [← hv9.out]; exact sameL_end (by simpa using hl1.out) (by simpa using hl2.out)
            go_wp2_with fail
            go_ret
            exact ⟨rfl, hb⟩
      · obtain rfl : v = false := by rw [← HV.out]; exact sameL_ne (by simpa [hl1.out, hl2.out] using hnn)
        go_enter Try.func24, Try.ntmps24
        go_wp2_with fail
        go_ret
        exact ⟨rfl, ((Below.refl _ _).alloc (Nat.le_refl _) _).alloc (by simp) _⟩
    · have qt : (t.toList == t'.toList) = false := by rw [eq_toList]; simpa using ht
      obtain rfl : v = false := by rw [← hv.out]; unfold sameA; rw [decide_eq_false ht, Bool.false_and, Bool.and_false]
      clear hf ht
      go_enter Try.func24, Try.ntmps24
      go_wp2_with fail
      go_ret
      exact ⟨rfl, hx0.1⟩
  · have qf : (f == f') = false := by rw [beq_eq_false_iff_ne]; exact hf
    have qf2 : (f != f') = true := by simp [hf]
    obtain rfl : v = false := by rw [← hv.out]; unfold sameA; rw [decide_eq_false hf, Bool.false_and]
    clear hf
    go_enter Try.func24, Try.ntmps24
    go_wp2_with fail
    go_ret
    exact ⟨rfl, hx0.1⟩

set_option maxHeartbeats 8000000 in
theorem iAnswerSame_any (f f' : Int) (t t' : ByteArray) (rs xs : List RV) (B B' : Nat) (A D : Option Addr) (n c m d : Nat) (w : World) (h1 : Recs w B A n rs) (h3 : Recs w B' D m xs) (hB : B ≤ w.heap.size) (hB' : B' ≤ w.heap.size) (hn : n ≤ 67108864) (hm : m ≤ 67108864) (k1 : Hid (∀ r ∈ rs, r.fine)) (k3 : Hid (∀ r ∈ xs, r.fine)) (v : Bool) (hv : Hid (sameA f f' t t' rs xs = v)) :
    Calls Try.prog 26 #[.agg #[.int .i64 f, .string t, .slice A n c], .agg #[.int .i64 f', .string t', .slice D m d]] w fun e w' => e = .returned (.bool v) ∧ Below w.heap.size w w' := by
  have hx0 := (Held.box w [.int .i64 f, .string t, .slice A n c] 46).alloc (.cells [.int .i64 f', .string t', .slice D m d].toArray 46)
  by_cases hf : f = f'
  · have qf : (f == f') = true := by rw [beq_iff_eq]; exact hf
    have qf2 : (f != f') = false := by simp [hf]
    by_cases ht : lst t = lst t'
    · have qt : (t.toList == t'.toList) = true := by rw [eq_toList]; simpa using ht
      have hvv := hv.out
      unfold sameA at hvv
      rw [decide_eq_true hf, decide_eq_true ht] at hvv
      have HV : Hid (sameL (rs.map RV.z) (xs.map RV.z) = v) := hid hvv
      clear hf ht hvv hv
      go_enter Try.func26, Try.ntmps26
      go_wp2_with fail
      refine (EqualFunc_any rs xs B B' A D n m c d _ (h1.below hx0.1 hB) (hx0.up hB) (h3.below hx0.1 hB') (hx0.up hB') hn hm k1 k3 v HV).mono ?_
      rintro e w2 ⟨rfl, hb2⟩
      go_wp2_with fail
      go_ret
      exact ⟨rfl, (hx0.next hb2).1⟩
    · have qt : (t.toList == t'.toList) = false := by rw [eq_toList]; simpa using ht
      obtain rfl : v = false := by rw [← hv.out]; unfold sameA; rw [decide_eq_false ht, Bool.false_and, Bool.and_false]
      clear hf ht
      go_enter Try.func26, Try.ntmps26
      go_wp2_with fail
      go_ret
      exact ⟨rfl, hx0.1⟩
  · have qf : (f == f') = false := by rw [beq_eq_false_iff_ne]; exact hf
    have qf2 : (f != f') = true := by simp [hf]
    obtain rfl : v = false := by rw [← hv.out]; unfold sameA; rw [decide_eq_false hf, Bool.false_and]
    clear hf
    go_enter Try.func26, Try.ntmps26
    go_wp2_with fail
    go_ret
    exact ⟨rfl, hx0.1⟩
theorem AnswerSame_law {w W : World} {f f' : Int} {t t' : ByteArray} {rs ss : List RV} {aA bA A A' : Option Addr} {aL bL c c' : Nat} (hra : Recs w w.heap.size aA aL rs) (hrb : Recs w w.heap.size bA bL ss) (h1 : Copy W rs A aL) (h2 : Copy W ss A' bL) (hs : Hid (∀ r ∈ rs, r.small)) (hs' : Hid (∀ r ∈ ss, r.small)) (la : aL ≤ 1048576) (lb : bL ≤ 1048576) (v : Bool) (hv : Hid (sameA f f' t t' rs ss = v)) :
    Calls Try.prog 24 #[.agg #[.int .i64 f, .string t, .slice A aL c], .agg #[.int .i64 f', .string t', .slice A' bL c']] W fun e W' => e = .returned (.bool v) ∧ Below W.heap.size W W' := by
  obtain ⟨os, z1, r1⟩ := h1.ex
  obtain ⟨xs, z2, r2⟩ := h2.ex
  exact AnswerSame_any f f' t t' os xs _ _ A A' aL c bL c' W r1 r2 (Nat.le_refl _) (Nat.le_refl _) (by omega) (by omega) (fine_of z1 r1 hra hs) (fine_of z2 r2 hrb hs') v (hid (by rw [sameA_copy z1 z2]; exact hv.out))
theorem iAnswerSame_law {w W : World} {f f' : Int} {t t' : ByteArray} {rs ss : List RV} {aA bA A A' : Option Addr} {aL bL c c' : Nat} (hra : Recs w w.heap.size aA aL rs) (hrb : Recs w w.heap.size bA bL ss) (h1 : Copy W rs A aL) (h2 : Copy W ss A' bL) (hs : Hid (∀ r ∈ rs, r.small)) (hs' : Hid (∀ r ∈ ss, r.small)) (la : aL ≤ 1048576) (lb : bL ≤ 1048576) (v : Bool) (hv : Hid (sameA f f' t t' rs ss = v)) :
    Calls Try.prog 26 #[.agg #[.int .i64 f, .string t, .slice A aL c], .agg #[.int .i64 f', .string t', .slice A' bL c']] W fun e W' => e = .returned (.bool v) ∧ Below W.heap.size W W' := by
  obtain ⟨os, z1, r1⟩ := h1.ex
  obtain ⟨xs, z2, r2⟩ := h2.ex
  exact iAnswerSame_any f f' t t' os xs _ _ A A' aL c bL c' W r1 r2 (Nat.le_refl _) (Nat.le_refl _) (by omega) (by omega) (fine_of z1 r1 hra hs) (fine_of z2 r2 hrb hs') v (hid (by rw [sameA_copy z1 z2]; exact hv.out))
theorem cells6a {w W : World} {b b' : Nat} {c0 c1 c2 d0 d1 d2 : Value} (h : Held w W b [c0, c1, c2]) (k : Held w W b' [d0, d1, d2]) :
    Held w W b [c0, c1, c2] ∧ Held w W b' [d0, d1, d2] ∧ W.cell? ⟨b, 0, none⟩ = some c0 ∧ W.cell? ⟨b, 1, none⟩ = some c1 ∧ W.cell? ⟨b, 2, none⟩ = some c2 ∧ W.cell? ⟨b', 0, none⟩ = some d0 ∧ W.cell? ⟨b', 1, none⟩ = some d1 ∧ W.cell? ⟨b', 2, none⟩ = some d2 :=
  ⟨h, k, h.2.2.2 0 _ rfl, h.2.2.2 1 _ rfl, h.2.2.2 2 _ rfl, k.2.2.2 0 _ rfl, k.2.2.2 1 _ rfl, k.2.2.2 2 _ rfl⟩
theorem cells6b {w W : World} {b b' l m : Nat} {c0 c1 c2 d0 d1 d2 : Value} {cs ds : List Value} {P Q : Prop} (h : Held w W b [c0, c1, c2]) (k : Held w W b' [d0, d1, d2]) (hl : Held w W l cs) (hm : Held w W m ds) (hp : P) (hq : Q) :
    Held w W b [c0, c1, c2] ∧ Held w W b' [d0, d1, d2] ∧ Held w W l cs ∧ Held w W m ds ∧ P ∧ Q ∧ W.cell? ⟨b, 0, none⟩ = some c0 ∧ W.cell? ⟨b, 1, none⟩ = some c1 ∧ W.cell? ⟨b, 2, none⟩ = some c2 ∧ W.cell? ⟨b', 0, none⟩ = some d0 ∧ W.cell? ⟨b', 1, none⟩ = some d1 ∧ W.cell? ⟨b', 2, none⟩ = some d2 :=
  ⟨h, k, hl, hm, hp, hq, h.2.2.2 0 _ rfl, h.2.2.2 1 _ rfl, h.2.2.2 2 _ rfl, k.2.2.2 0 _ rfl, k.2.2.2 1 _ rfl, k.2.2.2 2 _ rfl⟩
end Go.Proofs.Ytgglakonkphbgaa

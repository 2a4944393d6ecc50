/- What the looks for faults of zones return: the program's. -/
import Derived.Test.YtgglakonkphbgaaZd
namespace Go.Proofs.Ytgglakonkphbgaa
open Go.RowKit
set_option maxRecDepth 100000
set_option linter.unusedVariables false
set_option linter.unusedSimpArgs false

theorem startPlace1_any (r : RV) (x : Bool) (hx : Hid ((r.K == 6) = x)) (w : World) :
    Calls Try.prog 91 #[.agg #[.string r.N, .int .i64 r.T, .int .i64 r.K, .slice r.A r.L r.C, .string r.G, .string r.X]] w fun e w' => e = .returned (.bool x) ∧ Below w.heap.size w w' := by
  go_enter Try.func91, Try.ntmps91
  go_wp2_with fail
  go_ret
  exact ⟨ret_bool hx.out, (Below.refl _ _).alloc (Nat.le_refl _) _⟩

set_option maxHeartbeats 4000000 in
theorem startPlace_any (rs : List RV) (B : Nat) (A : Option Addr) (n c : Nat) (w : World) (hr : Recs w B A n rs) (hB : B ≤ w.heap.size) (hn : n ≤ 67108864) :
    Calls Try.prog 74 #[.slice A n c] w fun e w' => ∃ m : Int, e = .returned (.int .i64 m) ∧ Hid (Z.StartAt (rs.map RV.z) m) ∧ Below w.heap.size w w' := by
  have hlen := hid hr.2.1
  have hix : Calls Try.prog 80 #[.slice A n c, .func (.func 91) #[] #[]] w fun e w' => ∃ m : Int, e = .returned (.int .i64 m) ∧ Hid (Z.StartAt (rs.map RV.z) m) ∧ Below w.heap.size w w' := by
    go_enter Try.func80, Try.ntmps80
    go_wp2_with fail
    go_loopw [8] (fun v wr => ∃ k : Nat, k ≤ n ∧ v = .int .i64 k ∧ Hid (Z.seenAt (rs.map RV.z) k = false) ∧ Below w.heap.size w wr) (fun v _ => n - (intOf v).toNat)
    case atStart => exact ⟨0, Nat.zero_le _, rfl, hid rfl, Below.refl _ _⟩
    case round =>
      obtain ⟨k, hk, rfl, hinv, hb⟩ := hrel
      have hbs := hb.size
      by_cases hlt : k < n
      · obtain ⟨ad, r, p, rfl, hp, hab, hrk, hrr, c0, c1, c2, c3, c4, c5⟩ := (hr.below hb hB).at_ hlt
        have HZK := hid (zat hrk)
        have p1 : 0 ≤ (k : Int) := by omega
        have p2 : (k : Int) < n := by omega
        clear hrk hrr
        obtain ⟨y, hy⟩ : ∃ y, (r.K == 6) = y := ⟨_, rfl⟩
        have HY := hid hy
        clear hy
        go_wp2_with fail
        refine (startPlace1_any r y HY _).mono ?_
        rintro e w2 ⟨rfl, hb2⟩
        have hb3 := hb.trans (hb2.mono hbs)
        cases y with
        | true =>
          go_wp2_with fail
          go_ret
          exact ⟨_, rfl, hid (Or.inr ⟨k, rfl, _, HZK.out, by have := HY.out; show r.K = 6; simpa using this, hinv.out⟩), hb3⟩
        | false =>
          have hnx : Hid (Z.seenAt (rs.map RV.z) (k + 1) = false) := hid (by
            rw [Z.seenAt_succ HZK.out, hinv.out]
            show (false || decide (r.K = 6)) = false
            have := HY.out
            simp at this
            simp [this])
          go_wp2_with fail
          exact ⟨⟨k + 1, by omega, by go_num, hnx, hb3⟩, by simp [intOf]; omega⟩
      · obtain rfl : k = n := by omega
        go_wp2_with fail
        go_ret
        exact ⟨_, rfl, hid (Or.inl ⟨by decide, by rw [List.length_map, hlen.out]; exact hinv.out⟩), hb⟩
  go_enter Try.func74, Try.ntmps74
  go_wp2_with fail
  refine hix.mono ?_
  rintro e w2 ⟨m, rfl, hm, hb2⟩
  go_wp2_with fail
  go_ret
  exact ⟨m, rfl, hm, hb2⟩

theorem flat_take (rs : List RV) (k : Nat) : flat (rs.take k) = (flat rs).take (k * 6) := by
  induction rs generalizing k with
  | nil => simp [flat]
  | cons r rs ih =>
    cases k with
    | zero => simp [flat]
    | succ k =>
      rw [List.take_succ_cons, flat_cons, flat_cons, ih]
      have e : (k + 1) * 6 = r.cells.length + k * 6 := by show _ = 6 + _; omega
      rw [e, List.take_length_add_append]
theorem Recs.take {w : World} {B n : Nat} {A : Option Addr} {rs : List RV} (h : Recs w B A n rs) {k : Nat} (hk : k ≤ n) : Recs w B A k (rs.take k) := by
  obtain ⟨h1, h2, h3⟩ := h
  refine ⟨⟨by rw [flat_length, List.length_take]; omega, fun hn => ?_⟩, by rw [List.length_take]; omega, fun r hr => h3 r (List.mem_of_mem_take hr)⟩
  obtain ⟨ad, e, hb, hc⟩ := h1.2 (by omega)
  refine ⟨ad, e, hb, fun j u hu => hc j u ?_⟩
  rw [flat_take] at hu
  rw [List.getElem?_take] at hu
  split at hu
  · exact hu
  · cases hu
theorem iIsBelow_eqB (s t : ByteArray) (v : Bool) (hv : Hid (Z.below (lst s) (lst t) = v)) (hs : s.size ≤ 67108864) (ht : t.size ≤ 67108864) (w : World) :
    Calls Try.prog 57 #[.string s, .string t] w fun e w' => e = .returned (.bool v) ∧ Below w.heap.size w w' := by
  rw [← hv.out]
  exact iIsBelow_any s t (by unfold maxLen; omega) (by unfold maxLen; omega) w

set_option maxHeartbeats 8000000 in
theorem faultAlone_any (o : ByteArray) (rs : List RV) (B : Nat) (A : Option Addr) (n c k : Nat) (w : World) (hr : Recs w B A n rs) (hB : B ≤ w.heap.size) (hn : n ≤ 67108864) (hf : Hid (∀ r ∈ rs, r.fine)) (ho : o.size ≤ 67108864) (hvo : Z.valid (lst o) = true) (hnc : n ≤ c) (hk : k < n) (hpv : Hid (∀ q, Z.prevAt (rs.map RV.z) k = some q → Z.recValid q = true)) (x : Z.Rec) (hx : Hid ((rs.map RV.z)[k]? = some x)) (u : Nat) (hu : Hid (Z.aloneF (lst o) (rs.map RV.z) k x = u)) :
    Calls Try.prog 73 #[.agg #[.string o, .slice A n c], .int .i64 (k : Int)] w fun e w' => e = .returned (.int .i64 (u : Int)) ∧ Below w.heap.size w w' := by
  obtain ⟨ad, r, p, rfl, hp, hab, hrk, hrr, c0, c1, c2, c3, c4, c5⟩ := hr.at_ hk
  obtain rfl : r.z = x := Option.some.inj ((zat hrk).symm.trans hx.out)
  obtain ⟨f1, f2, f3, f4⟩ := hf.out r (List.mem_of_getElem? hrk)
  have HRK := hid hrk
  have HVO := hid hvo
  clear hrk hvo
  have hpb : p.block < w.heap.size := by omega
  obtain ⟨rN, rT, rK, rA, rL, rC, rG, rX, rZ⟩ := r
  dsimp only at hrr f1 f2 f3 f4 c0 c1 c2 c3 c4 c5
  have q1 : 0 ≤ (k : Int) := by omega
  have q2 : (k : Int) < n := by omega
  have q3 : (k : Int) ≤ c := by omega
  have q4 : k ≤ c := by omega
  have hb2 : Below w.heap.size w ((w.alloc (.cells #[.string o, .slice (some ad) n c] 30)).alloc (.cells #[.string rN, .int .i64 rT, .int .i64 rK, .slice rA rL rC, .string rG, .string rX] 54)) := ((Below.refl _ _).alloc (Nat.le_refl _) _).alloc (by simp) _
  by_cases h60 : 60 ≤ k
  · obtain rfl : u = 2 := by rw [← hu.out]; exact Z.alone_ne (Z.one_2 (Or.inl h60)) (by decide)
    go_enter Try.func73, Try.ntmps73
    go_wp2_with fail
    go_ret
    exact ⟨rfl, hb2⟩
  have hlt60 : (k : Int) < 60 := by omega
  obtain ⟨vr, hvr⟩ : ∃ vr, Z.recValid (⟨lst rN, rT, rK, rZ, lst rG, lst rX⟩ : Z.Rec) = vr := ⟨_, rfl⟩
  have HVR := hid hvr
  cases vr with
  | false =>
    obtain rfl : u = 2 := by rw [← hu.out]; exact Z.alone_ne (Z.one_2 (Or.inr hvr)) (by decide)
    clear hvr
    go_enter Try.func73, Try.ntmps73
    go_wp2_with fail
    refine (iRecordValid_eq rN rT rK rA rL rC rG rX rZ B _ (hrr.below hb2 hB) (by simp; omega) f2 f1 f3 f4 false HVR.out).mono ?_
    rintro e w3 ⟨rfl, hb3⟩
    go_wp2_with fail
    go_ret
    exact ⟨rfl, hb2.trans (hb3.mono (by simp; omega))⟩
  | true =>
    have hvn : Z.valid (lst rN) = true := (Z.recValid_iff.1 hvr).1
    obtain ⟨vb, hvb⟩ : ∃ vb, Z.below (lst rN) (lst o) = vb := ⟨_, rfl⟩
    have HVN := hid hvn
    have HVB := hid hvb
    clear hvr hvn hvb
    go_enter Try.func73, Try.ntmps73
    go_wp2_with fail
    refine (iRecordValid_eq rN rT rK rA rL rC rG rX rZ B _ (hrr.below hb2 hB) (by simp; omega) f2 f1 f3 f4 true HVR.out).mono ?_
    rintro e w3 ⟨rfl, hb3⟩
    have hx3 : Held w w3 w.heap.size [.string o, .slice (some ad) n c] := ((Held.box w [.string o, .slice (some ad) n c] 30).alloc _).next hb3
    have hy3 : Held w w3 (w.heap.size + 1) [.string rN, .int .i64 rT, .int .i64 rK, .slice rA rL rC, .string rG, .string rX] := ((Held.box w [.string o, .slice (some ad) n c] 30).again 54 (w.heap.size + 1) (by simp)).next hb3
    clear hb3 hb2
    obtain ⟨s0, s1⟩ := hx3.cells2
    obtain ⟨t0, t1, t2, t3, t4, t5⟩ := hy3.cells6
    go_wp2_with fail
    refine (iIsBelow_eqB rN o vb HVB f1 ho _).mono ?_
    rintro e w4 ⟨rfl, hb4⟩
    have hx4 := hx3.next hb4
    have hy4 := hy3.next hb4
    clear s0 s1 t0 t1 t2 t3 t4 t5 hx3 hy3 hb4
    obtain ⟨s0, s1⟩ := hx4.cells2
    obtain ⟨t0, t1, t2, t3, t4, t5⟩ := hy4.cells6
    cases vb with
    | false =>
      obtain rfl : u = 3 := by rw [← hu.out]; exact Z.alone_ne (Z.one_3 (by omega) HVR.out HVB.out) (by decide)
      go_wp2_with fail
      go_ret
      exact ⟨rfl, hx4.1⟩
    | true =>
      have hpre : Hid ((∀ q, Z.prevAt (rs.map RV.z) k = some q → Z.ltRec q ⟨lst rN, rT, rK, rZ, lst rG, lst rX⟩ = true) → (rK = 6 → lst rN ≠ lst o → u = 5) ∧ (¬ rK = 6 → u = 0) ∧ (rK = 6 → lst rN = lst o → u = if Z.seenAt (rs.map RV.z) k = true then 5 else 0)) := hid (fun h => by
        rw [← hu.out]
        refine ⟨fun h5 h6 => Z.alone_ne (Z.one_5 (by omega) HVR.out HVB.out h h5 h6) (by decide), fun h5 => Z.alone_0 (Z.one_0 (by omega) HVR.out HVB.out h (fun h6 => absurd h6 h5)) (fun h6 => h5 h6.1), fun h5 h6 => ?_⟩
        have h0 : Z.one (lst o) (Z.prevAt (rs.map RV.z) k) k ⟨lst rN, rT, rK, rZ, lst rG, lst rX⟩ = 0 := Z.one_0 (by omega) HVR.out HVB.out h (fun _ => h6)
        by_cases hs : Z.seenAt (rs.map RV.z) k = true
        · rw [if_pos hs]
          exact Z.alone_5 h0 h5 hs
        · rw [if_neg hs]
          exact Z.alone_0 h0 (fun h7 => hs h7.2))
      by_cases hk0 : k = 0
      · subst hk0
        clear q3 q4
        have hu5 := hpre.out (fun q hq => by cases hq)
        go_wp2_with fail
        go_quiet (fail)
        have hx5 := hx4.drewN nq
        have hy5 := hy4.drewN nq
        by_cases h6 : rK = 6
        · subst h6
          by_cases hn : lst rN = lst o
          · have hq : (rN.toList == o.toList) = true := by rw [eq_toList]; simpa using hn
            have hu6 := hid (hu5.2.2 rfl hn)
            clear hn hu5
            obtain ⟨s0, s1⟩ := hx5.cells2
            obtain ⟨t0, t1, t2, t3, t4, t5⟩ := hy5.cells6
            go_wp2_with fail
            refine (startPlace_any (rs.take 0) B (some ad) 0 c _ ((hr.take (Nat.le_of_lt hk)).below hx5.1 hB) (hx5.up hB) (by omega)).mono ?_
            rintro e w7 ⟨m, rfl, hm, hb7⟩
            have hx7 := hx5.next hb7
            cases hs : Z.seenAt (rs.map RV.z) 0 with
            | true =>
              obtain rfl : u = 5 := by rw [hu6.out, if_pos hs]
              have hm0 : 0 ≤ m := by
                have h1 := hm.out.neg
                rw [List.map_take, Z.seen_take (by rw [List.length_map, hr.2.1]; omega), hs] at h1
                simpa using h1
              clear hs
              go_wp2_with fail
              go_ret
              exact ⟨rfl, hx7.1⟩
            | false =>
              obtain rfl : u = 0 := by rw [hu6.out, if_neg (by simp [hs])]
              have hm0 : m < 0 := by
                have h1 := hm.out.neg
                rw [List.map_take, Z.seen_take (by rw [List.length_map, hr.2.1]; omega), hs] at h1
                simpa using h1
              clear hs
              go_wp2_with fail
              go_ret
              exact ⟨rfl, hx7.1⟩
          · have hq : (rN.toList == o.toList) = false := by rw [eq_toList]; simpa using hn
            obtain rfl : u = 5 := hu5.1 rfl hn
            clear hn hu5
            obtain ⟨s0, s1⟩ := hx5.cells2
            obtain ⟨t0, t1, t2, t3, t4, t5⟩ := hy5.cells6
            go_wp2_with fail
            go_ret
            exact ⟨rfl, hx5.1⟩
        · have hq6 : (rK == 6) = false := by rw [beq_eq_false_iff_ne]; exact h6
          obtain rfl : u = 0 := hu5.2.1 h6
          clear h6 hu5
          obtain ⟨s0, s1⟩ := hx5.cells2
          obtain ⟨t0, t1, t2, t3, t4, t5⟩ := hy5.cells6
          go_wp2_with fail
          go_ret
          exact ⟨rfl, hx5.1⟩
      · obtain ⟨j, hj⟩ : ∃ j : Nat, (k : Int) - 1 = j := ⟨k - 1, by omega⟩
        have hjk : k = j + 1 := by omega
        have hjn : j < n := by omega
        obtain ⟨ad', y, p', hade, hp', hab', hyk, hyr, d0, d1, d2, d3, d4, d5⟩ := (hr.below hx4.1 hB).at_ hjn
        obtain rfl : ad = ad' := Option.some.inj hade
        have hpy : Z.prevAt (rs.map RV.z) k = some y.z := by rw [hjk]; exact prev_succ (zat hyk)
        have hyv := hid (hpv.out _ hpy)
        have HPY := hid hpy
        obtain ⟨e1, e2, e3, e4⟩ := hf.out y (List.mem_of_getElem? hyk)
        clear hyk hpy hade hpv
        obtain ⟨yN, yT, yK, yA, yL, yC, yG, yX, yZ⟩ := y
        dsimp only at hyr e1 e2 e3 e4 d0 d1 d2 d3 d4 d5
        have hw1 : IntKind.i64.wrap ((k : Int) - 1) = (j : Int) := by rw [IntWalk.i64_in _ (by omega)]; exact hj
        have hg0 : 0 < (k : Int) := by omega
        have hkp : 0 < k := by omega
        clear hk0
        have hj0 : 0 ≤ (j : Int) := by omega
        have hj1 : (j : Int) < n := by omega
        have hpb' : p'.block < w4.heap.size := by have := hx4.1.size; omega
        have hBw : B ≤ w4.heap.size := by have := hx4.1.size; omega
        clear hjk hjn hj
        go_wp2_with fail
        obtain ⟨lv, hlv⟩ : ∃ lv, Z.ltRec ⟨lst yN, yT, yK, yZ, lst yG, lst yX⟩ ⟨lst rN, rT, rK, rZ, lst rG, lst rX⟩ = lv := ⟨_, rfl⟩
        have hbv : Z.recBefore ⟨lst yN, yT, yK, yZ, lst yG, lst yX⟩ ⟨lst rN, rT, rK, rZ, lst rG, lst rX⟩ = lv := by unfold Z.recBefore; rw [show Z.recValid ⟨lst yN, yT, yK, yZ, lst yG, lst yX⟩ = true from hyv.out, HVR.out, hlv]; rfl
        have HLV := hid hlv
        have HBV := hid hbv
        clear hlv hbv
        go_region_with (first | (go_at_call 90; refine (iRecordBefore_eq yN yT yK yA yL yC yG yX yZ B rN rT rK rA rL rC rG rX rZ B _ hyr.drew hBw e2 ((hrr.below hx4.1 hB).drew) hBw f2 e1 e3 e4 f1 f3 f4 lv HBV.out).mono ?_; rintro e w5 ⟨rfl, hb5⟩))
        all_goals have hx5 := (hx4.drewN 1).next hb5
        all_goals have hy5 := (hy4.drewN 1).next hb5
        all_goals clear hb5
        all_goals (cases lv with
          | false =>
            obtain rfl : u = 4 := by rw [← hu.out]; exact Z.alone_ne (Z.one_4 (by omega) HVR.out HVB.out HPY.out HLV.out) (by decide)
            go_wp2_with fail
            go_ret
            exact ⟨rfl, hx5.1⟩
          | true =>
            have hu5 := hpre.out (fun q hq => by
              obtain rfl := Option.some.inj (HPY.out.symm.trans hq)
              exact HLV.out)
            by_cases h6 : rK = 6
            · subst h6
              by_cases hn : lst rN = lst o
              · have hq : (rN.toList == o.toList) = true := by rw [eq_toList]; simpa using hn
                have hu6 := hid (hu5.2.2 rfl hn)
                clear hn hu5
                obtain ⟨s0, s1⟩ := hx5.cells2
                obtain ⟨t0, t1, t2, t3, t4, t5⟩ := hy5.cells6
                go_wp2_with fail
                refine (startPlace_any (rs.take k) B (some ad) k c _ ((hr.take (Nat.le_of_lt hk)).below hx5.1 hB) (hx5.up hB) (by omega)).mono ?_
                rintro e w7 ⟨m, rfl, hm, hb7⟩
                have hx7 := hx5.next hb7
                cases hs : Z.seenAt (rs.map RV.z) k with
                | true =>
                  obtain rfl : u = 5 := by rw [hu6.out, if_pos hs]
                  have hm0 : 0 ≤ m := by
                    have h1 := hm.out.neg
                    rw [List.map_take, Z.seen_take (by rw [List.length_map, hr.2.1]; omega), hs] at h1
                    simpa using h1
                  clear hs
                  go_wp2_with fail
                  go_ret
                  exact ⟨rfl, hx7.1⟩
                | false =>
                  obtain rfl : u = 0 := by rw [hu6.out, if_neg (by simp [hs])]
                  have hm0 : m < 0 := by
                    have h1 := hm.out.neg
                    rw [List.map_take, Z.seen_take (by rw [List.length_map, hr.2.1]; omega), hs] at h1
                    simpa using h1
                  clear hs
                  go_wp2_with fail
                  go_ret
                  exact ⟨rfl, hx7.1⟩
              · have hq : (rN.toList == o.toList) = false := by rw [eq_toList]; simpa using hn
                obtain rfl : u = 5 := hu5.1 rfl hn
                clear hn hu5
                obtain ⟨s0, s1⟩ := hx5.cells2
                obtain ⟨t0, t1, t2, t3, t4, t5⟩ := hy5.cells6
                go_wp2_with fail
                go_ret
                exact ⟨rfl, hx5.1⟩
            · have hq6 : (rK == 6) = false := by rw [beq_eq_false_iff_ne]; exact h6
              obtain rfl : u = 0 := hu5.2.1 h6
              clear h6 hu5
              obtain ⟨s0, s1⟩ := hx5.cells2
              obtain ⟨t0, t1, t2, t3, t4, t5⟩ := hy5.cells6
              go_wp2_with fail
              go_ret
              exact ⟨rfl, hx5.1⟩)

end Go.Proofs.Ytgglakonkphbgaa

/- What the looks for faults of zones return: the model's. -/
import Derived.Test.YtgglakonkphbgaaZa
import Derived.Test.YtgglakonkphbgaaZm
import Derived.Deep.RegionWith
import Derived.BigQuiet
import Derived.IntWalk
namespace Go.Proofs.Ytgglakonkphbgaa
open Go.RowKit
set_option maxRecDepth 100000
set_option linter.unusedVariables false
set_option linter.unusedSimpArgs false

theorem NameValid_eqB (s : ByteArray) (v : Bool) (hv : Hid (Z.valid (lst s) = v)) (hs : s.size ≤ 67108864) (w : World) :
    Calls Try.prog 55 #[.string s] w fun e w' => e = .returned (.bool v) ∧ Below w.heap.size w w' := by
  rw [← hv.out]
  exact NameValid_any s (by unfold maxLen; omega) w
theorem iNameValid_eqB (s : ByteArray) (v : Bool) (hv : Hid (Z.valid (lst s) = v)) (hs : s.size ≤ 67108864) (w : World) :
    Calls Try.prog 72 #[.string s] w fun e w' => e = .returned (.bool v) ∧ Below w.heap.size w w' := by
  rw [← hv.out]
  exact iNameValid_any s (by unfold maxLen; omega) w
theorem prev_zero (zs : List Z.Rec) : Z.prevAt zs 0 = none := rfl
theorem prev_succ {zs : List Z.Rec} {j : Nat} {x : Z.Rec} (h : zs[j]? = some x) : Z.prevAt zs (j + 1) = some x := by unfold Z.prevAt; rw [if_neg (by omega)]; exact h

/-- What is known when a record has been looked at so far: it is valid, and below the origin. -/
def Far (o : ByteArray) (k : Nat) (r : Z.Rec) : Prop := k < 60 ∧ Z.recValid r = true ∧ Z.below r.name (lst o) = true

set_option maxHeartbeats 8000000 in
theorem l4One_any (o : ByteArray) (rs : List RV) (B : Nat) (A : Option Addr) (n c k : Nat) (w : World) (hr : Recs w B A n rs) (hB : B ≤ w.heap.size) (hn : n ≤ 67108864) (hf : Hid (∀ r ∈ rs, r.fine)) (ho : o.size ≤ 67108864) (hvo : Z.valid (lst o) = true) (hk : k < n) (hpv : Hid (∀ q, Z.prevAt (rs.map RV.z) k = some q → Z.recValid q = true)) (x : Z.Rec) (hx : Hid ((rs.map RV.z)[k]? = some x)) (u : Nat) (hu : Hid (Z.one (lst o) (Z.prevAt (rs.map RV.z) k) k x = u)) :
    Calls Try.prog 69 #[.agg #[.string o, .slice A n c], .int .i64 (k : Int)] w fun e w' => e = .returned (.int .i64 (u : Int)) ∧ Below w.heap.size w w' := by
  obtain ⟨ad, r, p, rfl, hp, hab, hrk, hrr, c0, c1, c2, c3, c4, c5⟩ := hr.at_ hk
  obtain rfl : r.z = x := Option.some.inj ((zat hrk).symm.trans hx.out)
  obtain ⟨f1, f2, f3, f4⟩ := hf.out r (List.mem_of_getElem? hrk)
  have HRK := hid hrk
  have HVO := hid hvo
  clear hrk hvo
  have hpb : p.block < w.heap.size := by omega
  obtain ⟨rN, rT, rK, rA, rL, rC, rG, rX, rZ⟩ := r
  dsimp only at hrr f1 f2 f3 f4 c0 c1 c2 c3 c4 c5
  have q1 : 0 ≤ (k : Int) := by omega
  have q2 : (k : Int) < n := by omega
  have hb2 : Below w.heap.size w ((w.alloc (.cells #[.string o, .slice (some ad) n c] 30)).alloc (.cells #[.string rN, .int .i64 rT, .int .i64 rK, .slice rA rL rC, .string rG, .string rX] 54)) := ((Below.refl _ _).alloc (Nat.le_refl _) _).alloc (by simp) _
  by_cases h60 : 60 ≤ k
  · obtain rfl : u = 2 := by rw [← hu.out]; exact Z.one_2 (Or.inl h60)
    go_enter Try.func69, Try.ntmps69
    go_wp2_with fail
    go_ret
    exact ⟨rfl, hb2⟩
  have hlt60 : (k : Int) < 60 := by omega
  obtain ⟨vr, hvr⟩ : ∃ vr, Z.recValid (⟨lst rN, rT, rK, rZ, lst rG, lst rX⟩ : Z.Rec) = vr := ⟨_, rfl⟩
  have HVR := hid hvr
  cases vr with
  | false =>
    obtain rfl : u = 2 := by rw [← hu.out]; exact Z.one_2 (Or.inr hvr)
    clear hvr
    go_enter Try.func69, Try.ntmps69
    go_wp2_with fail
    refine (RecordValid_eqG rN rT rK rA rL rC rG rX rZ B _ (hrr.below hb2 hB) (by simp; omega) f2 f1 f3 f4 false HVR.out).mono ?_
    rintro e w3 ⟨rfl, hb3⟩
    go_wp2_with fail
    go_ret
    exact ⟨rfl, hb2.trans (hb3.mono (by simp; omega))⟩
  | true =>
    have hvn : Z.valid (lst rN) = true := (Z.recValid_iff.1 hvr).1
    obtain ⟨vb, hvb⟩ : ∃ vb, Z.below (lst rN) (lst o) = vb := ⟨_, rfl⟩
    have HVN := hid hvn
    have HVB := hid hvb
    clear hvr hvn hvb
    go_enter Try.func69, Try.ntmps69
    go_wp2_with fail
    refine (RecordValid_eqG rN rT rK rA rL rC rG rX rZ B _ (hrr.below hb2 hB) (by simp; omega) f2 f1 f3 f4 true HVR.out).mono ?_
    rintro e w3 ⟨rfl, hb3⟩
    have hx3 : Held w w3 w.heap.size [.string o, .slice (some ad) n c] := ((Held.box w [.string o, .slice (some ad) n c] 30).alloc _).next hb3
    have hy3 : Held w w3 (w.heap.size + 1) [.string rN, .int .i64 rT, .int .i64 rK, .slice rA rL rC, .string rG, .string rX] := ((Held.box w [.string o, .slice (some ad) n c] 30).again 54 (w.heap.size + 1) (by simp)).next hb3
    clear hb3 hb2
    obtain ⟨s0, s1⟩ := hx3.cells2
    obtain ⟨t0, t1, t2, t3, t4, t5⟩ := hy3.cells6
    go_wp2_with fail
    refine (l1Ends_any rN o f1 ho _).mono ?_
    rintro e w4 ⟨m, rfl, hm, hb4⟩
    have hx4 := hx3.next hb4
    have hy4 := hy3.next hb4
    clear s0 s1 t0 t1 t2 t3 t4 t5 hx3 hy3 hb4
    obtain ⟨s0, s1⟩ := hx4.cells2
    obtain ⟨t0, t1, t2, t3, t4, t5⟩ := hy4.cells6
    cases vb with
    | false =>
      obtain rfl : u = 3 := by rw [← hu.out]; exact Z.one_3 (by omega) HVR.out HVB.out
      have hneg : m < 0 := hm.out.2 (fun h => by
        have := Z.below_iff.2 ⟨HVN.out, HVO.out, h⟩
        rw [HVB.out] at this
        cases this)
      go_wp2_with fail
      go_ret
      exact ⟨rfl, hx4.1⟩
    | true =>
      have hpos : 0 ≤ m := by
        have h1 := (Z.below_iff.1 HVB.out).2.2
        have h2 := hm.out.1 h1
        have h3 := h1.length_le
        omega
      clear hm
      have hpre : Hid ((∀ q, Z.prevAt (rs.map RV.z) k = some q → Z.ltRec q ⟨lst rN, rT, rK, rZ, lst rG, lst rX⟩ = true) → u = if rK = 6 ∧ lst rN ≠ lst o then 5 else 0) := hid (fun h => by
        rw [← hu.out]
        by_cases h5 : rK = 6 ∧ lst rN ≠ lst o
        · rw [if_pos h5]
          exact Z.one_5 (by omega) HVR.out HVB.out h h5.1 h5.2
        · rw [if_neg h5]
          refine Z.one_0 (by omega) HVR.out HVB.out h (fun h6 => Classical.byContradiction fun h7 => h5 ⟨h6, h7⟩))
      by_cases hk0 : k = 0
      · subst hk0
        have hu5 := hpre.out (fun q hq => by cases hq)
        go_wp2_with fail
        go_quiet (fail)
        have hx5 := hx4.drewN nq
        have hy5 := hy4.drewN nq
        by_cases h6 : rK = 6
        · subst h6
          by_cases hn : lst rN = lst o
          · have hq : (rN.toList == o.toList) = true := by rw [eq_toList]; simpa using hn
            obtain rfl : u = 0 := by rw [hu5, if_neg (by simp [hn])]
            clear hn hu5
            obtain ⟨s0, s1⟩ := hx5.cells2
            obtain ⟨t0, t1, t2, t3, t4, t5⟩ := hy5.cells6
            go_wp2_with fail
            go_ret
            exact ⟨rfl, hx5.1⟩
          · have hq : (rN.toList == o.toList) = false := by rw [eq_toList]; simpa using hn
            obtain rfl : u = 5 := by rw [hu5, if_pos ⟨rfl, hn⟩]
            clear hn hu5
            obtain ⟨s0, s1⟩ := hx5.cells2
            obtain ⟨t0, t1, t2, t3, t4, t5⟩ := hy5.cells6
            go_wp2_with fail
            go_ret
            exact ⟨rfl, hx5.1⟩
        · have hq6 : (rK == 6) = false := by rw [beq_eq_false_iff_ne]; exact h6
          obtain rfl : u = 0 := by rw [hu5, if_neg (fun h => h6 h.1)]
          clear h6 hu5
          obtain ⟨s0, s1⟩ := hx5.cells2
          obtain ⟨t0, t1, t2, t3, t4, t5⟩ := hy5.cells6
          go_wp2_with fail
          go_ret
          exact ⟨rfl, hx5.1⟩
      · obtain ⟨j, hj⟩ : ∃ j : Nat, (k : Int) - 1 = j := ⟨k - 1, by omega⟩
        have hjk : k = j + 1 := by omega
        have hjn : j < n := by omega
        obtain ⟨ad', y, p', hade, hp', hab', hyk, hyr, d0, d1, d2, d3, d4, d5⟩ := (hr.below hx4.1 hB).at_ hjn
        obtain rfl : ad = ad' := Option.some.inj hade
        have hpy : Z.prevAt (rs.map RV.z) k = some y.z := by rw [hjk]; exact prev_succ (zat hyk)
        have hyv := hid (hpv.out _ hpy)
        have HPY := hid hpy
        obtain ⟨e1, e2, e3, e4⟩ := hf.out y (List.mem_of_getElem? hyk)
        clear hyk hpy hade hpv
        obtain ⟨yN, yT, yK, yA, yL, yC, yG, yX, yZ⟩ := y
        dsimp only at hyr e1 e2 e3 e4 d0 d1 d2 d3 d4 d5
        have hw1 : IntKind.i64.wrap ((k : Int) - 1) = (j : Int) := by rw [IntWalk.i64_in _ (by omega)]; exact hj
        have hg0 : 0 < (k : Int) := by omega
        have hkp : 0 < k := by omega
        clear hk0
        have hj0 : 0 ≤ (j : Int) := by omega
        have hj1 : (j : Int) < n := by omega
        have hpb' : p'.block < w4.heap.size := by have := hx4.1.size; omega
        have hBw : B ≤ w4.heap.size := by have := hx4.1.size; omega
        clear hjk hjn hj
        go_wp2_with fail
        go_region_with (first | (go_at_call 88; refine (l2Order_any yN yT yK yA yL yC yG yX yZ B rN rT rK rA rL rC rG rX rZ B _ hyr.drew hBw e2 ((hrr.below hx4.1 hB).drew) hBw f2 e1 e3 e4 f1 f3 f4 hyv.out HVR.out).mono ?_; rintro e w5 ⟨m2, rfl, hgo, hb5⟩))
        all_goals have hx5 := (hx4.drewN 1).next hb5
        all_goals have hy5 := (hy4.drewN 1).next hb5
        all_goals clear hb5
        all_goals (cases hl : Z.ltRec ⟨lst yN, yT, yK, yZ, lst yG, lst yX⟩ ⟨lst rN, rT, rK, rZ, lst rG, lst rX⟩ with
          | false =>
            obtain rfl : u = 4 := by rw [← hu.out]; exact Z.one_4 (by omega) HVR.out HVB.out HPY.out hl
            have hm2 : 0 ≤ m2 := by have h := hgo.out; unfold Goes at h; rw [hl] at h; simpa using h
            clear hl
            go_wp2_with fail
            go_ret
            exact ⟨rfl, hx5.1⟩
          | true =>
            have hm2 : m2 < 0 := by have h := hgo.out; unfold Goes at h; rw [hl] at h; simpa using h
            have hu5 := hpre.out (fun q hq => by
              obtain rfl := Option.some.inj (HPY.out.symm.trans hq)
              exact hl)
            clear hl
            by_cases h6 : rK = 6
            · subst h6
              by_cases hn : lst rN = lst o
              · have hq : (rN.toList == o.toList) = true := by rw [eq_toList]; simpa using hn
                obtain rfl : u = 0 := by rw [hu5, if_neg (by simp [hn])]
                clear hn hu5
                obtain ⟨s0, s1⟩ := hx5.cells2
                obtain ⟨t0, t1, t2, t3, t4, t5⟩ := hy5.cells6
                go_wp2_with fail
                go_ret
                exact ⟨rfl, hx5.1⟩
              · have hq : (rN.toList == o.toList) = false := by rw [eq_toList]; simpa using hn
                obtain rfl : u = 5 := by rw [hu5, if_pos ⟨rfl, hn⟩]
                clear hn hu5
                obtain ⟨s0, s1⟩ := hx5.cells2
                obtain ⟨t0, t1, t2, t3, t4, t5⟩ := hy5.cells6
                go_wp2_with fail
                go_ret
                exact ⟨rfl, hx5.1⟩
            · have hq6 : (rK == 6) = false := by rw [beq_eq_false_iff_ne]; exact h6
              obtain rfl : u = 0 := by rw [hu5, if_neg (fun h => h6 h.1)]
              clear h6 hu5
              obtain ⟨s0, s1⟩ := hx5.cells2
              obtain ⟨t0, t1, t2, t3, t4, t5⟩ := hy5.cells6
              go_wp2_with fail
              go_ret
              exact ⟨rfl, hx5.1⟩)

set_option maxHeartbeats 16000000 in
theorem l4Pair_any (rs : List RV) (B : Nat) (A : Option Addr) (n c k : Nat) (w : World) (hr : Recs w B A n rs) (hB : B ≤ w.heap.size) (hn : n ≤ 67108864) (hk : k < n) (x : Z.Rec) (hx : Hid ((rs.map RV.z)[k]? = some x)) (u : Nat) (hu : Hid (Z.pairAt ((rs.map RV.z).take k) x = u)) :
    Calls Try.prog 70 #[.slice A n c, .int .i64 (k : Int)] w fun e w' => e = .returned (.int .i64 (u : Int)) ∧ Below w.heap.size w w' := by
  have hlen := hid hr.2.1
  obtain ⟨ad, r, p, rfl, hp, hab, hrk, hrr, c0, c1, c2, c3, c4, c5⟩ := hr.at_ hk
  obtain rfl : r.z = x := Option.some.inj ((zat hrk).symm.trans hx.out)
  clear hrk hx
  have hpb : p.block < w.heap.size := by omega
  obtain ⟨rN, rT, rK, rA, rL, rC, rG, rX, rZ⟩ := r
  dsimp only at hrr c0 c1 c2 c3 c4 c5
  have q1 : 0 ≤ (k : Int) := by omega
  have q2 : (k : Int) < n := by omega
  have hx0 := Held.box w [.string rN, .int .i64 rT, .int .i64 rK, .slice rA rL rC, .string rG, .string rX] 54
  go_enter Try.func70, Try.ntmps70
  go_wp2_with fail
  go_loopw [6] (fun v wr => ∃ i : Nat, i ≤ k ∧ v = .int .i64 i ∧ Hid (Z.pairAt (((rs.map RV.z).take k).drop i) ⟨lst rN, rT, rK, rZ, lst rG, lst rX⟩ = u) ∧ Held w wr w.heap.size [.string rN, .int .i64 rT, .int .i64 rK, .slice rA rL rC, .string rG, .string rX]) (fun v _ => k - (intOf v).toNat)
  case atStart => exact ⟨0, Nat.zero_le _, rfl, hid (by rw [List.drop_zero]; exact hu.out), hx0⟩
  case round =>
    obtain ⟨i, hi, rfl, hinv, hx⟩ := hrel
    clear hx0 hu c0 c1 c2 c3 c4 c5
    obtain ⟨t0, t1, t2, t3, t4, t5⟩ := hx.cells6
    by_cases hlt : i < k
    · obtain ⟨ad', y, p', hade, hp', hab', hyk, hyr, d0, d1, d2, d3, d4, d5⟩ := (hr.below hx.1 hB).at_ (show i < n by omega)
      obtain rfl : ad = ad' := Option.some.inj hade
      have HYK : Hid (((rs.map RV.z).take k)[i]? = some y.z) := hid (by rw [List.getElem?_take, if_pos hlt]; exact zat hyk)
      clear hyk hade
      obtain ⟨yN, yT, yK, yA, yL, yC, yG, yX, yZ⟩ := y
      dsimp only at hyr d0 d1 d2 d3 d4 d5
      replace HYK : Hid (((rs.map RV.z).take k)[i]? = some (⟨lst yN, yT, yK, yZ, lst yG, lst yX⟩ : Z.Rec)) := HYK
      replace hinv : Hid (Z.pairAt (((rs.map RV.z).take k).drop i) (⟨lst rN, rT, rK, rZ, lst rG, lst rX⟩ : Z.Rec) = u) := hinv
      have i0 : 0 ≤ (i : Int) := by omega
      have i1 : (i : Int) < n := by omega
      have i2 : (i : Int) < k := by omega
      by_cases hnm : lst yN = lst rN
      · have hq : (yN.toList == rN.toList) = true := by rw [eq_toList]; simpa using hnm
        by_cases hkk : yK = rK
        · by_cases htt : yT = rT
          · by_cases h5 : yK = 5
            · obtain rfl : u = 7 := Z.pairAt_yes HYK.out (Z.pair_7 hnm (fun _ => htt) (Or.inl h5)) (by decide) hinv.out
              have hqk : (yK == rK) = true := by rw [beq_iff_eq]; exact hkk
              have hqt : (yT == rT) = true := by rw [beq_iff_eq]; exact htt
              have hq5 : (yK == 5) = true := by rw [beq_iff_eq]; exact h5
              clear hnm hkk htt h5
              go_wp2_with fail
              go_quiet (fail)
              go_wp2_with fail
              go_quiet (fail)
              go_wp2_with fail
              go_ret
              exact ⟨rfl, ((by repeat (first | assumption | apply Held.drewN)) : Held w _ w.heap.size [.string rN, .int .i64 rT, .int .i64 rK, .slice rA rL rC, .string rG, .string rX]).1⟩
            · have hnx : Hid (Z.pairAt (((rs.map RV.z).take k).drop (i + 1)) ⟨lst rN, rT, rK, rZ, lst rG, lst rX⟩ = u) := hid (Z.pairAt_no HYK.out (Z.pair_0 hnm (fun _ => htt) h5 (by dsimp only; rw [← hkk]; exact h5)) hinv.out)
              have hqk : (yK == rK) = true := by rw [beq_iff_eq]; exact hkk
              have hqt : (yT == rT) = true := by rw [beq_iff_eq]; exact htt
              have hq5 : (yK == 5) = false := by rw [beq_eq_false_iff_ne]; exact h5
              have hq6 : (rK == 5) = false := by rw [beq_eq_false_iff_ne, ← hkk]; exact h5
              clear hnm hkk htt h5
              go_wp2_with fail
              go_quiet (fail)
              go_wp2_with fail
              go_quiet (fail)
              go_wp2_with fail
              all_goals exact ⟨⟨i + 1, by omega, by go_num, hnx, (by repeat (first | assumption | apply Held.drewN))⟩, by simp [intOf]; omega⟩
          · obtain rfl : u = 6 := Z.pairAt_yes HYK.out (Z.pair_6 hnm hkk htt) (by decide) hinv.out
            have hqk : (yK == rK) = true := by rw [beq_iff_eq]; exact hkk
            have hqt : (yT == rT) = false := by rw [beq_eq_false_iff_ne]; exact htt
            clear hnm hkk htt
            go_wp2_with fail
            go_quiet (fail)
            go_wp2_with fail
            go_quiet (fail)
            go_wp2_with fail
            go_ret
            exact ⟨rfl, ((by repeat (first | assumption | apply Held.drewN)) : Held w _ w.heap.size [.string rN, .int .i64 rT, .int .i64 rK, .slice rA rL rC, .string rG, .string rX]).1⟩
        · have hqk : (yK == rK) = false := by rw [beq_eq_false_iff_ne]; exact hkk
          by_cases h5 : yK = 5
          · obtain rfl : u = 7 := Z.pairAt_yes HYK.out (Z.pair_7 hnm (fun e => absurd e hkk) (Or.inl h5)) (by decide) hinv.out
            have hq5 : (yK == 5) = true := by rw [beq_iff_eq]; exact h5
            clear hnm hkk h5
            go_wp2_with fail
            go_quiet (fail)
            go_wp2_with fail
            go_quiet (fail)
            go_wp2_with fail
            go_ret
            exact ⟨rfl, ((by repeat (first | assumption | apply Held.drewN)) : Held w _ w.heap.size [.string rN, .int .i64 rT, .int .i64 rK, .slice rA rL rC, .string rG, .string rX]).1⟩
          · have hq5 : (yK == 5) = false := by rw [beq_eq_false_iff_ne]; exact h5
            by_cases h6 : rK = 5
            · obtain rfl : u = 7 := Z.pairAt_yes HYK.out (Z.pair_7 hnm (fun e => absurd e hkk) (Or.inr h6)) (by decide) hinv.out
              have hq6 : (rK == 5) = true := by rw [beq_iff_eq]; exact h6
              clear hnm hkk h5 h6
              go_wp2_with fail
              go_quiet (fail)
              go_wp2_with fail
              go_quiet (fail)
              go_wp2_with fail
              go_ret
              exact ⟨rfl, ((by repeat (first | assumption | apply Held.drewN)) : Held w _ w.heap.size [.string rN, .int .i64 rT, .int .i64 rK, .slice rA rL rC, .string rG, .string rX]).1⟩
            · have hnx : Hid (Z.pairAt (((rs.map RV.z).take k).drop (i + 1)) ⟨lst rN, rT, rK, rZ, lst rG, lst rX⟩ = u) := hid (Z.pairAt_no HYK.out (Z.pair_0 hnm (fun e => absurd e hkk) h5 h6) hinv.out)
              have hq6 : (rK == 5) = false := by rw [beq_eq_false_iff_ne]; exact h6
              clear hnm hkk h5 h6
              go_wp2_with fail
              go_quiet (fail)
              go_wp2_with fail
              go_quiet (fail)
              go_wp2_with fail
              all_goals exact ⟨⟨i + 1, by omega, by go_num, hnx, (by repeat (first | assumption | apply Held.drewN))⟩, by simp [intOf]; omega⟩
      · have hq : (yN.toList == rN.toList) = false := by rw [eq_toList]; simpa using hnm
        have hnx : Hid (Z.pairAt (((rs.map RV.z).take k).drop (i + 1)) ⟨lst rN, rT, rK, rZ, lst rG, lst rX⟩ = u) := hid (Z.pairAt_no HYK.out (Z.pair_ne hnm) hinv.out)
        clear hnm
        go_wp2_with fail
        go_quiet (fail)
        go_wp2_with fail
        all_goals exact ⟨⟨i + 1, by omega, by go_num, hnx, (by repeat (first | assumption | apply Held.drewN))⟩, by simp [intOf]; omega⟩
    · obtain rfl : i = k := by omega
      have hu0 : u = 0 := by
        rw [← hinv.out, List.drop_of_length_le (by rw [List.length_take]; omega)]
        rfl
      subst hu0
      go_wp2_with fail
      go_ret
      exact ⟨rfl, hx.1⟩
end Go.Proofs.Ytgglakonkphbgaa

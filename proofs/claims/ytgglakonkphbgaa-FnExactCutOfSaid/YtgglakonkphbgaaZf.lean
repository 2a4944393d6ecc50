/- What the looks for faults of zones return: the program's, whole. -/
import Derived.Test.YtgglakonkphbgaaZe
namespace Go.Proofs.Ytgglakonkphbgaa
open Go.RowKit
set_option maxRecDepth 100000
set_option linter.unusedVariables false
set_option linter.unusedSimpArgs false

set_option maxHeartbeats 16000000 in
theorem faultBeside_any (os : List RV) (B : Nat) (A : Option Addr) (k c : Nat) (w : World) (hr : Recs w B A k os) (hB : B ≤ w.heap.size) (hn : k ≤ 67108864) (rN : ByteArray) (rT rK : Int) (rA : Option Addr) (rL rC : Nat) (rG rX : ByteArray) (rZ : List Int) (u : Int) (hu : Hid ((Z.pairAt (os.map RV.z) (⟨lst rN, rT, rK, rZ, lst rG, lst rX⟩ : Z.Rec) : Int) = u)) :
    Calls Try.prog 75 #[.slice A k c, .agg #[.string rN, .int .i64 rT, .int .i64 rK, .slice rA rL rC, .string rG, .string rX]] w fun e w' => e = .returned (.int .i64 u) ∧ Below w.heap.size w w' := by
  have hlen := hid hr.2.1
  obtain ⟨u', hu'⟩ : ∃ u', Z.pairAt (os.map RV.z) (⟨lst rN, rT, rK, rZ, lst rG, lst rX⟩ : Z.Rec) = u' := ⟨_, rfl⟩
  have e : u = (u' : Int) := by have h := hu.out; rw [hu'] at h; exact h.symm
  subst e
  have HU' := hid hu'
  clear hu hu'
  have hx0 := Held.box w [.string rN, .int .i64 rT, .int .i64 rK, .slice rA rL rC, .string rG, .string rX] 54
  go_enter Try.func75, Try.ntmps75
  go_wp2_with fail
  go_loopw [9] (fun v wr => ∃ i : Nat, i ≤ k ∧ v = .int .i64 i ∧ Hid (Z.pairAt ((os.map RV.z).drop i) ⟨lst rN, rT, rK, rZ, lst rG, lst rX⟩ = u') ∧ Held w wr w.heap.size [.string rN, .int .i64 rT, .int .i64 rK, .slice rA rL rC, .string rG, .string rX]) (fun v _ => k - (intOf v).toNat)
  case atStart => exact ⟨0, Nat.zero_le _, rfl, hid (by rw [List.drop_zero]; exact HU'.out), hx0⟩
  case round =>
    obtain ⟨i, hi, rfl, hinv, hx⟩ := hrel
    clear hx0 HU'
    have hlx := hx.2.2.1
    obtain ⟨t0, t1, t2, t3, t4, t5⟩ := hx.cells6
    by_cases hlt : i < k
    · obtain ⟨ad', y, p', rfl, hp', hab', hyk, hyr, d0, d1, d2, d3, d4, d5⟩ := (hr.below hx.1 hB).at_ hlt
      have HYK : Hid ((os.map RV.z)[i]? = some y.z) := hid (zat hyk)
      clear hyk
      obtain ⟨yN, yT, yK, yA, yL, yC, yG, yX, yZ⟩ := y
      dsimp only at hyr d0 d1 d2 d3 d4 d5
      replace HYK : Hid ((os.map RV.z)[i]? = some (⟨lst yN, yT, yK, yZ, lst yG, lst yX⟩ : Z.Rec)) := HYK
      replace hinv : Hid (Z.pairAt ((os.map RV.z).drop i) (⟨lst rN, rT, rK, rZ, lst rG, lst rX⟩ : Z.Rec) = u') := hinv
      have i0 : 0 ≤ (i : Int) := by omega
      have hpw : p'.block < wr.heap.size := by have := hx.1.size; omega
      have i2 : (i : Int) < k := by omega
      by_cases hnm : lst yN = lst rN
      · have hq : (yN.toList == rN.toList) = true := by rw [eq_toList]; simpa using hnm
        by_cases hkk : yK = rK
        · by_cases htt : yT = rT
          · by_cases h5 : yK = 5
            · obtain rfl : u' = 7 := Z.pairAt_yes HYK.out (Z.pair_7 hnm (fun _ => htt) (Or.inl h5)) (by decide) hinv.out
              have hqk : (yK == rK) = true := by rw [beq_iff_eq]; exact hkk
              have hqt : (yT == rT) = true := by rw [beq_iff_eq]; exact htt
              have hq5 : (yK == 5) = true := by rw [beq_iff_eq]; exact h5
              clear hnm hkk htt h5
              go_wp2_with fail
              go_ret
              exact ⟨rfl, ((by repeat (first | assumption | apply Held.alloc)) : Held w _ w.heap.size [.string rN, .int .i64 rT, .int .i64 rK, .slice rA rL rC, .string rG, .string rX]).1⟩
            · have hnx : Hid (Z.pairAt ((os.map RV.z).drop (i + 1)) ⟨lst rN, rT, rK, rZ, lst rG, lst rX⟩ = u') := hid (Z.pairAt_no HYK.out (Z.pair_0 hnm (fun _ => htt) h5 (by dsimp only; rw [← hkk]; exact h5)) hinv.out)
              have hqk : (yK == rK) = true := by rw [beq_iff_eq]; exact hkk
              have hqt : (yT == rT) = true := by rw [beq_iff_eq]; exact htt
              have hq5 : (yK == 5) = false := by rw [beq_eq_false_iff_ne]; exact h5
              have hq6 : (rK == 5) = false := by rw [beq_eq_false_iff_ne, ← hkk]; exact h5
              clear hnm hkk htt h5
              go_wp2_with fail
              all_goals exact ⟨⟨i + 1, by omega, by go_num, hnx, (by repeat (first | assumption | apply Held.alloc))⟩, by simp [intOf]; omega⟩
          · obtain rfl : u' = 6 := Z.pairAt_yes HYK.out (Z.pair_6 hnm hkk htt) (by decide) hinv.out
            have hqk : (yK == rK) = true := by rw [beq_iff_eq]; exact hkk
            have hqt : (yT == rT) = false := by rw [beq_eq_false_iff_ne]; exact htt
            clear hnm hkk htt
            go_wp2_with fail
            go_ret
            exact ⟨rfl, ((by repeat (first | assumption | apply Held.alloc)) : Held w _ w.heap.size [.string rN, .int .i64 rT, .int .i64 rK, .slice rA rL rC, .string rG, .string rX]).1⟩
        · have hqk : (yK == rK) = false := by rw [beq_eq_false_iff_ne]; exact hkk
          by_cases h5 : yK = 5
          · obtain rfl : u' = 7 := Z.pairAt_yes HYK.out (Z.pair_7 hnm (fun e => absurd e hkk) (Or.inl h5)) (by decide) hinv.out
            have hq5 : (yK == 5) = true := by rw [beq_iff_eq]; exact h5
            clear hnm hkk h5
            go_wp2_with fail
            go_ret
            exact ⟨rfl, ((by repeat (first | assumption | apply Held.alloc)) : Held w _ w.heap.size [.string rN, .int .i64 rT, .int .i64 rK, .slice rA rL rC, .string rG, .string rX]).1⟩
          · have hq5 : (yK == 5) = false := by rw [beq_eq_false_iff_ne]; exact h5
            by_cases h6 : rK = 5
            · obtain rfl : u' = 7 := Z.pairAt_yes HYK.out (Z.pair_7 hnm (fun e => absurd e hkk) (Or.inr h6)) (by decide) hinv.out
              have hq6 : (rK == 5) = true := by rw [beq_iff_eq]; exact h6
              clear hnm hkk h5 h6
              go_wp2_with fail
              go_ret
              exact ⟨rfl, ((by repeat (first | assumption | apply Held.alloc)) : Held w _ w.heap.size [.string rN, .int .i64 rT, .int .i64 rK, .slice rA rL rC, .string rG, .string rX]).1⟩
            · have hnx : Hid (Z.pairAt ((os.map RV.z).drop (i + 1)) ⟨lst rN, rT, rK, rZ, lst rG, lst rX⟩ = u') := hid (Z.pairAt_no HYK.out (Z.pair_0 hnm (fun e => absurd e hkk) h5 h6) hinv.out)
              have hq6 : (rK == 5) = false := by rw [beq_eq_false_iff_ne]; exact h6
              clear hnm hkk h5 h6
              go_wp2_with fail
              all_goals exact ⟨⟨i + 1, by omega, by go_num, hnx, (by repeat (first | assumption | apply Held.alloc))⟩, by simp [intOf]; omega⟩
      · have hq : (yN.toList == rN.toList) = false := by rw [eq_toList]; simpa using hnm
        have hnx : Hid (Z.pairAt ((os.map RV.z).drop (i + 1)) ⟨lst rN, rT, rK, rZ, lst rG, lst rX⟩ = u') := hid (Z.pairAt_no HYK.out (Z.pair_ne hnm) hinv.out)
        clear hnm
        go_wp2_with fail
        all_goals exact ⟨⟨i + 1, by omega, by go_num, hnx, (by repeat (first | assumption | apply Held.alloc))⟩, by simp [intOf]; omega⟩
    · obtain rfl : i = k := by omega
      have hu0 : u' = 0 := by
        rw [← hinv.out, List.drop_of_length_le (by rw [List.length_map, hlen.out]; omega)]
        rfl
      subst hu0
      go_wp2_with fail
      go_ret
      exact ⟨rfl, hx.1⟩

theorem faultAlone_i (o : ByteArray) (rs : List RV) (B : Nat) (A : Option Addr) (n c k : Nat) (w : World) (hr : Recs w B A n rs) (hB : B ≤ w.heap.size) (hn : n ≤ 67108864) (hf : Hid (∀ r ∈ rs, r.fine)) (ho : o.size ≤ 67108864) (hvo : Hid (Z.valid (lst o) = true)) (hnc : n ≤ c) (hk : k < n) (hpv : Hid (∀ q, Z.prevAt (rs.map RV.z) k = some q → Z.recValid q = true)) (x : Z.Rec) (hx : Hid ((rs.map RV.z)[k]? = some x)) (u : Int) (hu : Hid ((Z.aloneF (lst o) (rs.map RV.z) k x : Int) = u)) :
    Calls Try.prog 73 #[.agg #[.string o, .slice A n c], .int .i64 (k : Int)] w fun e w' => e = .returned (.int .i64 u) ∧ Below w.heap.size w w' := by
  rw [← hu.out]
  exact faultAlone_any o rs B A n c k w hr hB hn hf ho hvo.out hnc hk hpv x hx _ (hid rfl)

set_option maxHeartbeats 16000000 in
theorem iZoneFault_any (o : ByteArray) (rs : List RV) (B : Nat) (A : Option Addr) (n c : Nat) (w : World) (hr : Recs w B A n rs) (hB : B ≤ w.heap.size) (hn : n ≤ 67108864) (hnc : n ≤ c) (hf : Hid (∀ r ∈ rs, r.fine)) (ho : o.size ≤ 67108864) (F1 F2 : Int) (hF : Hid (IsF (Z.fault (lst o) (rs.map RV.z)) F1 F2)) :
    Calls Try.prog 52 #[.agg #[.string o, .slice A n c]] w fun e w' => e = .returned (.tuple #[.int .i64 F1, .int .i64 F2]) ∧ Below w.heap.size w w' := by
  have hlen := hid hr.2.1
  have hx0 := Held.box w [.string o, .slice A n c] 30
  obtain ⟨vo, hvo⟩ : ∃ vo, Z.valid (lst o) = vo := ⟨_, rfl⟩
  have HVO := hid hvo
  go_enter Try.func52, Try.ntmps52
  cases vo with
  | false =>
    have h1 := hF.out
    rw [Z.fault_origin hvo] at h1
    obtain ⟨rfl, rfl⟩ := h1.at_
    clear hvo h1
    go_wp2_with fail
    refine (iNameValid_eqB o false HVO ho _).mono ?_
    rintro e w1 ⟨rfl, hb1⟩
    go_wp2_with fail
    go_ret2
    exact ⟨rfl, (hx0.next hb1).1⟩
  | true =>
    have h1 := hF.out
    rw [Z.look_start hvo] at h1
    have HL := hid h1
    clear hvo h1
    go_wp2_with fail
    refine (iNameValid_eqB o true HVO ho _).mono ?_
    rintro e w1 ⟨rfl, hb1⟩
    have hx1 := hx0.next hb1
    clear hx0 hb1
    obtain ⟨s0, s1⟩ := hx1.cells2
    go_wp2_with fail
    go_loopw [16] (fun v wr => ∃ k : Nat, k ≤ n ∧ v = .int .i64 k ∧ Hid (IsF (Z.look (lst o) (rs.map RV.z) k) F1 F2) ∧ Hid (∀ q, Z.prevAt (rs.map RV.z) k = some q → Z.recValid q = true) ∧ Held w wr w.heap.size [.string o, .slice A n c]) (fun v _ => n - (intOf v).toNat)
    case atStart => exact ⟨0, Nat.zero_le _, rfl, HL, hid (fun q hq => by cases hq), hx1⟩
    case round =>
      clear HL hx1 s0 s1
      obtain ⟨k, hk, rfl, hinv, hpv, hx⟩ := hrel
      obtain ⟨s0, s1⟩ := hx.cells2
      by_cases hlt : k < n
      · obtain ⟨r, hr0⟩ : ∃ r, rs[k]? = some r := ⟨_, List.getElem?_eq_getElem (by have := hlen.out; omega)⟩
        have HZK := hid (zat hr0)
        obtain ⟨U, hU⟩ : ∃ U : Int, (Z.aloneF (lst o) (rs.map RV.z) k r.z : Int) = U := ⟨_, rfl⟩
        have HU := hid hU
        clear hU hr0
        go_wp2_with fail
        refine (faultAlone_i o rs B A n c k _ (hr.below hx.1 hB) (hx.up hB) hn hf ho HVO hnc hlt hpv r.z HZK U HU).mono ?_
        rintro e w2 ⟨rfl, hb2⟩
        have hx2 := hx.next hb2
        clear hx s0 s1 hb2
        by_cases hU0 : U = 0
        · subst hU0
          have ha0 : Z.aloneF (lst o) (rs.map RV.z) k r.z = 0 := by have := HU.out; omega
          have hnx := hid (look_no HZK.out hinv.out ha0)
          have hpx := hid (prev_valid HZK.out ha0)
          clear ha0
          go_wp2_with fail
          all_goals exact ⟨⟨k + 1, by omega, by go_num, hnx, hpx, hx2⟩, by simp [intOf]; omega⟩
        · have hqU : (U == 0) = false := by rw [beq_eq_false_iff_ne]; exact hU0
          obtain ⟨rfl, rfl⟩ : F1 = U ∧ F2 = (k : Int) := by
            have h := look_yes HZK.out hinv.out (by have := HU.out; omega)
            rw [HU.out] at h
            exact h
          clear hU0
          go_wp2_with fail
          go_ret2
          exact ⟨rfl, hx2.1⟩
      · obtain rfl : k = n := by omega
        have hend := hinv.out
        rw [Z.look_end (by rw [List.length_map]; exact hlen.out)] at hend
        go_wp2_with fail
        refine (startPlace_any rs B A k c _ (hr.below hx.1 hB) (hx.up hB) hn).mono ?_
        rintro e w3 ⟨m, rfl, hm, hb3⟩
        have hx3 := hx.next hb3
        clear hx s0 s1 hb3
        obtain ⟨s0, s1⟩ := hx3.cells2
        have hmz := hm.out.neg
        rw [List.length_map, hlen.out] at hmz
        cases hs : Z.seenAt (rs.map RV.z) k with
        | false =>
          rw [if_neg (by simp [hs])] at hend
          obtain ⟨rfl, rfl⟩ := hend.at_
          have hm0 : m < 0 := hmz.2 hs
          clear hend hmz hs hm
          go_wp2_with fail
          go_ret2
          exact ⟨rfl, hx3.1⟩
        | true =>
          rw [if_pos hs] at hend
          have HL2 := hid hend
          have hm0 : 0 ≤ m := by
            rcases Int.lt_or_le m 0 with h | h
            · rw [hmz.1 h] at hs; cases hs
            · exact h
          clear hend hmz hs hm
          go_wp2_with fail
          go_loopw [34] (fun v wr => ∃ i : Nat, i ≤ k ∧ v = .int .i64 i ∧ Hid (IsF (Z.look2 (rs.map RV.z) i) F1 F2) ∧ Held w wr w.heap.size [.string o, .slice A k c]) (fun v _ => k - (intOf v).toNat)
          case atStart => exact ⟨0, Nat.zero_le _, rfl, HL2, hx3⟩
          case round =>
            clear HL2 hinv hpv hx3 s0 s1
            obtain ⟨i, hi, rfl, hinv, hx⟩ := hrel
            obtain ⟨s0, s1⟩ := hx.cells2
            by_cases hlt2 : i < k
            · obtain ⟨ad, r, p, rfl, hp, hab, hrk, hrr, c0, c1, c2, c3, c4, c5⟩ := (hr.below hx.1 hB).at_ hlt2
              have HZK := hid (zat hrk)
              clear hrk hrr
              obtain ⟨rN, rT, rK, rA, rL, rC, rG, rX, rZ⟩ := r
              dsimp only at c0 c1 c2 c3 c4 c5
              replace HZK : Hid ((rs.map RV.z)[i]? = some (⟨lst rN, rT, rK, rZ, lst rG, lst rX⟩ : Z.Rec)) := HZK
              obtain ⟨U, hU⟩ : ∃ U : Int, (Z.pairAt ((rs.map RV.z).take i) (⟨lst rN, rT, rK, rZ, lst rG, lst rX⟩ : Z.Rec) : Int) = U := ⟨_, rfl⟩
              have HU := hid hU
              have HU2 : Hid ((Z.pairAt ((rs.take i).map RV.z) (⟨lst rN, rT, rK, rZ, lst rG, lst rX⟩ : Z.Rec) : Int) = U) := hid (by rw [List.map_take]; exact hU)
              clear hU
              have p1 : 0 ≤ (i : Int) := by omega
              have p2 : (i : Int) < k := by omega
              have p3 : (i : Int) ≤ c := by omega
              have p4 : i ≤ c := by omega
              have hpw : p.block < wr.heap.size := by have := hx.1.size; omega
              have hlx := hx.2.2.1
              have hxa := hx.alloc (.cells #[.string rN, .int .i64 rT, .int .i64 rK, .slice rA rL rC, .string rG, .string rX] 54)
              have hBx := hx.up hB
              go_wp2_with fail
              go_region_with (first | (go_at_call 75; refine (faultBeside_any (rs.take i) B (some ad) i c _ ((hr.take (Nat.le_of_lt hlt2)).below (hxa.drewN 1).1 hB) (by show B ≤ (wr.alloc _).heap.size; simp; omega) (by omega) rN rT rK rA rL rC rG rX rZ U HU2).mono ?_; rintro e w4 ⟨rfl, hb4⟩))
              all_goals have hx2 := (hxa.drewN 1).next hb4
              all_goals clear hx hxa s0 s1 hb4
              all_goals (by_cases hU0 : U = 0)
              all_goals first
                | (subst hU0
                   have hnx := hid (look2_no HZK.out hinv.out (by have := HU.out; omega))
                   go_wp2_with fail
                   all_goals exact ⟨⟨i + 1, by omega, by go_num, hnx, hx2⟩, by simp [intOf]; omega⟩)
                | (have hqU : (U == 0) = false := by rw [beq_eq_false_iff_ne]; exact hU0
                   obtain ⟨rfl, rfl⟩ : F1 = U ∧ F2 = (i : Int) := by
                     have h := look2_yes HZK.out hinv.out (by have := HU.out; omega)
                     rw [HU.out] at h
                     exact h
                   clear hU0
                   go_wp2_with fail
                   go_ret2
                   exact ⟨rfl, hx2.1⟩)
            · obtain rfl : i = k := by omega
              have hend := hinv.out
              rw [Z.look2_end (by rw [List.length_map]; exact hlen.out)] at hend
              obtain ⟨rfl, rfl⟩ := hend.at_
              clear hend
              go_wp2_with fail
              go_ret2
              exact ⟨rfl, hx.1⟩

/-- Is a zone valid? -/
theorem isF_valid {p : Nat × Nat} {F1 F2 : Int} (h : IsF p F1 F2) (v : Bool) (hv : (p.1 == 0) = v) : (F1 == 0) = v := by
  rw [← hv, ← h.1, Bool.eq_iff_iff]
  simp
theorem ZoneValid_any (o : ByteArray) (rs : List RV) (B : Nat) (A : Option Addr) (n c : Nat) (w : World) (hr : Recs w B A n rs) (hB : B ≤ w.heap.size) (hn : n ≤ 67108864) (hf : Hid (∀ r ∈ rs, r.fine)) (ho : o.size ≤ 67108864) (v : Bool) (hv : Hid (Z.zoneValid (lst o) (rs.map RV.z) = v)) :
    Calls Try.prog 29 #[.agg #[.string o, .slice A n c]] w fun e w' => e = .returned (.bool v) ∧ Below w.heap.size w w' := by
  obtain ⟨F1, F2, hF⟩ : ∃ F1 F2, IsF (Z.fault (lst o) (rs.map RV.z)) F1 F2 := ⟨_, _, rfl, rfl⟩
  have hF1 := hid (isF_valid hF v hv.out)
  have HF := hid hF
  have hbox : Below w.heap.size w (w.alloc (.cells #[.string o, .slice A n c] 30)) := (Below.refl _ _).alloc (Nat.le_refl _) _
  clear hF
  go_enter Try.func29, Try.ntmps29
  go_wp2_with fail
  refine (ZoneFault_any o rs B A n c _ (hr.below hbox hB) (by simp; omega) hn hf ho F1 F2 HF).mono ?_
  rintro e w2 ⟨rfl, hb2⟩
  go_wp2_with fail
  go_ret
  exact ⟨ret_bool hF1.out, hbox.trans (hb2.mono (by simp))⟩
theorem iZoneValid_any (o : ByteArray) (rs : List RV) (B : Nat) (A : Option Addr) (n c : Nat) (w : World) (hr : Recs w B A n rs) (hB : B ≤ w.heap.size) (hn : n ≤ 67108864) (hnc : n ≤ c) (hf : Hid (∀ r ∈ rs, r.fine)) (ho : o.size ≤ 67108864) (v : Bool) (hv : Hid (Z.zoneValid (lst o) (rs.map RV.z) = v)) :
    Calls Try.prog 32 #[.agg #[.string o, .slice A n c]] w fun e w' => e = .returned (.bool v) ∧ Below w.heap.size w w' := by
  obtain ⟨F1, F2, hF⟩ : ∃ F1 F2, IsF (Z.fault (lst o) (rs.map RV.z)) F1 F2 := ⟨_, _, rfl, rfl⟩
  have hF1 := hid (isF_valid hF v hv.out)
  have HF := hid hF
  have hbox : Below w.heap.size w (w.alloc (.cells #[.string o, .slice A n c] 30)) := (Below.refl _ _).alloc (Nat.le_refl _) _
  clear hF
  go_enter Try.func32, Try.ntmps32
  go_wp2_with fail
  refine (iZoneFault_any o rs B A n c _ (hr.below hbox hB) (by simp; omega) hn hnc hf ho F1 F2 HF).mono ?_
  rintro e w2 ⟨rfl, hb2⟩
  go_wp2_with fail
  go_ret
  exact ⟨ret_bool hF1.out, hbox.trans (hb2.mono (by simp))⟩
end Go.Proofs.Ytgglakonkphbgaa

/- What ZoneFault and ZoneValid of the model return. -/
import Derived.Test.YtgglakonkphbgaaZc
namespace Go.Proofs.Ytgglakonkphbgaa
open Go.RowKit
set_option maxRecDepth 100000
set_option linter.unusedVariables false
set_option linter.unusedSimpArgs false

theorem l4One_i (o : ByteArray) (rs : List RV) (B : Nat) (A : Option Addr) (n c k : Nat) (w : World) (hr : Recs w B A n rs) (hB : B ≤ w.heap.size) (hn : n ≤ 67108864) (hf : Hid (∀ r ∈ rs, r.fine)) (ho : o.size ≤ 67108864) (hvo : Hid (Z.valid (lst o) = true)) (hk : k < n) (hpv : Hid (∀ q, Z.prevAt (rs.map RV.z) k = some q → Z.recValid q = true)) (x : Z.Rec) (hx : Hid ((rs.map RV.z)[k]? = some x)) (u : Int) (hu : Hid ((Z.one (lst o) (Z.prevAt (rs.map RV.z) k) k x : Int) = u)) :
    Calls Try.prog 69 #[.agg #[.string o, .slice A n c], .int .i64 (k : Int)] w fun e w' => e = .returned (.int .i64 u) ∧ Below w.heap.size w w' := by
  rw [← hu.out]
  exact l4One_any o rs B A n c k w hr hB hn hf ho hvo.out hk hpv x hx _ (hid rfl)
theorem l4Pair_i (rs : List RV) (B : Nat) (A : Option Addr) (n c k : Nat) (w : World) (hr : Recs w B A n rs) (hB : B ≤ w.heap.size) (hn : n ≤ 67108864) (hk : k < n) (x : Z.Rec) (hx : Hid ((rs.map RV.z)[k]? = some x)) (u : Int) (hu : Hid ((Z.pairAt ((rs.map RV.z).take k) x : Int) = u)) :
    Calls Try.prog 70 #[.slice A n c, .int .i64 (k : Int)] w fun e w' => e = .returned (.int .i64 u) ∧ Below w.heap.size w w' := by
  rw [← hu.out]
  exact l4Pair_any rs B A n c k w hr hB hn hk x hx _ (hid rfl)
def IsF (p : Nat × Nat) (F1 F2 : Int) : Prop := (p.1 : Int) = F1 ∧ (p.2 : Int) = F2
theorem IsF.at_ {a b : Nat} {F1 F2 : Int} (h : IsF (a, b) F1 F2) : F1 = a ∧ F2 = b := ⟨h.1.symm, h.2.symm⟩
/-- Whether a start has been seen, as a number. -/
def seenN (zs : List Z.Rec) (k : Nat) : Int := if Z.seenAt zs k = true then 1 else 0
theorem look_yes {o : Z.Str} {zs : List Z.Rec} {k : Nat} {x : Z.Rec} {F1 F2 : Int} (h : zs[k]? = some x) (hl : IsF (Z.look o zs k) F1 F2) (hne : Z.aloneF o zs k x ≠ 0) : F1 = (Z.aloneF o zs k x : Nat) ∧ F2 = (k : Nat) := by
  rw [Z.look_step h, if_pos hne] at hl
  exact hl.at_
theorem look_no {o : Z.Str} {zs : List Z.Rec} {k : Nat} {x : Z.Rec} {F1 F2 : Int} (h : zs[k]? = some x) (hl : IsF (Z.look o zs k) F1 F2) (hne : Z.aloneF o zs k x = 0) : IsF (Z.look o zs (k + 1)) F1 F2 := by
  rwa [Z.look_step h, if_neg (by simp [hne])] at hl
theorem look2_yes {zs : List Z.Rec} {k : Nat} {x : Z.Rec} {F1 F2 : Int} (h : zs[k]? = some x) (hl : IsF (Z.look2 zs k) F1 F2) (hne : Z.pairAt (zs.take k) x ≠ 0) : F1 = (Z.pairAt (zs.take k) x : Nat) ∧ F2 = (k : Nat) := by
  rw [Z.look2_step h, if_pos hne] at hl
  exact hl.at_
theorem look2_no {zs : List Z.Rec} {k : Nat} {x : Z.Rec} {F1 F2 : Int} (h : zs[k]? = some x) (hl : IsF (Z.look2 zs k) F1 F2) (hne : Z.pairAt (zs.take k) x = 0) : IsF (Z.look2 zs (k + 1)) F1 F2 := by
  rwa [Z.look2_step h, if_neg (by simp [hne])] at hl
theorem prev_valid {o : Z.Str} {zs : List Z.Rec} {k : Nat} {x : Z.Rec} (h : zs[k]? = some x) (h0 : Z.aloneF o zs k x = 0) : ∀ q, Z.prevAt zs (k + 1) = some q → Z.recValid q = true := fun q hq => by
  rw [prev_succ h] at hq
  obtain rfl := Option.some.inj hq
  exact (Z.aloneF_valid h0).1

theorem seen_0 {zs : List Z.Rec} {k : Nat} (h : seenN zs k = 0) : Z.seenAt zs k = false := by
  unfold seenN at h
  cases hs : Z.seenAt zs k with
  | false => rfl
  | true => rw [hs] at h; cases h
theorem seen_1 {zs : List Z.Rec} {k : Nat} (h : seenN zs k = 1) : Z.seenAt zs k = true := by
  unfold seenN at h
  cases hs : Z.seenAt zs k with
  | true => rfl
  | false => rw [hs] at h; cases h
theorem seen_next {zs : List Z.Rec} {k : Nat} {x : Z.Rec} {q : Int} (h : zs[k]? = some x) (hq : x.kind = 6 ∨ (x.kind ≠ 6 ∧ seenN zs k = q)) : seenN zs (k + 1) = (if x.kind = 6 then 1 else q) := by
  unfold seenN
  rw [Z.seenAt_succ h]
  rcases hq with h6 | ⟨h6, hq⟩
  · rw [if_pos h6, if_pos (by simp [h6])]
  · rw [if_neg h6, ← hq]
    unfold seenN
    simp [h6]

set_option maxHeartbeats 16000000 in
theorem ZoneFault_any (o : ByteArray) (rs : List RV) (B : Nat) (A : Option Addr) (n c : Nat) (w : World) (hr : Recs w B A n rs) (hB : B ≤ w.heap.size) (hn : n ≤ 67108864) (hf : Hid (∀ r ∈ rs, r.fine)) (ho : o.size ≤ 67108864) (F1 F2 : Int) (hF : Hid (IsF (Z.fault (lst o) (rs.map RV.z)) F1 F2)) :
    Calls Try.prog 50 #[.agg #[.string o, .slice A n c]] w fun e w' => e = .returned (.tuple #[.int .i64 F1, .int .i64 F2]) ∧ Below w.heap.size w w' := by
  have hlen := hid hr.2.1
  have hx0 := Held.box w [.string o, .slice A n c] 30
  obtain ⟨vo, hvo⟩ : ∃ vo, Z.valid (lst o) = vo := ⟨_, rfl⟩
  have HVO := hid hvo
  go_enter Try.func50, Try.ntmps50
  cases vo with
  | false =>
    have h1 := hF.out
    rw [Z.fault_origin hvo] at h1
    obtain ⟨rfl, rfl⟩ := h1.at_
    clear hvo h1
    go_wp2_with fail
    refine (NameValid_eqB o false HVO ho _).mono ?_
    rintro e w1 ⟨rfl, hb1⟩
    go_wp2_with fail
    go_ret2
    exact ⟨rfl, (hx0.next hb1).1⟩
  | true =>
    have h1 := hF.out
    rw [Z.look_start hvo] at h1
    have HL := hid h1
    clear hvo h1
    go_wp2_with fail
    refine (NameValid_eqB o true HVO ho _).mono ?_
    rintro e w1 ⟨rfl, hb1⟩
    have hx1 := hx0.next hb1
    clear hx0 hb1
    go_wp2_with fail
    go_loopw [4, 5] (fun s v wr => ∃ k : Nat, k ≤ n ∧ v = .int .i64 k ∧ (∃ q : Int, s = .int .i64 q ∧ 0 ≤ q ∧ q ≤ 1 ∧ Hid (seenN (rs.map RV.z) k = q)) ∧ Hid (IsF (Z.look (lst o) (rs.map RV.z) k) F1 F2) ∧ Hid (∀ q, Z.prevAt (rs.map RV.z) k = some q → Z.recValid q = true) ∧ Held w wr w.heap.size [.string o, .slice A n c]) (fun _ v _ => n - (intOf v).toNat)
    case atStart => exact ⟨0, Nat.zero_le _, rfl, ⟨0, rfl, by decide, by decide, hid rfl⟩, HL, hid (fun q hq => by cases hq), hx1⟩
    case round =>
      obtain ⟨k, hk, rfl, ⟨q, rfl, hq0, hq1, hsn⟩, hinv, hpv, hx⟩ := hrel
      clear HL hx1
      obtain ⟨s0, s1⟩ := hx.cells2
      by_cases hlt : k < n
      · have h9 := hlt
        clear h9
        obtain ⟨r0, hr0⟩ : ∃ r, rs[k]? = some r := ⟨_, List.getElem?_eq_getElem (by have := hlen.out; omega)⟩
        have HZK := hid (zat hr0)
        obtain ⟨U, hU⟩ : ∃ U : Int, (Z.one (lst o) (Z.prevAt (rs.map RV.z) k) k r0.z : Int) = U := ⟨_, rfl⟩
        have HU := hid hU
        clear hU
        go_wp2_with fail
        refine (l4One_i o rs B A n c k _ (hr.below hx.1 hB) (hx.up hB) hn hf ho HVO hlt hpv r0.z HZK U HU).mono ?_
        rintro e w2 ⟨rfl, hb2⟩
        have hx2 := hx.next hb2
        clear hx s0 s1 hb2
        obtain ⟨s0, s1⟩ := hx2.cells2
        obtain ⟨ad, r, p, rfl, hp, hab, hrk, hrr, c0, c1, c2, c3, c4, c5⟩ := (hr.below hx2.1 hB).at_ hlt
        obtain rfl : r = r0 := Option.some.inj (hrk.symm.trans hr0)
        have p1 : 0 ≤ (k : Int) := by omega
        have p2 : (k : Int) < n := by omega
        clear hrk hr0 hrr c0 c1 c3 c4 c5
        by_cases h6 : r.K = 6
        · have hq6 : (r.K == 6) = true := by rw [beq_iff_eq]; exact h6
          by_cases hU0 : U = 0
          · subst hU0
            have h1 : Z.one (lst o) (Z.prevAt (rs.map RV.z) k) k r.z = 0 := by have := HU.out; omega
            by_cases hq : q = 0
            · subst hq
              have hsee : Z.seenAt (rs.map RV.z) k = false := seen_0 hsn.out
              have ha0 : Z.aloneF (lst o) (rs.map RV.z) k r.z = 0 := by unfold Z.aloneF; rw [if_neg (by simp [h1]), if_neg (by simp [hsee])]
              have hnx := hid (look_no HZK.out hinv.out ha0)
              have hpx := hid (prev_valid HZK.out ha0)
              have hs9 : Hid (seenN (rs.map RV.z) (k + 1) = 1) := hid ((seen_next (q := 0) HZK.out (Or.inl h6)).trans (if_pos h6))
              clear h1 hsee ha0 h6
              go_wp2_with fail
              all_goals exact ⟨⟨k + 1, by omega, by go_num, ⟨1, rfl, by omega, by omega, hs9⟩, hnx, hpx, hx2⟩, by simp [intOf]; omega⟩
            · obtain rfl : q = 1 := by omega
              have hsee : Z.seenAt (rs.map RV.z) k = true := seen_1 hsn.out
              have ha5 : Z.aloneF (lst o) (rs.map RV.z) k r.z = 5 := by unfold Z.aloneF; rw [if_neg (by simp [h1]), if_pos ⟨h6, hsee⟩]
              obtain ⟨rfl, rfl⟩ : F1 = 5 ∧ F2 = (k : Int) := by have h := look_yes HZK.out hinv.out (by rw [ha5]; decide); rwa [ha5] at h
              clear h1 hsee ha5 h6 hq
              go_wp2_with fail
              go_ret2
              exact ⟨rfl, hx2.1⟩
          · have hqU : (U == 0) = false := by rw [beq_eq_false_iff_ne]; exact hU0
            have h1 : Z.one (lst o) (Z.prevAt (rs.map RV.z) k) k r.z ≠ 0 := by have := HU.out; omega
            have haU : Z.aloneF (lst o) (rs.map RV.z) k r.z = Z.one (lst o) (Z.prevAt (rs.map RV.z) k) k r.z := by unfold Z.aloneF; rw [if_pos h1]
            obtain ⟨rfl, rfl⟩ : F1 = U ∧ F2 = (k : Int) := by have h := look_yes HZK.out hinv.out (by rw [haU]; exact h1); rw [haU, HU.out] at h; exact h
            clear h1 haU h6 hU0
            go_wp2_with fail
            go_ret2
            exact ⟨rfl, hx2.1⟩
        · have hq6 : (r.K == 6) = false := by rw [beq_eq_false_iff_ne]; exact h6
          by_cases hU0 : U = 0
          · subst hU0
            have h1 : Z.one (lst o) (Z.prevAt (rs.map RV.z) k) k r.z = 0 := by have := HU.out; omega
            have ha0 : Z.aloneF (lst o) (rs.map RV.z) k r.z = 0 := by unfold Z.aloneF; rw [if_neg (by simp [h1]), if_neg (fun h => h6 h.1)]
            have hnx := hid (look_no HZK.out hinv.out ha0)
            have hpx := hid (prev_valid HZK.out ha0)
            have hs9 : Hid (seenN (rs.map RV.z) (k + 1) = q) := hid ((seen_next (q := q) HZK.out (Or.inr ⟨h6, hsn.out⟩)).trans (if_neg h6))
            have hq2 : ¬ 1 < q := by omega
            clear h1 ha0 h6
            go_wp2_with fail
            all_goals exact ⟨⟨k + 1, by omega, by go_num, ⟨q, rfl, by omega, by omega, hs9⟩, hnx, hpx, hx2⟩, by simp [intOf]; omega⟩
          · have hqU : (U == 0) = false := by rw [beq_eq_false_iff_ne]; exact hU0
            have h1 : Z.one (lst o) (Z.prevAt (rs.map RV.z) k) k r.z ≠ 0 := by have := HU.out; omega
            have haU : Z.aloneF (lst o) (rs.map RV.z) k r.z = Z.one (lst o) (Z.prevAt (rs.map RV.z) k) k r.z := by unfold Z.aloneF; rw [if_pos h1]
            obtain ⟨rfl, rfl⟩ : F1 = U ∧ F2 = (k : Int) := by have h := look_yes HZK.out hinv.out (by rw [haU]; exact h1); rw [haU, HU.out] at h; exact h
            clear h1 haU h6 hU0
            go_wp2_with fail
            go_ret2
            exact ⟨rfl, hx2.1⟩
      · obtain rfl : k = n := by omega
        have hend := hinv.out
        rw [Z.look_end (by rw [List.length_map]; exact hlen.out)] at hend
        by_cases hq : q = 0
        · subst hq
          rw [if_neg (by simp [seen_0 hsn.out])] at hend
          obtain ⟨rfl, rfl⟩ := hend.at_
          clear hend
          go_wp2_with fail
          go_ret2
          exact ⟨rfl, hx.1⟩
        · obtain rfl : q = 1 := by omega
          rw [if_pos (seen_1 hsn.out)] at hend
          have HL2 := hid hend
          clear hend hq
          go_wp2_with fail
          go_loopw [7] (fun v wr => ∃ i : Nat, i ≤ k ∧ v = .int .i64 i ∧ Hid (IsF (Z.look2 (rs.map RV.z) i) F1 F2) ∧ Held w wr w.heap.size [.string o, .slice A k c]) (fun v _ => k - (intOf v).toNat)
          case atStart => exact ⟨0, Nat.zero_le _, rfl, HL2, hx⟩
          case round =>
            clear HL2 hinv hpv hx s0 s1
            obtain ⟨i, hi, rfl, hinv, hx⟩ := hrel
            obtain ⟨s0, s1⟩ := hx.cells2
            by_cases hlt2 : i < k
            · obtain ⟨r0, hr0⟩ : ∃ r, rs[i]? = some r := ⟨_, List.getElem?_eq_getElem (by have := hlen.out; omega)⟩
              have HZK := hid (zat hr0)
              obtain ⟨U, hU⟩ : ∃ U : Int, (Z.pairAt ((rs.map RV.z).take i) r0.z : Int) = U := ⟨_, rfl⟩
              have HU := hid hU
              clear hU
              go_wp2_with fail
              refine (l4Pair_i rs B A k c i _ (hr.below hx.1 hB) (hx.up hB) hn hlt2 r0.z HZK U HU).mono ?_
              rintro e w2 ⟨rfl, hb2⟩
              have hx2 := hx.next hb2
              clear hx s0 s1 hb2 hr0
              by_cases hU0 : U = 0
              · subst hU0
                have hnx := hid (look2_no HZK.out hinv.out (by have := HU.out; omega))
                go_wp2_with fail
                all_goals exact ⟨⟨i + 1, by omega, by go_num, hnx, hx2⟩, by simp [intOf]; omega⟩
              · have hqU : (U == 0) = false := by rw [beq_eq_false_iff_ne]; exact hU0
                obtain ⟨rfl, rfl⟩ : F1 = U ∧ F2 = (i : Int) := by
                  have h := look2_yes HZK.out hinv.out (by have := HU.out; omega)
                  rw [HU.out] at h
                  exact h
                clear hU0
                go_wp2_with fail
                go_ret2
                exact ⟨rfl, hx2.1⟩
            · obtain rfl : i = k := by omega
              have hend := hinv.out
              rw [Z.look2_end (by rw [List.length_map]; exact hlen.out)] at hend
              obtain ⟨rfl, rfl⟩ := hend.at_
              clear hend
              go_wp2_with fail
              go_ret2
              exact ⟨rfl, hx.1⟩
end Go.Proofs.Ytgglakonkphbgaa

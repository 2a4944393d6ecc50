/- The scanner of master files: what readRecord does with a line that has a name. -/
import Derived.Test.YtpgeeeamcncpkaaGreatDoorSw
namespace Go.Proofs.YtpgeeeamcncpkaaGreatDoor
open Go.RowKit
set_option maxRecDepth 100000
set_option linter.unusedVariables false
set_option linter.unusedSimpArgs false

set_option maxHeartbeats 16000000 in
theorem rr_n (W0 : World) (hm : MX W0) (hk : KT W0) (b : Nat) (hb0 : W0.heap.size ≤ b) (o ow : ByteArray) (t l : Int) (A : Option Addr) (c : Nat) (LV : Value) (os : List RV) (w : World) (h0 : Below W0.heap.size W0 w) (fa : Z.Str) (fs : List Z.Str) (hs : Blk w b TS [.string o, .int .i64 t, .string ow, .int .i64 l, .slice A (fa :: fs).length c, LV]) (hf : Flds b w A c (fa :: fs)) (hL : Lst b w LV os) (hos : os.length ≤ 60)
    (ho : o.size ≤ 67108860) (how : ow.size ≤ 67108860) (hsz : Hid (∀ f ∈ (fa :: fs), f.length ≤ 67108860)) (hql : (fa :: fs).length ≤ 67108860) (na : ByteArray) (hna : Hid (bs ((Z.readName fa (lst o)).getD []) = na)) (hnb : Hid ((Z.readName fa (lst o)).isSome = true)) (hns : na.size ≤ 67108860) :
    Calls Tryz.prog 148 #[.pointer (some ⟨b, 0, none⟩), .bool true] w (LineOut b l os w ((Z.recOf (lst o) t (lst na) fs).bind fun r => if os.length < 60 then some (⟨lst o, t, lst na⟩, some r) else none)) := by
  have hMX : ∀ w', FarB b w w' → MX w' := fun w' h => hm.below (h0.trans (h.below.mono hb0))
  have hKT : ∀ w', FarB b w w' → KT w' := fun w' h => hk.below (h0.trans (h.below.mono hb0))
  obtain ⟨i0, hi0, iz0, iz1, iz2⟩ := info_parts infoRec
  have hr := FarB.refl b w
  obtain ⟨LA, Lc, rfl⟩ := hL.slice
  obtain ⟨RS, hRS⟩ : ∃ RS : Option (Z.St × Option Z.Rec), ((Z.recOf (lst o) t (lst na) fs).bind fun r => if os.length < 60 then some (⟨lst o, t, lst na⟩, some r) else none) = RS := ⟨_, rfl⟩
  rw [hRS]
  have HRS := hid hRS
  clear hRS
  go_enter Tryz.func148, Tryz.ntmps148
  go_upto_if 12 with fail
  go_cut [] from 12 (fun wc => ∃ (A1 : Option Addr) (c1 : Nat), Blk wc b TS [.string o, .int .i64 t, .string na, .int .i64 l, .slice A1 fs.length c1, .slice LA os.length Lc] ∧ Flds b wc A1 c1 fs ∧ FarB b w wc)
  case first =>
    obtain ⟨d0, d1, d2, d3, d4, d5⟩ := hs.cells6
    have hsd := hs.drew
    have hfd : Flds b w.drew A c (fa :: fs) := hf
    have HSF := hsz.out fa (by simp)
    clear hf hs hL
    go_wp2_with fail
    go_region_with (first
      | (go_at_call 171; refine (next_some b o ow t l _ _ _ _ fa fs hsd hfd).mono ?_; rintro e w1 ⟨ya, A1, c1, rfl, hya, hs1, hf1, k1⟩; obtain ⟨d0, d1, d2, d3, d4, d5⟩ := hs1.cells6)
      | (go_at_call 48; refine (iReadName_v ya o (by have := congrArg List.length hya; rw [lst_length] at this; omega) (by omega) na true (by rw [hya]; exact hna) (by rw [hya]; exact hnb) _).mono ?_; rintro e w2 ⟨rfl, hb2⟩))
    all_goals have hlt2 := Nat.le_of_lt hs1.lt
    all_goals have hr2 := (hr.drew.trans k1).trans (FarB.of hb2 hlt2)
    all_goals have hs2 := hs1.next hb2
    all_goals have hf2 := hf1.below hb2
    all_goals clear hsd hfd hs1 hf1 k1 d0 d1 d2 d3 d4 d5 hya hb2 hlt2
    all_goals obtain ⟨d0, d1, d2, d3, d4, d5⟩ := hs2.cells6
    all_goals obtain ⟨f0, f1, f2, f3, f4, f5⟩ := hs2.free6
    all_goals go_wp2_with fail
    all_goals refine (need_yes ⟨b, 0, none⟩ _).mono ?_
    all_goals rintro e w3 ⟨rfl, rfl⟩
    all_goals go_wp2
    all_goals go_meet
    all_goals exact ⟨_, _, hs2.put 2 (.string na), hf2.far (FarB.put b w2 2 (.string na)), hr2.trans (FarB.put b w2 2 (.string na))⟩
  case rest =>
  obtain ⟨A1, c1, hs1, hf1, hr1⟩ := hcut
  rename World => wn
  clear hs hf hr
  have hs := hs1
  have hf := hf1
  have hr := hr1
  clear hs1 hf1 hr1
  obtain ⟨d0, d1, d2, d3, d4, d5⟩ := hs.cells6
  have hgb : wn.heap.size ≠ b := by have := hs.lt; omega
  have hwg : w.heap.size ≤ wn.heap.size := hr.size
  have hbg : b ≤ wn.heap.size := Nat.le_of_lt hs.lt
  have HGB := hid hgb
  have hx := (Blk.new wn 25 [.string na, .int .i64 t, .int .i64 0, .slice none 0 0, .string ⟨#[]⟩, .string ⟨#[]⟩]).drew
  have hr0 := (hr.alloc hbg (.cells #[.string na, .int .i64 t, .int .i64 0, .slice none 0 0, .string ⟨#[]⟩, .string ⟨#[]⟩] 25)).drew
  have hf0 := (hf.below ((Below.refl wn.heap.size wn).alloc (Nat.le_refl _) (.cells #[.string na, .int .i64 t, .int .i64 0, .slice none 0 0, .string ⟨#[]⟩, .string ⟨#[]⟩] 25))).drew
  have hs0 := (hs.alloc (.cells #[.string na, .int .i64 t, .int .i64 0, .slice none 0 0, .string ⟨#[]⟩, .string ⟨#[]⟩] 25)).drew
  have hz9 := (hs.alloc (.cells #[.string ⟨#[]⟩, .int .i64 0, .int .i64 0, .slice none 0 0, .string ⟨#[]⟩, .string ⟨#[]⟩] 25)).drew
  obtain ⟨e0, e1, e2, e3, e4, e5⟩ := hz9.cells6
  go_wp2_with fail
  go_region
  obtain ⟨wa, hwa⟩ : ∃ wa, (wn.alloc (.cells #[.string na, .int .i64 t, .int .i64 0, .slice none 0 0, .string ⟨#[]⟩, .string ⟨#[]⟩] 25)).drew = wa := ⟨_, rfl⟩
  rw [hwa] at hx hr0 hf0 hs0 ⊢
  clear hwa d0 d1 d2 d3 d4 d5 e0 e1 e2 e3 e4 e5 hz9 hs hf hr
  have hs := hs0
  have hf := hf0
  have hr := hr0
  clear hs0 hf0 hr0
  obtain ⟨d0, d1, d2, d3, d4, d5⟩ := hs.cells6
  cases fs with
  | nil =>
    go_wp2_with fail
    refine (next_none b o na t l _ _ _ _ hs).mono ?_
    rintro e w10 ⟨rfl, rfl⟩
    go_wp2
    exact ⟨rfl, line_panic (by rw [← HRS.out]; rfl) hr hs⟩
  | cons f r1 =>
    have HSZ : Hid (∀ x ∈ f :: r1, x.length ≤ 67108860) := hid (fun x hx => hsz.out x (List.mem_cons_of_mem _ hx))
    have hq1 : r1.length ≤ 67108860 := by simp at hql; omega
    have hsf := HSZ.out f (by simp)
    have HS1 := hid (show ∀ x ∈ r1, x.length ≤ 67108860 from fun x hx => HSZ.out x (List.mem_cons_of_mem _ hx))
    go_wp2_with fail
    refine (next_some b o na t l _ _ _ _ f r1 hs hf).mono ?_
    rintro e w10 ⟨z1, A10, c10, rfl, hz1, hs10, hf10, k10⟩
    have hr10 := hr.trans k10
    have hx10 := k10.keep _ _ _ hgb hx
    rw [← hz1, lst_length] at hsf
    clear hs hf hr hx k10 d0 d1 d2 d3 d4 d5
    have hs := hs10
    have hf := hf10
    have hr := hr10
    have hx := hx10
    clear hs10 hf10 hr10 hx10
    obtain ⟨n, hn⟩ : ∃ n, (Z.readNum f 100000).getD 0 = n := ⟨_, rfl⟩
    obtain ⟨ok, hok⟩ : ∃ ok, (Z.readNum f 100000).isSome = ok := ⟨_, rfl⟩
    have HN := hid hn
    have HT := hid hok
    clear hn hok
    go_wp2_with fail
    refine (readNumber_v z1 (by omega) 100000 (by omega) (by omega) n ok (by rw [hz1]; exact HN) (by rw [hz1]; exact HT) _).mono ?_
    rintro e v1 ⟨rfl, rfl⟩
    go_upto_if 50 with fail
    go_cut [7] from 45 (fun v7 wc => ∃ (z : ByteArray) (T : Int) (A9 : Option Addr) (c9 : Nat) (q : List Z.Str), v7 = .string z ∧ z.size ≤ 67108860 ∧ Blk wc b TS [.string o, .int .i64 t, .string na, .int .i64 l, .slice A9 q.length c9, .slice LA os.length Lc] ∧ Flds b wc A9 c9 q ∧ FarB b w wc ∧ Blk wc wn.heap.size TR [.string na, .int .i64 T, .int .i64 0, .slice none 0 0, .string ⟨#[]⟩, .string ⟨#[]⟩] ∧ Hid (∀ x ∈ q, x.length ≤ 67108860) ∧ q.length ≤ 67108860 ∧ Hid (Z.recOf (lst o) t (lst na) (f :: r1) = Z.recWord (lst o) (lst na) T (lst z) q))
    case first =>
      cases ok with
      | false =>
        have HE := hid (show Z.recOf (lst o) t (lst na) (f :: r1) = Z.recWord (lst o) (lst na) t (lst z1) r1 by
          have h9 : Z.readNum f 100000 = none := by
            cases h : Z.readNum f 100000 with
            | none => rfl
            | some m => have := HT.out; rw [h] at this; cases this
          unfold Z.recOf
          simp only [h9]
          rw [hz1])
        go_wp2
        go_meet
        exact ⟨z1, t, _, _, r1, rfl, hsf, hs, hf, hr, hx, HS1, hq1, HE⟩
      | true =>
        have h9 : Z.readNum f 100000 = some n := by
          cases h : Z.readNum f 100000 with
          | none => have := HT.out; rw [h] at this; cases this
          | some m => have := HN.out; rw [h] at this; exact congrArg some this
        obtain ⟨x0, x1, x2, x3, x4, x5⟩ := hx.cells6
        obtain ⟨y0, y1, y2, y3, y4, y5⟩ := hx.free6
        have hx9 := hx.put 1 (.int .i64 n)
        have hr9 := hr.putNew hwg hbg 1 (.int .i64 n)
        have hf9 := hf.put hx 1 (.int .i64 n)
        have hs9 := hs.far (p := ⟨wn.heap.size, 1, none⟩) hgb.symm (.int .i64 n)
        clear hs hf hr hx
        cases r1 with
        | nil =>
          have HE := hid (show Z.recOf (lst o) t (lst na) [f] = none by unfold Z.recOf; simp only [h9])
          clear h9
          go_wp2_with fail
          refine (next_none b o na t l _ _ _ _ hs9).mono ?_
          rintro e w11 ⟨rfl, rfl⟩
          go_wp2
          exact ⟨rfl, line_panic (by rw [← HRS.out, HE.out]; rfl) hr9 hs9⟩
        | cons g r2 =>
          have HE := hid (show Z.recOf (lst o) t (lst na) (f :: g :: r2) = Z.recWord (lst o) (lst na) n g r2 by unfold Z.recOf; simp only [h9])
          have hsg := HS1.out g (by simp)
          have HS2 := hid (show ∀ x ∈ r2, x.length ≤ 67108860 from fun x hx => HS1.out x (List.mem_cons_of_mem _ hx))
          have hq2 : r2.length ≤ 67108860 := by simp at hq1; omega
          clear h9
          go_wp2_with fail
          refine (next_some b o na t l _ _ _ _ g r2 hs9 hf9).mono ?_
          rintro e w11 ⟨z2, A11, c11, rfl, hz2, hs11, hf11, k11⟩
          rw [← hz2, lst_length] at hsg
          go_wp2
          go_meet
          exact ⟨z2, n, _, _, r2, rfl, hsg, hs11, hf11, hr9.trans k11, k11.keep _ _ _ hgb hx9, HS2, hq2, by rw [hz2]; exact HE⟩
    case rest =>
    obtain ⟨z, T, A9, c9, q, rfl, hsz9, hs9, hf9, hr9, hx9, HSQ9, hq9, HE9⟩ := hcut
    rename World => wd
    clear hs hf hr hx HN HT hz1 hsf HS1 hq1
    go_upto_if 56 with fail
    go_cut [7] from 55 (fun v7 wc => ∃ (y : ByteArray) (A8 : Option Addr) (c8 : Nat) (p : List Z.Str), v7 = .string y ∧ y.size ≤ 67108860 ∧ Blk wc b TS [.string o, .int .i64 t, .string na, .int .i64 l, .slice A8 p.length c8, .slice LA os.length Lc] ∧ Flds b wc A8 c8 p ∧ FarB b w wc ∧ Blk wc wn.heap.size TR [.string na, .int .i64 T, .int .i64 0, .slice none 0 0, .string ⟨#[]⟩, .string ⟨#[]⟩] ∧ Hid (∀ x ∈ p, x.length ≤ 67108860) ∧ p.length ≤ 67108860 ∧ Hid (Z.recOf (lst o) t (lst na) (f :: r1) = Z.recKind (lst o) (lst na) T (lst y) p))
    case first =>
      by_cases hi : lst z = Z.inWord
      · have qi : (z.toList == [73, 78]) = true := word_true hi
        simp only [qi]
        obtain ⟨d0, d1, d2, d3, d4, d5⟩ := hs9.cells6
        cases q with
        | nil =>
          have HE := hid (show Z.recOf (lst o) t (lst na) (f :: r1) = none by rw [HE9.out]; unfold Z.recWord; rw [if_pos hi])
          clear hi
          go_wp2_with fail
          refine (next_none b o na t l _ _ _ _ hs9).mono ?_
          rintro e w11 ⟨rfl, rfl⟩
          go_wp2
          exact ⟨rfl, line_panic (by rw [← HRS.out, HE.out]; rfl) hr9 hs9⟩
        | cons g r2 =>
          have HE := hid (show Z.recOf (lst o) t (lst na) (f :: r1) = Z.recKind (lst o) (lst na) T g r2 by rw [HE9.out]; unfold Z.recWord; rw [if_pos hi])
          have hsg := HSQ9.out g (by simp)
          have HS2 := hid (show ∀ x ∈ r2, x.length ≤ 67108860 from fun x hx => HSQ9.out x (List.mem_cons_of_mem _ hx))
          have hq2 : r2.length ≤ 67108860 := by simp at hq9; omega
          clear hi
          go_wp2_with fail
          refine (next_some b o na t l _ _ _ _ g r2 hs9 hf9).mono ?_
          rintro e w11 ⟨z2, A11, c11, rfl, hz2, hs11, hf11, k11⟩
          rw [← hz2, lst_length] at hsg
          go_wp2
          go_meet
          exact ⟨z2, _, _, r2, rfl, hsg, hs11, hf11, hr9.trans k11, k11.keep _ _ _ hgb hx9, HS2, hq2, by rw [hz2]; exact HE⟩
      · have qi : (z.toList == [73, 78]) = false := word_false hi
        simp only [qi]
        have HE := hid (show Z.recOf (lst o) t (lst na) (f :: r1) = Z.recKind (lst o) (lst na) T (lst z) q by rw [HE9.out]; unfold Z.recWord; rw [if_neg hi])
        clear hi
        go_wp2
        go_meet
        exact ⟨z, _, _, q, rfl, hsz9, hs9, hf9, hr9, hx9, HSQ9, hq9, HE⟩
    case rest =>
    obtain ⟨y, A8, c8, p, rfl, hsz8, hs, hf, hr, hx, HSP, hqp, HE⟩ := hcut
    rename World => we
    clear hs9 hf9 hr9 hx9 HSQ9 hq9 HE9 hsz9
    obtain ⟨d0, d1, d2, d3, d4, d5⟩ := hs.cells6
    obtain ⟨x0, x1, x2, x3, x4, x5⟩ := hx.cells6
    obtain ⟨y0, y1, y2, y3, y4, y5⟩ := hx.free6
    cases hkk : Z.kindOf (lst y) with
    | none =>
      have HKK := hid (show Z.kindOf (lst y) = none by exact hkk)
      go_wp2_with fail
      refine (iKindOf_none y HKK _ (hKT _ hr)).mono ?_
      rintro e vv1 ⟨rfl, hb1⟩
      have hr1 := hr.trans (FarB.of hb1 (Nat.le_of_lt hs.lt))
      have hs1 := hs.next hb1
      clear d0 d1 d2 d3 d4 d5 x0 x1 x2 x3 x4 x5 y0 y1 y2 y3 y4 y5
      obtain ⟨d0, d1, d2, d3, d4, d5⟩ := hs1.cells6
      go_wp2_with fail
      refine (need_no b l _ d3).mono ?_
      rintro e vv2 ⟨rfl, rfl⟩
      go_wp2
      exact ⟨rfl, line_panic (by rw [← HRS.out, HE.out]; unfold Z.recKind; rw [hkk]; rfl) hr1 hs1⟩
    | some k =>
      have HKK := hid (show Z.kindOf (lst y) = some k by exact hkk)
      go_wp2_with fail
      refine (iKindOf_some y HKK _ (hKT _ hr)).mono ?_
      rintro e vv1 ⟨rfl, hb1⟩
      have hr1 := hr.trans (FarB.of hb1 (Nat.le_of_lt hs.lt))
      have hs1 := hs.next hb1
      have hf1 := hf.below hb1
      have hx1 := hx.next hb1
      clear d0 d1 d2 d3 d4 d5 x0 x1 x2 x3 x4 x5 y0 y1 y2 y3 y4 y5
      clear hs hf hr hx hb1
      have hs := hs1
      have hf := hf1
      have hr := hr1
      have hx := hx1
      clear hs1 hf1 hr1 hx1
      obtain ⟨d0, d1, d2, d3, d4, d5⟩ := hs.cells6
      obtain ⟨x0, x1, x2, x3, x4, x5⟩ := hx.cells6
      obtain ⟨y0, y1, y2, y3, y4, y5⟩ := hx.free6
      go_wp2_with fail
      refine (need_yes ⟨b, 0, none⟩ _).mono ?_
      rintro e vv2 ⟨rfl, rfl⟩
      have hx9 := (hx.put 2 (.int .i64 k)).drew
      have hr9 := (hr.putNew hwg hbg 2 (.int .i64 k)).drew
      have hf9 := (hf.put hx 2 (.int .i64 k)).drew
      have hs9 := (hs.far (p := ⟨wn.heap.size, 2, none⟩) hgb.symm (.int .i64 k)).drew
      obtain ⟨res, hres⟩ : ∃ res, Z.readData (lst na) T k p (lst o) = res := ⟨_, rfl⟩
      obtain ⟨ok, hok⟩ : ∃ ok, res.isSome = ok := ⟨_, rfl⟩
      have HRES := hid hres
      have HOK := hid hok
      have HSQ : Hid (∀ f ∈ p, f.length ≤ 67108863) := hid (fun f hf => by have := HSP.out f hf; omega)
      have HR2 : Hid (RS = res.bind (fun r => if os.length < 60 then some ((⟨lst o, t, lst na⟩ : Z.St), some r) else none)) := hid (by rw [← HRS.out, HE.out]; unfold Z.recKind; rw [hkk, ← hres]; rfl)
      clear hres hok
      have hrd := hf9.reads
      have hcq := hf9.1
      have hMX9 := hMX _ hr9
      have HGB := hid hgb
      have hgl := hx.lt
      clear hs hf hr hx
      go_upto_region 15 with fail
      obtain ⟨W4, hW4⟩ : ∃ W4, vv1.setCell ⟨wn.heap.size, 2, none⟩ (.int .i64 k) = W4 := ⟨_, rfl⟩
      rw [hW4] at hx9 hs9 hr9 hf9 hrd hMX9 ⊢
      clear hW4 d0 d1 d2 d3 d4 d5 x0 x1 x2 x3 x4 x5 y0 y1 y2 y3 y4 y5
      obtain ⟨c0, c1', c2, c3, c4, c5⟩ := hs9.cells6
      obtain ⟨g0, g1, g2, g3, g4, g5⟩ := hx9.cells6
      go_cut [11] from 64 (fun okv wc => okv = .bool ok ∧ ∃ (N : ByteArray) (T9 K9 : Int) (A9 : Option Addr) (L9 C9 : Nat) (G9 X9 : ByteArray) (ns : List Int), Blk wc wn.heap.size TR [.string N, .int .i64 T9, .int .i64 K9, .slice A9 L9 C9, .string G9, .string X9] ∧ Blk wc b TS [.string o, .int .i64 t, .string na, .int .i64 l, .slice A8 p.length c8, .slice LA os.length Lc] ∧ wc.ownsRow (b + 1) 3 1 (.slice A9 L9 C9) L9 (ns.map iv) ∧ FarB b w wc ∧ res.getD noRec = ⟨lst N, T9, K9, ns, lst G9, lst X9⟩)
      case first =>
        go_wp2_with fail
        go_region_with (first
          | (go_at_call 15; refine (iReadData_s na T k none 0 0 ⟨#[]⟩ ⟨#[]⟩ p _ _ _ o _ hMX9 hrd (Nat.le_refl _) hcq (by omega) (by omega) (by omega) HSQ res HRES ok HOK).mono ?_; rintro e vv3 ⟨N, T9, K9, A9, L9, C9, G9, X9, ns, rfl, hown, hq9, hl9, hb3⟩; have hs3 := hs9.next hb3; have hx3 := hx9.next hb3; obtain ⟨m0, m1, m2, m3, m4, m5⟩ := hx3.cells6; obtain ⟨v0, v1, v2, v3, v4, v5⟩ := hx3.free6))
        all_goals have hr3 := hr9.trans (FarB.of hb3 (Nat.le_of_lt hs9.lt))
        all_goals have hl3 := hx9.lt
        all_goals clear c0 c1' c2 c3 c4 c5 g0 g1 g2 g3 g4 g5 m0 m1 m2 m3 m4 m5
        all_goals have hx4 := six_set hx3 (.string N) (.int .i64 T9) (.int .i64 K9) (.slice A9 L9 C9) (.string G9) (.string X9)
        all_goals have hs4 := six_apart hs3 (g := wn.heap.size) HGB.out.symm (.string N) (.int .i64 T9) (.int .i64 K9) (.slice A9 L9 C9) (.string G9) (.string X9)
        all_goals have hown4 := six_own hown (g := wn.heap.size) hl3 (.string N) (.int .i64 T9) (.int .i64 K9) (.slice A9 L9 C9) (.string G9) (.string X9)
        all_goals have hr4 := (((((hr3.putNew hwg hbg 0 (.string N)).putNew hwg hbg 1 (.int .i64 T9)).putNew hwg hbg 2 (.int .i64 K9)).putNew hwg hbg 3 (.slice A9 L9 C9)).putNew hwg hbg 4 (.string G9)).putNew hwg hbg 5 (.string X9)
        all_goals have hown5 := own_mono hown4 (show b + 1 ≤ _ from by have := HGB.out; omega)
        all_goals go_wp2
        all_goals go_meet
        all_goals exact ⟨rfl, N, T9, K9, A9, L9, C9, G9, X9, ns, hx4, hs4, hown5, hr4, hq9⟩
      case rest =>
      obtain ⟨rfl, N, T9, K9, A9, L9, C9, G9, X9, ns, hx4, hs4, hown5, hr4, hq9⟩ := hcut
      rename World => W5
      clear hx9 hs9 hf9 hr9 hrd hMX9 c0 c1' c2 c3 c4 c5 g0 g1 g2 g3 g4 g5
      have hL5 := hL.far hr4
      obtain ⟨d0, d1, d2, d3, d4, d5⟩ := hs4.cells6
      cases res with
      | none =>
          obtain rfl : ok = false := HOK.out.symm
          go_wp2_with fail
          refine (need_no b l _ d3).mono ?_
          rintro e vv4 ⟨rfl, rfl⟩
          go_wp2
          exact ⟨rfl, line_panic (by rw [HR2.out]; rfl) hr4 hs4⟩
      | some r =>
          obtain rfl : ok = true := HOK.out.symm
          have hr9 : r = (⟨lst N, T9, K9, ns, lst G9, lst X9⟩ : Z.Rec) := hq9
          by_cases h60 : os.length < 60
          · have q60 : (os.length : Int) < 60 := by omega
            have HRR : (some r).bind (fun r => if os.length < 60 then some ((⟨lst o, t, lst na⟩ : Z.St), some r) else none) = some (⟨lst o, t, lst na⟩, some (RV.z ⟨N, T9, K9, A9, L9, C9, G9, X9, ns⟩)) := by rw [hr9]; simp [h60, RV.z]
            go_wp2_with fail
            refine (need_yes ⟨b, 0, none⟩ _).mono ?_
            rintro e vv4 ⟨rfl, rfl⟩
            obtain ⟨x0, x1, x2, x3, x4, x5⟩ := hx4.cells6
            obtain ⟨f0, f1, f2, f3, f4, f5⟩ := hs4.free6
            obtain ⟨e0, e1, e2, e3, e4, e5⟩ := (hs4.alloc (.cells #[.string N, .int .i64 T9, .int .i64 K9, .slice A9 L9 C9, .string G9, .string X9] 25)).cells6
            obtain ⟨m0, m1, m2, m3, m4, m5⟩ := (hx4.alloc (.cells #[.string N, .int .i64 T9, .int .i64 K9, .slice A9 L9 C9, .string G9, .string X9] 25)).cells6
            go_wp2_with fail
            go_region_law (first
              | (refine step_append_lies _ (by rfl) (.tmp 98) (.tmp 100) 50 (by rfl) (b + 1) 25 i0 _ 6 88 Tryz.underlying50 hi0 iz0 iz1 iz2 rfl (by omega) (.slice LA os.length Lc) os.length (flat os) (by rfl) (by first | exact hL5.1.alloc _ | exact (hL5.1.alloc _).drew) ⟨W5.heap.size, 0, none⟩ 1 1 [.string N, .int .i64 T9, .int .i64 K9, .slice A9 L9 C9, .string G9, .string X9] (by rfl) (by rfl) (World.news_of_block (cs := #[.string N, .int .i64 T9, .int .i64 K9, .slice A9 L9 C9, .string G9, .string X9]) (t := 25) (fr := (0, 0)) (heap_alloc_new W5 _)) (by simp [Value.oneCell']) (by omega) (by unfold maxLen; omega) (by omega) (by have := hs4.lt; simp; omega) (W5.heap.size + 1) (by simp) ?_; intro gg cap w7 hown7 hgrow hat hlt; have hgr : (W5.alloc (.cells #[.string N, .int .i64 T9, .int .i64 K9, .slice A9 L9 C9, .string G9, .string X9] 25)).grownBy w7 (Value.ownBlock (.slice LA os.length Lc)) := (by first | exact hgrow | exact ⟨hgrow.os, hgrow.tape, hgrow.output, hgrow.size, hgrow.block⟩); have hs7 := grown_other hL5 (x := ⟨N, T9, K9, A9, L9, C9, G9, X9, ns⟩) hgr TSR hs4; obtain ⟨d0, d1, d2, d3, d4, d5⟩ := hs7.cells6; obtain ⟨f0, f1, f2, f3, f4, f5⟩ := hs7.free6))
            all_goals go_wp2
            all_goals go_end0
            all_goals exact line_done (by rw [HR2.out]; exact HRR) (took (x := ⟨N, T9, K9, A9, L9, C9, G9, X9, ns⟩) hL5 hr4 hs4 hown5 hown7 hgr)
          · have q60 : ¬ (os.length : Int) < 60 := by omega
            have HRR : (some r).bind (fun r => if os.length < 60 then some ((⟨lst o, t, lst na⟩ : Z.St), some r) else none) = none := by simp [h60]
            go_wp2_with fail
            refine (need_no b l _ d3).mono ?_
            rintro e vv4 ⟨rfl, rfl⟩
            go_wp2
            exact ⟨rfl, line_panic (by rw [HR2.out]; exact HRR) hr4 hs4⟩
end Go.Proofs.YtpgeeeamcncpkaaGreatDoor

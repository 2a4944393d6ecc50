/- What CutOf of program and model returns. -/
import Derived.Test.YtgglakonkphbgaaZq
namespace Go.Proofs.Ytgglakonkphbgaa
open Go.RowKit
set_option maxRecDepth 100000
set_option linter.unusedVariables false
set_option linter.unusedSimpArgs false

/-- Has the name without its first k labels records of name servers? -/
def nsB (zs : List Z.Rec) (nm : Z.Str) (k : Nat) : Bool := decide (0 < atN zs (upN nm k) 2)
/-- The last name of the way up, below the origin, at which another zone begins. -/
def CutIn (zs : List Z.Rec) (nm : Z.Str) (d : Nat) (c : ByteArray) (ok : Bool) : Prop :=
  ((∀ j, j < d → nsB zs nm j = false) ∧ c = ⟨#[]⟩ ∧ ok = false) ∨ (ok = true ∧ ∃ K, K < d ∧ nsB zs nm K = true ∧ (∀ j, K < j → j < d → nsB zs nm j = false) ∧ c = bs (upN nm K))
theorem cutIn_ex (zs : List Z.Rec) (nm : Z.Str) (d : Nat) : ∃ c ok, CutIn zs nm d c ok := by
  have h : ∀ i, i ≤ d → (∀ j, d - i ≤ j → j < d → nsB zs nm j = false) ∨ ∃ K, K < d ∧ nsB zs nm K = true ∧ (∀ j, K < j → j < d → nsB zs nm j = false) := by
    intro i
    induction i with
    | zero => intro _; left; intro j h1 h2; omega
    | succ i ih =>
      intro hi
      rcases ih (by omega) with h | h
      · cases hk : nsB zs nm (d - (i + 1)) with
        | true => exact Or.inr ⟨_, by omega, hk, fun j h1 h2 => h j (by omega) h2⟩
        | false =>
          left
          intro j h1 h2
          rcases Nat.eq_or_lt_of_le h1 with h3 | h3
          · rw [← h3]; exact hk
          · exact h j (by omega) h2
      · exact Or.inr h
  rcases h d (Nat.le_refl _) with h | ⟨K, h1, h2, h3⟩
  · exact ⟨_, _, Or.inl ⟨fun j hj => h j (by omega) hj, rfl, rfl⟩⟩
  · exact ⟨_, _, Or.inr ⟨rfl, K, h1, h2, h3, rfl⟩⟩
theorem CutIn.found {zs : List Z.Rec} {nm : Z.Str} {d : Nat} {c : ByteArray} {ok : Bool} (h : CutIn zs nm d c ok) {k : Nat} (hk : k < d) (h1 : nsB zs nm k = true) (h2 : ∀ j, k < j → j < d → nsB zs nm j = false) : c = bs (upN nm k) ∧ ok = true := by
  rcases h with ⟨h3, _, _⟩ | ⟨e, K, k1, k2, k3, k4⟩
  · rw [h3 k hk] at h1; cases h1
  · rcases Nat.lt_trichotomy K k with hl | hl | hl
    · rw [k3 k hl hk] at h1; cases h1
    · rw [hl] at k4; exact ⟨k4, e⟩
    · rw [h2 K hl k1] at k2; cases k2
theorem CutIn.none_ {zs : List Z.Rec} {nm : Z.Str} {d : Nat} {c : ByteArray} {ok : Bool} (h : CutIn zs nm d c ok) (h2 : ∀ j, j < d → nsB zs nm j = false) : c = ⟨#[]⟩ ∧ ok = false := by
  rcases h with ⟨h3, h4, h5⟩ | ⟨e, K, k1, k2, k3, k4⟩
  · exact ⟨h4, h5⟩
  · rw [h2 K k1] at k2; cases k2
/-- What CutOf returns. -/
def IsCut (o : Z.Str) (zs : List Z.Rec) (nm : Z.Str) (c : ByteArray) (ok : Bool) : Prop :=
  (insideB o zs nm = false ∧ c = ⟨#[]⟩ ∧ ok = false) ∨ (insideB o zs nm = true ∧ CutIn zs nm (over nm o) c ok)
theorem isCut_ex (o : Z.Str) (zs : List Z.Rec) (nm : Z.Str) : ∃ c ok, IsCut o zs nm c ok := by
  cases h : insideB o zs nm with
  | false => exact ⟨_, _, Or.inl ⟨h, rfl, rfl⟩⟩
  | true =>
    obtain ⟨c, ok, h2⟩ := cutIn_ex zs nm (over nm o)
    exact ⟨c, ok, Or.inr ⟨h, h2⟩⟩

set_option maxHeartbeats 8000000 in
theorem l5Cut_any (o nm : ByteArray) (rs : List RV) (B : Nat) (A : Option Addr) (n c : Nat) (w : World) (hr : Recs w B A n rs) (hB : B ≤ w.heap.size) (hn : n ≤ 67108864) (hf : Hid (∀ r ∈ rs, r.fine)) (ho : o.size ≤ 67108864) (hm : nm.size ≤ 67108864) (hb : Hid (Z.below (lst nm) (lst o) = true)) (d : Nat) (hd : Hid (over (lst nm) (lst o) = d)) (x : ByteArray) (ok : Bool) (hxc : Hid (CutIn (rs.map RV.z) (lst nm) d x ok)) :
    Calls Try.prog 42 #[.agg #[.string o, .slice A n c], .string nm] w fun e w' => e = .returned (.string x) ∧ Below w.heap.size w w' := by
  have hx0 := Held.box w [.string o, .slice A n c] 30
  have hvn := (Z.below_iff.1 hb.out).1
  have HVN := hid hvn
  obtain ⟨L, hL⟩ : ∃ L, (Z.labs (lst nm)).length = L := ⟨_, rfl⟩
  obtain ⟨m, hm0⟩ : ∃ m, (Z.labs (lst o)).length = m := ⟨_, rfl⟩
  have hL8 : L ≤ 8 := by rw [← hL]; exact labs_len hvn
  have hmn : m ≤ L := by rw [← hL, ← hm0]; exact (Z.below_iff.1 hb.out).2.2.length_le
  have hdn : d = L - m := by rw [← hd.out]; unfold over; rw [hL, hm0]
  have HDN := hid hdn
  have HL := hid hL
  have HM := hid hm0
  clear hvn hL hm0 hdn
  go_enter Try.func42, Try.ntmps42
  obtain ⟨s0, s1⟩ := hx0.cells2
  go_wp2_with fail
  refine (l1Labels_any nm (by omega) _).mono ?_
  rintro e w2 ⟨A2, c2, rfl, hown2, hb2⟩
  have hx2 := hx0.next hb2
  rw [HL.out] at hown2 ⊢
  clear hx0 s0 s1
  obtain ⟨s0, s1⟩ := hx2.cells2
  go_wp2_with fail
  refine (l1Labels_any o (by omega) _).mono ?_
  rintro e w3 ⟨A3, c3, rfl, hown3, hb3⟩
  have hx3 := hx2.next hb3
  have hown4 := own_next hown2 hb3
  rw [HM.out]
  clear hx2 hown2 hown3 hb2 hb3 s0 s1
  have hcap := (own_cap hown4).1
  have hcm := (own_cap hown4).2
  unfold maxLen at hcm
  go_wp2_with fail
  go_loopw [6] (fun s wr => ∃ nn : Nat, m + 1 ≤ nn ∧ nn ≤ L + 1 ∧ s = .int .i64 (nn : Int) ∧ Hid (∀ j, L < nn + j → j < d → nsB (rs.map RV.z) (lst nm) j = false) ∧ Held w wr w.heap.size [.string o, .slice A n c] ∧ Below w3.heap.size w3 wr) (fun s _ => L + 1 - (intOf s).toNat)
  case atStart => exact ⟨m + 1, Nat.le_refl _, by omega, by go_num, hid (fun j h1 h2 => by rw [HDN.out] at h2; omega), hx3, Below.refl _ _⟩
  case round =>
    obtain ⟨nn, hn1, hn2, rfl, hno, hx, hbw⟩ := hrel
    obtain ⟨s0, s1⟩ := hx.cells2
    by_cases hlt : nn ≤ L
    · obtain ⟨k, hk⟩ : ∃ k, L = nn + k := ⟨L - nn, by omega⟩
      have hown := own_next hown4 hbw
      have HKD : Hid (k < d) := hid (by rw [HDN.out]; omega)
      have hkw : IntKind.i64.wrap ((L : Int) - (nn : Int)) = (k : Int) := by rw [IntWalk.i64_in _ (by omega)]; omega
      have hk0 : (L : Int) - (nn : Int) = (k : Int) := by omega
      have hk1 : 0 ≤ (k : Int) := by omega
      have hk2 : (k : Int) ≤ c2 := by omega
      have hk3 : k ≤ c2 := by omega
      have hk4 : k ≤ L := by omega
      have hk5 : (k : Int) ≤ L := by omega
      have p1 : (nn : Int) ≤ L := by omega
      obtain ⟨g, rfl, hd1, hd2⟩ := own_drop hown (by omega) k
      have hjl : (Z.joined ((Z.labs (lst nm)).drop k)).length ≤ 67108864 := joined_up HVN.out k
      have hdl : ((Z.labs (lst nm)).drop k).length ≤ 67108864 := by rw [List.length_drop, HL.out]; omega
      have hup : Hid (lst (bs (Z.join ((Z.labs (lst nm)).drop k))) = upN (lst nm) k) := hid (by rw [lst_bs]; rfl)
      obtain ⟨y, hy⟩ : ∃ y, bs (Z.join ((Z.labs (lst nm)).drop k)) = y := ⟨_, rfl⟩
      obtain ⟨N, hN⟩ : ∃ N, atN (rs.map RV.z) (lst y) 2 = N := ⟨_, rfl⟩
      have HY := hid hy
      have HN := hid hN
      have HYU : Hid (lst y = upN (lst nm) k) := hid (by rw [← hy]; exact hup.out)
      have hys : y.size ≤ 67108864 := by rw [← lst_length, HYU.out]; have := upN_size HVN.out k; omega
      have HNS : Hid (nsB (rs.map RV.z) (lst nm) k = decide (0 < N)) := hid (by unfold nsB; rw [← HYU.out, hN])
      clear hy hN hup
      have hNle : N ≤ n := by rw [← HN.out]; have := atN_le (rs.map RV.z) (lst y) 2; rw [List.length_map, hr.2.1] at this; exact this
      have HK := hid hk
      clear hk
      by_cases hc : c2 = k
      · exfalso
        have := HK.out
        omega
      · have hrr := hd2 hc
        clear hd1 hd2
        go_wp2_with fail
        refine (l1Join_any ((Z.labs (lst nm)).drop k) _ _ _ _ _ hrr hdl hjl).mono ?_
        rintro e w4 ⟨rfl, rfl⟩
        rw [HY.out]
        go_wp2_with fail
        refine (l4At_w o y 2 rs B A n c _ (hr.below hx.1 hB) (hx.up hB) hn hf N HN).mono ?_
        rintro e w5 ⟨A5, c5, rfl, hb5⟩
        have hx5 := hx.next hb5
        have hbw5 := below2' hbw hb5 hbw.size
        by_cases hN0 : 0 < N
        · have hxy : x = y := by
            rw [(CutIn.found hxc.out HKD.out (by rw [HNS.out]; exact decide_eq_true hN0) (fun j h1 h2 => hno.out j (by have := HK.out; omega) h2)).1, ← HYU.out, bs_lst]
          subst hxy
          go_wp2_with fail
          go_ret
          exact ⟨rfl, hx5.1⟩
        · have hnx : Hid (∀ j, L < nn + 1 + j → j < d → nsB (rs.map RV.z) (lst nm) j = false) := hid (fun j h1 h2 => by
            rcases Nat.eq_or_lt_of_le (show k ≤ j by have := HK.out; omega) with h | h
            · rw [← h, HNS.out]; exact decide_eq_false hN0
            · exact hno.out j (by have := HK.out; omega) h2)
          go_wp2_with fail
          exact ⟨⟨nn + 1, by omega, by omega, by go_num, hnx, hx5, hbw5⟩, by simp [intOf]; omega⟩
    · obtain rfl : nn = L + 1 := by omega
      have hxe : x = ⟨#[]⟩ := (CutIn.none_ hxc.out (fun j hj => hno.out j (by omega) hj)).1
      subst hxe
      go_wp2_with fail
      go_ret
      exact ⟨rfl, hx.1⟩

set_option maxHeartbeats 4000000 in
theorem CutOf_any (o nm : ByteArray) (rs : List RV) (B : Nat) (A : Option Addr) (n c : Nat) (w : World) (hr : Recs w B A n rs) (hB : B ≤ w.heap.size) (hn : n ≤ 67108864) (hf : Hid (∀ r ∈ rs, r.fine)) (ho : o.size ≤ 67108864) (hm : nm.size ≤ 67108864) (x : ByteArray) (ok : Bool) (hx : Hid (IsCut (lst o) (rs.map RV.z) (lst nm) x ok)) :
    Calls Try.prog 19 #[.agg #[.string o, .slice A n c], .string nm] w fun e w' => e = .returned (.tuple #[.string x, .bool ok]) ∧ Below w.heap.size w w' := by
  have hx0 := Held.box w [.string o, .slice A n c] 30
  obtain ⟨v, hv⟩ : ∃ v, (Z.zoneValid (lst o) (rs.map RV.z) && Z.valid (lst nm)) = v := ⟨_, rfl⟩
  have HV := hid hv
  clear hv
  go_enter Try.func19, Try.ntmps19
  go_wp2_with fail
  refine (l5Right_any o nm rs B A n c _ (hr.below hx0.1 hB) (hx0.up hB) hn hf ho hm v HV).mono ?_
  rintro e w2 ⟨rfl, hb2⟩
  have hx2 := hx0.next hb2
  clear hx0 hb2
  obtain ⟨s0, s1⟩ := hx2.cells2
  cases v with
  | false =>
    have hin : insideB (lst o) (rs.map RV.z) (lst nm) = false := by
      unfold insideB
      have h := HV.out
      rcases Bool.and_eq_false_iff.1 h with h1 | h1
      · rw [h1]; rfl
      · rw [below_valid h1, Bool.and_false]
    rcases hx.out with ⟨_, rfl, rfl⟩ | ⟨h1, _⟩
    · clear hin
      go_wp2_with fail
      go_ret2
      exact ⟨rfl, hx2.1⟩
    · rw [hin] at h1; cases h1
  | true =>
    have hz := (Bool.and_eq_true_iff.1 HV.out).1
    have hvn := (Bool.and_eq_true_iff.1 HV.out).2
    have HZ := hid hz
    have HVN := hid hvn
    have HVO := hid (zone_names hz).2
    obtain ⟨vb, hvb⟩ : ∃ vb, Z.below (lst nm) (lst o) = vb := ⟨_, rfl⟩
    have hin : insideB (lst o) (rs.map RV.z) (lst nm) = vb := by unfold insideB; rw [hz, hvb]; rfl
    have HIN := hid hin
    have HVB := hid hvb
    clear hz hvn hvb hin
    go_wp2_with fail
    refine (l1Ends_any nm o hm ho _).mono ?_
    rintro e w3 ⟨m, rfl, hme, hb3⟩
    have hx3 := hx2.next hb3
    clear hx2 hb3 s0 s1
    obtain ⟨s0, s1⟩ := hx3.cells2
    cases vb with
    | false =>
      have hm0 : m < 0 := hme.out.2 (fun h => by
        have := Z.below_iff.2 ⟨HVN.out, HVO.out, h⟩
        rw [HVB.out] at this
        cases this)
      rcases hx.out with ⟨_, rfl, rfl⟩ | ⟨h1, _⟩
      · go_wp2_with fail
        go_ret2
        exact ⟨rfl, hx3.1⟩
      · rw [HIN.out] at h1; cases h1
    | true =>
      have hm0 : 0 ≤ m := by
        have h1 := (Z.below_iff.1 HVB.out).2.2
        have h2 := hme.out.1 h1
        have h3 := h1.length_le
        omega
      clear hme
      rcases hx.out with ⟨h1, _⟩ | ⟨_, hxc⟩
      · rw [HIN.out] at h1; cases h1
      · have HXC := hid hxc
        clear hxc
        go_wp2_with fail
        refine (l5Cut_any o nm rs B A n c _ (hr.below hx3.1 hB) (hx3.up hB) hn hf ho hm HVB _ (hid rfl) x ok HXC).mono ?_
        rintro e w4 ⟨rfl, hb4⟩
        have hx4 := hx3.next hb4
        cases ok with
        | false =>
          have hxe : x = ⟨#[]⟩ := by
            rcases HXC.out with ⟨_, h, _⟩ | ⟨h, _⟩
            · exact h
            · cases h
          subst hxe
          go_wp2_with fail
          go_ret2
          exact ⟨rfl, hx4.1⟩
        | true =>
          have hxl : (x.toList == []) = false := by
            rw [toList_lst, beq_eq_false_iff_ne]
            rcases HXC.out with ⟨_, _, h⟩ | ⟨_, K, _, _, _, h⟩
            · cases h
            · rw [h, lst_bs]
              intro e
              have h2 := upN_valid HVN.out K
              rw [e] at h2
              exact absurd h2 (by decide)
          go_wp2_with fail
          go_ret2
          exact ⟨rfl, hx4.1⟩
end Go.Proofs.Ytgglakonkphbgaa

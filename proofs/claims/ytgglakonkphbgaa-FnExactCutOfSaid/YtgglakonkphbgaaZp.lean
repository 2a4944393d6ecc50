/- What ClosestOf of program and model returns. -/
import Derived.Test.YtgglakonkphbgaaZo
import Derived.Test.YtgglakonkphbgaaKa
import Derived.Test.YtgglakonkphbgaaQ
namespace Go.Proofs.Ytgglakonkphbgaa
open Go.RowKit
set_option maxRecDepth 100000
set_option linter.unusedVariables false
set_option linter.unusedSimpArgs false

/-- A name without its first k labels. -/
def upN (nm : Z.Str) (k : Nat) : Z.Str := Z.join ((Z.labs nm).drop k)
theorem upN_valid {nm : Z.Str} (h : Z.valid nm = true) (k : Nat) : Z.valid (upN nm k) = true := Z.valid_drop h k
theorem upN_labs {nm : Z.Str} (h : Z.valid nm = true) (k : Nat) : Z.labs (upN nm k) = (Z.labs nm).drop k := Z.labs_drop h k
theorem upN_zero {nm : Z.Str} (h : Z.valid nm = true) : upN nm 0 = nm := Z.join_labs h
theorem upN_below {nm : Z.Str} (h : Z.valid nm = true) (k : Nat) : Z.below (upN nm k) (upN nm (k + 1)) = true := by
  refine Z.below_iff.2 ⟨upN_valid h k, upN_valid h (k + 1), ?_⟩
  rw [upN_labs h, upN_labs h, ← List.drop_drop]
  exact List.drop_suffix _ _
/-- How many labels a name has more than another one. -/
def over (nm o : Z.Str) : Nat := (Z.labs nm).length - (Z.labs o).length
theorem upN_over {nm o : Z.Str} (h : Z.below nm o = true) : upN nm (over nm o) = o := by
  obtain ⟨h1, h2, h3⟩ := Z.below_iff.1 h
  unfold upN over
  rw [← List.suffix_iff_eq_drop.1 h3]
  exact Z.join_labs h2
def exB (zs : List Z.Rec) (nm : Z.Str) (k : Nat) : Bool := zs.any (belowP (upN nm k))
theorem exB_up {zs : List Z.Rec} {nm : Z.Str} (h : Z.valid nm = true) {k : Nat} (hk : exB zs nm k = true) : exB zs nm (k + 1) = true := by
  unfold exB at *
  obtain ⟨x, hx, hb⟩ := List.any_eq_true.1 hk
  exact List.any_eq_true.2 ⟨x, hx, Z.below_trans hb (upN_below h k)⟩
theorem exB_mono {zs : List Z.Rec} {nm : Z.Str} (h : Z.valid nm = true) {j k : Nat} (hk : exB zs nm j = true) (hjk : j ≤ k) : exB zs nm k = true := by
  obtain ⟨d, rfl⟩ := Nat.le.dest hjk
  induction d with
  | zero => exact hk
  | succ d ih => exact exB_up h (ih (by omega))
/-- The first level at which a name exists. -/
def FirstUp (zs : List Z.Rec) (nm : Z.Str) (K : Nat) : Prop := exB zs nm K = true ∧ ∀ j, j < K → exB zs nm j = false
theorem FirstUp.uniq {zs : List Z.Rec} {nm : Z.Str} {K K' : Nat} (h : FirstUp zs nm K) (h' : FirstUp zs nm K') : K = K' := by
  rcases Nat.lt_trichotomy K K' with hl | hl | hl
  · have h9 := h.1
    rw [h'.2 K hl] at h9
    cases h9
  · exact hl
  · have h9 := h'.1
    rw [h.2 K' hl] at h9
    cases h9
theorem zone_top {o : Z.Str} {zs : List Z.Rec} (h : Z.zoneValid o zs = true) : ∃ x ∈ zs, x.name = o := by
  obtain ⟨x, _, hx, _, hn, _⟩ := (Z.zoneValid_iff.1 h).soa
  exact ⟨x, hx, hn⟩
theorem exB_over {o nm : Z.Str} {zs : List Z.Rec} (h : Z.zoneValid o zs = true) (hb : Z.below nm o = true) : exB zs nm (over nm o) = true := by
  obtain ⟨x, hx, hn⟩ := zone_top h
  unfold exB
  rw [upN_over hb]
  refine List.any_eq_true.2 ⟨x, hx, ?_⟩
  unfold belowP
  rw [hn]
  have hv := (Z.below_iff.1 hb).2.1
  exact Z.below_iff.2 ⟨hv, hv, List.suffix_refl _⟩
theorem firstUp_ex {o nm : Z.Str} {zs : List Z.Rec} (h : Z.zoneValid o zs = true) (hb : Z.below nm o = true) : ∃ K, FirstUp zs nm K ∧ K ≤ over nm o := by
  have h0 := exB_over h hb
  have : ∀ n, exB zs nm n = true → ∃ K, FirstUp zs nm K ∧ K ≤ n := by
    intro n
    induction n with
    | zero => intro h1; exact ⟨0, ⟨h1, fun j hj => absurd hj (by omega)⟩, Nat.le_refl _⟩
    | succ n ih =>
      intro h1
      cases hn : exB zs nm n with
      | true =>
        obtain ⟨K, k1, k2⟩ := ih hn
        exact ⟨K, k1, by omega⟩
      | false =>
        refine ⟨n + 1, ⟨h1, fun j hj => ?_⟩, Nat.le_refl _⟩
        cases hj2 : exB zs nm j with
        | false => rfl
        | true =>
          rw [exB_mono (Z.below_iff.1 hb).1 hj2 (show j ≤ n by omega)] at hn
          cases hn
  exact this _ h0
/-- What ClosestOf returns. -/
def IsClosest (o : Z.Str) (zs : List Z.Rec) (nm : Z.Str) (c : ByteArray) (ok : Bool) : Prop :=
  (insideB o zs nm = false ∧ c = ⟨#[]⟩ ∧ ok = false) ∨ (insideB o zs nm = true ∧ ok = true ∧ ∃ K, FirstUp zs nm K ∧ K ≤ over nm o ∧ c = bs (upN nm K))
theorem isClosest_ex (o : Z.Str) (zs : List Z.Rec) (nm : Z.Str) : ∃ c ok, IsClosest o zs nm c ok := by
  cases h : insideB o zs nm with
  | false => exact ⟨_, _, Or.inl ⟨h, rfl, rfl⟩⟩
  | true =>
    unfold insideB at h
    obtain ⟨h1, h2⟩ := Bool.and_eq_true_iff.1 h
    obtain ⟨K, k1, k2⟩ := firstUp_ex h1 h2
    exact ⟨_, _, Or.inr ⟨by unfold insideB; rw [h1, h2]; rfl, rfl, K, k1, k2, rfl⟩⟩

/-- The model's search upwards. -/
theorem labs_len {nm : Z.Str} (h : Z.valid nm = true) : (Z.labs nm).length ≤ 8 := (Z.valid_iff.1 h).2.2.2.2
theorem upN_size {nm : Z.Str} (h : Z.valid nm = true) (k : Nat) : (upN nm k).length ≤ 60 := (Z.valid_iff.1 (upN_valid h k)).2.1
theorem joined_up {nm : Z.Str} (h : Z.valid nm = true) (k : Nat) : (Z.joined ((Z.labs nm).drop k)).length ≤ 67108864 := joined_drop_le h k

set_option maxHeartbeats 8000000 in
theorem l5Closest_any (o nm : ByteArray) (rs : List RV) (B : Nat) (A : Option Addr) (n c : Nat) (w : World) (hr : Recs w B A n rs) (hB : B ≤ w.heap.size) (hn : n ≤ 67108864) (hf : Hid (∀ r ∈ rs, r.fine)) (hz : Hid (Z.zoneValid (lst o) (rs.map RV.z) = true)) (hb : Hid (Z.below (lst nm) (lst o) = true)) (K : Nat) (hK : Hid (FirstUp (rs.map RV.z) (lst nm) K)) (hKo : K ≤ over (lst nm) (lst o)) (x : ByteArray) (hx : Hid (bs (upN (lst nm) K) = x)) :
    Calls Try.prog 44 #[.agg #[.string o, .slice A n c], .string nm] w fun e w' => e = .returned (.string x) ∧ Below w.heap.size w w' := by
  have hx0 := Held.box w [.string o, .slice A n c] 30
  have hvn := (Z.below_iff.1 hb.out).1
  have HVN := hid hvn
  have HN := hid (zone_names hz.out).1
  have h8 := labs_len hvn
  have HO := hid (show (Z.labs (lst o)).length ≤ (Z.labs (lst nm)).length from (Z.below_iff.1 hb.out).2.2.length_le)
  have hov : over (lst nm) (lst o) ≤ 8 := by unfold over; omega
  have hs0 : Hid (upN (lst nm) 0 = lst nm) := hid (upN_zero hvn)
  clear hvn
  go_enter Try.func44, Try.ntmps44
  go_wp2_with fail
  go_loopw [1] (fun s wr => ∃ (k : Nat) (y : ByteArray), k ≤ K ∧ s = .string y ∧ Hid (lst y = upN (lst nm) k) ∧ Held w wr w.heap.size [.string o, .slice A n c]) (fun s _ => match s with | .string y => (Z.labs (lst y)).length | _ => 0)
  case atStart => exact ⟨0, nm, Nat.zero_le _, rfl, hid hs0.out.symm, hx0⟩
  case round =>
    obtain ⟨k, y, hk, rfl, hy, hxx⟩ := hrel
    clear hx0
    obtain ⟨s0, s1⟩ := hxx.cells2
    have hysz : y.size ≤ 60 := by rw [← lst_length, hy.out]; exact upN_size HVN.out k
    have HYV : Hid (Z.valid (lst y) = true) := hid (by rw [hy.out]; exact upN_valid HVN.out k)
    obtain ⟨u, hu⟩ : ∃ u, (rs.map RV.z).any (belowP (lst y)) = u := ⟨_, rfl⟩
    have HU := hid hu
    clear hu
    go_wp2_with fail
    refine (l5Exists_any o y rs B A n c _ (hr.below hxx.1 hB) (hxx.up hB) hn hf (by omega) HN HYV u HU).mono ?_
    rintro e w2 ⟨rfl, hb2⟩
    have hx2 := hxx.next hb2
    clear hxx s0 s1 hb2
    cases u with
    | true =>
      have hkK : k = K := by
        rcases Nat.lt_or_ge k K with h | h
        · have h1 := hK.out.2 k h
          unfold exB at h1
          rw [← hy.out, HU.out] at h1
          cases h1
        · omega
      have hyx : y = x := by
        rw [← hx.out, ← hkK, ← hy.out, bs_lst]
      subst hyx
      clear hkK
      go_wp2_with fail
      go_ret
      exact ⟨rfl, hx2.1⟩
    | false =>
      have hkK : k < K := by
        rcases Nat.lt_or_ge k K with h | h
        · exact h
        · have h1 := hK.out.1
          have h2 : K = k := by omega
          rw [h2] at h1
          unfold exB at h1
          rw [← hy.out, HU.out] at h1
          cases h1
      have hll : Hid (Z.labs (lst y) = (Z.labs (lst nm)).drop k) := hid (by rw [hy.out]; exact upN_labs HVN.out k)
      have hlen : 1 ≤ (Z.labs (lst y)).length := by
        rw [hll.out, List.length_drop]
        unfold over at hKo
        omega
      have hlen8 : (Z.labs (lst y)).length ≤ 8 := labs_len HYV.out
      go_wp2_with fail
      refine (l1Labels_any y (by omega) _).mono ?_
      rintro e w3 ⟨A3, c3, rfl, hown3, hb3⟩
      have hx3 := hx2.next hb3
      have hcap := (own_cap hown3).1
      have hcm := (own_cap hown3).2
      unfold maxLen at hcm
      obtain ⟨g, rfl, hd1, hd2⟩ := own_drop hown3 hlen 1
      have hnx : Hid (lst (bs (Z.join ((Z.labs (lst y)).drop 1))) = upN (lst nm) (k + 1)) := hid (by rw [lst_bs, hll.out, List.drop_drop]; rfl)
      have hjl : (Z.joined ((Z.labs (lst y)).drop 1)).length ≤ 67108864 := joined_up HYV.out 1
      have hdl : ((Z.labs (lst y)).drop 1).length ≤ 67108864 := by rw [List.length_drop]; omega
      have hms : Hid ((Z.labs (lst (bs (Z.join ((Z.labs (lst y)).drop 1))))).length < (Z.labs (lst y)).length) := hid (by
        rw [hnx.out, upN_labs HVN.out, hll.out, List.length_drop, List.length_drop]
        have := hll.out ▸ hlen
        rw [List.length_drop] at this
        omega)
      have hnt : Hid (lst (bs (Z.join (Z.labs (lst y)).tail)) = upN (lst nm) (k + 1)) := hid (by rw [← List.drop_one]; exact hnx.out)
      have hmt : Hid ((Z.labs (lst (bs (Z.join (Z.labs (lst y)).tail)))).length < (Z.labs (lst y)).length) := hid (by rw [← List.drop_one]; exact hms.out)
      clear hx2 hb3 hnx hms
      by_cases hc1 : c3 = 1
      · have hrr := hd1 hc1
        clear hd1 hd2 hown3
        subst hc1
        go_wp2_with fail
        refine (l1Join_any _ _ _ _ _ _ hrr hdl hjl).mono ?_
        rintro e w4 ⟨rfl, rfl⟩
        go_wp2_with fail
        exact ⟨⟨k + 1, _, by omega, rfl, hnt, hx3⟩, hmt.out⟩
      · have hrr := hd2 hc1
        clear hd1 hd2 hown3
        go_wp2_with fail
        refine (l1Join_any _ _ _ _ _ _ hrr hdl hjl).mono ?_
        rintro e w4 ⟨rfl, rfl⟩
        go_wp2_with fail
        exact ⟨⟨k + 1, _, by omega, rfl, hnt, hx3⟩, hmt.out⟩

set_option maxHeartbeats 4000000 in
theorem ClosestOf_any (o nm : ByteArray) (rs : List RV) (B : Nat) (A : Option Addr) (n c : Nat) (w : World) (hr : Recs w B A n rs) (hB : B ≤ w.heap.size) (hn : n ≤ 67108864) (hf : Hid (∀ r ∈ rs, r.fine)) (ho : o.size ≤ 67108864) (hm : nm.size ≤ 67108864) (x : ByteArray) (ok : Bool) (hx : Hid (IsClosest (lst o) (rs.map RV.z) (lst nm) x ok)) :
    Calls Try.prog 21 #[.agg #[.string o, .slice A n c], .string nm] w fun e w' => e = .returned (.tuple #[.string x, .bool ok]) ∧ Below w.heap.size w w' := by
  have hx0 := Held.box w [.string o, .slice A n c] 30
  obtain ⟨v, hv⟩ : ∃ v, (Z.zoneValid (lst o) (rs.map RV.z) && Z.valid (lst nm)) = v := ⟨_, rfl⟩
  have HV := hid hv
  clear hv
  go_enter Try.func21, Try.ntmps21
  go_wp2_with fail
  refine (l5Right_any o nm rs B A n c _ (hr.below hx0.1 hB) (hx0.up hB) hn hf ho hm v HV).mono ?_
  rintro e w2 ⟨rfl, hb2⟩
  have hx2 := hx0.next hb2
  clear hx0 hb2
  obtain ⟨s0, s1⟩ := hx2.cells2
  cases v with
  | false =>
    have hin : insideB (lst o) (rs.map RV.z) (lst nm) = false := by
      unfold insideB
      have h := HV.out
      rcases Bool.and_eq_false_iff.1 h with h1 | h1
      · rw [h1]; rfl
      · rw [below_valid h1, Bool.and_false]
    rcases hx.out with ⟨_, rfl, rfl⟩ | ⟨h1, _⟩
    · clear hin
      go_wp2_with fail
      go_ret2
      exact ⟨rfl, hx2.1⟩
    · rw [hin] at h1; cases h1
  | true =>
    have hz := (Bool.and_eq_true_iff.1 HV.out).1
    have hvn := (Bool.and_eq_true_iff.1 HV.out).2
    have HZ := hid hz
    have HVN := hid hvn
    have HVO := hid (zone_names hz).2
    obtain ⟨vb, hvb⟩ : ∃ vb, Z.below (lst nm) (lst o) = vb := ⟨_, rfl⟩
    have hin : insideB (lst o) (rs.map RV.z) (lst nm) = vb := by unfold insideB; rw [hz, hvb]; rfl
    have HIN := hid hin
    have HVB := hid hvb
    clear hz hvn hvb hin
    go_wp2_with fail
    refine (l1Ends_any nm o hm ho _).mono ?_
    rintro e w3 ⟨m, rfl, hme, hb3⟩
    have hx3 := hx2.next hb3
    clear hx2 hb3 s0 s1
    obtain ⟨s0, s1⟩ := hx3.cells2
    cases vb with
    | false =>
      have hm0 : m < 0 := hme.out.2 (fun h => by
        have := Z.below_iff.2 ⟨HVN.out, HVO.out, h⟩
        rw [HVB.out] at this
        cases this)
      rcases hx.out with ⟨_, rfl, rfl⟩ | ⟨h1, _⟩
      · go_wp2_with fail
        go_ret2
        exact ⟨rfl, hx3.1⟩
      · rw [HIN.out] at h1; cases h1
    | true =>
      have hm0 : 0 ≤ m := by
        have h1 := (Z.below_iff.1 HVB.out).2.2
        have h2 := hme.out.1 h1
        have h3 := h1.length_le
        omega
      clear hme
      rcases hx.out with ⟨h1, _⟩ | ⟨_, rfl, K, hK, hKo, hKx⟩
      · rw [HIN.out] at h1; cases h1
      · have HKX := hid hKx.symm
        have HK := hid hK
        clear hK hKx
        go_wp2_with fail
        refine (l5Closest_any o nm rs B A n c _ (hr.below hx3.1 hB) (hx3.up hB) hn hf HZ HVB K HK hKo x HKX).mono ?_
        rintro e w4 ⟨rfl, hb4⟩
        go_wp2_with fail
        go_ret2
        exact ⟨rfl, (hx3.next hb4).1⟩

/-- The first i of the names from the top down. -/
def downN (nm : Z.Str) (d i : Nat) : List Z.Str := (List.range i).map (fun j => upN nm (d - j))
theorem downN_succ (nm : Z.Str) (d i : Nat) : downN nm d (i + 1) = downN nm d i ++ [upN nm (d - i)] := by unfold downN; rw [List.range_succ, List.map_append]; rfl
theorem downN_length (nm : Z.Str) (d i : Nat) : (downN nm d i).length = i := by unfold downN; simp
theorem downN_get (nm : Z.Str) (d i j : Nat) (h : j < i) : (downN nm d i).getD j [] = upN nm (d - j) := by unfold downN; simp [h]
theorem reads_stay {w w' : World} {B n : Nat} {A : Option Addr} {xs : List Value} (h : Reads w B A n xs) (hb : 0 < n → ∀ ad, A = some ad → w'.heap[ad.block]? = w.heap[ad.block]?) : Reads w' B A n xs := by
  refine ⟨h.1, fun hn => ?_⟩
  obtain ⟨ad, e, h1, h2⟩ := h.2 hn
  refine ⟨ad, e, h1, fun j u hu => ?_⟩
  have e2 : w'.heap[(ad.add j).block]? = w.heap[(ad.add j).block]? := by rw [block_of_add]; exact hb hn ad e
  exact (World.cell?_of_block e2).trans (h2 j u hu)
theorem cut0_pos {w : World} {B m : Nat} {A : Option Addr} {ls : List Z.Str} {c k : Nat} (e : c = k) (h : Reads w B (if c = k then A else A.map (·.add k)) m ((ls.map sv).drop k)) : Reads w B A m ((ls.drop k).map sv) := by
  rw [if_pos e] at h
  rw [List.map_drop]
  exact h
theorem cut0_neg {w : World} {B m : Nat} {A : Option Addr} {ls : List Z.Str} {c k : Nat} (e : ¬ c = k) (h : Reads w B (if c = k then A else A.map (·.add k)) m ((ls.map sv).drop k)) : Reads w B (A.map (·.add k)) m ((ls.drop k).map sv) := by
  rw [if_neg e] at h
  rw [List.map_drop]
  exact h
/-- The rows and frames of the search downwards. -/
def Down (w wr : World) (lo hi : Nat) (v : Value) (nm : Z.Str) (d i : Nat) : Prop := wr.ownsRow w.heap.size 9 1 v i ((downN nm d i).map sv) ∧ Below w.heap.size w wr ∧ Off v lo hi ∧ hi ≤ wr.heap.size

/-- What holds between two rounds of the search downwards. -/
def Downs (w w2 wr : World) (lo hi : Nat) (v s : Value) (nm : Z.Str) (d : Nat) : Prop :=
  (∃ i k : Nat, i + k = d ∧ s = .int .i64 (k : Int) ∧ Down w wr lo hi v nm d i ∧ Same lo hi w2 wr ∧ w2.heap.size ≤ wr.heap.size) ∨ (s = .int .i64 (-1) ∧ Down w wr lo hi v nm d (d + 1))
theorem step_down {w w2 wr : World} {lo hi : Nat} {v : Value} {nm : Z.Str} {d i k : Nat} (hik : i + k = d) (h : Down w wr lo hi v nm d (i + 1)) (hs : Same lo hi w2 wr) (hz : w2.heap.size ≤ wr.heap.size) : Downs w w2 wr lo hi v (.int .i64 ((k : Int) - 1)) nm d := by
  by_cases hk : k = 0
  · subst hk
    right
    rw [show i = d by omega] at h
    exact ⟨rfl, h⟩
  · left
    exact ⟨i + 1, k - 1, by omega, by rw [show ((k - 1 : Nat) : Int) = (k : Int) - 1 by omega], h, hs, hz⟩

set_option maxHeartbeats 8000000 in
theorem namesDown_any (o nm : ByteArray) (w : World) (ho : o.size ≤ 67108864) (hm : nm.size ≤ 67108864) (hb : Hid (Z.below (lst nm) (lst o) = true)) (d : Nat) (hd : Hid (over (lst nm) (lst o) = d)) :
    Calls Try.prog 62 #[.string o, .string nm] w fun e w' => ∃ A c, e = .returned (.slice A (d + 1) c) ∧ w'.ownsRow w.heap.size 9 1 (.slice A (d + 1) c) (d + 1) ((downN (lst nm) d (d + 1)).map sv) ∧ Below w.heap.size w w' := by
  obtain ⟨i0, hi0, hz0, hz1, hz2⟩ := info_parts infoStr
  obtain ⟨hvn, hvo, hsuf⟩ := Z.below_iff.1 hb.out
  have HVN := hid hvn
  have hl1 := hid (labels_valid hvn)
  have hl2 := hid (labels_valid hvo)
  obtain ⟨n, hn0⟩ : ∃ n, (Z.labs (lst nm)).length = n := ⟨_, rfl⟩
  obtain ⟨m, hm0⟩ : ∃ m, (Z.labs (lst o)).length = m := ⟨_, rfl⟩
  have hn8 : n ≤ 8 := by rw [← hn0]; exact labs_len hvn
  have hmn : m ≤ n := by rw [← hn0, ← hm0]; exact hsuf.length_le
  have hdn : d = n - m := by rw [← hd.out]; unfold over; rw [hn0, hm0]
  have HN0 := hid hn0
  have HM0 := hid hm0
  clear hvn hvo hsuf hn0 hm0
  go_enter Try.func62, Try.ntmps62
  go_wp2_with fail
  refine (iLabelsOf_any nm (by unfold maxLen; omega) w).mono ?_
  rintro e w1 ⟨A3, c3, rfl, hown3, hb1⟩
  rw [hl1.out, HN0.out] at hown3 ⊢
  go_wp2_with fail
  refine (iLabelsOf_any o (by unfold maxLen; omega) w1).mono ?_
  rintro e w2 ⟨A4, c4, rfl, hown4, hb2⟩
  rw [hl2.out, HM0.out]
  have hown5 := own_next hown3 hb2
  have bw2 := hb1.trans (hb2.mono hb1.size)
  have sz1 := hb1.size
  have sz2 := hb2.size
  have hcap := (own_cap hown5).1
  have hcm := (own_cap hown5).2
  unfold maxLen at hcm
  have hrd := Reads.of_own hown5
  have hpl : Hid (0 < n → ∃ g, A3 = some ⟨g, 0, none⟩ ∧ w.heap.size ≤ g ∧ g < w2.heap.size) := hid (fun h => by
    obtain ⟨g, cap, hv, hbg, hlt⟩ := hown5.form h
    injection hv with hA
    exact ⟨g, hA, hbg, hlt⟩)
  obtain ⟨lo, hi, hhi, hin⟩ : ∃ lo hi, hi ≤ w2.heap.size ∧ Hid (0 < n → ∀ ad, A3 = some ad → lo ≤ ad.block ∧ ad.block < hi) := by
    by_cases h : 0 < n
    · obtain ⟨g, e1, e2, e3⟩ := hpl.out h
      refine ⟨g, g + 1, by omega, hid (fun _ ad e => ?_)⟩
      rw [e1] at e
      obtain rfl := Option.some.inj e
      exact ⟨Nat.le_refl _, by show g < g + 1; omega⟩
    · exact ⟨0, 0, by omega, hid (fun h' => absurd h' h)⟩
  have hd0 : Down w w2 lo hi (.slice none 0 0) (lst nm) d 0 := ⟨World.ownsRow_nil _ _ _ 1, bw2, fun g hg => (by cases hg), hhi⟩
  have hw1 : IntKind.i64.wrap ((n : Int) - (m : Int)) = (d : Int) := by rw [IntWalk.i64_in _ (by omega)]; omega
  have hw2 : (n : Int) - (m : Int) = (d : Int) := by omega
  have HDN := hid hdn
  clear hown3 hown4 hown5 hb1 hb2 hdn
  go_wp2_with fail
  go_loopw [6, 7] (fun v s wr => Downs w w2 wr lo hi v s (lst nm) d) (fun _ s _ => (intOf s + 1).toNat)
  case atStart => exact Or.inl ⟨0, d, by omega, rfl, hd0, Same.refl _ _ _, Nat.le_refl _⟩
  case round =>
    clear hd0
    rcases hrel with ⟨i, k, hik, rfl, ⟨hown, hbw, hoff, hsz⟩, hsm, hs2⟩ | ⟨rfl, ⟨hown, hbw, hoff, hsz⟩⟩
    · have hr := reads_stay hrd (fun h ad e => hsm _ (hin.out h ad e).1 (hin.out h ad e).2)
      have hszw := hbw.size
      have hkn : k ≤ n := by omega
      have HC := hid (hr.cut (k := k) hcap)
      have hdl : ((Z.labs (lst nm)).drop k).length ≤ 67108864 := by rw [List.length_drop, HN0.out]; omega
      have hjl : (Z.join ((Z.labs (lst nm)).drop k)).length ≤ 67108864 := by have := upN_size HVN.out k; unfold upN at this; omega
      have k0 : 0 ≤ (k : Int) := by omega
      have kw : IntKind.i64.wrap ((k : Int) - 1) = (k : Int) - 1 := IntWalk.i64_in _ (by omega)
      have k1 : (k : Int) ≤ c3 := by omega
      have k2 : k ≤ c3 := by omega
      obtain ⟨A5, c5, rfl⟩ := own_slice hown
      have hup : Hid (Z.join ((Z.labs (lst nm)).drop k) = upN (lst nm) (d - i)) := hid (by unfold upN; rw [show d - i = k by omega])
      have hst : Hid ((downN (lst nm) d (i + 1)).map sv = (downN (lst nm) d i).map sv ++ [.string (bs (Z.join ((Z.labs (lst nm)).drop k)))]) := hid (by
        rw [downN_succ, List.map_append, hup.out]
        rfl)
      have hp1 : n - k > 0 → Plain wr A3 := fun h => by
        obtain ⟨g, e1, e2, e3⟩ := hpl.out (by omega)
        exact ⟨g, 0, e1, by omega⟩
      have hp2 : n - k > 0 → Plain wr (A3.map (·.add k)) := fun h => cutPlain (w := wr) (n := n) (fun h9 => by
        obtain ⟨g, e1, e2, e3⟩ := hpl.out h9
        exact ⟨g, 0, e1, by omega⟩) (by omega)
      clear hup
      by_cases hc : c3 = k
      · have hrr := cut0_pos hc HC.out
        clear HC
        go_wp2_with fail
        refine (joinLabels_any ((Z.labs (lst nm)).drop k) _ _ _ _ _ hrr hp1 (by omega) hdl hjl).mono ?_
        rintro e w5 ⟨rfl, hb5⟩
        have sz5 := hb5.size
        have hown5 := own_next hown hb5
        have hbw5 := below2' hbw hb5 hszw
        go_wp2_with (at_builtin; refine wpList_append1_off lo hi w5 (.string (bs (Z.join ((Z.labs (lst nm)).drop k)))) _ rfl (.tmp 20) (.tmp 25) _ rfl w.heap.size 9 i0 _ 16 Try.underlying26 hi0 hz0 hz1 hz2 rfl _ _ _ rfl hown5 rfl rfl (by unfold maxLen; omega) (by omega) (by omega) (by omega) hoff ?_; intro v1 w6 hown6 hb6 hsm6 hof6)
        rw [← hst.out] at hown6
        have hsz6 := hb6.size
        have hfin := step_down hik ⟨hown6, hbw5.trans hb6, hof6, by omega⟩ ((hsm.trans (Same.below hb5 hsz)).trans hsm6) (by omega)
        subst hc
        refine ⟨⟨_, _, _, _, _, _, _, _, _, _, _, _, _, hfin, rfl⟩, ?_⟩
        show (((c3 : Int) - 1) + 1).toNat < ((c3 : Int) + 1).toNat
        omega
      · have hrr := cut0_neg hc HC.out
        clear HC
        go_wp2_with fail
        refine (joinLabels_any ((Z.labs (lst nm)).drop k) _ _ _ _ _ hrr hp2 (by omega) hdl hjl).mono ?_
        rintro e w5 ⟨rfl, hb5⟩
        have sz5 := hb5.size
        have hown5 := own_next hown hb5
        have hbw5 := below2' hbw hb5 hszw
        go_wp2_with (at_builtin; refine wpList_append1_off lo hi w5 (.string (bs (Z.join ((Z.labs (lst nm)).drop k)))) _ rfl (.tmp 20) (.tmp 25) _ rfl w.heap.size 9 i0 _ 16 Try.underlying26 hi0 hz0 hz1 hz2 rfl _ _ _ rfl hown5 rfl rfl (by unfold maxLen; omega) (by omega) (by omega) (by omega) hoff ?_; intro v1 w6 hown6 hb6 hsm6 hof6)
        rw [← hst.out] at hown6
        have hsz6 := hb6.size
        refine ⟨step_down hik ⟨hown6, hbw5.trans hb6, hof6, by omega⟩ ((hsm.trans (Same.below hb5 hsz)).trans hsm6) (by omega), ?_⟩
        show (((k : Int) - 1) + 1).toNat < ((k : Int) + 1).toNat
        omega
    · obtain ⟨A5, c5, rfl⟩ := own_slice hown
      go_wp2_with fail
      go_ret
      exact ⟨A5, c5, rfl, hown, hbw⟩

set_option maxHeartbeats 8000000 in
theorem closestAbove_any (o nm : ByteArray) (rs : List RV) (B : Nat) (A : Option Addr) (n c : Nat) (w : World) (hr : Recs w B A n rs) (hB : B ≤ w.heap.size) (hn : n ≤ 67108864) (hf : Hid (∀ r ∈ rs, r.fine)) (ho : o.size ≤ 67108864) (hm : nm.size ≤ 67108864) (hb : Hid (Z.below (lst nm) (lst o) = true)) (K : Nat) (hK : Hid (FirstUp (rs.map RV.z) (lst nm) K)) (hKo : K ≤ over (lst nm) (lst o)) (x : ByteArray) (hx : Hid (bs (upN (lst nm) K) = x)) :
    Calls Try.prog 45 #[.agg #[.string o, .slice A n c], .string nm] w fun e w' => e = .returned (.string x) ∧ Below w.heap.size w w' := by
  have hx0 := Held.box w [.string o, .slice A n c] 30
  obtain ⟨d, hd⟩ : ∃ d, over (lst nm) (lst o) = d := ⟨_, rfl⟩
  have HD := hid hd
  have hvn := (Z.below_iff.1 hb.out).1
  have HVN := hid hvn
  have hd8 : d ≤ 8 := by rw [← hd]; unfold over; have := labs_len hvn; omega
  have hop := hid (upN_over hb.out)
  rw [hd] at hKo hop
  clear hd hvn
  go_enter Try.func45, Try.ntmps45
  obtain ⟨s0, s1⟩ := hx0.cells2
  go_wp2_with fail
  refine (namesDown_any o nm _ ho hm hb d HD).mono ?_
  rintro e w2 ⟨A2, c2, rfl, hown, hb2⟩
  have hrd := Reads.of_own hown
  have hx2 := hx0.next hb2
  clear hx0 hown hb2 s0 s1
  obtain ⟨L, hL⟩ : ∃ L, downN (lst nm) d (d + 1) = L := ⟨_, rfl⟩
  have hLl : L.length = d + 1 := by rw [← hL]; exact downN_length _ _ _
  have HL := hid hL
  rw [hL, ← hLl] at hrd
  have HLl := hid hLl
  clear hL hLl
  have hw2 := hx2.up (Nat.le_refl _)
  go_wp2_with fail
  go_loopw [5, 15] (fun v s wr => ∃ (j : Nat) (y : ByteArray), j ≤ d + 1 ∧ K ≤ d + 1 - j ∧ v = .string y ∧ s = .int .i64 (j : Int) ∧ Hid (lst y = upN (lst nm) (d - (j - 1))) ∧ Held w wr w.heap.size [.string o, .slice A n c] ∧ Below w2.heap.size w2 wr) (fun _ s _ => d + 1 - (intOf s).toNat)
  case atStart => exact ⟨0, o, Nat.zero_le _, by omega, rfl, rfl, hid hop.out.symm, hx2, Below.refl _ _⟩
  case round =>
    obtain ⟨j, y, hj, hKj, rfl, rfl, hy, hx3, hbw⟩ := hrel
    clear hx2
    obtain ⟨s0, s1⟩ := hx3.cells2
    by_cases hlt : j < d + 1
    · have hlt2 : j < L.length := by rw [HLl.out]; exact hlt
      obtain ⟨ad, t, rfl, hab, ht, hcell⟩ := reads_str (hrd.below hbw (Nat.le_refl _)) hlt2
      have hcell0 : j = 0 → wr.cell? ad = some (.string t) := fun e => by subst e; simpa [Addr.add] using hcell
      have HT : Hid (lst t = upN (lst nm) (d - j)) := hid (by rw [ht, ← HL.out, downN_get _ _ _ _ hlt])
      have htz : t.size ≤ 60 := by rw [← lst_length, HT.out]; exact upN_size HVN.out _
      have p1 : 0 ≤ (j : Int) := by omega
      have p2 : (j : Int) < (d : Int) + 1 := by omega
      obtain ⟨u, hu⟩ : ∃ u, (rs.map RV.z).any (belowP (lst t)) = u := ⟨_, rfl⟩
      have HU := hid hu
      clear hu ht
      go_wp2_with fail
      refine (hasRecordBelow_any o t rs B A n c _ (hr.below hx3.1 hB) (hx3.up hB) hn hf (by omega) u HU).mono ?_
      rintro e w4 ⟨rfl, hb4⟩
      have hx4 := hx3.next hb4
      have hbw4 := below2' hbw hb4 hbw.size
      clear hx3 hb4 s0 s1
      cases u with
      | true =>
        have hKd : K ≤ d - j := by
          rcases Nat.lt_or_ge (d - j) K with h | h
          · have h1 := hK.out.2 _ h
            unfold exB at h1
            rw [← HT.out, HU.out] at h1
            cases h1
          · exact h
        go_wp2_with fail
        exact ⟨⟨j + 1, t, by omega, by omega, rfl, by go_num, hid (by rw [HT.out]; rfl), hx4, hbw4⟩, by simp [intOf]; omega⟩
      | false =>
        have hKd : d - j < K := by
          rcases Nat.lt_or_ge (d - j) K with h | h
          · exact h
          · have h1 := exB_mono HVN.out hK.out.1 h
            unfold exB at h1
            rw [← HT.out, HU.out] at h1
            cases h1
        have hyx : y = x := by
          rw [← hx.out, show K = d - (j - 1) by omega, ← hy.out, bs_lst]
        subst hyx
        go_wp2_with fail
        go_ret
        exact ⟨rfl, hx4.1⟩
    · obtain rfl : j = d + 1 := by omega
      have hyx : y = x := by
        rw [← hx.out, show K = d - (d + 1 - 1) by omega, ← hy.out, bs_lst]
      subst hyx
      go_wp2_with fail
      go_ret
      exact ⟨rfl, hx3.1⟩

set_option maxHeartbeats 4000000 in
theorem iClosestOf_any (o nm : ByteArray) (rs : List RV) (B : Nat) (A : Option Addr) (n c : Nat) (w : World) (hr : Recs w B A n rs) (hB : B ≤ w.heap.size) (hn : n ≤ 67108864) (hnc : n ≤ c) (hf : Hid (∀ r ∈ rs, r.fine)) (ho : o.size ≤ 67108864) (hm : nm.size ≤ 67108864) (x : ByteArray) (ok : Bool) (hx : Hid (IsClosest (lst o) (rs.map RV.z) (lst nm) x ok)) :
    Calls Try.prog 22 #[.agg #[.string o, .slice A n c], .string nm] w fun e w' => e = .returned (.tuple #[.string x, .bool ok]) ∧ Below w.heap.size w w' := by
  have hx0 := Held.box w [.string o, .slice A n c] 30
  obtain ⟨v, hv⟩ : ∃ v, insideB (lst o) (rs.map RV.z) (lst nm) = v := ⟨_, rfl⟩
  have HV := hid hv
  clear hv
  go_enter Try.func22, Try.ntmps22
  go_wp2_with fail
  refine (isInside_any o nm rs B A n c _ (hr.below hx0.1 hB) (hx0.up hB) hn hnc hf ho hm v HV).mono ?_
  rintro e w2 ⟨rfl, hb2⟩
  have hx2 := hx0.next hb2
  obtain ⟨s0, s1⟩ := hx2.cells2
  clear hx0 hb2
  cases v with
  | false =>
    rcases hx.out with ⟨_, rfl, rfl⟩ | ⟨h1, _⟩
    · go_wp2_with fail
      go_ret2
      exact ⟨rfl, hx2.1⟩
    · rw [HV.out] at h1; cases h1
  | true =>
    rcases hx.out with ⟨h1, _⟩ | ⟨_, rfl, K, hK, hKo, hKx⟩
    · rw [HV.out] at h1; cases h1
    · have HKX := hid hKx.symm
      have HK := hid hK
      have HB : Hid (Z.below (lst nm) (lst o) = true) := hid (by
        have h := HV.out
        unfold insideB at h
        exact (Bool.and_eq_true_iff.1 h).2)
      clear hK hKx
      go_wp2_with fail
      refine (closestAbove_any o nm rs B A n c _ (hr.below hx2.1 hB) (hx2.up hB) hn hf ho hm HB K HK hKo x HKX).mono ?_
      rintro e w4 ⟨rfl, hb4⟩
      go_wp2_with fail
      go_ret2
      exact ⟨rfl, (hx2.next hb4).1⟩

theorem ClosestOf_law {w W : World} {o nm : ByteArray} {rs : List RV} {aA A : Option Addr} {aL c : Nat} (hra : Recs w w.heap.size aA aL rs) (h1 : Copy W rs A aL) (hs : Hid (∀ r ∈ rs, r.small)) (la : aL ≤ 1048576) (ho : o.size ≤ 1048576) (hm : nm.size ≤ 1048576) (x : ByteArray) (ok : Bool) (hx : Hid (IsClosest (lst o) (rs.map RV.z) (lst nm) x ok)) :
    Calls Try.prog 21 #[.agg #[.string o, .slice A aL c], .string nm] W fun e W' => e = .returned (.tuple #[.string x, .bool ok]) ∧ Below W.heap.size W W' := by
  obtain ⟨os, z1, r1⟩ := h1.ex
  exact ClosestOf_any o nm os _ A aL c W r1 (Nat.le_refl _) (by omega) (fine_of z1 r1 hra hs) (by omega) (by omega) x ok (hid (by rw [z1]; exact hx.out))
theorem iClosestOf_law {w W : World} {o nm : ByteArray} {rs : List RV} {aA A : Option Addr} {aL c : Nat} (hra : Recs w w.heap.size aA aL rs) (h1 : Copy W rs A aL) (hs : Hid (∀ r ∈ rs, r.small)) (la : aL ≤ 1048576) (ho : o.size ≤ 1048576) (hm : nm.size ≤ 1048576) (hc : aL ≤ c) (x : ByteArray) (ok : Bool) (hx : Hid (IsClosest (lst o) (rs.map RV.z) (lst nm) x ok)) :
    Calls Try.prog 22 #[.agg #[.string o, .slice A aL c], .string nm] W fun e W' => e = .returned (.tuple #[.string x, .bool ok]) ∧ Below W.heap.size W W' := by
  obtain ⟨os, z1, r1⟩ := h1.ex
  exact iClosestOf_any o nm os _ A aL c W r1 (Nat.le_refl _) (by omega) hc (fine_of z1 r1 hra hs) (by omega) (by omega) x ok (hid (by rw [z1]; exact hx.out))
end Go.Proofs.Ytgglakonkphbgaa

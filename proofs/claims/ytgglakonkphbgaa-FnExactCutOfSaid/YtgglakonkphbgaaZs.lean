/- What CutOf of the program returns. -/
import Derived.Test.YtgglakonkphbgaaZr
namespace Go.Proofs.Ytgglakonkphbgaa
open Go.RowKit
set_option maxRecDepth 100000
set_option linter.unusedVariables false
set_option linter.unusedSimpArgs false

/-- The place of the first text with a property, or less than 0. -/
def FirstAtS (P : Z.Str → Bool) (ls : List Z.Str) (m : Int) : Prop := (m < 0 ∧ ∀ j, j < ls.length → P (ls.getD j []) = false) ∨ (∃ k : Nat, m = k ∧ k < ls.length ∧ P (ls.getD k []) = true ∧ ∀ j, j < k → P (ls.getD j []) = false)

set_option maxHeartbeats 4000000 in
theorem IndexFuncCut_any (cv : Value) (P : Z.Str → Bool) (ls : List Z.Str) (B : Nat) (A : Option Addr) (n c : Nat) (w : World) (hr : Reads w B A n (ls.map sv)) (hB : B ≤ w.heap.size) (hn : n ≤ 67108864)
    (hcall : Hid (∀ (s : ByteArray) (W : World), lst s ∈ ls → Below w.heap.size w W → Calls Try.prog 64 #[.string s, cv] W fun e W' => e = .returned (.bool (P (lst s))) ∧ Below W.heap.size W W')) :
    Calls Try.prog 63 #[.slice A n c, .func (.func 64) #[] #[cv]] w fun e w' => ∃ m : Int, e = .returned (.int .i64 m) ∧ Hid (FirstAtS P ls m) ∧ Below w.heap.size w w' := by
  obtain rfl : n = ls.length := by simpa using hr.1.symm
  go_enter Try.func63, Try.ntmps63
  go_wp2_with fail
  go_loopw [8] (fun v wr => ∃ k : Nat, k ≤ ls.length ∧ v = .int .i64 k ∧ Hid (∀ j, j < k → P (ls.getD j []) = false) ∧ Below w.heap.size w wr) (fun v _ => ls.length - (intOf v).toNat)
  case atStart => exact ⟨0, Nat.zero_le _, rfl, hid (fun j hj => absurd hj (by omega)), Below.refl _ _⟩
  case round =>
    obtain ⟨k, hk, rfl, hinv, hb⟩ := hrel
    have hbs := hb.size
    by_cases hlt : k < ls.length
    · obtain ⟨ad, t, rfl, hab, ht, hcell⟩ := reads_str (hr.below hb hB) hlt
      have hcell0 : k = 0 → wr.cell? ad = some (.string t) := fun e => by subst e; simpa [Addr.add] using hcell
      have HT := hid ht
      have HM : Hid (lst t ∈ ls) := hid (by rw [ht]; simp [hlt])
      have p1 : 0 ≤ (k : Int) := by omega
      have p2 : (k : Int) < ls.length := by omega
      clear ht
      obtain ⟨y, hy⟩ : ∃ y, P (lst t) = y := ⟨_, rfl⟩
      have HY := hid hy
      clear hy
      go_wp2_with fail
      refine (hcall.out t _ HM.out hb).mono ?_
      rintro e w2 ⟨rfl, hb2⟩
      have hb3 := hb.trans (hb2.mono hbs)
      rw [HY.out]
      cases y with
      | true =>
        go_wp2_with fail
        go_ret
        exact ⟨_, rfl, hid (Or.inr ⟨k, rfl, hlt, by rw [← HT.out]; exact HY.out, hinv.out⟩), hb3⟩
      | false =>
        have hnx : Hid (∀ j, j < k + 1 → P (ls.getD j []) = false) := hid (fun j hj => by
          rcases Nat.lt_or_ge j k with h | h
          · exact hinv.out j h
          · rw [show j = k by omega, ← HT.out]; exact HY.out)
        go_wp2_with fail
        exact ⟨⟨k + 1, by omega, by go_num, hnx, hb3⟩, by simp [intOf]; omega⟩
    · obtain rfl : k = ls.length := by omega
      go_wp2_with fail
      go_ret
      exact ⟨_, rfl, hid (Or.inl ⟨by decide, hinv.out⟩), hb⟩

set_option maxHeartbeats 4000000 in
theorem cutAbove1_any (o s : ByteArray) (rs : List RV) (B : Nat) (A : Option Addr) (n c g : Nat) (W : World) (hg : g < W.heap.size) (h0 : W.cell? ⟨g, 0, none⟩ = some (.string o)) (h1 : W.cell? ⟨g, 1, none⟩ = some (.slice A n c)) (hr : Recs W B A n rs) (hB : B ≤ W.heap.size) (hn : n ≤ 67108864) (hf : Hid (∀ r ∈ rs, r.fine)) (u : Bool) (hu : Hid (decide (0 < atN (rs.map RV.z) (lst s) 2) = u)) :
    Calls Try.prog 64 #[.string s, .pointer (some ⟨g, 0, none⟩)] W fun e W' => e = .returned (.bool u) ∧ Below W.heap.size W W' := by
  obtain ⟨N, hN⟩ : ∃ N, atN (rs.map RV.z) (lst s) 2 = N := ⟨_, rfl⟩
  have hu1 := hu.out
  rw [hN] at hu1
  have HN := hid hN
  clear hN hu
  go_enter Try.func64, Try.ntmps64
  go_wp2_with fail
  refine (recordsAs_w o s s 2 rs B A n c _ hr hB hn hf N HN).mono ?_
  rintro e w5 ⟨A5, c5, rfl, hb5⟩
  go_wp2_with fail
  go_ret
  exact ⟨ret_bool (by rw [← hu1]), hb5⟩

theorem cut_none {zs : List Z.Rec} {nm : Z.Str} {L : List Z.Str} {d : Nat} (hl : L.length = d) (hg : ∀ j, j < d → L.getD j [] = upN nm (d - (j + 1))) (h : ∀ j, j < L.length → decide (0 < atN zs (L.getD j []) 2) = false) : ∀ j, j < d → nsB zs nm j = false := fun j hj => by
  have h1 := h (d - 1 - j) (by omega)
  rw [hg _ (by omega), show d - (d - 1 - j + 1) = j by omega] at h1
  exact h1
theorem cut_found {zs : List Z.Rec} {nm : Z.Str} {L : List Z.Str} {d k : Nat} (hl : L.length = d) (hg : ∀ j, j < d → L.getD j [] = upN nm (d - (j + 1))) (hk : k < d) (h1 : decide (0 < atN zs (L.getD k []) 2) = true) (h2 : ∀ j, j < k → decide (0 < atN zs (L.getD j []) 2) = false) : nsB zs nm (d - (k + 1)) = true ∧ ∀ j, d - (k + 1) < j → j < d → nsB zs nm j = false := by
  refine ⟨by rw [hg k hk] at h1; exact h1, fun j hj1 hj2 => ?_⟩
  have h3 := h2 (d - 1 - j) (by omega)
  rw [hg _ (by omega), show d - (d - 1 - j + 1) = j by omega] at h3
  exact h3

set_option maxHeartbeats 8000000 in
theorem cutAbove_any (o nm : ByteArray) (rs : List RV) (B : Nat) (A : Option Addr) (n c : Nat) (w : World) (hr : Recs w B A n rs) (hB : B ≤ w.heap.size) (hn : n ≤ 67108864) (hf : Hid (∀ r ∈ rs, r.fine)) (ho : o.size ≤ 67108864) (hm : nm.size ≤ 67108864) (hb : Hid (Z.below (lst nm) (lst o) = true)) (d : Nat) (hd : Hid (over (lst nm) (lst o) = d)) (x : ByteArray) (ok : Bool) (hxc : Hid (CutIn (rs.map RV.z) (lst nm) d x ok)) :
    Calls Try.prog 43 #[.agg #[.string o, .slice A n c], .string nm] w fun e w' => e = .returned (.tuple #[.string x, .bool ok]) ∧ Below w.heap.size w w' := by
  have hx0 := Held.box w [.string o, .slice A n c] 30
  have hd8 : d ≤ 8 := by rw [← hd.out]; unfold over; have := labs_len (Z.below_iff.1 hb.out).1; omega
  go_enter Try.func43, Try.ntmps43
  obtain ⟨s0, s1⟩ := hx0.cells2
  go_wp2_with fail
  refine (namesDown_any o nm _ ho hm hb d hd).mono ?_
  rintro e w2 ⟨A2, c2, rfl, hown, hb2⟩
  have hx2 := hx0.next hb2
  have hcap := (own_cap hown).1
  have hcm := (own_cap hown).2
  unfold maxLen at hcm
  obtain ⟨g, rfl, hd1, hd2⟩ : ∃ g, A2 = some ⟨g, 0, none⟩ ∧ (c2 = 1 → Reads w2 w2.heap.size (some ⟨g, 0, none⟩) d (((downN (lst nm) d (d + 1)).drop 1).map sv)) ∧ (¬ c2 = 1 → Reads w2 w2.heap.size (some ⟨g, 1, none⟩) d (((downN (lst nm) d (d + 1)).drop 1).map sv)) := by
    obtain ⟨g, e1, e2, e3⟩ := own_drop hown (by omega) 1
    refine ⟨g, e1, fun h => ?_, fun h => ?_⟩
    · have hd0 : d = 0 := by omega
      have := e2 h
      rw [hd0] at this ⊢ <;> exact this
    · have := e3 h
      rwa [Nat.add_sub_cancel] at this
  clear hx0 hown hb2 s0 s1
  obtain ⟨L, hL⟩ : ∃ L, (downN (lst nm) d (d + 1)).drop 1 = L := ⟨_, rfl⟩
  rw [hL] at hd1 hd2
  have hLl : L.length = d := by rw [← hL, List.length_drop, downN_length]; rfl
  have HLG : Hid (∀ j, j < d → L.getD j [] = upN (lst nm) (d - (j + 1))) := hid (fun j hj => by
    rw [← hL]
    have h := downN_get (lst nm) d (d + 1) (1 + j) (by omega)
    rw [Nat.add_comm 1 j] at h
    rw [← h]
    simp [List.getD_eq_getElem?_getD, List.getElem?_drop, Nat.add_comm])
  have HLl := hid hLl
  have hp1 : (1 : Int) ≤ c2 := by omega
  have hp2 : 1 ≤ c2 := by omega
  clear hL hLl
  obtain ⟨s0, s1⟩ := hx2.cells2
  by_cases hc : c2 = 1
  · have hrr := hd1 hc
    clear hd1 hd2
    go_wp2_with fail
    refine (IndexFuncCut_any (.pointer (some ⟨w.heap.size, 0, none⟩)) (fun s => decide (0 < atN (rs.map RV.z) s 2)) L _ _ d _ _ hrr (Nat.le_refl _) (by omega) (hid (fun s W _ hbW => by
      have hy := hx2.next hbW
      exact cutAbove1_any o s rs B A n c w.heap.size W hy.2.2.1 (hy.2.2.2 0 _ rfl) (hy.2.2.2 1 _ rfl) (hr.below hy.1 hB) (hy.up hB) hn hf _ (hid rfl)))).mono ?_
    rintro e w3 ⟨m, rfl, hm3, hb3⟩
    have hx3 := hx2.next hb3
    rcases hm3.out with ⟨hm4, hall⟩ | ⟨k, rfl, hk1, hk2, hk3⟩
    · obtain ⟨rfl, rfl⟩ := CutIn.none_ hxc.out (cut_none HLl.out HLG.out hall)
      go_wp2_with fail
      go_ret2
      exact ⟨rfl, hx3.1⟩
    · have hkd : k < d := by rw [← HLl.out]; exact hk1
      exfalso
      omega
  · have hrr := hd2 hc
    clear hd1 hd2
    go_wp2_with fail
    refine (IndexFuncCut_any (.pointer (some ⟨w.heap.size, 0, none⟩)) (fun s => decide (0 < atN (rs.map RV.z) s 2)) L _ _ d _ _ hrr (Nat.le_refl _) (by omega) (hid (fun s W _ hbW => by
      have hy := hx2.next hbW
      exact cutAbove1_any o s rs B A n c w.heap.size W hy.2.2.1 (hy.2.2.2 0 _ rfl) (hy.2.2.2 1 _ rfl) (hr.below hy.1 hB) (hy.up hB) hn hf _ (hid rfl)))).mono ?_
    rintro e w3 ⟨m, rfl, hm3, hb3⟩
    have hx3 := hx2.next hb3
    rcases hm3.out with ⟨hm4, hall⟩ | ⟨k, rfl, hk1, hk2, hk3⟩
    · obtain ⟨rfl, rfl⟩ := CutIn.none_ hxc.out (cut_none HLl.out HLG.out hall)
      go_wp2_with fail
      go_ret2
      exact ⟨rfl, hx3.1⟩
    · have hkd : k < d := by rw [← HLl.out]; exact hk1
      have hfo := cut_found HLl.out HLG.out hkd hk2 hk3
      obtain ⟨hxe, rfl⟩ := CutIn.found hxc.out (by omega) hfo.1 hfo.2
      have hrr3 := hrr.below hb3 (Nat.le_refl _)
      rw [← HLl.out] at hrr3
      obtain ⟨ad, t, hae, hab, ht, hcell⟩ := reads_str hrr3 hk1
      obtain rfl := Option.some.inj hae
      rw [Addr.add_lit] at hcell
      try simp only [Nat.zero_add] at hcell
      obtain rfl : x = t := by rw [hxe, ← HLG.out k hkd, ← ht, bs_lst]
      have p1 : 0 ≤ (k : Int) := by omega
      have p2 : (k : Int) < d := by omega
      have p3 : ¬ (k : Int) < 0 := by omega
      clear hm3 hk2 hk3 hfo hxe ht hrr3
      go_wp2_with fail
      go_ret2
      exact ⟨rfl, hx3.1⟩

set_option maxHeartbeats 4000000 in
theorem iCutOf_any (o nm : ByteArray) (rs : List RV) (B : Nat) (A : Option Addr) (n c : Nat) (w : World) (hr : Recs w B A n rs) (hB : B ≤ w.heap.size) (hn : n ≤ 67108864) (hnc : n ≤ c) (hf : Hid (∀ r ∈ rs, r.fine)) (ho : o.size ≤ 67108864) (hm : nm.size ≤ 67108864) (x : ByteArray) (ok : Bool) (hx : Hid (IsCut (lst o) (rs.map RV.z) (lst nm) x ok)) :
    Calls Try.prog 20 #[.agg #[.string o, .slice A n c], .string nm] w fun e w' => e = .returned (.tuple #[.string x, .bool ok]) ∧ Below w.heap.size w w' := by
  have hx0 := Held.box w [.string o, .slice A n c] 30
  obtain ⟨v, hv⟩ : ∃ v, insideB (lst o) (rs.map RV.z) (lst nm) = v := ⟨_, rfl⟩
  have HV := hid hv
  clear hv
  go_enter Try.func20, Try.ntmps20
  go_wp2_with fail
  refine (isInside_any o nm rs B A n c _ (hr.below hx0.1 hB) (hx0.up hB) hn hnc hf ho hm v HV).mono ?_
  rintro e w2 ⟨rfl, hb2⟩
  have hx2 := hx0.next hb2
  obtain ⟨s0, s1⟩ := hx2.cells2
  clear hx0 hb2
  cases v with
  | false =>
    rcases hx.out with ⟨_, rfl, rfl⟩ | ⟨h1, _⟩
    · go_wp2_with fail
      go_ret2
      exact ⟨rfl, hx2.1⟩
    · rw [HV.out] at h1; cases h1
  | true =>
    rcases hx.out with ⟨h1, _⟩ | ⟨_, hxc⟩
    · rw [HV.out] at h1; cases h1
    · have HXC := hid hxc
      have HB : Hid (Z.below (lst nm) (lst o) = true) := hid (by
        have h := HV.out
        unfold insideB at h
        exact (Bool.and_eq_true_iff.1 h).2)
      clear hxc
      go_wp2_with fail
      refine (cutAbove_any o nm rs B A n c _ (hr.below hx2.1 hB) (hx2.up hB) hn hf ho hm HB _ (hid rfl) x ok HXC).mono ?_
      rintro e w4 ⟨rfl, hb4⟩
      go_wp2_with fail
      go_ret2
      exact ⟨rfl, (hx2.next hb4).1⟩

theorem CutOf_law {w W : World} {o nm : ByteArray} {rs : List RV} {aA A : Option Addr} {aL c : Nat} (hra : Recs w w.heap.size aA aL rs) (h1 : Copy W rs A aL) (hs : Hid (∀ r ∈ rs, r.small)) (la : aL ≤ 1048576) (ho : o.size ≤ 1048576) (hm : nm.size ≤ 1048576) (x : ByteArray) (ok : Bool) (hx : Hid (IsCut (lst o) (rs.map RV.z) (lst nm) x ok)) :
    Calls Try.prog 19 #[.agg #[.string o, .slice A aL c], .string nm] W fun e W' => e = .returned (.tuple #[.string x, .bool ok]) ∧ Below W.heap.size W W' := by
  obtain ⟨os, z1, r1⟩ := h1.ex
  exact CutOf_any o nm os _ A aL c W r1 (Nat.le_refl _) (by omega) (fine_of z1 r1 hra hs) (by omega) (by omega) x ok (hid (by rw [z1]; exact hx.out))
theorem iCutOf_law {w W : World} {o nm : ByteArray} {rs : List RV} {aA A : Option Addr} {aL c : Nat} (hra : Recs w w.heap.size aA aL rs) (h1 : Copy W rs A aL) (hs : Hid (∀ r ∈ rs, r.small)) (la : aL ≤ 1048576) (ho : o.size ≤ 1048576) (hm : nm.size ≤ 1048576) (hc : aL ≤ c) (x : ByteArray) (ok : Bool) (hx : Hid (IsCut (lst o) (rs.map RV.z) (lst nm) x ok)) :
    Calls Try.prog 20 #[.agg #[.string o, .slice A aL c], .string nm] W fun e W' => e = .returned (.tuple #[.string x, .bool ok]) ∧ Below W.heap.size W W' := by
  obtain ⟨os, z1, r1⟩ := h1.ex
  exact iCutOf_any o nm os _ A aL c W r1 (Nat.le_refl _) (by omega) hc (fine_of z1 r1 hra hs) (by omega) (by omega) x ok (hid (by rw [z1]; exact hx.out))
end Go.Proofs.Ytgglakonkphbgaa

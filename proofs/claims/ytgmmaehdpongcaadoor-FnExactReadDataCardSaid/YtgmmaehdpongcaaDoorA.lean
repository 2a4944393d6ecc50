/- What the helpers of the laws return: marks in a list of texts, and equal lists. -/
import Derived.Test.YtgmmaehdpongcaaDoorZ
namespace Go.Proofs.YtgmmaehdpongcaaDoor
open Go.RowKit
set_option maxRecDepth 100000

def dg (k : Nat) : UInt8 := UInt8.ofNat (48 + k % 10)
theorem dg_toNat (k : Nat) : (dg k).toNat = 48 + k % 10 := by unfold dg; rw [UInt8.toNat_ofNat']; omega
/-- The digits of a number. -/
def digs : Nat → Nat → Z.Str → Z.Str
  | 0, _, acc => acc
  | f + 1, k, acc => if k = 0 then acc else digs f (k / 10) (dg k :: acc)
theorem digs_zero (f : Nat) (acc : Z.Str) : digs f 0 acc = acc := by cases f <;> simp [digs]
theorem digs_step (f k : Nat) (acc : Z.Str) (h : 0 < k) : digs (f + 1) k acc = digs f (k / 10) (dg k :: acc) := by
  have : ¬ k = 0 := by omega
  simp [digs, this]
theorem digs_length : ∀ (f k : Nat) (acc : Z.Str), (digs f k acc).length ≤ f + acc.length
  | 0, _, _ => by simp [digs]
  | f + 1, k, acc => by
    unfold digs
    split
    · omega
    · have := digs_length f (k / 10) (dg k :: acc)
      simp at this
      omega
def mark (k : Nat) : Z.Str := 109 :: digs k k []

theorem conv_one {P : Program} {w : World} {src dst e : TypeId} {c : UInt8} {v : Int} (hs : P.underlying src = some (.slice e)) (he : P.underlying e = some (.int .u8)) (hd : P.underlying dst = some .string) (hv : v = c.toNat) :
    (convert src dst (.slice (some ⟨w.heap.size, 0, none⟩) 1 1)).run P (w.alloc (.cells #[.int .u8 v] e)) = .ok (.string (bs [c])) (w.alloc (.cells #[.int .u8 v] e)) := by
  subst hv
  have := run_convert_bytes_back (P := P) (w.alloc (.cells #[.int .u8 (c.toNat : Int)] e)) src dst e ⟨w.heap.size, 0, none⟩ 1 [c] hs he hd (fun j hj => by
    have hj0 : j = 0 := by simpa using hj
    subst hj0
    exact one_cell (x := .int .u8 (c.toNat : Int)) 0 _ rfl)
  exact this

set_option maxHeartbeats 1000000 in
theorem markText_any (k : Nat) (w : World) (h1 : 1 ≤ k) (h2 : k ≤ 1048576) :
    Calls Tryd.prog 78 #[.int .i64 (k : Int)] w fun e w' => e = .returned (.string (bs (mark k))) ∧ Below w.heap.size w w' := by
  go_enter Tryd.func78, Tryd.ntmps78
  go_wp2_with fail
  go_loopw [0, 3] (fun ks o wr => ∃ (f j : Nat) (t : ByteArray), ks = .int .i64 (j : Int) ∧ o = .string t ∧ j ≤ f ∧ t.size + j ≤ k ∧ Hid (digs k k [] = digs f j (lst t)) ∧ Below w.heap.size w wr) (fun ks _ _ => (intOf ks).toNat)
  case atStart => exact ⟨k, k, ⟨#[]⟩, rfl, rfl, Nat.le_refl _, by show 0 + k ≤ k; omega, hid rfl, Below.refl _ _⟩
  case round =>
    obtain ⟨f, j, t, rfl, rfl, hjf, htk, hd, hb⟩ := hrel
    have hbs := hb.size
    by_cases hj : 0 < j
    · obtain ⟨f, rfl⟩ : ∃ f', f = f' + 1 := ⟨f - 1, by omega⟩
      have hc : (48 : Int) + (j : Int) % 10 = ((dg j).toNat : Int) := by rw [dg_toNat]; omega
      have hcv := conv_one (P := Tryd.prog) (w := wr) Tryd.underlying22 Tryd.underlying5 Tryd.underlying9 hc
      have ha : ∀ W : World, (Op.stringOp .add (bs [dg j]) t).run Tryd.prog W = .ok (.string (bs [dg j] ++ t)) W := fun W => run_string_add_sum W _ _ (by rw [bs_size]; simp; omega)
      have hd2 : Hid (digs k k [] = digs f (j / 10) (lst (bs [dg j] ++ t))) := hid (by rw [hd.out, lst_append, lst_bs, digs_step _ _ _ hj]; rfl)
      have hsz : (bs [dg j] ++ t).size = t.size + 1 := by rw [ByteArray.size_append, bs_size]; simp; omega
      have HSZ := hid hsz
      clear hc hsz
      go_wp2_with fail
      refine ⟨⟨f, j / 10, bs [dg j] ++ t, by go_num, rfl, by omega, by rw [HSZ.out]; omega, hd2, hb.alloc hbs _⟩, ?_⟩
      simp [intOf]; omega
    · obtain rfl : j = 0 := by omega
      have hfin : Hid (bs (mark k) = ⟨#[109]⟩ ++ t) := hid (by apply lst_inj; rw [lst_bs, lst_append]; unfold mark; rw [hd.out, digs_zero]; rfl)
      have ha : ∀ W : World, (Op.stringOp .add ⟨#[109]⟩ t).run Tryd.prog W = .ok (.string (⟨#[109]⟩ ++ t)) W := fun W => run_string_add_sum W _ _ (by show 1 + _ ≤ _; omega)
      go_wp2_with fail
      go_ret
      exact ⟨ret_str hfin.out.symm, hb⟩
set_option maxHeartbeats 1000000 in
theorem zfTexts_any (xs ys : List Z.Str) (B : Nat) (A A2 : Option Addr) (n m c c2 : Nat) (w : World) (hr1 : Reads w B A n (xs.map sv)) (hr2 : Reads w B A2 m (ys.map sv)) (hx : xs.length ≤ 67108864) (_hy : ys.length ≤ 67108864) :
    Calls Tryd.prog 25 #[.slice A n c, .slice A2 m c2] w fun e w' => e = .returned (.bool (decide (xs = ys))) ∧ ∃ q, w' = w.drewN q := by
  obtain rfl : n = xs.length := by simpa using hr1.1.symm
  obtain rfl : m = ys.length := by simpa using hr2.1.symm
  by_cases hl : xs.length = ys.length
  · have hlb : ((xs.length : Int) != (ys.length : Int)) = false := by rw [hl]; simp
    have HL := hid hl
    clear hl
    go_enter Tryd.func25, Tryd.ntmps25
    go_wp2_with fail
    go_loopw [5] (fun i wr => ∃ (k nq : Nat), k ≤ xs.length ∧ i = .int .i64 k ∧ wr = w.drewN nq ∧ Hid (∀ j, j < k → xs.getD j [] = ys.getD j [])) (fun i _ => xs.length - (intOf i).toNat)
    case atStart => exact ⟨0, 0, Nat.zero_le _, rfl, rfl, hid (fun j hj => absurd hj (by omega))⟩
    case round =>
      obtain ⟨k, nq, hk, rfl, rfl, hok⟩ := hrel
      by_cases hlt : k < xs.length
      · have hlt2 : k < ys.length := by have := HL.out; omega
        obtain ⟨ad1, x, rfl, hab1, hx2, hcell1⟩ := reads_str hr1 hlt
        obtain ⟨ad2, y, rfl, hab2, hy2, hcell2⟩ := reads_str hr2 hlt2
        have Hx := hid hx2
        have Hy := hid hy2
        clear hx2 hy2
        have p1 : 0 ≤ (k : Int) := by omega
        have q1 : (k : Int) < xs.length := by omega
        have q2 : (k : Int) < ys.length := by omega
        go_wp2_with fail
        go_quiet (fail)
        go_wp2_with fail
        · have hne : (!x.toList == y.toList) = true := by assumption
          go_ret
          refine ⟨ret_bool ?_, ⟨_, World.drewN_drewN _ _ _⟩⟩
          have h3 : xs ≠ ys := fun e => by
            rw [e, ← Hy.out] at Hx
            have := Hx.out
            rw [toList_lst, toList_lst, this] at hne
            simp at hne
          simp [h3]
        · have heq : (!x.toList == y.toList) = false := by assumption
          refine ⟨⟨k + 1, _, by omega, by go_num, rfl, hid fun j hj => ?_⟩, by simp [intOf]; omega⟩
          rcases Nat.lt_or_ge j k with h1 | h1
          · exact hok.out j h1
          · obtain rfl : j = k := by omega
            rw [← Hx.out, ← Hy.out]
            rw [toList_lst, toList_lst] at heq
            simpa using heq
      · have hfin : Hid (xs = ys) := hid (by
          apply List.ext_getElem HL.out
          intro j h1 h2
          have := hok.out j (by omega)
          simpa [h1, h2] using this)
        go_wp2_with fail
        go_ret
        exact ⟨ret_bool (by simp [hfin.out]), ⟨_, rfl⟩⟩
  · have hlb : ((xs.length : Int) != (ys.length : Int)) = true := by rw [bne_iff_ne]; omega
    have hne : Hid (xs ≠ ys) := hid (fun e => hl (by rw [e]))
    clear hl
    go_enter Tryd.func25, Tryd.ntmps25
    go_wp2_with fail
    go_ret
    exact ⟨ret_bool (by simp [hne.out]), ⟨0, rfl⟩⟩
set_option maxHeartbeats 1000000 in
theorem eqStringS_any (xs ys : List Z.Str) (B : Nat) (A A2 : Option Addr) (n m c c2 : Nat) (w : World) (hr1 : Reads w B A n (xs.map sv)) (hr2 : Reads w B A2 m (ys.map sv)) (hx : xs.length ≤ 67108864) (_hy : ys.length ≤ 67108864) :
    Calls Tryd.prog 31 #[.slice A n c, .slice A2 m c2] w fun e w' => e = .returned (.bool (decide (xs = ys))) ∧ ∃ q, w' = w.drewN q := by
  obtain rfl : n = xs.length := by simpa using hr1.1.symm
  obtain rfl : m = ys.length := by simpa using hr2.1.symm
  by_cases hl : xs.length = ys.length
  · have hlb : ((xs.length : Int) != (ys.length : Int)) = false := by rw [hl]; simp
    have HL := hid hl
    clear hl
    go_enter Tryd.func31, Tryd.ntmps31
    go_wp2_with fail
    go_loopw [5] (fun i wr => ∃ (k nq : Nat), k ≤ xs.length ∧ i = .int .i64 k ∧ wr = w.drewN nq ∧ Hid (∀ j, j < k → xs.getD j [] = ys.getD j [])) (fun i _ => xs.length - (intOf i).toNat)
    case atStart => exact ⟨0, 0, Nat.zero_le _, rfl, rfl, hid (fun j hj => absurd hj (by omega))⟩
    case round =>
      obtain ⟨k, nq, hk, rfl, rfl, hok⟩ := hrel
      by_cases hlt : k < xs.length
      · have hlt2 : k < ys.length := by have := HL.out; omega
        obtain ⟨ad1, x, rfl, hab1, hx2, hcell1⟩ := reads_str hr1 hlt
        obtain ⟨ad2, y, rfl, hab2, hy2, hcell2⟩ := reads_str hr2 hlt2
        have Hx := hid hx2
        have Hy := hid hy2
        clear hx2 hy2
        have p1 : 0 ≤ (k : Int) := by omega
        have q1 : (k : Int) < xs.length := by omega
        have q2 : (k : Int) < ys.length := by omega
        go_wp2_with fail
        go_quiet (fail)
        go_wp2_with fail
        · have hne : (!x.toList == y.toList) = true := by assumption
          go_ret
          refine ⟨ret_bool ?_, ⟨_, World.drewN_drewN _ _ _⟩⟩
          have h3 : xs ≠ ys := fun e => by
            rw [e, ← Hy.out] at Hx
            have := Hx.out
            rw [toList_lst, toList_lst, this] at hne
            simp at hne
          simp [h3]
        · have heq : (!x.toList == y.toList) = false := by assumption
          refine ⟨⟨k + 1, _, by omega, by go_num, rfl, hid fun j hj => ?_⟩, by simp [intOf]; omega⟩
          rcases Nat.lt_or_ge j k with h1 | h1
          · exact hok.out j h1
          · obtain rfl : j = k := by omega
            rw [← Hx.out, ← Hy.out]
            rw [toList_lst, toList_lst] at heq
            simpa using heq
      · have hfin : Hid (xs = ys) := hid (by
          apply List.ext_getElem HL.out
          intro j h1 h2
          have := hok.out j (by omega)
          simpa [h1, h2] using this)
        go_wp2_with fail
        go_ret
        exact ⟨ret_bool (by simp [hfin.out]), ⟨_, rfl⟩⟩
  · have hlb : ((xs.length : Int) != (ys.length : Int)) = true := by rw [bne_iff_ne]; omega
    have hne : Hid (xs ≠ ys) := hid (fun e => hl (by rw [e]))
    clear hl
    go_enter Tryd.func31, Tryd.ntmps31
    go_wp2_with fail
    go_ret
    exact ⟨ret_bool (by simp [hne.out]), ⟨0, rfl⟩⟩
end Go.Proofs.YtgmmaehdpongcaaDoor

/- What the model writes of the data of a record. What FormatRecord of the model returns. -/
import Derived.Test.YtpgeeeamcncpkaaGreatDoorSf
import Derived.Test.YtpgeeeamcncpkaaGreatDoorSc
import Derived.Test.YtpgeeeamcncpkaaGreatDoorMa
import Derived.Deep.RegionHeld3
import Derived.Test.YtpgeeeamcncpkaaGreatDoorSa
namespace Go.Proofs.YtpgeeeamcncpkaaGreatDoor
open Go.RowKit
set_option maxRecDepth 100000
set_option linter.unusedVariables false

/-- The numeral of a number. -/
@[irreducible] def numS (N : Nat) : ByteArray := bs (Lib.itoa N)
theorem numS_lst (N : Nat) : lst (numS N) = Lib.itoa N := by unfold numS; rw [lst_bs]
theorem numS_size (N : Nat) (hN : N ≤ 9223372036854775807) : (numS N).size ≤ 19 := by
  unfold numS
  rw [bs_size, Z.itoa_pos (by omega), Int.toNat_natCast]
  exact Z.dec_len (by omega) (by omega)
theorem l13Dec_num (N : Nat) (hN : N ≤ 9223372036854775807) (w : World) :
    Calls Tryz.prog 119 #[.int .i64 N] w fun e w' => e = .returned (.string (numS N)) ∧ Below w.heap.size w w' := by
  unfold numS
  exact l13Dec_any N hN w
theorem add_run (a b : ByteArray) (h : a.size + b.size ≤ 100000000) (W : World) : (Op.stringOp .add a b).run Tryz.prog W = .ok (.string (a ++ b)) W := run_string_add_sum W _ _ (by omega)

set_option maxHeartbeats 4000000 in
theorem l2Data_1 (aN : ByteArray) (aT : Int) (ad : Addr) (aC : Nat) (aG aX : ByteArray) (n0 n1 n2 n3 : Nat) (aB : Nat) (w : World) (hab : ad.block < aB) (hba : aB ≤ w.heap.size)
    (h0 : w.cell? ad = some (.int .i64 n0)) (h1 : w.cell? (ad.add 1) = some (.int .i64 n1)) (h2 : w.cell? (ad.add 2) = some (.int .i64 n2)) (h3 : w.cell? (ad.add 3) = some (.int .i64 n3))
    (k0 : n0 ≤ 255) (k1 : n1 ≤ 255) (k2 : n2 ≤ 255) (k3 : n3 ≤ 255) :
    Calls Tryz.prog 120 #[.agg #[.string aN, .int .i64 aT, .int .i64 1, .slice (some ad) 4 aC, .string aG, .string aX]] w fun e w' => e = .returned (.string (bs (Z.dataText 1 [(n0 : Int), (n1 : Int), (n2 : Int), (n3 : Int)] (lst aG) (lst aX)))) ∧ Below w.heap.size w w' := by
  have s0 := numS_size n0 (by omega)
  have s1 := numS_size n1 (by omega)
  have s2 := numS_size n2 (by omega)
  have s3 := numS_size n3 (by omega)
  have hfin : Hid (numS n0 ++ ⟨#[46]⟩ ++ numS n1 ++ ⟨#[46]⟩ ++ numS n2 ++ ⟨#[46]⟩ ++ numS n3 = bs (Z.dataText 1 [(n0 : Int), (n1 : Int), (n2 : Int), (n3 : Int)] (lst aG) (lst aX))) := hid (by
    apply lst_inj
    simp only [lst_append, lst_bs, numS_lst]
    simp [Z.dataText, Z.between, lst])
  have z : (⟨#[46]⟩ : ByteArray).size = 1 := rfl
  have a1 := add_run (numS n0) ⟨#[46]⟩ (by omega)
  have a2 := add_run (numS n0 ++ ⟨#[46]⟩) (numS n1) (by simp only [ByteArray.size_append]; omega)
  have a3 := add_run (numS n0 ++ ⟨#[46]⟩ ++ numS n1) ⟨#[46]⟩ (by simp only [ByteArray.size_append]; omega)
  have a4 := add_run (numS n0 ++ ⟨#[46]⟩ ++ numS n1 ++ ⟨#[46]⟩) (numS n2) (by simp only [ByteArray.size_append]; omega)
  have a5 := add_run (numS n0 ++ ⟨#[46]⟩ ++ numS n1 ++ ⟨#[46]⟩ ++ numS n2) ⟨#[46]⟩ (by simp only [ByteArray.size_append]; omega)
  have a6 := add_run (numS n0 ++ ⟨#[46]⟩ ++ numS n1 ++ ⟨#[46]⟩ ++ numS n2 ++ ⟨#[46]⟩) (numS n3) (by simp only [ByteArray.size_append]; omega)
  clear z s0 s1 s2 s3
  have hx0 := Held.box w [.string aN, .int .i64 aT, .int .i64 1, .slice (some ad) 4 aC, .string aG, .string aX] 25
  have hd0 : ∀ W b cs, Held w W b cs → W.cell? ad = some (.int .i64 n0) ∧ W.cell? ⟨ad.block, ad.off + 1, none⟩ = some (.int .i64 n1) ∧ W.cell? ⟨ad.block, ad.off + 2, none⟩ = some (.int .i64 n2) ∧ W.cell? ⟨ad.block, ad.off + 3, none⟩ = some (.int .i64 n3) := fun W b cs h => by
    have hlt : ad.block < w.heap.size := by omega
    exact ⟨(h.1.cell (p := ad) hlt).trans h0, (h.1.cell (p := ad.add 1) hlt).trans h1, (h.1.cell (p := ad.add 2) hlt).trans h2, (h.1.cell (p := ad.add 3) hlt).trans h3⟩
  have HD := hid hd0
  clear hd0 h0 h1 h2 h3
  go_enter Tryz.func120, Tryz.ntmps120
  obtain ⟨q0, q1, q2, q3, q4, q5⟩ := hx0.cells6
  go_wp2_with fail
  go_region_held3 (fun w' => Held w w' w.heap.size [.string aN, .int .i64 aT, .int .i64 1, .slice (some ad) 4 aC, .string aG, .string aX] ∧ w'.cell? ⟨w.heap.size, 3, none⟩ = some (.slice (some ad) 4 aC) ∧ w'.cell? ad = some (.int .i64 n0) ∧ w'.cell? ⟨ad.block, ad.off + 1, none⟩ = some (.int .i64 n1) ∧ w'.cell? ⟨ad.block, ad.off + 2, none⟩ = some (.int .i64 n2) ∧ w'.cell? ⟨ad.block, ad.off + 3, none⟩ = some (.int .i64 n3))
    (first
      | (exact ⟨hx0, q3, HD.out _ _ _ hx0⟩)
      | (exact ⟨hx0.drewN 1, (hx0.drewN 1).cells6.2.2.2.1, HD.out _ _ _ (hx0.drewN 1)⟩)
      | (go_split_ands; have hx := Held.next (by assumption) hb9; exact ⟨hx, hx.cells6.2.2.2.1, HD.out _ _ _ hx⟩)
      | go_keep)
    (first
      | (go_at_call 119; refine (l13Dec_num _ (by omega) _).mono ?_; rintro e w9 ⟨rfl, hb9⟩))
  all_goals go_split_ands
  all_goals go_wp2
  all_goals go_ret
  all_goals exact ⟨ret_str hfin.out, And.left (show Held w _ w.heap.size _ from by assumption)⟩

set_option maxHeartbeats 4000000 in
theorem l2Data_16 (aN : ByteArray) (aT : Int) (aA : Option Addr) (aL aC : Nat) (aG aX : ByteArray) (aZ : List Int) (hx : aX.size ≤ 67108864) (w : World) :
    Calls Tryz.prog 120 #[.agg #[.string aN, .int .i64 aT, .int .i64 16, .slice aA aL aC, .string aG, .string aX]] w fun e w' => e = .returned (.string (bs (Z.dataText 16 aZ (lst aG) (lst aX)))) ∧ Below w.heap.size w w' := by
  have hfin : Hid (⟨#[34]⟩ ++ aX ++ ⟨#[34]⟩ = bs (Z.dataText 16 aZ (lst aG) (lst aX))) := hid (by
    apply lst_inj
    simp only [lst_append, lst_bs]
    simp [Z.dataText, lst])
  have z : (⟨#[34]⟩ : ByteArray).size = 1 := rfl
  have a1 := add_run ⟨#[34]⟩ aX (by omega)
  have a2 := add_run (⟨#[34]⟩ ++ aX) ⟨#[34]⟩ (by simp only [ByteArray.size_append]; omega)
  clear z
  have hx0 := Held.box w [.string aN, .int .i64 aT, .int .i64 16, .slice aA aL aC, .string aG, .string aX] 25
  go_enter Tryz.func120, Tryz.ntmps120
  go_wp2_with fail
  all_goals go_ret
  all_goals exact ⟨ret_str hfin.out, hx0.1⟩

set_option maxHeartbeats 4000000 in
theorem l2Data_15 (aN : ByteArray) (aT : Int) (ad : Addr) (aC : Nat) (aG aX : ByteArray) (n0 : Nat) (aB : Nat) (w : World) (hab : ad.block < aB) (hba : aB ≤ w.heap.size) (hg : aG.size ≤ 67108864)
    (h0 : w.cell? ad = some (.int .i64 n0)) (k0 : n0 ≤ 4294967295) :
    Calls Tryz.prog 120 #[.agg #[.string aN, .int .i64 aT, .int .i64 15, .slice (some ad) 1 aC, .string aG, .string aX]] w fun e w' => e = .returned (.string (bs (Z.dataText 15 [(n0 : Int)] (lst aG) (lst aX)))) ∧ Below w.heap.size w w' := by
  have s0 := numS_size n0 (by omega)
  have hfin : Hid (numS n0 ++ ⟨#[32]⟩ ++ aG = bs (Z.dataText 15 [(n0 : Int)] (lst aG) (lst aX))) := hid (by
    apply lst_inj
    simp only [lst_append, lst_bs, numS_lst]
    simp [Z.dataText, lst])
  have z : (⟨#[32]⟩ : ByteArray).size = 1 := rfl
  have a1 := add_run (numS n0) ⟨#[32]⟩ (by omega)
  have a2 := add_run (numS n0 ++ ⟨#[32]⟩) aG (by simp only [ByteArray.size_append]; omega)
  clear z s0
  have hx0 := Held.box w [.string aN, .int .i64 aT, .int .i64 15, .slice (some ad) 1 aC, .string aG, .string aX] 25
  have hd0 : ∀ W b cs, Held w W b cs → W.cell? ad = some (.int .i64 n0) := fun W b cs h => (h.1.cell (p := ad) (by omega)).trans h0
  have HD := hid hd0
  clear hd0 h0
  go_enter Tryz.func120, Tryz.ntmps120
  obtain ⟨q0, q1, q2, q3, q4, q5⟩ := hx0.cells6
  go_wp2_with fail
  go_region_held3 (fun w' => Held w w' w.heap.size [.string aN, .int .i64 aT, .int .i64 15, .slice (some ad) 1 aC, .string aG, .string aX] ∧ w'.cell? ⟨w.heap.size, 3, none⟩ = some (.slice (some ad) 1 aC) ∧ w'.cell? ⟨w.heap.size, 4, none⟩ = some (.string aG) ∧ w'.cell? ad = some (.int .i64 n0))
    (first
      | (exact ⟨hx0, q3, q4, HD.out _ _ _ hx0⟩)
      | (exact ⟨hx0.drewN 1, (hx0.drewN 1).cells6.2.2.2.1, (hx0.drewN 1).cells6.2.2.2.2.1, HD.out _ _ _ (hx0.drewN 1)⟩)
      | (go_split_ands; have hx := Held.next (by assumption) hb9; exact ⟨hx, hx.cells6.2.2.2.1, hx.cells6.2.2.2.2.1, HD.out _ _ _ hx⟩)
      | go_keep)
    (first
      | (go_at_call 119; refine (l13Dec_num _ (by omega) _).mono ?_; rintro e w9 ⟨rfl, hb9⟩))
  all_goals go_split_ands
  all_goals go_wp2
  all_goals go_ret
  all_goals exact ⟨ret_str hfin.out, And.left (show Held w _ w.heap.size _ from by assumption)⟩

/-- What is written of the numbers behind a name. -/
def NumsOut (aG : ByteArray) (aZ : List Int) (k : Nat) (o : ByteArray) : Prop := lst o = lst aG ++ ((aZ.take k).map (fun n => 32 :: Lib.itoa n)).flatten
theorem numsOut_start (aG : ByteArray) (aZ : List Int) : NumsOut aG aZ 0 aG := by simp [NumsOut]
theorem numsOut_succ {aG : ByteArray} {aZ : List Int} {k : Nat} {o : ByteArray} (h : NumsOut aG aZ k o) (hk : k < aZ.length) {N : Nat} (hN : aZ.getD k 0 = (N : Int)) : NumsOut aG aZ (k + 1) (o ++ ⟨#[32]⟩ ++ numS N) := by
  unfold NumsOut at h ⊢
  have e : aZ[k] = (N : Int) := by rw [← hN]; simp [hk]
  rw [List.take_succ_eq_append_getElem hk, e]
  simp only [lst_append, numS_lst, h, List.map_append, List.flatten_append]
  simp [lst]
set_option maxHeartbeats 4000000 in
theorem l2Data_else (aN : ByteArray) (aT aK : Int) (aA : Option Addr) (aL aC : Nat) (aG aX : ByteArray) (aZ : List Int) (aB : Nat) (w : World) (hra : Reads w aB aA aL (aZ.map iv)) (hba : aB ≤ w.heap.size) (hl7 : aL ≤ 7) (hg : aG.size ≤ 67108864)
    (hz : Hid (∀ z ∈ aZ, 0 ≤ z ∧ z ≤ 4294967295)) (hk1 : ¬ aK = 1) (hk16 : ¬ aK = 16) (hk15 : ¬ aK = 15) :
    Calls Tryz.prog 120 #[.agg #[.string aN, .int .i64 aT, .int .i64 aK, .slice aA aL aC, .string aG, .string aX]] w fun e w' => e = .returned (.string (bs (Z.dataText aK aZ (lst aG) (lst aX)))) ∧ Below w.heap.size w w' := by
  have hlen := hid (reads_len hra)
  have hfin : Hid (∀ o : ByteArray, NumsOut aG aZ aL o → o = bs (Z.dataText aK aZ (lst aG) (lst aX))) := hid (fun o h => by
    apply lst_inj
    unfold NumsOut at h
    rw [h, lst_bs, Z.dataText, if_neg hk1, if_neg hk16, if_neg hk15, List.take_of_length_le (by rw [hlen.out]; exact Nat.le_refl _)])
  have b1 : (aK == 1) = false := by simpa using hk1
  have b2 : (aK == 16) = false := by simpa using hk16
  have b3 : (aK == 15) = false := by simpa using hk15
  clear hk1 hk16 hk15
  have hx0 := Held.box w [.string aN, .int .i64 aT, .int .i64 aK, .slice aA aL aC, .string aG, .string aX] 25
  go_enter Tryz.func120, Tryz.ntmps120
  go_wp2_with fail
  go_loopw [3, 4] (fun v i wr => ∃ (k : Nat) (o : ByteArray), k ≤ aL ∧ i = .int .i64 k ∧ v = .string o ∧ o.size ≤ 67108864 + 20 * k ∧ Hid (NumsOut aG aZ k o) ∧ Held w wr w.heap.size [.string aN, .int .i64 aT, .int .i64 aK, .slice aA aL aC, .string aG, .string aX]) (fun _ i _ => aL - (intOf i).toNat)
  case atStart => exact ⟨0, aG, Nat.zero_le _, rfl, rfl, by omega, hid (numsOut_start aG aZ), hx0⟩
  case round =>
    obtain ⟨k, o, hk, rfl, rfl, hos, hd, hh⟩ := hrel
    obtain ⟨q0, q1, q2, q3, q4, q5⟩ := hh.cells6
    by_cases hlt : k < aL
    · obtain ⟨ad, rfl, hab, hcell⟩ := reads_int (hra.held hba hh) hlt
      have hkl : k < aZ.length := by rw [hlen.out]; exact hlt
      have hzk := hz.out (aZ.getD k 0) (by simp [hkl])
      obtain ⟨N, hN⟩ := Int.eq_ofNat_of_zero_le hzk.1
      have HS := hid (numsOut_succ hd.out hkl hN)
      rw [hN] at hcell hzk
      have hNb : N ≤ 4294967295 := by omega
      have sN := numS_size N (by omega)
      have z : (⟨#[32]⟩ : ByteArray).size = 1 := rfl
      have hos2 : (o ++ ⟨#[32]⟩ ++ numS N).size ≤ 67108864 + 20 * (k + 1) := by simp only [ByteArray.size_append]; omega
      have a1 := add_run o ⟨#[32]⟩ (by omega)
      have a2 := add_run (o ++ ⟨#[32]⟩) (numS N) (by simp only [ByteArray.size_append]; omega)
      have HO := hid hos2
      clear hos2 z sN hN hzk hkl
      go_wp2_with (go_at_call 119; refine (l13Dec_num N (by omega) _).mono ?_; rintro e w9 ⟨rfl, hb9⟩)
      go_roundw
      case rel => exact ⟨k + 1, _, by omega, by go_num, rfl, HO.out, HS, hh.next hb9⟩
      case measure => simp [intOf]; omega
    · have hks : k = aL := by omega
      subst hks
      have HF := hid (hfin.out o hd.out)
      go_wp2
      all_goals go_ret
      all_goals exact ⟨ret_str HF.out, hh.1⟩
end Go.Proofs.YtpgeeeamcncpkaaGreatDoor

namespace Go.Proofs.YtpgeeeamcncpkaaGreatDoor
open Go.RowKit
set_option maxRecDepth 100000
set_option linter.unusedVariables false

theorem itoa_len {n : Int} (h0 : 0 ≤ n) (h1 : n ≤ 4294967295) : (Lib.itoa n).length ≤ 19 := by
  rw [Z.itoa_pos h0]
  exact Z.dec_len (by omega) (by omega)
theorem flat_len : ∀ {zs : List Int}, (∀ z ∈ zs, 0 ≤ z ∧ z ≤ 4294967295) → ((zs.map (fun n => (32 : UInt8) :: Lib.itoa n)).flatten).length ≤ 20 * zs.length
  | [], _ => by simp
  | z :: r, h => by
    have h1 := itoa_len (h z (by simp)).1 (h z (by simp)).2
    have h2 := flat_len (zs := r) (fun x hx => h x (List.mem_cons_of_mem _ hx))
    simp only [List.map_cons, List.flatten_cons, List.length_append, List.length_cons]
    omega
theorem between_len : ∀ {zs : List Int}, (∀ z ∈ zs, 0 ≤ z ∧ z ≤ 4294967295) → (Z.between 46 (zs.map Lib.itoa)).length ≤ 20 * zs.length
  | [], _ => by simp [Z.between]
  | [z], h => by
    have h1 := itoa_len (h z (by simp)).1 (h z (by simp)).2
    simp only [List.map_cons, List.map_nil, Z.between, List.length_cons, List.length_nil]
    omega
  | z :: y :: r, h => by
    have h1 := itoa_len (h z (by simp)).1 (h z (by simp)).2
    have h2 := between_len (zs := y :: r) (fun x hx => h x (List.mem_cons_of_mem _ hx))
    simp only [List.map_cons, Z.between, List.length_append, List.length_cons] at h2 ⊢
    omega
theorem data_len {r : Z.Rec} (h : Z.recValid r = true) : (Z.dataText r.kind r.nums r.target r.text).length ≤ 200 := by
  obtain ⟨_, h2, h3, h4⟩ := Z.valid_sizes h
  obtain ⟨_, _, _, _, hn, _⟩ := Z.recValid_iff.1 h
  have hr := Z.okNums_range hn (Z.lims_le _)
  unfold Z.dataText
  split
  · have := between_len hr; omega
  · split
    · simp; omega
    · split
      · have : (Lib.itoa (r.nums.headD 0)).length ≤ 19 := by
          match e : r.nums with
          | [] => exact itoa_len (by simp) (by simp)
          | z :: q => exact itoa_len (hr z (by simp [e])).1 (hr z (by simp [e])).2
        simp only [List.length_append, List.length_cons]; omega
      · have := flat_len hr
        simp only [List.length_append]; omega

theorem l2Data_any (aN : ByteArray) (aT aK : Int) (aA : Option Addr) (aL aC : Nat) (aG aX : ByteArray) (aZ : List Int) (aB : Nat) (w : World) (hra : Reads w aB aA aL (aZ.map iv)) (hba : aB ≤ w.heap.size) (hla : aL ≤ 67108864) (hsa : aN.size ≤ 67108864) (hga : aG.size ≤ 67108864) (hxa : aX.size ≤ 67108864) (hv : Z.recValid (⟨lst aN, aT, aK, aZ, lst aG, lst aX⟩ : Z.Rec) = true) :
    Calls Tryz.prog 120 #[.agg #[.string aN, .int .i64 aT, .int .i64 aK, .slice aA aL aC, .string aG, .string aX]] w fun e w' => e = .returned (.string (bs (Z.dataText aK aZ (lst aG) (lst aX)))) ∧ Below w.heap.size w w' := by
  have hlen := reads_len hra
  obtain ⟨_, _, _, hkk, hn, _⟩ := Z.recValid_iff.1 hv
  have hl := Z.okNums_length hn
  have hr := Z.okNums_range hn (Z.lims_le _)
  have hs := (Z.valid_sizes hv).2.1
  dsimp only at hkk hn hl hr hs
  by_cases h1 : aK = 1
  · subst h1
    match aZ, hl with
    | [x0, x1, x2, x3], _ =>
      obtain rfl : aL = 4 := by rw [← hlen]; rfl
      simp [Z.lims, Z.okNums] at hn
      obtain ⟨⟨a0, b0⟩, ⟨a1, b1⟩, ⟨a2, b2⟩, a3, b3⟩ := hn
      obtain ⟨n0, rfl⟩ := Int.eq_ofNat_of_zero_le a0
      obtain ⟨n1, rfl⟩ := Int.eq_ofNat_of_zero_le a1
      obtain ⟨n2, rfl⟩ := Int.eq_ofNat_of_zero_le a2
      obtain ⟨n3, rfl⟩ := Int.eq_ofNat_of_zero_le a3
      obtain ⟨ad, rfl, hab, c0⟩ := reads_int hra (k := 0) (by omega)
      obtain ⟨ad', e1, _, c1⟩ := reads_int hra (k := 1) (by omega)
      obtain rfl := Option.some.inj e1
      obtain ⟨ad', e2, _, c2⟩ := reads_int hra (k := 2) (by omega)
      obtain rfl := Option.some.inj e2
      obtain ⟨ad', e3, _, c3⟩ := reads_int hra (k := 3) (by omega)
      obtain rfl := Option.some.inj e3
      exact l2Data_1 aN aT _ aC aG aX n0 n1 n2 n3 aB w hab hba c0 c1 c2 c3 (by omega) (by omega) (by omega) (by omega)
  · by_cases h16 : aK = 16
    · subst h16
      exact l2Data_16 aN aT aA aL aC aG aX aZ hxa w
    · by_cases h15 : aK = 15
      · subst h15
        match aZ, hl with
        | [x0], _ =>
          obtain rfl : aL = 1 := by rw [← hlen]; rfl
          simp [Z.lims, Z.okNums] at hn
          obtain ⟨n0, rfl⟩ := Int.eq_ofNat_of_zero_le hn.1
          obtain ⟨ad, rfl, hab, c0⟩ := reads_int hra (k := 0) (by omega)
          exact l2Data_15 aN aT _ aC aG aX n0 aB w hab hba hga c0 (by omega)
      · exact l2Data_else aN aT aK aA aL aC aG aX aZ aB w hra hba (by omega) hga (hid hr) h1 h16 h15

theorem RecordValid_eq (aN : ByteArray) (aT aK : Int) (aA : Option Addr) (aL aC : Nat) (aG aX : ByteArray) (aZ : List Int) (aB : Nat) (w : World) (hra : Reads w aB aA aL (aZ.map iv)) (hba : aB ≤ w.heap.size) (hla : aL ≤ 67108864) (hsa : aN.size ≤ 67108864) (hga : aG.size ≤ 67108864) (hxa : aX.size ≤ 67108864) (ok : Bool) (hok : Hid (Z.recValid (⟨lst aN, aT, aK, aZ, lst aG, lst aX⟩ : Z.Rec) = ok)) :
    Calls Tryz.prog 52 #[.agg #[.string aN, .int .i64 aT, .int .i64 aK, .slice aA aL aC, .string aG, .string aX]] w fun e w' => e = .returned (.bool ok) ∧ Below w.heap.size w w' := by
  have h := RecordValid_any aN aT aK aA aL aC aG aX aZ aB w hra hba hla hsa hga hxa
  rw [hok.out] at h
  exact h
theorem l2Data_eq (aN : ByteArray) (aT aK : Int) (aA : Option Addr) (aL aC : Nat) (aG aX : ByteArray) (aZ : List Int) (aB : Nat) (w : World) (hra : Reads w aB aA aL (aZ.map iv)) (hba : aB ≤ w.heap.size) (hla : aL ≤ 67108864) (hsa : aN.size ≤ 67108864) (hga : aG.size ≤ 67108864) (hxa : aX.size ≤ 67108864) (hv : Hid (Z.recValid (⟨lst aN, aT, aK, aZ, lst aG, lst aX⟩ : Z.Rec) = true)) (D : ByteArray) (hD : Hid (bs (Z.dataText aK aZ (lst aG) (lst aX)) = D)) :
    Calls Tryz.prog 120 #[.agg #[.string aN, .int .i64 aT, .int .i64 aK, .slice aA aL aC, .string aG, .string aX]] w fun e w' => e = .returned (.string D) ∧ Below w.heap.size w w' := by
  have h := l2Data_any aN aT aK aA aL aC aG aX aZ aB w hra hba hla hsa hga hxa hv.out
  rw [hD.out] at h
  exact h
theorem KindName_eq (x : Int) (s : ByteArray) (hs : Hid (bs (Z.kindName x) = s)) (w : World) :
    Calls Tryz.prog 92 #[.int .i64 x] w fun e w' => e = .returned (.string s) ∧ Below w.heap.size w w' := by
  have h := KindName_any x w
  rw [hs.out] at h
  exact h

set_option maxHeartbeats 8000000 in
theorem FormatRecord_any (aN : ByteArray) (aT aK : Int) (aA : Option Addr) (aL aC : Nat) (aG aX : ByteArray) (aZ : List Int) (aB : Nat) (w : World) (hra : Reads w aB aA aL (aZ.map iv)) (hba : aB ≤ w.heap.size) (hla : aL ≤ 67108864) (hsa : aN.size ≤ 67108864) (hga : aG.size ≤ 67108864) (hxa : aX.size ≤ 67108864) :
    Calls Tryz.prog 158 #[.agg #[.string aN, .int .i64 aT, .int .i64 aK, .slice aA aL aC, .string aG, .string aX]] w fun e w' => e = .returned (.string (bs (Z.format (⟨lst aN, aT, aK, aZ, lst aG, lst aX⟩ : Z.Rec)))) ∧ Below w.heap.size w w' := by
  have hx0 := Held.box w [.string aN, .int .i64 aT, .int .i64 aK, .slice aA aL aC, .string aG, .string aX] 25
  cases hv : Z.recValid (⟨lst aN, aT, aK, aZ, lst aG, lst aX⟩ : Z.Rec) with
  | false =>
    have HV := hid hv
    have hfin : Hid (⟨#[]⟩ = bs (Z.format (⟨lst aN, aT, aK, aZ, lst aG, lst aX⟩ : Z.Rec))) := hid (by unfold Z.format; rw [hv]; rfl)
    clear hv
    obtain ⟨q0, q1, q2, q3, q4, q5⟩ := hx0.cells6
    go_enter Tryz.func158, Tryz.ntmps158
    go_wp2_with (go_at_call 52; refine (RecordValid_eq _ _ _ _ _ _ _ _ aZ aB _ (hra.held hba hx0) (hx0.up hba) hla hsa hga hxa false HV).mono ?_; rintro e w2 ⟨rfl, hb2⟩)
    all_goals go_ret
    all_goals exact ⟨ret_str hfin.out, (hx0.next hb2).1⟩
  | true =>
    obtain ⟨_, hT0, hT1, _⟩ := Z.recValid_iff.1 hv
    obtain ⟨T, hT⟩ := Int.eq_ofNat_of_zero_le hT0
    dsimp only at hT hT1
    subst hT
    obtain ⟨kS, hkS⟩ : ∃ s, bs (Z.kindName aK) = s := ⟨_, rfl⟩
    obtain ⟨dS, hdS⟩ : ∃ s, bs (Z.dataText aK aZ (lst aG) (lst aX)) = s := ⟨_, rfl⟩
    have s1 : aN.size ≤ 60 := by have := (Z.valid_sizes hv).1; rwa [lst_length] at this
    have s2 := numS_size T (by omega)
    have s3 : kS.size ≤ 10 := by
      rw [← hkS, bs_size]
      unfold Z.kindName
      repeat' split
      all_goals simp
    have s4 : dS.size ≤ 200 := by rw [← hdS, bs_size]; exact data_len hv
    have hfin : Hid (aN ++ ⟨#[32]⟩ ++ numS T ++ ⟨#[32]⟩ ++ kS ++ ⟨#[32]⟩ ++ dS = bs (Z.format ⟨lst aN, T, aK, aZ, lst aG, lst aX⟩)) := hid (by
      apply lst_inj
      unfold Z.format
      rw [if_pos hv, lst_bs, ← hkS, ← hdS]
      simp only [lst_append, lst_bs, numS_lst]
      simp [lst])
    have z : (⟨#[32]⟩ : ByteArray).size = 1 := rfl
    have a1 := add_run aN ⟨#[32]⟩ (by omega)
    have a2 := add_run (aN ++ ⟨#[32]⟩) (numS T) (by simp only [ByteArray.size_append]; omega)
    have a3 := add_run (aN ++ ⟨#[32]⟩ ++ numS T) ⟨#[32]⟩ (by simp only [ByteArray.size_append]; omega)
    have a4 := add_run (aN ++ ⟨#[32]⟩ ++ numS T ++ ⟨#[32]⟩) kS (by simp only [ByteArray.size_append]; omega)
    have a5 := add_run (aN ++ ⟨#[32]⟩ ++ numS T ++ ⟨#[32]⟩ ++ kS) ⟨#[32]⟩ (by simp only [ByteArray.size_append]; omega)
    have a6 := add_run (aN ++ ⟨#[32]⟩ ++ numS T ++ ⟨#[32]⟩ ++ kS ++ ⟨#[32]⟩) dS (by simp only [ByteArray.size_append]; omega)
    have HV := hid hv
    have HK := hid hkS
    have HD := hid hdS
    clear hv hkS hdS z s1 s2 s3 s4
    obtain ⟨q0, q1, q2, q3, q4, q5⟩ := hx0.cells6
    go_enter Tryz.func158, Tryz.ntmps158
    go_wp2_with fail
    refine (RecordValid_eq _ _ _ _ _ _ _ _ aZ aB _ (hra.held hba hx0) (hx0.up hba) hla hsa hga hxa true HV).mono ?_
    rintro e w2 ⟨rfl, hb2⟩
    have hx2 := hx0.next hb2
    clear hb2 q0 q1 q2 q3 q4 q5
    obtain ⟨q0, q1, q2, q3, q4, q5⟩ := hx2.cells6
    go_wp2_with fail
    go_region_held3 (fun w' => Held w w' w.heap.size [.string aN, .int .i64 T, .int .i64 aK, .slice aA aL aC, .string aG, .string aX] ∧ w'.cell? ⟨w.heap.size, 0, none⟩ = some (.string aN) ∧ w'.cell? ⟨w.heap.size, 1, none⟩ = some (.int .i64 T) ∧ w'.cell? ⟨w.heap.size, 2, none⟩ = some (.int .i64 aK) ∧ w'.cell? ⟨w.heap.size, 3, none⟩ = some (.slice aA aL aC) ∧ w'.cell? ⟨w.heap.size, 4, none⟩ = some (.string aG) ∧ w'.cell? ⟨w.heap.size, 5, none⟩ = some (.string aX))
      (first
        | (exact ⟨hx2, hx2.cells6⟩)
        | (exact ⟨hx2.drewN 1, (hx2.drewN 1).cells6⟩)
        | (go_split_ands; have hx := Held.next (by assumption) hb9; exact ⟨hx, hx.cells6⟩)
        | go_keep)
      (first
        | (go_at_call 119; refine (l13Dec_num _ (by omega) _).mono ?_; rintro e w9 ⟨rfl, hb9⟩)
        | (go_at_call 92; refine (KindName_eq _ kS HK _).mono ?_; rintro e w9 ⟨rfl, hb9⟩)
        | (go_at_call 120; go_split_ands; refine (l2Data_eq _ _ _ _ _ _ _ _ aZ aB _ (hra.held hba (by assumption)) ((by assumption : Held w _ _ _).up hba) hla hsa hga hxa HV dS HD).mono ?_; rintro e w9 ⟨rfl, hb9⟩))
    all_goals go_split_ands
    all_goals go_wp2
    all_goals go_ret
    all_goals exact ⟨ret_str hfin.out, And.left (show Held w _ w.heap.size _ from by assumption)⟩
end Go.Proofs.YtpgeeeamcncpkaaGreatDoor

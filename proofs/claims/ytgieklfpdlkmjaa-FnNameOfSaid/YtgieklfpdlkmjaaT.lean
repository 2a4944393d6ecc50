/- What the functions of the model's chapter 1 return: names out of labels, and names that are read. -/
import Derived.Test.YtgieklfpdlkmjaaS
import Derived.Laws.IdiomStrings
import Derived.Laws.BytesArg
namespace Go.Proofs.Ytgieklfpdlkmjaa
open Go.RowKit

set_option maxHeartbeats 400000 in
theorem LabelsOf_any (s : ByteArray) (hs : s.size ≤ 67108864) (w : World) :
    Calls Try.prog 18 #[.string s] w fun e w' => ∃ A c, e = .returned (.slice A (Z.labels (lst s)).length c) ∧ w'.ownsRow w.heap.size 9 1 (.slice A (Z.labels (lst s)).length c) (Z.labels (lst s)).length ((Z.labels (lst s)).map sv) ∧ Below w.heap.size w w' := by
  by_cases hv : Z.valid (lst s) = true
  · have hl : Hid (Z.labels (lst s) = Z.labs (lst s)) := hid (by unfold Z.labels; rw [if_pos hv])
    go_enter Try.func18, Try.ntmps18
    go_wp2_with (first | (go_at_call 20; refine (NameValid_any _ (by unfold maxLen; omega) _).mono ?_; rintro e w1 ⟨rfl, hb1⟩) | (go_at_call 48; refine (l1Labels_any _ hs _).mono ?_; rintro e w2 ⟨A, c, rfl, hown, hb2⟩))
    go_ret
    rw [hl.out]
    exact ⟨A, c, rfl, own_mono hown hb1.size, below2 hb1 hb2⟩
  · have hv' : Z.valid (lst s) = false := by simpa using hv
    have hl : Hid (Z.labels (lst s) = []) := hid (by unfold Z.labels; rw [if_neg hv])
    clear hv
    go_enter Try.func18, Try.ntmps18
    go_wp2_with (go_at_call 20; refine (NameValid_any _ (by unfold maxLen; omega) _).mono ?_; rintro e w1 ⟨rfl, hb1⟩)
    go_ret
    rw [hl.out]
    exact ⟨_, _, rfl, World.ownsRow_made w1 #[] 0 hb1.size (by decide) (by simp), hb1.alloc hb1.size _⟩

theorem joined_take_succ (ls : List Z.Str) (k : Nat) (x : ByteArray) (h : k < ls.length) (hx : lst x = ls.getD k []) :
    bs (Z.joined (ls.take k)) ++ x ++ ⟨#[46]⟩ = bs (Z.joined (ls.take (k + 1))) := by
  apply lst_inj
  have e : ls.getD k [] = ls[k] := by simp [h]
  rw [lst_append, lst_append, lst_bs, lst_bs, List.take_succ_eq_append_getElem h, Z.joined_append, hx, e]
  simp [Z.joined, lst]
theorem joined_take_le (ls : List Z.Str) (k : Nat) : (Z.joined (ls.take k)).length ≤ (Z.joined ls).length := by
  conv => rhs; rw [← List.take_append_drop k ls, Z.joined_append]
  simp

set_option maxHeartbeats 400000 in
theorem l1Join_any (ls : List Z.Str) (B : Nat) (A : Option Addr) (n c : Nat) (w : World) (hr : Reads w B A n (ls.map sv)) (hn : ls.length ≤ 67108864) (hj : (Z.joined ls).length ≤ 67108864) :
    Calls Try.prog 56 #[.slice A n c] w fun e w' => e = .returned (.string (bs (Z.join ls))) ∧ w = w' := by
  obtain rfl : n = ls.length := by simpa using hr.1.symm
  go_enter Try.func56, Try.ntmps56
  go_wp2
  go_loop [3, 4] (fun o i => ∃ (k : Nat) (t : ByteArray), k ≤ ls.length ∧ i = .int .i64 k ∧ o = .string t ∧ Hid (t = bs (Z.joined (ls.take k)))) (fun _ i => ls.length - (intOf i).toNat)
  case atStart => exact ⟨0, ⟨#[]⟩, Nat.zero_le _, rfl, rfl, hid rfl⟩
  case round =>
    obtain ⟨k, t, hk, rfl, rfl, ht⟩ := hrel
    have htl : t.size ≤ 67108864 := by rw [ht.out, bs_size]; have := joined_take_le ls k; omega
    by_cases hlt : k < ls.length
    · obtain ⟨ad, x, rfl, hab, hx, hcell⟩ := reads_str hr hlt
      have hcell0 : k = 0 → w.cell? ad = some (.string x) := fun e => by subst e; simpa [Addr.add] using hcell
      have hfin : Hid (t ++ x ++ ⟨#[46]⟩ = bs (Z.joined (ls.take (k + 1)))) := hid (by rw [ht.out]; exact joined_take_succ ls k x hlt hx)
      have hsz : (t ++ x ++ ⟨#[46]⟩).size ≤ 67108864 := by rw [hfin.out, bs_size]; have := joined_take_le ls (k + 1); omega
      have hsz2 : t.size + x.size + 1 ≤ 67108864 := by
        rw [ByteArray.size_append, ByteArray.size_append] at hsz
        exact hsz
      have ha1 : (Op.stringOp .add t x).run Try.prog w = .ok (.string (t ++ x)) w := run_string_add_sum w _ _ (by omega)
      have ha2 : (Op.stringOp .add (t ++ x) ⟨#[46]⟩).run Try.prog w = .ok (.string (t ++ x ++ ⟨#[46]⟩)) w := run_string_add_sum w _ _ (by rw [ByteArray.size_append]; show _ + 1 ≤ _; omega)
      clear hx hsz
      go_wp2
      exact ⟨⟨k + 1, _, by omega, by go_num, rfl, hfin⟩, by simp [intOf]; omega⟩
    · have hks : k = ls.length := by omega
      have ht2 : Hid (lst t = Z.joined ls) := hid (by rw [ht.out, lst_bs, hks, List.take_of_length_le (Nat.le_refl _)])
      clear hks
      go_wp2
      all_goals go_ret
      · have h0 : t.toList.isEmpty = true := by assumption
        rw [toList_lst, ht2.out] at h0
        refine ⟨ret_str (lst_inj ?_), rfl⟩
        rw [lst_bs]
        unfold Z.join
        rw [if_pos]
        · rfl
        · cases ls with
          | nil => rfl
          | cons a r => rw [Z.joined_cons] at h0; simp at h0
      · have h0 : t.toList.isEmpty = false := by assumption
        rw [toList_lst, ht2.out] at h0
        refine ⟨ret_str (lst_inj ?_), rfl⟩
        rw [lst_bs, ht2.out]
        unfold Z.join
        rw [if_neg]
        intro e
        rw [e] at h0
        simp [Z.joined] at h0

theorem join_le (ls : List Z.Str) : (Z.join ls).length ≤ (Z.joined ls).length + 1 := by
  unfold Z.join
  split
  · simp
  · omega

set_option maxHeartbeats 400000 in
theorem NameOf_any (ls : List Z.Str) (B : Nat) (A : Option Addr) (n c : Nat) (w : World) (hr : Reads w B A n (ls.map sv)) (hn : ls.length ≤ 33554432) (hj : ls.length ≤ 8 → (Z.joined ls).length ≤ 33554432) :
    Calls Try.prog 23 #[.slice A n c] w fun e w' => e = .returned (rOpt (Z.nameOf ls)) ∧ Below w.heap.size w w' := by
  obtain rfl : n = ls.length := by simpa using hr.1.symm
  by_cases h8 : ls.length ≤ 8
  · have hjl := join_le ls
    have hjj := hj h8
    clear hj
    have hsp := Z.nameOf_spec ls h8
    have hsz : (bs (Z.join ls)).size ≤ 67108864 := by rw [bs_size]; omega
    by_cases hv : Z.valid (lst (bs (Z.join ls))) = true
    · by_cases hl : (Z.labs (lst (bs (Z.join ls)))).length = ls.length
      · have hfin : Hid (Z.nameOf ls = some (lst (bs (Z.join ls)))) := hid (by rw [hsp]; rw [lst_bs] at hv hl ⊢; simp [hv, hl])
        have hl3 : ((((Z.labs (lst (bs (Z.join ls)))).length : Int)) != (ls.length : Int)) = false := by simp [hl]
        clear hsp hl
        go_enter Try.func23, Try.ntmps23
        go_wp2_with (first | (go_at_call 56; refine (l1Join_any ls B A _ c _ hr (by omega) (by omega)).mono ?_; rintro e w1 ⟨rfl, rfl⟩) | (go_at_call 20; refine (NameValid_any _ (by unfold maxLen; omega) _).mono ?_; rintro e w1 ⟨rfl, hb1⟩) | (go_at_call 48; refine (l1Labels_any _ hsz _).mono ?_; rintro e w2 ⟨A2, c2, rfl, hown, hb2⟩))
        go_ret2
        exact ⟨rOpt_some hfin.out, below2 hb1 hb2⟩
      · have hfin : Hid (Z.nameOf ls = none) := hid (by rw [hsp]; rw [lst_bs] at hv hl; simp [hl])
        have hl3 : ((((Z.labs (lst (bs (Z.join ls)))).length : Int)) != (ls.length : Int)) = true := by rw [bne_iff_ne]; omega
        clear hsp hl
        go_enter Try.func23, Try.ntmps23
        go_wp2_with (first | (go_at_call 56; refine (l1Join_any ls B A _ c _ hr (by omega) (by omega)).mono ?_; rintro e w1 ⟨rfl, rfl⟩) | (go_at_call 20; refine (NameValid_any _ (by unfold maxLen; omega) _).mono ?_; rintro e w1 ⟨rfl, hb1⟩) | (go_at_call 48; refine (l1Labels_any _ hsz _).mono ?_; rintro e w2 ⟨A2, c2, rfl, hown, hb2⟩))
        go_ret2
        exact ⟨rOpt_none hfin.out, below2 hb1 hb2⟩
    · have hfin : Hid (Z.nameOf ls = none) := hid (by rw [hsp]; rw [lst_bs] at hv; simp [hv])
      have hv' : Z.valid (lst (bs (Z.join ls))) = false := by simpa using hv
      clear hsp hv
      go_enter Try.func23, Try.ntmps23
      go_wp2_with (first | (go_at_call 56; refine (l1Join_any ls B A _ c _ hr (by omega) (by omega)).mono ?_; rintro e w1 ⟨rfl, rfl⟩) | (go_at_call 20; refine (NameValid_any _ (by unfold maxLen; omega) _).mono ?_; rintro e w1 ⟨rfl, hb1⟩))
      go_ret2
      exact ⟨rOpt_none hfin.out, hb1⟩
  · have hfin : Hid (Z.nameOf ls = none) := hid (by unfold Z.nameOf; simp [h8])
    clear hj
    go_enter Try.func23, Try.ntmps23
    go_wp2_with fail
    go_ret2
    exact ⟨rOpt_none hfin.out, Below.refl _ _⟩

theorem infoByte : (Try.prog.info? 5).map (fun i => (i.zero, i.size, i.bytes)) = some (some (.int .u8 0), 1, 1) := by kernel_rfl
def bv (c : UInt8) : Value := .int .u8 c.toNat
theorem lower_take_succ (s : ByteArray) (k : Nat) (h : k < s.size) : (Z.lower (lst s)).take (k + 1) = (Z.lower (lst s)).take k ++ [Z.lowByte s[k]] := by
  unfold Z.lower
  rw [← List.map_take, lst_take_succ s k h, List.map_append, List.map_take]; rfl
theorem lower_up {c : UInt8} (h1 : 65 ≤ (c.toNat : Int)) (h2 : (c.toNat : Int) ≤ 90) : bv (Z.lowByte c) = .int .u8 ((c.toNat : Int) + 32) := by
  unfold bv Z.lowByte
  rw [if_pos]
  · congr 1
    rw [UInt8.toNat_add]
    simp
    omega
  · simp only [UInt8.le_iff_toNat_le]
    simp
    omega
theorem lower_same {c : UInt8} (h : ¬ (65 ≤ (c.toNat : Int) ∧ (c.toNat : Int) ≤ 90)) : bv (Z.lowByte c) = .int .u8 (c.toNat : Int) := by
  unfold bv Z.lowByte
  rw [if_neg]
  simp only [UInt8.le_iff_toNat_le]
  simp
  omega

theorem conv_own {P : Program} {w : World} {src dst e : TypeId} {base n : Nat} {A : Option Addr} {c : Nat} {l : List UInt8} (hs : P.underlying src = some (.slice e)) (he : P.underlying e = some (.int .u8)) (hd : P.underlying dst = some .string)
    (h : w.ownsRow base e 1 (.slice A n c) n (l.map bv)) : (convert src dst (.slice A n c)).run P w = .ok (.string (bs l)) w := by
  obtain rfl : n = l.length := by simpa using h.1.symm
  have hr := Reads.of_own h
  cases A with
  | none =>
    have hl : l = [] := by
      rcases Nat.eq_zero_or_pos l.length with h0 | h0
      · exact List.eq_nil_of_length_eq_zero h0
      · obtain ⟨ad, e, _⟩ := hr.2 h0
        cases e
    subst hl
    rw [run_convert_bytes_nil w src e hs he _ _ dst hd]
    rfl
  | some a =>
    rw [run_convert_bytes_back w src dst e a c l hs he hd ?_]
    · rfl
    · intro j hj
      obtain ⟨ad, u, e1, _, hx, hc⟩ := hr.at_ hj
      injection e1 with e1
      subst e1
      rw [hc, ← hx, List.getElem?_map, List.getElem?_eq_getElem hj]
      rfl

set_option maxHeartbeats 400000 in
theorem l1Lower_any (s : ByteArray) (hs : s.size ≤ 67108864) (w : World) :
    Calls Try.prog 59 #[.string s] w fun e w' => e = .returned (.string (bs (Z.lower (lst s)))) ∧ Below w.heap.size w w' := by
  obtain ⟨i0, hi0, hz0, hz1, hz2⟩ := info_parts infoByte
  have hll : (Z.lower (lst s)).length = s.size := by rw [Z.lower_length, lst_length]
  go_enter Try.func59, Try.ntmps59
  go_wp2
  go_loopw [3, 4] (fun v i wr => ∃ (k : Nat), k ≤ s.size ∧ i = .int .i64 k ∧ wr.ownsRow w.heap.size 5 1 v k (((Z.lower (lst s)).take k).map bv) ∧ Below w.heap.size w wr) (fun _ i _ => s.size - (intOf i).toNat)
  case atStart => exact ⟨0, Nat.zero_le _, rfl, World.ownsRow_made w #[] 0 (Nat.le_refl _) (by decide) (by simp), (Below.refl _ _).alloc (Nat.le_refl _) _⟩
  case round =>
    obtain ⟨k, hk, rfl, hown, hb⟩ := hrel
    have hbs := hb.size
    by_cases hlt : k < s.size
    · have hsn := hid (lower_take_succ s k hlt)
      by_cases hup : 65 ≤ (s[k].toNat : Int) ∧ (s[k].toNat : Int) ≤ 90
      · obtain ⟨hu1, hu2⟩ := hup
        go_wp2_with (at_builtin; refine wpList_append1 wr (.int .u8 ((s[k].toNat : Int) + 32)) _ rfl (.tmp 24) (.tmp 26) _ rfl w.heap.size 5 i0 _ 1 Try.underlying22 hi0 hz0 hz1 hz2 rfl _ _ _ rfl hown rfl rfl (by unfold maxLen; omega) (by omega) hbs ?_; intro v1 w1 hown1 hb1)
        go_roundw
        case rel =>
          refine ⟨k + 1, by omega, by go_num, ?_, hb.trans hb1⟩
          rw [hsn.out, List.map_append, List.map_singleton, lower_up hu1 hu2]
          exact hown1
        case measure => simp [intOf]; omega
      · have hlow := hid (lower_same hup)
        by_cases hu1 : 65 ≤ (s[k].toNat : Int)
        all_goals
          go_wp2_with (at_builtin; refine wpList_append1 wr (.int .u8 (s[k].toNat : Int)) _ rfl (.tmp 24) (.tmp 26) _ rfl w.heap.size 5 i0 _ 1 Try.underlying22 hi0 hz0 hz1 hz2 rfl _ _ _ rfl hown rfl rfl (by unfold maxLen; omega) (by omega) hbs ?_; intro v1 w1 hown1 hb1)
          go_roundw
          case rel =>
            refine ⟨k + 1, by omega, by go_num, ?_, hb.trans hb1⟩
            rw [hsn.out, List.map_append, List.map_singleton, hlow.out]
            exact hown1
          case measure => simp [intOf]; omega
    · have hks : k = s.size := by omega
      subst hks
      obtain ⟨A, c, rfl⟩ := own_slice hown
      have hfull : (Z.lower (lst s)).take s.size = Z.lower (lst s) := List.take_of_length_le (by omega)
      rw [hfull] at hown
      have hcv := conv_own Try.underlying22 Try.underlying5 Try.underlying9 hown
      clear hfull
      go_wp2
      go_ret
      exact ⟨rfl, hb⟩

def belowText (s o : Z.Str) : Z.Str := if o = [46] then s ++ [46] else s ++ [46] ++ o

set_option maxHeartbeats 400000 in
theorem l1Below_any (s o : ByteArray) (hs : s.size ≤ 33554432) (ho : o.size ≤ 33554430) (w : World) :
    Calls Try.prog 60 #[.string s, .string o] w fun e w' => e = .returned (.string (bs (belowText (lst s) (lst o)))) ∧ w = w' := by
  have ha1 : (Op.stringOp .add s ⟨#[46]⟩).run Try.prog w = .ok (.string (s ++ ⟨#[46]⟩)) w := run_string_add_sum w _ _ (by show _ + 1 ≤ _; omega)
  by_cases hd : lst o = [46]
  · have h1 : (o.toList == [46]) = true := by rw [toList_lst]; simpa using hd
    have hfin : Hid (bs (belowText (lst s) (lst o)) = s ++ ⟨#[46]⟩) := hid (by apply lst_inj; unfold belowText; rw [if_pos hd, lst_bs, lst_append]; rfl)
    clear hd
    go_enter Try.func60, Try.ntmps60
    go_wp2_with fail
    go_ret
    exact ⟨ret_str hfin.out.symm, rfl⟩
  · have h1 : (o.toList == [46]) = false := by rw [toList_lst]; simpa using hd
    have hfin : Hid (bs (belowText (lst s) (lst o)) = s ++ ⟨#[46]⟩ ++ o) := hid (by apply lst_inj; unfold belowText; rw [if_neg hd, lst_bs, lst_append, lst_append]; rfl)
    have ha2 : (Op.stringOp .add (s ++ ⟨#[46]⟩) o).run Try.prog w = .ok (.string (s ++ ⟨#[46]⟩ ++ o)) w := run_string_add_sum w _ _ (by rw [ByteArray.size_append]; show _ + 1 + _ ≤ _; omega)
    clear hd
    go_enter Try.func60, Try.ntmps60
    go_wp2_with fail
    go_ret
    exact ⟨ret_str hfin.out.symm, rfl⟩

theorem readName_of {t o n : Z.Str} (ho : Z.valid o = true) (ht : t ≠ []) (h60 : t.length ≤ 60) (hf : Z.fullText t o = n) : Z.readName t o = if Z.valid n = true then some n else none := by
  unfold Z.readName
  rw [hf]
  have : t.isEmpty = false := by cases t <;> simp_all
  simp [ho, this, h60]
end Go.Proofs.Ytgieklfpdlkmjaa

/- What the functions of the model's chapter 1 return: labels and names. What the functions of the model's chapter 1 return: names out of labels, and names that are read. What the functions of the model's chapter 1 return: names that are read below an origin. What the functions of the model's chapter 1 return: being below, short names and the order. What the functions of the model's chapter 1 return: the order, parents, wildcards and common tops. What the functions of the model's chapter 1 return: common tops. -/
import Derived.Test.YtgglakonkphbgaaB
import Derived.Laws.IdiomStrings
import Derived.Laws.BytesArg
namespace Go.Proofs.Ytgglakonkphbgaa
open Go.RowKit
set_option maxRecDepth 100000

theorem infoStr : (Try.prog.info? 9).map (fun i => (i.zero, i.size, i.bytes)) = some (some (.string ⟨#[]⟩), 1, 16) := by kernel_rfl

def okB (x : Int) : Bool := (decide (97 ≤ x) && decide (x ≤ 122)) || (decide (48 ≤ x) && decide (x ≤ 57)) || x == 45 || x == 95
theorem okB_byte (c : UInt8) : okB c.toNat = Z.okByte c := by
  unfold okB Z.okByte
  rw [Bool.eq_iff_iff]
  simp only [Bool.or_eq_true, Bool.and_eq_true, decide_eq_true_eq, beq_iff_eq, UInt8.le_iff_toNat_le, ← UInt8.toNat_inj]
  simp
  omega

set_option maxHeartbeats 400000 in
theorem l1Byte_any (x : Int) (w : World) :
    Calls Try.prog 92 #[.int .u8 x] w fun e w' => e = .returned (.bool (okB x)) ∧ w = w' := by
  go_enter Try.func92, Try.ntmps92
  go_wp2
  all_goals go_ret
  all_goals exact ⟨ret_bool (by unfold okB; rw [Bool.eq_iff_iff]; simp; try omega), rfl⟩

theorem all_snoc (s : ByteArray) (k : Nat) (h : k < s.size) : ((lst s).take (k + 1)).all Z.okByte = (((lst s).take k).all Z.okByte && okB s[k].toNat) := by
  rw [lst_take_succ s k h, okB_byte]; simp
theorem not_all (s : ByteArray) (k : Nat) (h : k < s.size) (hb : (!okB s[k].toNat) = true) : Z.okLabel (lst s) = false := by
  unfold Z.okLabel
  have hm : s[k] ∈ lst s := by rw [← lst_get s k h]; exact List.getElem_mem _
  have : (lst s).all Z.okByte = false := by
    rw [Bool.eq_false_iff]
    intro ha
    rw [List.all_eq_true] at ha
    have h2 := ha _ hm
    rw [← okB_byte] at h2
    rw [h2] at hb
    cases hb
  rw [this]; simp

set_option maxHeartbeats 400000 in
theorem l1Label_any (s : ByteArray) (hs : s.size ≤ maxLen) (w : World) :
    Calls Try.prog 77 #[.string s] w fun e w' => e = .returned (.bool (Z.okLabel (lst s))) ∧ w = w' := by
  unfold maxLen at hs
  go_enter Try.func77, Try.ntmps77
  go_wp2
  go_loop [3] (fun i => ∃ k : Nat, k ≤ s.size ∧ k ≤ 11 ∧ i = .int .i64 k ∧ Hid (((lst s).take k).all Z.okByte = true)) (fun i => s.size - (intOf i).toNat)
  case atStart => exact ⟨0, Nat.zero_le _, by omega, rfl, hid (by simp)⟩
  case round =>
    obtain ⟨k, hk, hk2, rfl, hok⟩ := hrel
    by_cases hlt : k < s.size
    · by_cases hle : k ≤ 10
      · go_wp2_with (go_at_call 92; refine (l1Byte_any _ _).mono ?_; rintro e w' ⟨rfl, rfl⟩)
        · go_ret
          have hb : (!okB s[k].toNat) = true := by assumption
          exact ⟨ret_bool (not_all s k hlt hb).symm, rfl⟩
        · have hb : (!okB s[k].toNat) = false := by assumption
          refine ⟨⟨k + 1, by omega, by omega, by go_num, hid ?_⟩, by simp [intOf]; omega⟩
          rw [all_snoc s k hlt, hok.out]
          simpa using hb
      · go_wp2
        all_goals go_ret
        all_goals exact ⟨ret_bool (by have h0 : ¬ s.size ≤ 10 := by omega
                                      simp [Z.okLabel, lst_length, h0]; try omega), rfl⟩
    · have hks : k = s.size := by omega
      have hall : (lst s).all Z.okByte = true := by
        have := hok.out
        rwa [List.take_of_length_le (by rw [lst_length]; omega)] at this
      have Hall := hid hall
      clear hall hks
      go_wp2
      all_goals go_ret
      all_goals exact ⟨ret_bool (by unfold Z.okLabel; rw [Hall.out, lst_length, Bool.eq_iff_iff]; simp; try omega), rfl⟩

/-- The labels that are done, and the place where the next one starts. -/
def CutAt (s : ByteArray) (k st : Nat) (done : List Z.Str) : Prop := st ≤ k ∧ Z.cut (lst s) [] = done ++ Z.cut ((lst s).drop k) (((lst s).drop st).take (k - st))
theorem cutAt_start (s : ByteArray) : CutAt s 0 0 [] := ⟨Nat.le_refl _, by simp⟩
theorem cutAt_dot {s : ByteArray} {k st : Nat} {done : List Z.Str} (h : CutAt s k st done) (hk : k < s.size) (hd : s[k] = 46) : CutAt s (k + 1) (k + 1) (done ++ [lst (s.extract st k)]) := by
  refine ⟨Nat.le_refl _, ?_⟩
  rw [h.2, lst_drop s k hk, hd, lst_extract]
  simp [Z.cut]
theorem cutAt_other {s : ByteArray} {k st : Nat} {done : List Z.Str} (h : CutAt s k st done) (hk : k < s.size) (hd : s[k] ≠ 46) : CutAt s (k + 1) st done := by
  refine ⟨by have := h.1; omega, ?_⟩
  rw [h.2, lst_drop s k hk, drop_take_snoc _ _ _ h.1 (by rw [lst_length]; exact hk)]
  have : (lst s)[k]'(by rw [lst_length]; exact hk) = s[k] := rfl
  rw [this]
  simp [Z.cut, hd]
theorem cutAt_end {s : ByteArray} {st : Nat} {done : List Z.Str} (h : CutAt s s.size st done) : Z.cut (lst s) [] = done := by
  rw [h.2, List.drop_of_length_le (by rw [lst_length]; omega)]
  simp [Z.cut]
theorem cutAt_length {s : ByteArray} {k st : Nat} {done : List Z.Str} (h : CutAt s k st done) : done.length ≤ s.size := by
  have h1 := congrArg List.length h.2
  rw [Z.cut_length, List.length_append] at h1
  have h2 := List.count_le_length (a := (46 : UInt8)) (l := lst s)
  rw [lst_length] at h2
  omega

set_option maxHeartbeats 400000 in
theorem l1Labels_any (s : ByteArray) (hs : s.size ≤ 67108864) (w : World) :
    Calls Try.prog 56 #[.string s] w fun e w' => ∃ A c, e = .returned (.slice A (Z.labs (lst s)).length c) ∧ w'.ownsRow w.heap.size 9 1 (.slice A (Z.labs (lst s)).length c) (Z.labs (lst s)).length ((Z.labs (lst s)).map sv) ∧ Below w.heap.size w w' := by
  obtain ⟨i0, hi0, hz0, hz1, hz2⟩ := info_parts infoStr
  by_cases hd : lst s = [46]
  · have h1 : (s.toList == [46]) = true := by rw [toList_lst]; simpa using hd
    have h2 : (s.toList != [46]) = false := by rw [toList_lst]; simpa using hd
    have h3 : Hid (Z.labs (lst s) = []) := hid (by simp [Z.labs, hd])
    clear hd
    go_enter Try.func56, Try.ntmps56
    go_wp2
    go_loop [3, 5] (fun v i => v = .slice (some ⟨w.heap.size, 0, none⟩) 0 0 ∧ i = .int .i64 0) (fun _ _ => 0)
    case atStart => exact ⟨rfl, rfl⟩
    case round =>
      obtain ⟨rfl, rfl⟩ := hrel
      go_wp2
      all_goals go_ret
      all_goals rw [h3.out]
      all_goals exact ⟨_, _, rfl, World.ownsRow_made w #[] 0 (Nat.le_refl _) (by decide) (by simp), (Below.refl _ _).alloc (Nat.le_refl _) _⟩
  · have h1 : (s.toList == [46]) = false := by rw [toList_lst]; simpa using hd
    have h2 : (s.toList != [46]) = true := by rw [toList_lst]; simpa using hd
    have h3 : Hid (Z.labs (lst s) = Z.cut (lst s) []) := hid (by simp [Z.labs, hd])
    clear hd
    go_enter Try.func56, Try.ntmps56
    go_wp2
    go_loopw [3, 4, 5] (fun v st i wr => ∃ (k a : Nat) (done : List Z.Str), k ≤ s.size ∧ a ≤ k ∧ i = .int .i64 k ∧ st = .int .i64 a ∧ Hid (CutAt s k a done) ∧
        wr.ownsRow w.heap.size 9 1 v done.length (done.map sv) ∧ Below w.heap.size w wr) (fun _ _ i _ => s.size - (intOf i).toNat)
    case atStart => exact ⟨0, 0, [], Nat.zero_le _, Nat.le_refl _, rfl, rfl, hid (cutAt_start s), World.ownsRow_made w #[] 0 (Nat.le_refl _) (by decide) (by simp), (Below.refl _ _).alloc (Nat.le_refl _) _⟩
    case round =>
      obtain ⟨k, a, done, hk, ha, rfl, rfl, hc, hown, hb⟩ := hrel
      have hdl := cutAt_length hc.out
      have hbs := hb.size
      by_cases hlt : k < s.size
      · go_wp2_with (at_builtin; refine wpList_append1 wr (.string (s.extract a k)) _ rfl (.tmp 21) (.tmp 26) _ rfl w.heap.size 9 i0 _ 16 Try.underlying26 hi0 hz0 hz1 hz2 rfl _ _ _ rfl hown rfl rfl (by unfold maxLen; omega) (by omega) hbs ?_; intro v1 w1 hown1 hb1)
        · have hd : (s[k].toNat : Int) = 46 := by simpa using ‹((s[k].toNat : Int) == 46) = true›
          have hd' : s[k] = 46 := by rw [← UInt8.toNat_inj]; simp; omega
          have hc1 := cutAt_dot hc.out hlt hd'
          go_roundw
          case rel => exact ⟨k + 1, k + 1, _, by omega, by omega, by go_num, by go_num, hid hc1, by simpa [sv_lst] using hown1, hb.trans hb1⟩
          case measure => simp [intOf]; omega
        · have hd : ¬ (s[k].toNat : Int) = 46 := by simpa using ‹((s[k].toNat : Int) == 46) = false›
          have hd' : s[k] ≠ 46 := fun e => hd (by rw [e]; rfl)
          have hc1 := cutAt_other hc.out hlt hd'
          go_roundw
          case rel => exact ⟨k + 1, a, _, by omega, by omega, by go_num, rfl, hid hc1, hown, hb⟩
          case measure => simp [intOf]; omega
      · have hks : k = s.size := by omega
        subst hks
        have hce := cutAt_end hc.out
        obtain ⟨A, c, rfl⟩ := own_slice hown
        go_wp2
        go_ret
        rw [h3.out, hce]
        exact ⟨A, c, rfl, hown, hb⟩

theorem l1Labels_row {w w' : World} {s : ByteArray} {A : Option Addr} {c : Nat} (h : w'.ownsRow w.heap.size 9 1 (.slice A (Z.labs (lst s)).length c) (Z.labs (lst s)).length ((Z.labs (lst s)).map sv)) :
    Reads w' w'.heap.size A (Z.labs (lst s)).length ((Z.labs (lst s)).map sv) := Reads.of_own h

theorem reads_str {w : World} {B : Nat} {A : Option Addr} {ls : List Z.Str} {k : Nat} (h : Reads w B A ls.length (ls.map sv)) (hk : k < ls.length) :
    ∃ ad s, A = some ad ∧ ad.block < B ∧ lst s = ls.getD k [] ∧ w.cell? (ad.add k) = some (.string s) := by
  obtain ⟨ad, u, e, hb, hx, hc⟩ := h.at_ hk
  rw [List.getElem?_map, List.getElem?_eq_getElem hk] at hx
  simp only [Option.map_some, Option.some.injEq] at hx
  subst hx
  exact ⟨ad, bs ls[k], e, hb, by simp [lst_bs, hk], hc⟩

theorem upTo_succ {P : Nat → Bool} {k : Nat} (h : ∀ j, j < k → P j = true) (hk : P k = true) : ∀ j, j < k + 1 → P j = true := fun j hj => by
  rcases Nat.lt_or_ge j k with h1 | h1
  · exact h j h1
  · have : j = k := by omega
    subst this; exact hk
theorem okAt_label {ls : List Z.Str} {k : Nat} {x : ByteArray} (hx : lst x = ls.getD k []) (h : Z.okLabel (lst x) = true) : Z.okAt ls k = true := by
  unfold Z.okAt; rw [← hx, h]; rfl
theorem okAt_star {ls : List Z.Str} {k : Nat} {x : ByteArray} (hx : lst x = ls.getD k []) (h0 : k = 0) (h : (!x.toList == [42]) = false) : Z.okAt ls k = true := by
  subst h0
  unfold Z.okAt
  rw [← hx]
  rw [toList_lst] at h
  simp at h
  simp [h]
theorem okAt_not {ls : List Z.Str} {k : Nat} {x : ByteArray} (hx : lst x = ls.getD k []) (h : ¬ Z.okLabel (lst x) = true) (h0 : ¬ k = 0 ∨ (!x.toList == [42]) = true) : Z.okAt ls k = false := by
  unfold Z.okAt
  rw [← hx]
  rcases h0 with h0 | h0
  · simp [h0, h]
  · by_cases hk : k = 0
    · subst hk
      rw [toList_lst] at h0
      simp at h0
      rw [← hx]
      simp [h, h0]
    · simp [hk, h]

set_option maxHeartbeats 400000 in
theorem NameValid_loop (s : ByteArray) (h1 : 1 ≤ s.size) (h2 : s.size ≤ 60) (h3 : s[s.size - 1] = 46) (w : World) :
    Calls Try.prog 55 #[.string s] w fun e w' => e = .returned (.bool (Z.okLabs (Z.labs (lst s)) && decide ((Z.labs (lst s)).length ≤ 8))) ∧ Below w.heap.size w w' := by
  have hlast : (s[s.size - 1].toNat : Int) = 46 := by rw [h3]; rfl
  have hl : (Z.labs (lst s)).length ≤ 60 := by have := Z.labs_count (lst s); rw [lst_length] at this; omega
  go_enter Try.func55, Try.ntmps55
  go_wp2_with (go_at_call 56; refine (l1Labels_any _ (by omega) _).mono ?_; rintro e w1 ⟨A, c, rfl, hown, hb⟩)
  go_loop [4] (fun i => ∃ k : Nat, k ≤ (Z.labs (lst s)).length ∧ i = .int .i64 k ∧ Hid (∀ j, j < k → Z.okAt (Z.labs (lst s)) j = true)) (fun i => (Z.labs (lst s)).length - (intOf i).toNat)
  case atStart => exact ⟨0, Nat.zero_le _, rfl, hid (fun j hj => absurd hj (by omega))⟩
  case round =>
    obtain ⟨k, hk, rfl, hok⟩ := hrel
    by_cases hlt : k < (Z.labs (lst s)).length
    · obtain ⟨ad, x, rfl, hab, hx, hcell⟩ := reads_str (l1Labels_row hown) hlt
      have Hx := hid hx
      clear hx
      have hxs : x.size ≤ 60 := by
        have hm : (Z.labs (lst s)).getD k [] ∈ Z.labs (lst s) := by simp [hlt]
        have := Z.labs_piece (lst s) _ hm
        rw [← Hx.out, lst_length, lst_length] at this
        omega
      have hcell0 : k = 0 → w1.cell? ad = some (.string x) := fun e => by subst e; simpa [Addr.add] using hcell
      go_wp2_with (go_at_call 77; refine (l1Label_any _ (by unfold maxLen; omega) _).mono ?_; rintro e w' ⟨rfl, rfl⟩)
      · have h : Z.okLabel (lst x) = true := by assumption
        exact ⟨⟨k + 1, by omega, by go_num, hid (upTo_succ hok.out (okAt_label Hx.out h))⟩, by simp [intOf]; omega⟩
      · have h : ¬ Z.okLabel (lst x) = true := by assumption
        have h0 : k = 0 := by assumption
        have hq : (!x.toList == [42]) = true := by assumption
        go_ret
        exact ⟨ret_bool (by rw [Z.okLabs_false hlt (okAt_not Hx.out h (Or.inr hq))]; rfl), hb⟩
      · have h0 : k = 0 := by assumption
        have hq : (!x.toList == [42]) = false := by assumption
        exact ⟨⟨1, by omega, rfl, hid (by have := upTo_succ hok.out (okAt_star Hx.out h0 hq); rwa [h0] at this)⟩, by simp [intOf]; omega⟩
      · have h : ¬ Z.okLabel (lst x) = true := by assumption
        have h0 : ¬ k = 0 := by assumption
        go_ret
        exact ⟨ret_bool (by rw [Z.okLabs_false hlt (okAt_not Hx.out h (Or.inl h0))]; rfl), hb⟩
    · have hks : k = (Z.labs (lst s)).length := by omega
      have hall : Hid (Z.okLabs (Z.labs (lst s)) = true) := hid ((Z.okLabs_iff _).2 (by rw [← hks]; exact hok.out))
      clear hks
      go_wp2
      go_ret
      exact ⟨ret_bool (by rw [hall.out, Bool.eq_iff_iff]; simp; try omega), hb⟩

theorem last_iff (s : ByteArray) (h : 1 ≤ s.size) : ((lst s).getLast? == some 46) = decide (s[s.size - 1] = 46) := by
  have hl : 1 ≤ (lst s).length := by rw [lst_length]; exact h
  rw [List.getLast?_eq_getElem?]
  have e : (lst s)[(lst s).length - 1]? = some s[s.size - 1] := by
    have h2 : s.size - 1 < (lst s).length := by rw [lst_length]; omega
    rw [lst_length, List.getElem?_eq_getElem h2]; rfl
  rw [e, Bool.eq_iff_iff]; simp

set_option maxHeartbeats 400000 in
theorem NameValid_any (s : ByteArray) (hs : s.size ≤ maxLen) (w : World) :
    Calls Try.prog 55 #[.string s] w fun e w' => e = .returned (.bool (Z.valid (lst s))) ∧ Below w.heap.size w w' := by
  unfold maxLen at hs
  by_cases h1 : 1 ≤ s.size
  · by_cases h2 : s.size ≤ 60
    · by_cases h3 : s[s.size - 1] = 46
      · refine (NameValid_loop s h1 h2 h3 w).mono fun e w' ⟨he, hw⟩ => ⟨?_, hw⟩
        rw [he]
        refine ret_bool ?_
        unfold Z.valid
        rw [last_iff s h1, lst_length]
        simp [h1, h2, h3]
      · have hlast : ((s[s.size - 1].toNat : Int) != 46) = true := by
          rw [bne_iff_ne]
          intro e
          exact h3 (by rw [← UInt8.toNat_inj]; simp; omega)
        have hfin : Hid (Z.valid (lst s) = false) := hid (by unfold Z.valid; rw [last_iff s h1]; simp [h3])
        clear h3
        go_enter Try.func55, Try.ntmps55
        go_wp2_with fail
        go_ret
        exact ⟨ret_bool hfin.out.symm, Below.refl _ _⟩
    · have hfin : Hid (Z.valid (lst s) = false) := hid (by unfold Z.valid; rw [lst_length]; simp; omega)
      go_enter Try.func55, Try.ntmps55
      go_wp2_with fail
      go_ret
      exact ⟨ret_bool hfin.out.symm, Below.refl _ _⟩
  · have hfin : Hid (Z.valid (lst s) = false) := hid (by unfold Z.valid; rw [lst_length]; simp; omega)
    go_enter Try.func55, Try.ntmps55
    go_wp2_with fail
    go_ret
    exact ⟨ret_bool hfin.out.symm, Below.refl _ _⟩
end Go.Proofs.Ytgglakonkphbgaa

namespace Go.Proofs.Ytgglakonkphbgaa
open Go.RowKit
set_option maxRecDepth 100000

theorem joined_take_succ (ls : List Z.Str) (k : Nat) (x : ByteArray) (h : k < ls.length) (hx : lst x = ls.getD k []) :
    bs (Z.joined (ls.take k)) ++ x ++ ⟨#[46]⟩ = bs (Z.joined (ls.take (k + 1))) := by
  apply lst_inj
  have e : ls.getD k [] = ls[k] := by simp [h]
  rw [lst_append, lst_append, lst_bs, lst_bs, List.take_succ_eq_append_getElem h, Z.joined_append, hx, e]
  simp [Z.joined, lst]
theorem joined_take_le (ls : List Z.Str) (k : Nat) : (Z.joined (ls.take k)).length ≤ (Z.joined ls).length := by
  conv => rhs; rw [← List.take_append_drop k ls, Z.joined_append]
  simp

set_option maxHeartbeats 400000 in
theorem l1Join_any (ls : List Z.Str) (B : Nat) (A : Option Addr) (n c : Nat) (w : World) (hr : Reads w B A n (ls.map sv)) (hn : ls.length ≤ 67108864) (hj : (Z.joined ls).length ≤ 67108864) :
    Calls Try.prog 60 #[.slice A n c] w fun e w' => e = .returned (.string (bs (Z.join ls))) ∧ w = w' := by
  obtain rfl : n = ls.length := by simpa using hr.1.symm
  go_enter Try.func60, Try.ntmps60
  go_wp2
  go_loop [3, 4] (fun o i => ∃ (k : Nat) (t : ByteArray), k ≤ ls.length ∧ i = .int .i64 k ∧ o = .string t ∧ Hid (t = bs (Z.joined (ls.take k)))) (fun _ i => ls.length - (intOf i).toNat)
  case atStart => exact ⟨0, ⟨#[]⟩, Nat.zero_le _, rfl, rfl, hid rfl⟩
  case round =>
    obtain ⟨k, t, hk, rfl, rfl, ht⟩ := hrel
    have htl : t.size ≤ 67108864 := by rw [ht.out, bs_size]; have := joined_take_le ls k; omega
    by_cases hlt : k < ls.length
    · obtain ⟨ad, x, rfl, hab, hx, hcell⟩ := reads_str hr hlt
      have hcell0 : k = 0 → w.cell? ad = some (.string x) := fun e => by subst e; simpa [Addr.add] using hcell
      have hfin : Hid (t ++ x ++ ⟨#[46]⟩ = bs (Z.joined (ls.take (k + 1)))) := hid (by rw [ht.out]; exact joined_take_succ ls k x hlt hx)
      have hsz : (t ++ x ++ ⟨#[46]⟩).size ≤ 67108864 := by rw [hfin.out, bs_size]; have := joined_take_le ls (k + 1); omega
      have hsz2 : t.size + x.size + 1 ≤ 67108864 := by
        rw [ByteArray.size_append, ByteArray.size_append] at hsz
        exact hsz
      have ha1 : (Op.stringOp .add t x).run Try.prog w = .ok (.string (t ++ x)) w := run_string_add_sum w _ _ (by omega)
      have ha2 : (Op.stringOp .add (t ++ x) ⟨#[46]⟩).run Try.prog w = .ok (.string (t ++ x ++ ⟨#[46]⟩)) w := run_string_add_sum w _ _ (by rw [ByteArray.size_append]; show _ + 1 ≤ _; omega)
      clear hx hsz
      go_wp2
      exact ⟨⟨k + 1, _, by omega, by go_num, rfl, hfin⟩, by simp [intOf]; omega⟩
    · have hks : k = ls.length := by omega
      have ht2 : Hid (lst t = Z.joined ls) := hid (by rw [ht.out, lst_bs, hks, List.take_of_length_le (Nat.le_refl _)])
      clear hks
      go_wp2
      all_goals go_ret
      · have h0 : t.toList.isEmpty = true := by assumption
        rw [toList_lst, ht2.out] at h0
        refine ⟨ret_str (lst_inj ?_), rfl⟩
        rw [lst_bs]
        unfold Z.join
        rw [if_pos]
        · rfl
        · cases ls with
          | nil => rfl
          | cons a r => rw [Z.joined_cons] at h0; simp at h0
      · have h0 : t.toList.isEmpty = false := by assumption
        rw [toList_lst, ht2.out] at h0
        refine ⟨ret_str (lst_inj ?_), rfl⟩
        rw [lst_bs, ht2.out]
        unfold Z.join
        rw [if_neg]
        intro e
        rw [e] at h0
        simp [Z.joined] at h0

theorem join_le (ls : List Z.Str) : (Z.join ls).length ≤ (Z.joined ls).length + 1 := by
  unfold Z.join
  split
  · simp
  · omega

theorem infoByte : (Try.prog.info? 5).map (fun i => (i.zero, i.size, i.bytes)) = some (some (.int .u8 0), 1, 1) := by kernel_rfl
def bv (c : UInt8) : Value := .int .u8 c.toNat
theorem lower_take_succ (s : ByteArray) (k : Nat) (h : k < s.size) : (Z.lower (lst s)).take (k + 1) = (Z.lower (lst s)).take k ++ [Z.lowByte s[k]] := by
  unfold Z.lower
  rw [← List.map_take, lst_take_succ s k h, List.map_append, List.map_take]; rfl
theorem lower_up {c : UInt8} (h1 : 65 ≤ (c.toNat : Int)) (h2 : (c.toNat : Int) ≤ 90) : bv (Z.lowByte c) = .int .u8 ((c.toNat : Int) + 32) := by
  unfold bv Z.lowByte
  rw [if_pos]
  · congr 1
    rw [UInt8.toNat_add]
    simp
    omega
  · simp only [UInt8.le_iff_toNat_le]
    simp
    omega
theorem lower_same {c : UInt8} (h : ¬ (65 ≤ (c.toNat : Int) ∧ (c.toNat : Int) ≤ 90)) : bv (Z.lowByte c) = .int .u8 (c.toNat : Int) := by
  unfold bv Z.lowByte
  rw [if_neg]
  simp only [UInt8.le_iff_toNat_le]
  simp
  omega

theorem conv_own {P : Program} {w : World} {src dst e : TypeId} {base n : Nat} {A : Option Addr} {c : Nat} {l : List UInt8} (hs : P.underlying src = some (.slice e)) (he : P.underlying e = some (.int .u8)) (hd : P.underlying dst = some .string)
    (h : w.ownsRow base e 1 (.slice A n c) n (l.map bv)) : (convert src dst (.slice A n c)).run P w = .ok (.string (bs l)) w := by
  obtain rfl : n = l.length := by simpa using h.1.symm
  have hr := Reads.of_own h
  cases A with
  | none =>
    have hl : l = [] := by
      rcases Nat.eq_zero_or_pos l.length with h0 | h0
      · exact List.eq_nil_of_length_eq_zero h0
      · obtain ⟨ad, e, _⟩ := hr.2 h0
        cases e
    subst hl
    rw [run_convert_bytes_nil w src e hs he _ _ dst hd]
    rfl
  | some a =>
    rw [run_convert_bytes_back w src dst e a c l hs he hd ?_]
    · rfl
    · intro j hj
      obtain ⟨ad, u, e1, _, hx, hc⟩ := hr.at_ hj
      injection e1 with e1
      subst e1
      rw [hc, ← hx, List.getElem?_map, List.getElem?_eq_getElem hj]
      rfl

def belowText (s o : Z.Str) : Z.Str := if o = [46] then s ++ [46] else s ++ [46] ++ o

theorem readName_of {t o n : Z.Str} (ho : Z.valid o = true) (ht : t ≠ []) (h60 : t.length ≤ 60) (hf : Z.fullText t o = n) : Z.readName t o = if Z.valid n = true then some n else none := by
  unfold Z.readName
  rw [hf]
  have : t.isEmpty = false := by cases t <;> simp_all
  simp [ho, this, h60]
end Go.Proofs.Ytgglakonkphbgaa

namespace Go.Proofs.Ytgglakonkphbgaa
open Go.RowKit
set_option maxRecDepth 100000

theorem empty_iff (s : ByteArray) : s.toList.isEmpty = decide (lst s = []) := by rw [toList_lst, Bool.eq_iff_iff]; simp

/-- The two ways behind the text of the name. -/
theorem readName_ends {t o x : ByteArray} (hv : Z.valid (lst o) = true) (he : t.toList.isEmpty = false) (h60 : t.size ≤ 60) (hf : Z.fullText (lst t) (lst o) = lst x) :
    (Z.valid (lst x) = true → Z.readName (lst t) (lst o) = some (lst x)) ∧ (Z.valid (lst x) = false → Z.readName (lst t) (lst o) = none) := by
  have hne : lst t ≠ [] := by rw [empty_iff] at he; simpa using he
  have := readName_of hv hne (by rw [lst_length]; exact h60) hf
  rw [this]
  exact ⟨fun h => by rw [if_pos h], fun h => by rw [h]; simp⟩

theorem index_last (t : ByteArray) (he : t.toList.isEmpty = false) : 1 ≤ t.size := by
  rw [empty_iff] at he
  have : lst t ≠ [] := by simpa using he
  rw [← lst_length]
  exact List.length_pos_iff.2 this

end Go.Proofs.Ytgglakonkphbgaa

namespace Go.Proofs.Ytgglakonkphbgaa
open Go.RowKit
set_option maxRecDepth 100000

theorem suffix_iff (x y : List Z.Str) (h : y.length ≤ x.length) : y <:+ x ↔ ∀ j, j < y.length → x.getD (x.length - y.length + j) [] = y.getD j [] := by
  constructor
  · rintro ⟨p, rfl⟩ j hj
    have e : (p ++ y).length - y.length + j = p.length + j := by rw [List.length_append]; omega
    rw [e]
    simp [List.getD_eq_getElem?_getD, List.getElem?_append_right]
  · intro hh
    refine ⟨x.take (x.length - y.length), ?_⟩
    have : y = x.drop (x.length - y.length) := by
      apply List.ext_getElem
      · rw [List.length_drop]; omega
      · intro j h1 h2
        have := hh j h1
        rw [List.getElem_drop]
        have hj : x.length - y.length + j < x.length := by omega
        simpa [h1, hj] using this.symm
    conv => lhs; rhs; rw [this]
    exact List.take_append_drop _ _

def SameTo (x y : List Z.Str) (d k : Nat) : Prop := ∀ j, j < k → x.getD (d + j) [] = y.getD j []

set_option maxHeartbeats 400000 in
theorem l1Ends_any (s t : ByteArray) (hs : s.size ≤ 67108864) (ht : t.size ≤ 67108864) (w : World) :
    Calls Try.prog 38 #[.string s, .string t] w fun e w' => ∃ m : Int, e = .returned (.int .i64 m) ∧ Hid ((Z.labs (lst t) <:+ Z.labs (lst s) → m = (Z.labs (lst s)).length - (Z.labs (lst t)).length) ∧ (¬ Z.labs (lst t) <:+ Z.labs (lst s) → m < 0)) ∧ Below w.heap.size w w' := by
  have hx := Z.labs_count (lst s)
  have hy := Z.labs_count (lst t)
  rw [lst_length] at hx hy
  by_cases hd : (Z.labs (lst t)).length ≤ (Z.labs (lst s)).length
  · go_enter Try.func38, Try.ntmps38
    go_wp2_with fail
    refine (l1Labels_any s hs _).mono ?_
    rintro e w1 ⟨A, c, rfl, hown1, hb1⟩
    go_wp2_with fail
    refine (l1Labels_any t ht _).mono ?_
    rintro e w2 ⟨A2, c2, rfl, hown2, hb2⟩
    have hr1 := (Reads.of_own hown1).below hb2 (Nat.le_refl _)
    have hr2 := Reads.of_own hown2
    have hbb := below2 hb1 hb2
    go_wp2_with fail
    go_loopw [8] (fun i wr => ∃ (k nq : Nat), k ≤ (Z.labs (lst t)).length ∧ i = .int .i64 k ∧ wr = w2.drewN nq ∧ Hid (SameTo (Z.labs (lst s)) (Z.labs (lst t)) ((Z.labs (lst s)).length - (Z.labs (lst t)).length) k)) (fun i _ => (Z.labs (lst t)).length - (intOf i).toNat)
    case atStart => exact ⟨0, 0, Nat.zero_le _, rfl, rfl, hid (fun j hj => absurd hj (by omega))⟩
    case round =>
      obtain ⟨k, nq, hk, rfl, rfl, hok⟩ := hrel
      by_cases hlt : k < (Z.labs (lst t)).length
      · obtain ⟨ad2, y, rfl, hab2, hy2, hcell2⟩ := reads_str hr2 hlt
        obtain ⟨ad1, x, rfl, hab1, hx2, hcell1⟩ := reads_str (k := (Z.labs (lst s)).length - (Z.labs (lst t)).length + k) hr1 (by omega)
        have Hx := hid hx2
        have Hy := hid hy2
        clear hx2 hy2
        go_wp2_with fail
        go_quiet (fail)
        go_wp2
        · have hne : (!x.toList == y.toList) = true := by assumption
          go_ret
          refine ⟨_, rfl, hid ⟨fun hsuf => ?_, fun _ => by decide⟩, by repeat (first | exact hbb | refine below_drewN ?_ _)⟩
          have := (suffix_iff _ _ hd).1 hsuf k hlt
          rw [← Hx.out, ← Hy.out] at this
          rw [toList_lst, toList_lst] at hne
          simp [this] at hne
        · have heq : (!x.toList == y.toList) = false := by assumption
          refine ⟨⟨k + 1, _, by omega, by go_num, rfl, hid fun j hj => ?_⟩, by simp [intOf]; omega⟩
          rcases Nat.lt_or_ge j k with h1 | h1
          · exact hok.out j h1
          · obtain rfl : j = k := by omega
            rw [← Hx.out, ← Hy.out]
            rw [toList_lst, toList_lst] at heq
            simpa using heq
      · have hks : k = (Z.labs (lst t)).length := by omega
        have hsuf : Hid (Z.labs (lst t) <:+ Z.labs (lst s)) := hid ((suffix_iff _ _ hd).2 (by have := hok.out; rw [hks] at this; exact this))
        clear hks
        go_wp2
        go_ret
        exact ⟨_, rfl, hid ⟨fun _ => rfl, fun h => absurd hsuf.out h⟩, by repeat (first | exact hbb | refine below_drewN ?_ _)⟩
  · have hns : Hid (¬ Z.labs (lst t) <:+ Z.labs (lst s)) := hid (fun h => hd h.length_le)
    go_enter Try.func38, Try.ntmps38
    go_wp2_with fail
    refine (l1Labels_any s hs _).mono ?_
    rintro e w1 ⟨A, c, rfl, hown1, hb1⟩
    go_wp2_with fail
    refine (l1Labels_any t ht _).mono ?_
    rintro e w2 ⟨A2, c2, rfl, hown2, hb2⟩
    have hbb := below2 hb1 hb2
    go_wp2_with fail
    go_loop [8] (fun i => i = .int .i64 0) (fun _ => 0)
    case atStart => rfl
    case round =>
      subst hrel
      go_wp2
      all_goals go_ret
      all_goals exact ⟨_, rfl, hid ⟨fun h => absurd h hns.out, fun _ => by omega⟩, hbb⟩

theorem endsNonneg {s t : ByteArray} {m : Int} (h : Hid ((Z.labs (lst t) <:+ Z.labs (lst s) → m = (Z.labs (lst s)).length - (Z.labs (lst t)).length) ∧ (¬ Z.labs (lst t) <:+ Z.labs (lst s) → m < 0))) :
    decide (0 ≤ m) = (Z.labs (lst t)).isSuffixOf (Z.labs (lst s)) := by
  by_cases hs : Z.labs (lst t) <:+ Z.labs (lst s)
  · have h1 := h.out.1 hs
    have h2 := hs.length_le
    rw [List.isSuffixOf_iff_suffix.2 hs]
    simp; omega
  · have h1 := h.out.2 hs
    have : (Z.labs (lst t)).isSuffixOf (Z.labs (lst s)) = false := by
      rw [Bool.eq_false_iff]; exact fun e => hs (List.isSuffixOf_iff_suffix.1 e)
    rw [this]
    simp; omega

theorem ends_zero {s t : ByteArray} (hv : Z.valid (lst s) = true) (hv2 : Z.valid (lst t) = true) {m : Int} (h : Hid ((Z.labs (lst t) <:+ Z.labs (lst s) → m = (Z.labs (lst s)).length - (Z.labs (lst t)).length) ∧ (¬ Z.labs (lst t) <:+ Z.labs (lst s) → m < 0))) :
    (m = 0 ↔ lst s = lst t) ∧ (m < 0 ↔ Z.below (lst s) (lst t) = false) := by
  have hb : Z.below (lst s) (lst t) = (Z.labs (lst t)).isSuffixOf (Z.labs (lst s)) := by unfold Z.below; rw [hv, hv2]; simp
  have hd := endsNonneg h
  refine ⟨⟨fun e => ?_, fun e => ?_⟩, ?_⟩
  · by_cases hs : Z.labs (lst t) <:+ Z.labs (lst s)
    · have h1 := h.out.1 hs
      exact Z.labs_inj hv hv2 (hs.eq_of_length (by omega)).symm
    · have := h.out.2 hs; omega
  · rw [e] at h
    have := h.out.1 (List.suffix_refl _)
    omega
  · rw [hb, ← hd]
    simp

end Go.Proofs.Ytgglakonkphbgaa

namespace Go.Proofs.Ytgglakonkphbgaa
open Go.RowKit
set_option maxRecDepth 100000

/-! ### lists from their ends -/

/-- The element at a place, from the end. -/
def rget (l : List Z.Str) (k : Nat) : Z.Str := l.getD (l.length - (k + 1)) []
theorem rget_rev (l : List Z.Str) (k : Nat) (h : k < l.length) : l.reverse.drop k = rget l k :: l.reverse.drop (k + 1) := by
  rw [List.drop_eq_getElem_cons (by simpa using h), List.getElem_reverse]
  unfold rget
  congr 1
  have h2 : l.length - (k + 1) < l.length := by omega
  have h3 : l.length - 1 - k = l.length - (k + 1) := by omega
  simp [h2, h3]

def EndsSame (x y : List Z.Str) (k : Nat) : Prop := Z.ltRev x.reverse y.reverse = Z.ltRev (x.reverse.drop k) (y.reverse.drop k)
theorem endsSame_start (x y : List Z.Str) : EndsSame x y 0 := rfl
theorem endsSame_next {x y : List Z.Str} {k : Nat} (h : EndsSame x y k) (hx : k < x.length) (hy : k < y.length) (e : rget x k = rget y k) : EndsSame x y (k + 1) := by
  unfold EndsSame at h ⊢
  rw [h, rget_rev x k hx, rget_rev y k hy, e]
  simp [Z.ltRev]
theorem endsSame_ne {x y : List Z.Str} {k : Nat} (h : EndsSame x y k) (hx : k < x.length) (hy : k < y.length) (e : rget x k ≠ rget y k) : Z.ltRev x.reverse y.reverse = decide (rget x k < rget y k) := by
  unfold EndsSame at h
  rw [h, rget_rev x k hx, rget_rev y k hy]
  simp [Z.ltRev, e]
theorem endsSame_end {x y : List Z.Str} {k : Nat} (h : EndsSame x y k) (hx : k ≤ x.length) (hy : k ≤ y.length) (e : k = x.length ∨ k = y.length) : Z.ltRev x.reverse y.reverse = decide (x.length < y.length) := by
  unfold EndsSame at h
  rw [h]
  rcases e with e | e
  · rw [List.drop_of_length_le (by simp; omega)]
    by_cases h2 : k < y.length
    · rw [rget_rev y k h2]; simp [Z.ltRev]; omega
    · rw [List.drop_of_length_le (by simp; omega)]; simp [Z.ltRev]; omega
  · rw [List.drop_of_length_le (l := y.reverse) (by simp; omega)]
    by_cases h2 : k < x.length
    · rw [rget_rev x k h2]; simp [Z.ltRev]; omega
    · rw [List.drop_of_length_le (by simp; omega)]; simp [Z.ltRev]; omega

theorem reads_end {w : World} {B : Nat} {A : Option Addr} {ls : List Z.Str} {k : Nat} (h : Reads w B A ls.length (ls.map sv)) (hk : k < ls.length) :
    ∃ ad s, A = some ad ∧ ad.block < B ∧ lst s = rget ls k ∧ w.cell? (ad.add (ls.length - (k + 1))) = some (.string s) := reads_str h (by omega)

set_option maxHeartbeats 1000000 in
theorem l1Order_any (s t : ByteArray) (hs : s.size ≤ 67108864) (ht : t.size ≤ 67108864) (w : World) :
    Calls Try.prog 100 #[.string s, .string t] w fun e w' => ∃ m : Int, e = .returned (.int .i64 m) ∧ Hid (decide (m < 0) = Z.ltRev (Z.labs (lst s)).reverse (Z.labs (lst t)).reverse) ∧ Below w.heap.size w w' := by
  have hx := Z.labs_count (lst s)
  have hy := Z.labs_count (lst t)
  rw [lst_length] at hx hy
  go_enter Try.func100, Try.ntmps100
  go_wp2_with fail
  refine (l1Labels_any s hs _).mono ?_
  rintro e w1 ⟨A, c, rfl, hown1, hb1⟩
  go_wp2_with fail
  refine (l1Labels_any t ht _).mono ?_
  rintro e w2 ⟨A2, c2, rfl, hown2, hb2⟩
  have hr1 := (Reads.of_own hown1).below hb2 (Nat.le_refl _)
  have hr2 := Reads.of_own hown2
  have hbb := below2 hb1 hb2
  clear hown1 hown2 hb1 hb2
  go_wp2_with fail
  go_loop [7] (fun i => ∃ (k : Nat), k ≤ (Z.labs (lst s)).length ∧ k ≤ (Z.labs (lst t)).length ∧ i = .int .i64 (k + 1) ∧ Hid (EndsSame (Z.labs (lst s)) (Z.labs (lst t)) k)) (fun i => (Z.labs (lst t)).length + 1 - (intOf i).toNat)
  case atStart => exact ⟨0, Nat.zero_le _, Nat.zero_le _, rfl, hid (endsSame_start _ _)⟩
  case round =>
    obtain ⟨k, hk1, hk2, rfl, hok⟩ := hrel
    by_cases hlt : k < (Z.labs (lst s)).length ∧ k < (Z.labs (lst t)).length
    · obtain ⟨hlt1, hlt2⟩ := hlt
      obtain ⟨ad1, x, rfl, hab1, hx2, hcell1⟩ := reads_end hr1 hlt1
      obtain ⟨ad2, y, rfl, hab2, hy2, hcell2⟩ := reads_end hr2 hlt2
      have Hx := hid hx2
      have Hy := hid hy2
      clear hx2 hy2
      go_wp2
      · have hb : Op.bytesLess x.toList y.toList = true := by assumption
        rw [bytesLess_lt, toList_lst, toList_lst] at hb
        have hlt : lst x < lst y := by simpa using hb
        go_ret
        refine ⟨_, rfl, hid ?_, hbb⟩
        rw [endsSame_ne hok.out hlt1 hlt2 (by rw [← Hx.out, ← Hy.out]; exact fun e => Z.lt_irrefl' _ (e ▸ hlt)), ← Hx.out, ← Hy.out]
        simp [hlt]
      · have hb : Op.bytesLess x.toList y.toList = false := by assumption
        have hq : (!x.toList == y.toList) = true := by assumption
        rw [bytesLess_lt, toList_lst, toList_lst] at hb
        rw [toList_lst, toList_lst] at hq
        have hlt : ¬ lst x < lst y := by simpa using hb
        have hne : lst x ≠ lst y := by simpa using hq
        go_ret
        refine ⟨_, rfl, hid ?_, hbb⟩
        rw [endsSame_ne hok.out hlt1 hlt2 (by rw [← Hx.out, ← Hy.out]; exact hne), ← Hx.out, ← Hy.out]
        simp [hlt]
      · have hq : (!x.toList == y.toList) = false := by assumption
        rw [toList_lst, toList_lst] at hq
        have he : lst x = lst y := by simpa using hq
        exact ⟨⟨k + 1, by omega, by omega, by go_num, hid (endsSame_next hok.out hlt1 hlt2 (by rw [← Hx.out, ← Hy.out]; exact he))⟩, by simp [intOf]; omega⟩
    · have hend := hid (endsSame_end hok.out hk1 hk2 (by omega))
      by_cases h1 : k < (Z.labs (lst s)).length
      all_goals
        go_wp2
        go_ret
        refine ⟨_, rfl, hid ?_, hbb⟩
        rw [hend.out]
        simp
        try omega

/-- The three ways that a function of two names takes before its work. -/
theorem pair_false {a b : Bool} (h : a = false ∨ b = false) : (a && b) = false := by rcases h with h | h <;> simp [h]

theorem root_iff (s : ByteArray) : (s.toList == [46]) = decide (lst s = [46]) := by rw [toList_lst, Bool.eq_iff_iff]; simp
/-- What is behind the first k elements of a row of the call's own. -/
theorem own_drop {w : World} {base : Nat} {e : TypeId} {A : Option Addr} {n c : Nat} {ls : List Z.Str} (h : w.ownsRow base e 1 (.slice A n c) n (ls.map sv)) (h1 : 1 ≤ n) (k : Nat) :
    ∃ g, A = some ⟨g, 0, none⟩ ∧ (c = k → Reads w w.heap.size (some ⟨g, 0, none⟩) 0 ((ls.drop k).map sv)) ∧ (c ≠ k → Reads w w.heap.size (some ⟨g, k, none⟩) (n - k) ((ls.drop k).map sv)) := by
  have hr := Reads.of_own h
  obtain ⟨g, cap, hv, _, _⟩ := h.form h1
  injection hv with hA
  subst hA
  have := hr.cut (k := k) (own_cap h).1
  rw [List.map_drop]
  refine ⟨g, rfl, fun e => ?_, fun e => ?_⟩
  · have h0 : n - k = 0 := by have := (own_cap h).1; omega
    rwa [if_pos e, h0] at this
  · rw [if_neg e] at this
    have e2 : (Option.map (fun x => x.add k) (some (⟨g, 0, none⟩ : Addr))) = some ⟨g, k, none⟩ := by
      by_cases hk : k = 0 <;> simp [Addr.add, hk]
    rwa [e2] at this

def starText (p : Z.Str) : Z.Str := if p = [46] then [42, 46] else [42, 46] ++ p
theorem starOf_text (s : Z.Str) : Z.starOf s = (Z.parentOf s).map starText := Z.starOf_eq s

end Go.Proofs.Ytgglakonkphbgaa

namespace Go.Proofs.Ytgglakonkphbgaa
open Go.RowKit
set_option maxRecDepth 100000

def ComSame (x y : List Z.Str) (k : Nat) : Prop := Z.sameEnds x y = k + Z.common (x.reverse.drop k) (y.reverse.drop k)
theorem comSame_start (x y : List Z.Str) : ComSame x y 0 := by simp [ComSame, Z.sameEnds]
theorem comSame_next {x y : List Z.Str} {k : Nat} (h : ComSame x y k) (hx : k < x.length) (hy : k < y.length) (e : rget x k = rget y k) : ComSame x y (k + 1) := by
  unfold ComSame at h ⊢
  rw [h, rget_rev x k hx, rget_rev y k hy, e]
  simp [Z.common]; omega
theorem comSame_ne {x y : List Z.Str} {k : Nat} (h : ComSame x y k) (hx : k < x.length) (hy : k < y.length) (e : rget x k ≠ rget y k) : Z.sameEnds x y = k := by
  unfold ComSame at h
  rw [h, rget_rev x k hx, rget_rev y k hy]
  simp [Z.common, e]
theorem comSame_end {x y : List Z.Str} {k : Nat} (h : ComSame x y k) (e : x.length ≤ k ∨ y.length ≤ k) : Z.sameEnds x y = k := by
  unfold ComSame at h
  rw [h]
  rcases e with e | e
  · rw [List.drop_of_length_le (by simp; omega)]; simp [Z.common]
  · rw [List.drop_of_length_le (l := y.reverse) (by simp; omega)]
    cases x.reverse.drop k <;> simp [Z.common]

theorem cut_pos {w : World} {B m : Nat} {A : Option Addr} {ls : List Z.Str} {c k q : Nat} (e : c = k) (h : Reads w B (if c = k then A else A.map (·.add k)) m ((ls.map sv).drop k)) : Reads (w.drewN q) B A m ((ls.drop k).map sv) := by
  rw [if_pos e] at h
  rw [List.map_drop]
  exact h
theorem cut_neg {w : World} {B m : Nat} {A : Option Addr} {ls : List Z.Str} {c k q : Nat} (e : ¬ c = k) (h : Reads w B (if c = k then A else A.map (·.add k)) m ((ls.map sv).drop k)) : Reads (w.drewN q) B (A.map (·.add k)) m ((ls.drop k).map sv) := by
  rw [if_neg e] at h
  rw [List.map_drop]
  exact h
theorem joined_drop_le {s : Z.Str} (hv : Z.valid s = true) (k : Nat) : (Z.joined ((Z.labs s).drop k)).length ≤ 67108864 := by
  have h2 := (Z.valid_len (Z.valid_drop hv k)).2
  unfold Z.join at h2
  split at h2
  · rename_i h0; rw [h0]; simp [Z.joined]
  · omega

end Go.Proofs.Ytgglakonkphbgaa

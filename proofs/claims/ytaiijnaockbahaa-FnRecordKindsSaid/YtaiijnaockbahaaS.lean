/- What the functions of the model's chapter 1 return: labels and names. -/
import Derived.Test.YtaiijnaockbahaaB
namespace Go.Proofs.Ytaiijnaockbahaa
open Go.RowKit
set_option maxRecDepth 100000

theorem infoStr : (Try.prog.info? 9).map (fun i => (i.zero, i.size, i.bytes)) = some (some (.string ⟨#[]⟩), 1, 16) := by kernel_rfl

def okB (x : Int) : Bool := (decide (97 ≤ x) && decide (x ≤ 122)) || (decide (48 ≤ x) && decide (x ≤ 57)) || x == 45 || x == 95
theorem okB_byte (c : UInt8) : okB c.toNat = Z.okByte c := by
  unfold okB Z.okByte
  rw [Bool.eq_iff_iff]
  simp only [Bool.or_eq_true, Bool.and_eq_true, decide_eq_true_eq, beq_iff_eq, UInt8.le_iff_toNat_le, ← UInt8.toNat_inj]
  simp
  omega

set_option maxHeartbeats 400000 in
theorem l1Byte_any (x : Int) (w : World) :
    Calls Try.prog 63 #[.int .u8 x] w fun e w' => e = .returned (.bool (okB x)) ∧ w = w' := by
  go_enter Try.func63, Try.ntmps63
  go_wp2
  all_goals go_ret
  all_goals exact ⟨ret_bool (by unfold okB; rw [Bool.eq_iff_iff]; simp; try omega), rfl⟩

theorem all_snoc (s : ByteArray) (k : Nat) (h : k < s.size) : ((lst s).take (k + 1)).all Z.okByte = (((lst s).take k).all Z.okByte && okB s[k].toNat) := by
  rw [lst_take_succ s k h, okB_byte]; simp
theorem not_all (s : ByteArray) (k : Nat) (h : k < s.size) (hb : (!okB s[k].toNat) = true) : Z.okLabel (lst s) = false := by
  unfold Z.okLabel
  have hm : s[k] ∈ lst s := by rw [← lst_get s k h]; exact List.getElem_mem _
  have : (lst s).all Z.okByte = false := by
    rw [Bool.eq_false_iff]
    intro ha
    rw [List.all_eq_true] at ha
    have h2 := ha _ hm
    rw [← okB_byte] at h2
    rw [h2] at hb
    cases hb
  rw [this]; simp

set_option maxHeartbeats 400000 in
theorem l1Label_any (s : ByteArray) (hs : s.size ≤ maxLen) (w : World) :
    Calls Try.prog 49 #[.string s] w fun e w' => e = .returned (.bool (Z.okLabel (lst s))) ∧ w = w' := by
  unfold maxLen at hs
  go_enter Try.func49, Try.ntmps49
  go_wp2
  go_loop [3] (fun i => ∃ k : Nat, k ≤ s.size ∧ k ≤ 11 ∧ i = .int .i64 k ∧ Hid (((lst s).take k).all Z.okByte = true)) (fun i => s.size - (intOf i).toNat)
  case atStart => exact ⟨0, Nat.zero_le _, by omega, rfl, hid (by simp)⟩
  case round =>
    obtain ⟨k, hk, hk2, rfl, hok⟩ := hrel
    by_cases hlt : k < s.size
    · by_cases hle : k ≤ 10
      · go_wp2_with (go_at_call 63; refine (l1Byte_any _ _).mono ?_; rintro e w' ⟨rfl, rfl⟩)
        · go_ret
          have hb : (!okB s[k].toNat) = true := by assumption
          exact ⟨ret_bool (not_all s k hlt hb).symm, rfl⟩
        · have hb : (!okB s[k].toNat) = false := by assumption
          refine ⟨⟨k + 1, by omega, by omega, by go_num, hid ?_⟩, by simp [intOf]; omega⟩
          rw [all_snoc s k hlt, hok.out]
          simpa using hb
      · go_wp2
        all_goals go_ret
        all_goals exact ⟨ret_bool (by have h0 : ¬ s.size ≤ 10 := by omega
                                      simp [Z.okLabel, lst_length, h0]; try omega), rfl⟩
    · have hks : k = s.size := by omega
      have hall : (lst s).all Z.okByte = true := by
        have := hok.out
        rwa [List.take_of_length_le (by rw [lst_length]; omega)] at this
      have Hall := hid hall
      clear hall hks
      go_wp2
      all_goals go_ret
      all_goals exact ⟨ret_bool (by unfold Z.okLabel; rw [Hall.out, lst_length, Bool.eq_iff_iff]; simp; try omega), rfl⟩

/-- The labels that are done, and the place where the next one starts. -/
def CutAt (s : ByteArray) (k st : Nat) (done : List Z.Str) : Prop := st ≤ k ∧ Z.cut (lst s) [] = done ++ Z.cut ((lst s).drop k) (((lst s).drop st).take (k - st))
theorem cutAt_start (s : ByteArray) : CutAt s 0 0 [] := ⟨Nat.le_refl _, by simp⟩
theorem cutAt_dot {s : ByteArray} {k st : Nat} {done : List Z.Str} (h : CutAt s k st done) (hk : k < s.size) (hd : s[k] = 46) : CutAt s (k + 1) (k + 1) (done ++ [lst (s.extract st k)]) := by
  refine ⟨Nat.le_refl _, ?_⟩
  rw [h.2, lst_drop s k hk, hd, lst_extract]
  simp [Z.cut]
theorem cutAt_other {s : ByteArray} {k st : Nat} {done : List Z.Str} (h : CutAt s k st done) (hk : k < s.size) (hd : s[k] ≠ 46) : CutAt s (k + 1) st done := by
  refine ⟨by have := h.1; omega, ?_⟩
  rw [h.2, lst_drop s k hk, drop_take_snoc _ _ _ h.1 (by rw [lst_length]; exact hk)]
  have : (lst s)[k]'(by rw [lst_length]; exact hk) = s[k] := rfl
  rw [this]
  simp [Z.cut, hd]
theorem cutAt_end {s : ByteArray} {st : Nat} {done : List Z.Str} (h : CutAt s s.size st done) : Z.cut (lst s) [] = done := by
  rw [h.2, List.drop_of_length_le (by rw [lst_length]; omega)]
  simp [Z.cut]
theorem cutAt_length {s : ByteArray} {k st : Nat} {done : List Z.Str} (h : CutAt s k st done) : done.length ≤ s.size := by
  have h1 := congrArg List.length h.2
  rw [Z.cut_length, List.length_append] at h1
  have h2 := List.count_le_length (a := (46 : UInt8)) (l := lst s)
  rw [lst_length] at h2
  omega

set_option maxHeartbeats 400000 in
theorem l1Labels_any (s : ByteArray) (hs : s.size ≤ 67108864) (w : World) :
    Calls Try.prog 48 #[.string s] w fun e w' => ∃ A c, e = .returned (.slice A (Z.labs (lst s)).length c) ∧ w'.ownsRow w.heap.size 9 1 (.slice A (Z.labs (lst s)).length c) (Z.labs (lst s)).length ((Z.labs (lst s)).map sv) ∧ Below w.heap.size w w' := by
  obtain ⟨i0, hi0, hz0, hz1, hz2⟩ := info_parts infoStr
  by_cases hd : lst s = [46]
  · have h1 : (s.toList == [46]) = true := by rw [toList_lst]; simpa using hd
    have h2 : (s.toList != [46]) = false := by rw [toList_lst]; simpa using hd
    have h3 : Hid (Z.labs (lst s) = []) := hid (by simp [Z.labs, hd])
    clear hd
    go_enter Try.func48, Try.ntmps48
    go_wp2
    go_loop [3, 5] (fun v i => v = .slice (some ⟨w.heap.size, 0, none⟩) 0 0 ∧ i = .int .i64 0) (fun _ _ => 0)
    case atStart => exact ⟨rfl, rfl⟩
    case round =>
      obtain ⟨rfl, rfl⟩ := hrel
      go_wp2
      all_goals go_ret
      all_goals rw [h3.out]
      all_goals exact ⟨_, _, rfl, World.ownsRow_made w #[] 0 (Nat.le_refl _) (by decide) (by simp), (Below.refl _ _).alloc (Nat.le_refl _) _⟩
  · have h1 : (s.toList == [46]) = false := by rw [toList_lst]; simpa using hd
    have h2 : (s.toList != [46]) = true := by rw [toList_lst]; simpa using hd
    have h3 : Hid (Z.labs (lst s) = Z.cut (lst s) []) := hid (by simp [Z.labs, hd])
    clear hd
    go_enter Try.func48, Try.ntmps48
    go_wp2
    go_loopw [3, 4, 5] (fun v st i wr => ∃ (k a : Nat) (done : List Z.Str), k ≤ s.size ∧ a ≤ k ∧ i = .int .i64 k ∧ st = .int .i64 a ∧ Hid (CutAt s k a done) ∧
        wr.ownsRow w.heap.size 9 1 v done.length (done.map sv) ∧ Below w.heap.size w wr) (fun _ _ i _ => s.size - (intOf i).toNat)
    case atStart => exact ⟨0, 0, [], Nat.zero_le _, Nat.le_refl _, rfl, rfl, hid (cutAt_start s), World.ownsRow_made w #[] 0 (Nat.le_refl _) (by decide) (by simp), (Below.refl _ _).alloc (Nat.le_refl _) _⟩
    case round =>
      obtain ⟨k, a, done, hk, ha, rfl, rfl, hc, hown, hb⟩ := hrel
      have hdl := cutAt_length hc.out
      have hbs := hb.size
      by_cases hlt : k < s.size
      · go_wp2_with (at_builtin; refine wpList_append1 wr (.string (s.extract a k)) _ rfl (.tmp 21) (.tmp 26) _ rfl w.heap.size 9 i0 _ 16 Try.underlying40 hi0 hz0 hz1 hz2 rfl _ _ _ rfl hown rfl rfl (by unfold maxLen; omega) (by omega) hbs ?_; intro v1 w1 hown1 hb1)
        · have hd : (s[k].toNat : Int) = 46 := by simpa using ‹((s[k].toNat : Int) == 46) = true›
          have hd' : s[k] = 46 := by rw [← UInt8.toNat_inj]; simp; omega
          have hc1 := cutAt_dot hc.out hlt hd'
          go_roundw
          case rel => exact ⟨k + 1, k + 1, _, by omega, by omega, by go_num, by go_num, hid hc1, by simpa [sv_lst] using hown1, hb.trans hb1⟩
          case measure => simp [intOf]; omega
        · have hd : ¬ (s[k].toNat : Int) = 46 := by simpa using ‹((s[k].toNat : Int) == 46) = false›
          have hd' : s[k] ≠ 46 := fun e => hd (by rw [e]; rfl)
          have hc1 := cutAt_other hc.out hlt hd'
          go_roundw
          case rel => exact ⟨k + 1, a, _, by omega, by omega, by go_num, rfl, hid hc1, hown, hb⟩
          case measure => simp [intOf]; omega
      · have hks : k = s.size := by omega
        subst hks
        have hce := cutAt_end hc.out
        obtain ⟨A, c, rfl⟩ := own_slice hown
        go_wp2
        go_ret
        rw [h3.out, hce]
        exact ⟨A, c, rfl, hown, hb⟩

theorem l1Labels_row {w w' : World} {s : ByteArray} {A : Option Addr} {c : Nat} (h : w'.ownsRow w.heap.size 9 1 (.slice A (Z.labs (lst s)).length c) (Z.labs (lst s)).length ((Z.labs (lst s)).map sv)) :
    Reads w' w'.heap.size A (Z.labs (lst s)).length ((Z.labs (lst s)).map sv) := Reads.of_own h

theorem reads_str {w : World} {B : Nat} {A : Option Addr} {ls : List Z.Str} {k : Nat} (h : Reads w B A ls.length (ls.map sv)) (hk : k < ls.length) :
    ∃ ad s, A = some ad ∧ ad.block < B ∧ lst s = ls.getD k [] ∧ w.cell? (ad.add k) = some (.string s) := by
  obtain ⟨ad, u, e, hb, hx, hc⟩ := h.at_ hk
  rw [List.getElem?_map, List.getElem?_eq_getElem hk] at hx
  simp only [Option.map_some, Option.some.injEq] at hx
  subst hx
  exact ⟨ad, bs ls[k], e, hb, by simp [lst_bs, hk], hc⟩

theorem upTo_succ {P : Nat → Bool} {k : Nat} (h : ∀ j, j < k → P j = true) (hk : P k = true) : ∀ j, j < k + 1 → P j = true := fun j hj => by
  rcases Nat.lt_or_ge j k with h1 | h1
  · exact h j h1
  · have : j = k := by omega
    subst this; exact hk
theorem okAt_label {ls : List Z.Str} {k : Nat} {x : ByteArray} (hx : lst x = ls.getD k []) (h : Z.okLabel (lst x) = true) : Z.okAt ls k = true := by
  unfold Z.okAt; rw [← hx, h]; rfl
theorem okAt_star {ls : List Z.Str} {k : Nat} {x : ByteArray} (hx : lst x = ls.getD k []) (h0 : k = 0) (h : (!x.toList == [42]) = false) : Z.okAt ls k = true := by
  subst h0
  unfold Z.okAt
  rw [← hx]
  rw [toList_lst] at h
  simp at h
  simp [h]
theorem okAt_not {ls : List Z.Str} {k : Nat} {x : ByteArray} (hx : lst x = ls.getD k []) (h : ¬ Z.okLabel (lst x) = true) (h0 : ¬ k = 0 ∨ (!x.toList == [42]) = true) : Z.okAt ls k = false := by
  unfold Z.okAt
  rw [← hx]
  rcases h0 with h0 | h0
  · simp [h0, h]
  · by_cases hk : k = 0
    · subst hk
      rw [toList_lst] at h0
      simp at h0
      rw [← hx]
      simp [h, h0]
    · simp [hk, h]

set_option maxHeartbeats 400000 in
theorem NameValid_loop (s : ByteArray) (h1 : 1 ≤ s.size) (h2 : s.size ≤ 60) (h3 : s[s.size - 1] = 46) (w : World) :
    Calls Try.prog 31 #[.string s] w fun e w' => e = .returned (.bool (Z.okLabs (Z.labs (lst s)) && decide ((Z.labs (lst s)).length ≤ 8))) ∧ Below w.heap.size w w' := by
  have hlast : (s[s.size - 1].toNat : Int) = 46 := by rw [h3]; rfl
  have hl : (Z.labs (lst s)).length ≤ 60 := by have := Z.labs_count (lst s); rw [lst_length] at this; omega
  go_enter Try.func31, Try.ntmps31
  go_wp2_with (go_at_call 48; refine (l1Labels_any _ (by omega) _).mono ?_; rintro e w1 ⟨A, c, rfl, hown, hb⟩)
  go_loop [4] (fun i => ∃ k : Nat, k ≤ (Z.labs (lst s)).length ∧ i = .int .i64 k ∧ Hid (∀ j, j < k → Z.okAt (Z.labs (lst s)) j = true)) (fun i => (Z.labs (lst s)).length - (intOf i).toNat)
  case atStart => exact ⟨0, Nat.zero_le _, rfl, hid (fun j hj => absurd hj (by omega))⟩
  case round =>
    obtain ⟨k, hk, rfl, hok⟩ := hrel
    by_cases hlt : k < (Z.labs (lst s)).length
    · obtain ⟨ad, x, rfl, hab, hx, hcell⟩ := reads_str (l1Labels_row hown) hlt
      have Hx := hid hx
      clear hx
      have hxs : x.size ≤ 60 := by
        have hm : (Z.labs (lst s)).getD k [] ∈ Z.labs (lst s) := by simp [hlt]
        have := Z.labs_piece (lst s) _ hm
        rw [← Hx.out, lst_length, lst_length] at this
        omega
      have hcell0 : k = 0 → w1.cell? ad = some (.string x) := fun e => by subst e; simpa [Addr.add] using hcell
      go_wp2_with (go_at_call 49; refine (l1Label_any _ (by unfold maxLen; omega) _).mono ?_; rintro e w' ⟨rfl, rfl⟩)
      · have h : Z.okLabel (lst x) = true := by assumption
        exact ⟨⟨k + 1, by omega, by go_num, hid (upTo_succ hok.out (okAt_label Hx.out h))⟩, by simp [intOf]; omega⟩
      · have h : ¬ Z.okLabel (lst x) = true := by assumption
        have h0 : k = 0 := by assumption
        have hq : (!x.toList == [42]) = true := by assumption
        go_ret
        exact ⟨ret_bool (by rw [Z.okLabs_false hlt (okAt_not Hx.out h (Or.inr hq))]; rfl), hb⟩
      · have h0 : k = 0 := by assumption
        have hq : (!x.toList == [42]) = false := by assumption
        exact ⟨⟨1, by omega, rfl, hid (by have := upTo_succ hok.out (okAt_star Hx.out h0 hq); rwa [h0] at this)⟩, by simp [intOf]; omega⟩
      · have h : ¬ Z.okLabel (lst x) = true := by assumption
        have h0 : ¬ k = 0 := by assumption
        go_ret
        exact ⟨ret_bool (by rw [Z.okLabs_false hlt (okAt_not Hx.out h (Or.inl h0))]; rfl), hb⟩
    · have hks : k = (Z.labs (lst s)).length := by omega
      have hall : Hid (Z.okLabs (Z.labs (lst s)) = true) := hid ((Z.okLabs_iff _).2 (by rw [← hks]; exact hok.out))
      clear hks
      go_wp2
      go_ret
      exact ⟨ret_bool (by rw [hall.out, Bool.eq_iff_iff]; simp; try omega), hb⟩

theorem last_iff (s : ByteArray) (h : 1 ≤ s.size) : ((lst s).getLast? == some 46) = decide (s[s.size - 1] = 46) := by
  have hl : 1 ≤ (lst s).length := by rw [lst_length]; exact h
  rw [List.getLast?_eq_getElem?]
  have e : (lst s)[(lst s).length - 1]? = some s[s.size - 1] := by
    have h2 : s.size - 1 < (lst s).length := by rw [lst_length]; omega
    rw [lst_length, List.getElem?_eq_getElem h2]; rfl
  rw [e, Bool.eq_iff_iff]; simp

set_option maxHeartbeats 400000 in
theorem NameValid_any (s : ByteArray) (hs : s.size ≤ maxLen) (w : World) :
    Calls Try.prog 31 #[.string s] w fun e w' => e = .returned (.bool (Z.valid (lst s))) ∧ Below w.heap.size w w' := by
  unfold maxLen at hs
  by_cases h1 : 1 ≤ s.size
  · by_cases h2 : s.size ≤ 60
    · by_cases h3 : s[s.size - 1] = 46
      · refine (NameValid_loop s h1 h2 h3 w).mono fun e w' ⟨he, hw⟩ => ⟨?_, hw⟩
        rw [he]
        refine ret_bool ?_
        unfold Z.valid
        rw [last_iff s h1, lst_length]
        simp [h1, h2, h3]
      · have hlast : ((s[s.size - 1].toNat : Int) != 46) = true := by
          rw [bne_iff_ne]
          intro e
          exact h3 (by rw [← UInt8.toNat_inj]; simp; omega)
        have hfin : Hid (Z.valid (lst s) = false) := hid (by unfold Z.valid; rw [last_iff s h1]; simp [h3])
        clear h3
        go_enter Try.func31, Try.ntmps31
        go_wp2_with fail
        go_ret
        exact ⟨ret_bool hfin.out.symm, Below.refl _ _⟩
    · have hfin : Hid (Z.valid (lst s) = false) := hid (by unfold Z.valid; rw [lst_length]; simp; omega)
      go_enter Try.func31, Try.ntmps31
      go_wp2_with fail
      go_ret
      exact ⟨ret_bool hfin.out.symm, Below.refl _ _⟩
  · have hfin : Hid (Z.valid (lst s) = false) := hid (by unfold Z.valid; rw [lst_length]; simp; omega)
    go_enter Try.func31, Try.ntmps31
    go_wp2_with fail
    go_ret
    exact ⟨ret_bool hfin.out.symm, Below.refl _ _⟩
end Go.Proofs.Ytaiijnaockbahaa

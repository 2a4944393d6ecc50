/- What the functions of the program's chapter 1 return: labels. -/
import Derived.Test.YtaiijnaockbahaaX
import Derived.Test.YtaiijnaockbahaaShelf
import Derived.Lib.OthersKept
namespace Go.Proofs.Ytaiijnaockbahaa
open Go.RowKit
set_option maxRecDepth 100000

/-! ### runes and bytes -/

theorem decode_bytes (s : ByteArray) (pos : Nat) (h : pos < s.size) (ha : 128 ≤ (s[pos]'h).toNat) :
    ∀ j, j < (Utf8.decode s pos).2 → ∃ hj : pos + j < s.size, 128 ≤ (s[pos + j]'hj).toNat := by
  have get : ∀ k (hk : pos + k < s.size), s.get! (pos + k) = s[pos + k]'hk := fun k hk => by
    show s.data[pos+k]! = _
    rw [getElem!_pos s.data (pos + k) (by simpa using hk)]; rfl
  have one : ∀ j, j < 1 → ∃ hj : pos + j < s.size, 128 ≤ (s[pos + j]'hj).toNat := fun j hj => by
    have : j = 0 := by omega
    subst this
    exact ⟨h, ha⟩
  have cont : ∀ k, (decide (pos + k < s.size) && (s.get! (pos + k)).toNat / 64 == 2) = true → ∃ hj : pos + k < s.size, 128 ≤ (s[pos + k]'hj).toNat := fun k hk => by
    simp only [Bool.and_eq_true, decide_eq_true_eq, beq_iff_eq] at hk
    refine ⟨hk.1, ?_⟩
    rw [get k hk.1] at hk
    omega
  intro j
  unfold Utf8.decode
  simp only []
  split
  · exact one j
  · split
    · rename_i h2
      simp only [Bool.and_eq_true] at h2
      split
      · intro hj
        rcases (by omega : j = 0 ∨ j = 1) with rfl | rfl
        · exact ⟨h, ha⟩
        · exact cont 1 (by simpa using h2.2)
      · exact one j
    · split
      · rename_i h3
        simp only [Bool.and_eq_true] at h3
        split
        · intro hj
          rcases (by omega : j = 0 ∨ j = 1 ∨ j = 2) with rfl | rfl | rfl
          · exact ⟨h, ha⟩
          · exact cont 1 (by simpa using h3.1.2)
          · exact cont 2 (by simpa using h3.2)
        · exact one j
      · split
        · rename_i h4
          simp only [Bool.and_eq_true] at h4
          split
          · intro hj
            rcases (by omega : j = 0 ∨ j = 1 ∨ j = 2 ∨ j = 3) with rfl | rfl | rfl | rfl
            · exact ⟨h, ha⟩
            · exact cont 1 (by simpa using h4.1.1.2)
            · exact cont 2 (by simpa using h4.1.2)
            · exact cont 3 (by simpa using h4.2)
          · exact one j
        · exact one j

/-- What a range over a string hands over at a place: the byte itself, or a rune of bytes from 128 on. -/
theorem rune_at (s : ByteArray) (pos : Nat) (h : pos < s.size) : ∃ r wd : Nat, Utf8.decode s pos = (r, wd) ∧ 1 ≤ wd ∧ pos + wd ≤ s.size ∧
    ((s[pos].toNat < 128 ∧ r = s[pos].toNat ∧ wd = 1) ∨ (128 ≤ r ∧ ∀ j, j < wd → ∃ hj : pos + j < s.size, 128 ≤ (s[pos + j]'hj).toNat)) := by
  by_cases ha : s[pos].toNat < 128
  · exact ⟨_, _, decode_ascii s pos h ha, Nat.le_refl _, by omega, Or.inl ⟨ha, rfl, rfl⟩⟩
  · have h2 := decode_high s pos h (by omega)
    have h3 := decode_bytes s pos h (by omega)
    revert h2 h3
    generalize Utf8.decode s pos = d
    obtain ⟨r, wd⟩ := d
    intro h2 h3
    simp only at h2 h3
    refine ⟨_, _, rfl, h2.2, ?_, Or.inr ⟨h2.1, h3⟩⟩
    obtain ⟨hj, _⟩ := h3 (wd - 1) (by omega)
    omega

set_option maxHeartbeats 400000 in
theorem isLabelRune_any (x : Int) (w : World) :
    Calls Try.prog 67 #[.int .i32 x] w fun e w' => e = .returned (.bool (okB x)) ∧ w = w' := by
  go_enter Try.func67, Try.ntmps67
  go_wp2
  all_goals go_ret
  all_goals exact ⟨ret_bool (by unfold okB; rw [Bool.eq_iff_iff]; simp; try omega), rfl⟩

theorem okB_high {r : Int} (h : 128 ≤ r) : okB r = false := by unfold okB; rw [Bool.eq_false_iff]; simp; omega
theorem not_label {s : ByteArray} {pos : Nat} (h : pos < s.size) (hb : okB s[pos].toNat = false) : Z.okLabel (lst s) = false := not_all s pos h (by simp [hb])

set_option maxHeartbeats 1000000 in
theorem labelValid_any (s : ByteArray) (hs : s.size ≤ maxLen) (w : World) :
    Calls Try.prog 62 #[.string s] w fun e w' => e = .returned (.bool (Z.okLabel (lst s))) ∧ Below w.heap.size w w' := by
  unfold maxLen at hs
  by_cases h0 : s.toList.isEmpty = true
  · have hfin : Hid (Z.okLabel (lst s) = false) := hid (by rw [empty_iff] at h0; have : lst s = [] := by simpa using h0
                                                           rw [this]; rfl)
    go_enter Try.func62, Try.ntmps62
    go_wp2
    go_ret
    exact ⟨ret_bool hfin.out.symm, Below.refl _ _⟩
  · have h0' : s.toList.isEmpty = false := by simpa using h0
    have hpos := index_last s h0'
    clear h0
    by_cases h10 : s.size ≤ 10
    · have hsz : Hid ((decide (1 ≤ (lst s).length) && decide ((lst s).length ≤ 10)) = true) := hid (by rw [lst_length]; simp [hpos, h10])
      go_enter Try.func62, Try.ntmps62
      go_wp2
      go_loopw [] (fun wr => ∃ pos : Nat, pos ≤ s.size ∧ wr = w.iter s pos ∧ Hid (((lst s).take pos).all Z.okByte = true)) (fun wr => s.size - wr.iterPos w.heap.size)
      case atStart => exact ⟨0, Nat.zero_le _, rfl, hid (by simp)⟩
      case round =>
        obtain ⟨pos, hp, rfl, hok⟩ := hrel
        by_cases hlt : pos < s.size
        · obtain ⟨r, wd, hdec, hwd, hend, hr⟩ := rune_at s pos hlt
          have hnx : ∀ ty, (Instr.next (.pointer (some ⟨w.heap.size, 0, none⟩)) true ty).run Try.prog (w.iter s pos) = .ok (.tuple #[.bool true, .int .i64 pos, .int .i32 r]) (w.iter s (pos + wd)) := fun ty => by
            rw [run_next_any w s pos ty hlt, hdec]
          clear hdec
          have HR := hid hr
          clear hr
          go_wp2_with (go_at_call 67; refine (isLabelRune_any _ _).mono ?_; rintro e w' ⟨rfl, rfl⟩)
          · have hb : (!okB (r : Int)) = true := by assumption
            go_ret
            refine ⟨ret_bool (not_label hlt ?_).symm, (Below.refl _ _).alloc (Nat.le_refl _) _⟩
            rcases HR.out with ⟨_, h2, _⟩ | ⟨_, h3⟩
            · rw [h2] at hb; simpa using hb
            · obtain ⟨_, h4⟩ := h3 0 (by omega)
              exact okB_high (by simp at h4; omega)
          · have hb : (!okB (r : Int)) = false := by assumption
            have hasc : s[pos].toNat < 128 ∧ r = s[pos].toNat ∧ wd = 1 := by
              rcases HR.out with h2 | ⟨h2, _⟩
              · exact h2
              · rw [okB_high (by omega)] at hb; cases hb
            refine ⟨⟨pos + wd, hend, rfl, hid ?_⟩, by simp; omega⟩
            rw [hasc.2.2, all_snoc s pos hlt, hok.out]
            rw [hasc.2.1] at hb
            simpa using hb
        · have hnx : ∀ ty, (Instr.next (.pointer (some ⟨w.heap.size, 0, none⟩)) true ty).run Try.prog (w.iter s pos) = _ := fun ty => run_next_end w s pos ty hlt
          have hall : Hid ((lst s).all Z.okByte = true) := hid (by
            have := hok.out
            rwa [List.take_of_length_le (by rw [lst_length]; omega)] at this)
          go_wp2
          go_ret
          refine ⟨ret_bool ?_, (Below.refl _ _).alloc (Nat.le_refl _) _⟩
          unfold Z.okLabel
          rw [hall.out, Bool.and_assoc, hsz.out]
          rfl
    · have hfin : Hid (Z.okLabel (lst s) = false) := hid (by unfold Z.okLabel; rw [lst_length]; simp; omega)
      go_enter Try.func62, Try.ntmps62
      go_wp2
      go_ret
      exact ⟨ret_bool hfin.out.symm, Below.refl _ _⟩

theorem below2' {B : Nat} {a b c : World} (h : Below B a b) (k : Below b.heap.size b c) (hB : B ≤ b.heap.size) : Below B a c := h.trans (k.mono hB)

set_option maxHeartbeats 1000000 in
theorem labelsValid_any (ls : List Z.Str) (B : Nat) (A : Option Addr) (n c : Nat) (w : World) (hr : Reads w B A n (ls.map sv)) (hB : B ≤ w.heap.size) (hn : ls.length ≤ 67108864) (hl : ∀ l ∈ ls, l.length ≤ 67108864) :
    Calls Try.prog 47 #[.slice A n c] w fun e w' => e = .returned (.bool (Z.okLabs ls && decide (ls.length ≤ 8))) ∧ Below w.heap.size w w' := by
  obtain rfl : n = ls.length := by simpa using hr.1.symm
  by_cases h8 : ls.length ≤ 8
  · go_enter Try.func47, Try.ntmps47
    go_wp2
    go_loopw [10] (fun i wr => ∃ k : Nat, k ≤ ls.length ∧ i = .int .i64 k ∧ Hid (∀ j, j < k → Z.okAt ls j = true) ∧ Below w.heap.size w wr) (fun i _ => ls.length - (intOf i).toNat)
    case atStart => exact ⟨0, Nat.zero_le _, rfl, hid (fun j hj => absurd hj (by omega)), Below.refl _ _⟩
    case round =>
      obtain ⟨k, hk, rfl, hok, hb⟩ := hrel
      by_cases hlt : k < ls.length
      · obtain ⟨ad, x, rfl, hab, hx, hcell⟩ := reads_str (hr.below hb hB) hlt
        have hxs : x.size ≤ 67108864 := by
          rw [← lst_length, hx]
          exact hl _ (by simp [hlt])
        have Hx := hid hx
        have hcell0 : k = 0 → wr.cell? ad = some (.string x) := fun e => by subst e; simpa [Addr.add] using hcell
        clear hx
        go_wp2_with (go_at_call 62; refine (labelValid_any _ (by unfold maxLen; omega) _).mono ?_; rintro e w' ⟨rfl, hb2⟩)
        · have h : Z.okLabel (lst x) = true := by assumption
          exact ⟨⟨k + 1, by omega, by go_num, hid (upTo_succ hok.out (okAt_label Hx.out h)), below2' hb hb2 hb.size⟩, by simp [intOf]; omega⟩
        · have h : ¬ Z.okLabel (lst x) = true := by assumption
          have hq : (!x.toList == [42]) = true := by assumption
          go_ret
          exact ⟨ret_bool (by rw [Z.okLabs_false hlt (okAt_not Hx.out h (Or.inr hq))]; rfl), below2' hb hb2 hb.size⟩
        · have h : ¬ Z.okLabel (lst x) = true := by assumption
          have h0 : k = 0 := by assumption
          have hq : (!x.toList == [42]) = false := by assumption
          exact ⟨⟨1, by omega, rfl, hid (by have := upTo_succ hok.out (okAt_star Hx.out h0 hq); rwa [h0] at this), below2' hb hb2 hb.size⟩, by simp [intOf]; omega⟩
        · have h : ¬ Z.okLabel (lst x) = true := by assumption
          have h0 : ¬ k = 0 := by assumption
          go_ret
          exact ⟨ret_bool (by rw [Z.okLabs_false hlt (okAt_not Hx.out h (Or.inl h0))]; rfl), below2' hb hb2 hb.size⟩
      · have hks : k = ls.length := by omega
        have hall : Hid (Z.okLabs ls = true) := hid ((Z.okLabs_iff _).2 (by rw [← hks]; exact hok.out))
        clear hks
        go_wp2
        go_ret
        exact ⟨ret_bool (by rw [hall.out]; simp [h8]), hb⟩
  · go_enter Try.func47, Try.ntmps47
    go_wp2
    go_ret
    exact ⟨ret_bool (by simp [h8]), Below.refl _ _⟩

theorem hasSuffix_dot (l : List UInt8) : Lib.hasSuffix l [46] = (l.getLast? == some 46) := by
  unfold Lib.hasSuffix
  rw [Bool.eq_iff_iff, List.isSuffixOf_iff_suffix, beq_iff_eq]
  constructor
  · rintro ⟨p, rfl⟩; simp
  · intro h
    cases l with
    | nil => cases h
    | cons a r =>
      have hne : a :: r ≠ [] := by simp
      rw [List.getLast?_eq_some_getLast hne] at h
      injection h with h
      exact ⟨(a :: r).dropLast, by conv => rhs; rw [← List.dropLast_concat_getLast hne, h]⟩
theorem hasDot_any (s : ByteArray) (hs : s.size ≤ maxLen) (w : World) :
    Calls Try.prog 46 #[.string s, .string ⟨#[46]⟩] w fun e w' => e = .returned (.bool ((lst s).getLast? == some 46)) ∧ w = w' :=
  (Try.strings_HasSuffix s ⟨#[46]⟩ w hs).mono fun _ _ ⟨he, hw⟩ => ⟨by rw [he, ← hasSuffix_dot]; rfl, hw.symm⟩

theorem cutAt_run {s : ByteArray} {a : Nat} {done : List Z.Str} : ∀ (wd pos : Nat), CutAt s pos a done → (∀ j, j < wd → ∃ hj : pos + j < s.size, s[pos + j]'hj ≠ 46) → CutAt s (pos + wd) a done
  | 0, _, h, _ => h
  | wd + 1, pos, h, hh => by
    obtain ⟨h0, hne⟩ := hh 0 (by omega)
    have h1 := cutAt_other h h0 hne
    have := cutAt_run wd (pos + 1) h1 fun j hj => by
      obtain ⟨h2, h3⟩ := hh (j + 1) (by omega)
      have e : pos + (j + 1) = pos + 1 + j := by omega
      exact ⟨by omega, by simpa only [e] using h3⟩
    rwa [show pos + 1 + wd = pos + (wd + 1) by omega] at this

/-- A row of the call's own stays while only new blocks are made. -/
theorem own_below {w w' : World} {base : Nat} {e : TypeId} {v : Value} {n : Nat} {xs : List Value} (h : w.ownsRow base e 1 v n xs) (hb : Below w.heap.size w w') : w'.ownsRow base e 1 v n xs := by
  obtain ⟨h1, h2⟩ := h
  refine ⟨h1, ?_⟩
  rcases h2 with h2 | ⟨g, cap, cur, hv, hg, hh, r⟩
  · exact Or.inl h2
  · have hlt : g < w.heap.size := by
      rcases Nat.lt_or_ge g w.heap.size with h | h
      · exact h
      · rw [Array.getElem?_eq_none h] at hh; cases hh
    exact Or.inr ⟨g, cap, cur, hv, hg, by rw [hb.block g hlt]; exact hh, r⟩

set_option maxHeartbeats 1000000 in
theorem splitName_main (s : ByteArray) (h1 : 1 ≤ s.size) (h2 : s.size ≤ 60) (h3 : ((lst s).getLast? == some 46) = true) (hd : lst s ≠ [46]) (w : World) :
    Calls Try.prog 26 #[.string s] w fun e w' => ∃ A c, e = .returned (.tuple #[.slice A (Z.labels (lst s)).length c, .bool (Z.valid (lst s))]) ∧
      w'.ownsRow w.heap.size 9 1 (.slice A (Z.labels (lst s)).length c) (Z.labels (lst s)).length ((Z.labels (lst s)).map sv) ∧ Below w.heap.size w w' := by
  obtain ⟨i0, hi0, hz0, hz1, hz2⟩ := info_parts infoStr
  have hdot : (s.toList == [46]) = false := by rw [root_iff]; simpa using hd
  have hlab : Hid (Z.labs (lst s) = Z.cut (lst s) []) := hid (by unfold Z.labs; rw [if_neg hd])
  have hval : Hid (Z.valid (lst s) = (Z.okLabs (Z.labs (lst s)) && decide ((Z.labs (lst s)).length ≤ 8))) := hid (by unfold Z.valid; rw [h3, lst_length]; simp [h1, h2])
  clear hd
  go_enter Try.func26, Try.ntmps26
  go_wp2_with (go_at_call 46; refine (hasDot_any _ (by unfold maxLen; omega) _).mono ?_; rintro e w' ⟨rfl, rfl⟩)
  go_loopw [4, 5] (fun v st wr => ∃ (pos a : Nat) (done : List Z.Str), pos ≤ s.size ∧ a ≤ pos ∧ st = .int .i64 a ∧ Hid (CutAt s pos a done) ∧ wr.ownsRow (w.heap.size + 1) 9 1 v done.length (done.map sv) ∧
      Below w.heap.size w wr ∧ Hid (wr.heap[w.heap.size]? = some (.stringIter s pos))) (fun _ _ wr => s.size - wr.iterPos w.heap.size)
  case atStart => exact ⟨0, 0, [], Nat.zero_le _, Nat.le_refl _, rfl, hid (cutAt_start s), World.ownsRow_nil _ _ _ _, (Below.refl _ _).alloc (Nat.le_refl _) _, hid (World.iter_heap w s 0)⟩
  case round =>
    obtain ⟨pos, a, done, hp, ha, rfl, hcut, hown, hb, hit⟩ := hrel
    have hdl := cutAt_length hcut.out
    obtain ⟨A, c, rfl⟩ := own_slice hown
    have hip := hid (iterPos_of hit.out)
    by_cases hlt : pos < s.size
    · obtain ⟨r, wd, hdec, hwd, hend, hr⟩ := rune_at s pos hlt
      obtain ⟨W, hW⟩ : ∃ W, W = wr.iterAt w.heap.size s (pos + wd) := ⟨_, rfl⟩
      have hnx : ∀ ty, (Instr.next (.pointer (some ⟨w.heap.size, 0, none⟩)) true ty).run Try.prog wr = .ok (.tuple #[.bool true, .int .i64 pos, .int .i32 r]) W := fun ty => by
        rw [Lib.run_next_any_at wr w.heap.size s pos ty hit.out hlt, hdec, hW]
      have hitW : Hid (W.heap[w.heap.size]? = some (.stringIter s (pos + wd))) := hid (by rw [hW]; exact Lib.iterAt_heap wr _ s pos _ hit.out)
      have hownW : W.ownsRow (w.heap.size + 1) 9 1 (.slice A done.length c) done.length (done.map sv) := by rw [hW]; exact ownsRow_iterAt hown (by omega) s _
      have hbW : Below w.heap.size w W := by rw [hW]; exact Lib.below_iterAt hb (Nat.le_refl _) s _
      have hWs : w.heap.size + 1 ≤ W.heap.size := by
        have := (Array.getElem?_eq_some_iff.1 hitW.out).1
        omega
      have HR := hid hr
      clear hdec hr hW hown hb hit
      by_cases hrd : r = 46
      · subst hrd
        go_wp2_with (at_builtin; refine wpList_append1 W (.string (s.extract a pos)) _ rfl (.tmp 26) (.tmp 31) _ rfl (w.heap.size + 1) 9 i0 _ 16 Try.underlying40 hi0 hz0 hz1 hz2 rfl _ _ _ rfl hownW rfl rfl (by unfold maxLen; omega) (by omega) hWs ?_; intro v1 w1 hown1 hb1)
        have hit1 : w1.heap[w.heap.size]? = some (.stringIter s (pos + wd)) := (hb1.block _ (by omega)).trans hitW.out
        have hasc : s[pos] = 46 ∧ wd = 1 := by
          rcases HR.out with ⟨_, h5, h6⟩ | ⟨h5, _⟩
          · exact ⟨by rw [← UInt8.toNat_inj]; simp; omega, h6⟩
          · omega
        have hc1 := cutAt_dot hcut.out hlt hasc.1
        refine ⟨⟨pos + wd, pos + 1, done ++ [lst (s.extract a pos)], hend, by omega, by go_num, hid (by rw [hasc.2]; exact hc1), by simpa [sv_lst] using hown1, hbW.trans (hb1.mono (by omega)), hid hit1⟩, ?_⟩
        rw [iterPos_of hit1, hip.out]
        omega
      · have hrd' : ((r : Int) == 46) = false := by simp; omega
        go_wp2
        refine ⟨⟨pos + wd, a, done, hend, by omega, rfl, hid (cutAt_run wd pos hcut.out fun j hj => ?_), hownW, hbW, hitW⟩, ?_⟩
        · rcases HR.out with ⟨_, h5, h6⟩ | ⟨_, h6⟩
          · obtain rfl : j = 0 := by omega
            exact ⟨by omega, fun e => hrd (by rw [h5]; simp only [Nat.add_zero] at e; rw [e]; rfl)⟩
          · obtain ⟨h7, h8⟩ := h6 j hj
            exact ⟨h7, fun e => by rw [e] at h8; simp at h8⟩
        · rw [iterPos_of hitW.out, hip.out]
          omega
    · have hnx : ∀ ty, (Instr.next (.pointer (some ⟨w.heap.size, 0, none⟩)) true ty).run Try.prog wr = _ := fun ty => Lib.run_next_end_at wr w.heap.size s pos ty hit.out hlt
      have hps : pos = s.size := by omega
      have hce := cutAt_end (by rw [← hps]; exact hcut.out)
      have hdone : Hid (Z.labs (lst s) = done) := hid (hlab.out.trans hce)
      have hdl2 : ∀ l ∈ done, l.length ≤ 67108864 := fun l hl => by
        rw [← hdone.out] at hl
        have := Z.labs_piece (lst s) l hl
        rw [lst_length] at this
        omega
      clear hps hce
      have hbs := hb.size
      by_cases hok : (Z.okLabs done && decide (done.length ≤ 8)) = true
      · have hv : Hid (Z.valid (lst s) = true) := hid (by rw [hval.out, hdone.out]; exact hok)
        have hl : Hid (Z.labels (lst s) = done) := hid (by unfold Z.labels; rw [if_pos hv.out, hdone.out])
        have HOK := hid hok
        clear hok
        go_wp2_with fail
        refine (labelsValid_any done _ A done.length c wr (Reads.of_own hown) (Nat.le_refl _) (by omega) hdl2).mono ?_
        rintro e w3 ⟨rfl, hb3⟩
        rw [HOK.out]
        go_wp2_with fail
        go_ret2
        rw [hv.out, hl.out]
        exact ⟨A, c, rfl, own_mono (own_below hown hb3) (by omega), below2 hb (hb3.mono (Nat.le_refl _))⟩
      · have hok' : (Z.okLabs done && decide (done.length ≤ 8)) = false := by simpa using hok
        have hv : Hid (Z.valid (lst s) = false) := hid (by rw [hval.out, hdone.out]; exact hok')
        have hl : Hid (Z.labels (lst s) = []) := hid (by unfold Z.labels; rw [hv.out]; rfl)
        have HOK := hid hok'
        clear hok hok'
        go_wp2_with fail
        refine (labelsValid_any done _ A done.length c wr (Reads.of_own hown) (Nat.le_refl _) (by omega) hdl2).mono ?_
        rintro e w3 ⟨rfl, hb3⟩
        rw [HOK.out]
        go_wp2_with fail
        go_ret2
        rw [hv.out, hl.out]
        exact ⟨none, 0, rfl, World.ownsRow_nil _ _ _ _, below2 hb hb3⟩
end Go.Proofs.Ytaiijnaockbahaa

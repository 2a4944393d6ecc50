/- What the functions of the program's chapter 1 return: labels. What the functions of the program's chapter 1 return: names out of labels. What the functions of the program's chapter 1 return: names that are read below an origin. What the functions of the program's chapter 1 return: names that are read below an origin, and short names. What the functions of the program's chapter 1 return: being below, the order, parents, wildcards, common tops. -/
import Derived.Test.YtgglakonkphbgaaS
import Derived.Test.YtgglakonkphbgaaShelf
import Derived.Lib.OthersKept
import Derived.Lib.Join
namespace Go.Proofs.Ytgglakonkphbgaa
open Go.RowKit
set_option maxRecDepth 100000

/-! ### runes and bytes -/

theorem decode_bytes (s : ByteArray) (pos : Nat) (h : pos < s.size) (ha : 128 ≤ (s[pos]'h).toNat) :
    ∀ j, j < (Utf8.decode s pos).2 → ∃ hj : pos + j < s.size, 128 ≤ (s[pos + j]'hj).toNat := by
  have get : ∀ k (hk : pos + k < s.size), s.get! (pos + k) = s[pos + k]'hk := fun k hk => by
    show s.data[pos+k]! = _
    rw [getElem!_pos s.data (pos + k) (by simpa using hk)]; rfl
  have one : ∀ j, j < 1 → ∃ hj : pos + j < s.size, 128 ≤ (s[pos + j]'hj).toNat := fun j hj => by
    have : j = 0 := by omega
    subst this
    exact ⟨h, ha⟩
  have cont : ∀ k, (decide (pos + k < s.size) && (s.get! (pos + k)).toNat / 64 == 2) = true → ∃ hj : pos + k < s.size, 128 ≤ (s[pos + k]'hj).toNat := fun k hk => by
    simp only [Bool.and_eq_true, decide_eq_true_eq, beq_iff_eq] at hk
    refine ⟨hk.1, ?_⟩
    rw [get k hk.1] at hk
    omega
  intro j
  unfold Utf8.decode
  simp only []
  split
  · exact one j
  · split
    · rename_i h2
      simp only [Bool.and_eq_true] at h2
      split
      · intro hj
        rcases (by omega : j = 0 ∨ j = 1) with rfl | rfl
        · exact ⟨h, ha⟩
        · exact cont 1 (by simpa using h2.2)
      · exact one j
    · split
      · rename_i h3
        simp only [Bool.and_eq_true] at h3
        split
        · intro hj
          rcases (by omega : j = 0 ∨ j = 1 ∨ j = 2) with rfl | rfl | rfl
          · exact ⟨h, ha⟩
          · exact cont 1 (by simpa using h3.1.2)
          · exact cont 2 (by simpa using h3.2)
        · exact one j
      · split
        · rename_i h4
          simp only [Bool.and_eq_true] at h4
          split
          · intro hj
            rcases (by omega : j = 0 ∨ j = 1 ∨ j = 2 ∨ j = 3) with rfl | rfl | rfl | rfl
            · exact ⟨h, ha⟩
            · exact cont 1 (by simpa using h4.1.1.2)
            · exact cont 2 (by simpa using h4.1.2)
            · exact cont 3 (by simpa using h4.2)
          · exact one j
        · exact one j

/-- What a range over a string hands over at a place: the byte itself, or a rune of bytes from 128 on. -/
theorem rune_at (s : ByteArray) (pos : Nat) (h : pos < s.size) : ∃ r wd : Nat, Utf8.decode s pos = (r, wd) ∧ 1 ≤ wd ∧ pos + wd ≤ s.size ∧
    ((s[pos].toNat < 128 ∧ r = s[pos].toNat ∧ wd = 1) ∨ (128 ≤ r ∧ ∀ j, j < wd → ∃ hj : pos + j < s.size, 128 ≤ (s[pos + j]'hj).toNat)) := by
  by_cases ha : s[pos].toNat < 128
  · exact ⟨_, _, decode_ascii s pos h ha, Nat.le_refl _, by omega, Or.inl ⟨ha, rfl, rfl⟩⟩
  · have h2 := decode_high s pos h (by omega)
    have h3 := decode_bytes s pos h (by omega)
    revert h2 h3
    generalize Utf8.decode s pos = d
    obtain ⟨r, wd⟩ := d
    intro h2 h3
    simp only at h2 h3
    refine ⟨_, _, rfl, h2.2, ?_, Or.inr ⟨h2.1, h3⟩⟩
    obtain ⟨hj, _⟩ := h3 (wd - 1) (by omega)
    omega

set_option maxHeartbeats 400000 in
theorem isLabelRune_any (x : Int) (w : World) :
    Calls Try.prog 116 #[.int .i32 x] w fun e w' => e = .returned (.bool (okB x)) ∧ w = w' := by
  go_enter Try.func116, Try.ntmps116
  go_wp2
  all_goals go_ret
  all_goals exact ⟨ret_bool (by unfold okB; rw [Bool.eq_iff_iff]; simp; try omega), rfl⟩

theorem okB_high {r : Int} (h : 128 ≤ r) : okB r = false := by unfold okB; rw [Bool.eq_false_iff]; simp; omega
theorem not_label {s : ByteArray} {pos : Nat} (h : pos < s.size) (hb : okB s[pos].toNat = false) : Z.okLabel (lst s) = false := not_all s pos h (by simp [hb])

set_option maxHeartbeats 1000000 in
theorem labelValid_any (s : ByteArray) (hs : s.size ≤ maxLen) (w : World) :
    Calls Try.prog 107 #[.string s] w fun e w' => e = .returned (.bool (Z.okLabel (lst s))) ∧ Below w.heap.size w w' := by
  unfold maxLen at hs
  by_cases h0 : s.toList.isEmpty = true
  · have hfin : Hid (Z.okLabel (lst s) = false) := hid (by rw [empty_iff] at h0; have : lst s = [] := by simpa using h0
                                                           rw [this]; rfl)
    go_enter Try.func107, Try.ntmps107
    go_wp2
    go_ret
    exact ⟨ret_bool hfin.out.symm, Below.refl _ _⟩
  · have h0' : s.toList.isEmpty = false := by simpa using h0
    have hpos := index_last s h0'
    clear h0
    by_cases h10 : s.size ≤ 10
    · have hsz : Hid ((decide (1 ≤ (lst s).length) && decide ((lst s).length ≤ 10)) = true) := hid (by rw [lst_length]; simp [hpos, h10])
      go_enter Try.func107, Try.ntmps107
      go_wp2
      go_loopw [] (fun wr => ∃ pos : Nat, pos ≤ s.size ∧ wr = w.iter s pos ∧ Hid (((lst s).take pos).all Z.okByte = true)) (fun wr => s.size - wr.iterPos w.heap.size)
      case atStart => exact ⟨0, Nat.zero_le _, rfl, hid (by simp)⟩
      case round =>
        obtain ⟨pos, hp, rfl, hok⟩ := hrel
        by_cases hlt : pos < s.size
        · obtain ⟨r, wd, hdec, hwd, hend, hr⟩ := rune_at s pos hlt
          have hnx : ∀ ty, (Instr.next (.pointer (some ⟨w.heap.size, 0, none⟩)) true ty).run Try.prog (w.iter s pos) = .ok (.tuple #[.bool true, .int .i64 pos, .int .i32 r]) (w.iter s (pos + wd)) := fun ty => by
            rw [run_next_any w s pos ty hlt, hdec]
          clear hdec
          have HR := hid hr
          clear hr
          go_wp2_with (go_at_call 116; refine (isLabelRune_any _ _).mono ?_; rintro e w' ⟨rfl, rfl⟩)
          · have hb : (!okB (r : Int)) = true := by assumption
            go_ret
            refine ⟨ret_bool (not_label hlt ?_).symm, (Below.refl _ _).alloc (Nat.le_refl _) _⟩
            rcases HR.out with ⟨_, h2, _⟩ | ⟨_, h3⟩
            · rw [h2] at hb; simpa using hb
            · obtain ⟨_, h4⟩ := h3 0 (by omega)
              exact okB_high (by simp at h4; omega)
          · have hb : (!okB (r : Int)) = false := by assumption
            have hasc : s[pos].toNat < 128 ∧ r = s[pos].toNat ∧ wd = 1 := by
              rcases HR.out with h2 | ⟨h2, _⟩
              · exact h2
              · rw [okB_high (by omega)] at hb; cases hb
            refine ⟨⟨pos + wd, hend, rfl, hid ?_⟩, by simp; omega⟩
            rw [hasc.2.2, all_snoc s pos hlt, hok.out]
            rw [hasc.2.1] at hb
            simpa using hb
        · have hnx : ∀ ty, (Instr.next (.pointer (some ⟨w.heap.size, 0, none⟩)) true ty).run Try.prog (w.iter s pos) = _ := fun ty => run_next_end w s pos ty hlt
          have hall : Hid ((lst s).all Z.okByte = true) := hid (by
            have := hok.out
            rwa [List.take_of_length_le (by rw [lst_length]; omega)] at this)
          go_wp2
          go_ret
          refine ⟨ret_bool ?_, (Below.refl _ _).alloc (Nat.le_refl _) _⟩
          unfold Z.okLabel
          rw [hall.out, Bool.and_assoc, hsz.out]
          rfl
    · have hfin : Hid (Z.okLabel (lst s) = false) := hid (by unfold Z.okLabel; rw [lst_length]; simp; omega)
      go_enter Try.func107, Try.ntmps107
      go_wp2
      go_ret
      exact ⟨ret_bool hfin.out.symm, Below.refl _ _⟩

theorem below2' {B : Nat} {a b c : World} (h : Below B a b) (k : Below b.heap.size b c) (hB : B ≤ b.heap.size) : Below B a c := h.trans (k.mono hB)

set_option maxHeartbeats 1000000 in
theorem labelsValid_any (ls : List Z.Str) (B : Nat) (A : Option Addr) (n c : Nat) (w : World) (hr : Reads w B A n (ls.map sv)) (hB : B ≤ w.heap.size) (hn : ls.length ≤ 67108864) (hl : ∀ l ∈ ls, l.length ≤ 67108864) :
    Calls Try.prog 94 #[.slice A n c] w fun e w' => e = .returned (.bool (Z.okLabs ls && decide (ls.length ≤ 8))) ∧ Below w.heap.size w w' := by
  obtain rfl : n = ls.length := by simpa using hr.1.symm
  by_cases h8 : ls.length ≤ 8
  · go_enter Try.func94, Try.ntmps94
    go_wp2
    go_loopw [10] (fun i wr => ∃ k : Nat, k ≤ ls.length ∧ i = .int .i64 k ∧ Hid (∀ j, j < k → Z.okAt ls j = true) ∧ Below w.heap.size w wr) (fun i _ => ls.length - (intOf i).toNat)
    case atStart => exact ⟨0, Nat.zero_le _, rfl, hid (fun j hj => absurd hj (by omega)), Below.refl _ _⟩
    case round =>
      obtain ⟨k, hk, rfl, hok, hb⟩ := hrel
      by_cases hlt : k < ls.length
      · obtain ⟨ad, x, rfl, hab, hx, hcell⟩ := reads_str (hr.below hb hB) hlt
        have hxs : x.size ≤ 67108864 := by
          rw [← lst_length, hx]
          exact hl _ (by simp [hlt])
        have Hx := hid hx
        have hcell0 : k = 0 → wr.cell? ad = some (.string x) := fun e => by subst e; simpa [Addr.add] using hcell
        clear hx
        go_wp2_with (go_at_call 107; refine (labelValid_any _ (by unfold maxLen; omega) _).mono ?_; rintro e w' ⟨rfl, hb2⟩)
        · have h : Z.okLabel (lst x) = true := by assumption
          exact ⟨⟨k + 1, by omega, by go_num, hid (upTo_succ hok.out (okAt_label Hx.out h)), below2' hb hb2 hb.size⟩, by simp [intOf]; omega⟩
        · have h : ¬ Z.okLabel (lst x) = true := by assumption
          have hq : (!x.toList == [42]) = true := by assumption
          go_ret
          exact ⟨ret_bool (by rw [Z.okLabs_false hlt (okAt_not Hx.out h (Or.inr hq))]; rfl), below2' hb hb2 hb.size⟩
        · have h : ¬ Z.okLabel (lst x) = true := by assumption
          have h0 : k = 0 := by assumption
          have hq : (!x.toList == [42]) = false := by assumption
          exact ⟨⟨1, by omega, rfl, hid (by have := upTo_succ hok.out (okAt_star Hx.out h0 hq); rwa [h0] at this), below2' hb hb2 hb.size⟩, by simp [intOf]; omega⟩
        · have h : ¬ Z.okLabel (lst x) = true := by assumption
          have h0 : ¬ k = 0 := by assumption
          go_ret
          exact ⟨ret_bool (by rw [Z.okLabs_false hlt (okAt_not Hx.out h (Or.inl h0))]; rfl), below2' hb hb2 hb.size⟩
      · have hks : k = ls.length := by omega
        have hall : Hid (Z.okLabs ls = true) := hid ((Z.okLabs_iff _).2 (by rw [← hks]; exact hok.out))
        clear hks
        go_wp2
        go_ret
        exact ⟨ret_bool (by rw [hall.out]; simp [h8]), hb⟩
  · go_enter Try.func94, Try.ntmps94
    go_wp2
    go_ret
    exact ⟨ret_bool (by simp [h8]), Below.refl _ _⟩

theorem hasSuffix_dot (l : List UInt8) : Lib.hasSuffix l [46] = (l.getLast? == some 46) := by
  unfold Lib.hasSuffix
  rw [Bool.eq_iff_iff, List.isSuffixOf_iff_suffix, beq_iff_eq]
  constructor
  · rintro ⟨p, rfl⟩; simp
  · intro h
    cases l with
    | nil => cases h
    | cons a r =>
      have hne : a :: r ≠ [] := by simp
      rw [List.getLast?_eq_some_getLast hne] at h
      injection h with h
      exact ⟨(a :: r).dropLast, by conv => rhs; rw [← List.dropLast_concat_getLast hne, h]⟩
theorem hasDot_any (s : ByteArray) (hs : s.size ≤ maxLen) (w : World) :
    Calls Try.prog 93 #[.string s, .string ⟨#[46]⟩] w fun e w' => e = .returned (.bool ((lst s).getLast? == some 46)) ∧ w = w' :=
  (Try.strings_HasSuffix s ⟨#[46]⟩ w hs).mono fun _ _ ⟨he, hw⟩ => ⟨by rw [he, ← hasSuffix_dot]; rfl, hw.symm⟩

theorem cutAt_run {s : ByteArray} {a : Nat} {done : List Z.Str} : ∀ (wd pos : Nat), CutAt s pos a done → (∀ j, j < wd → ∃ hj : pos + j < s.size, s[pos + j]'hj ≠ 46) → CutAt s (pos + wd) a done
  | 0, _, h, _ => h
  | wd + 1, pos, h, hh => by
    obtain ⟨h0, hne⟩ := hh 0 (by omega)
    have h1 := cutAt_other h h0 hne
    have := cutAt_run wd (pos + 1) h1 fun j hj => by
      obtain ⟨h2, h3⟩ := hh (j + 1) (by omega)
      have e : pos + (j + 1) = pos + 1 + j := by omega
      exact ⟨by omega, by simpa only [e] using h3⟩
    rwa [show pos + 1 + wd = pos + (wd + 1) by omega] at this

/-- A row of the call's own stays while only new blocks are made. -/
theorem own_below {w w' : World} {base : Nat} {e : TypeId} {v : Value} {n : Nat} {xs : List Value} (h : w.ownsRow base e 1 v n xs) (hb : Below w.heap.size w w') : w'.ownsRow base e 1 v n xs := by
  obtain ⟨h1, h2⟩ := h
  refine ⟨h1, ?_⟩
  rcases h2 with h2 | ⟨g, cap, cur, hv, hg, hh, r⟩
  · exact Or.inl h2
  · have hlt : g < w.heap.size := by
      rcases Nat.lt_or_ge g w.heap.size with h | h
      · exact h
      · rw [Array.getElem?_eq_none h] at hh; cases hh
    exact Or.inr ⟨g, cap, cur, hv, hg, by rw [hb.block g hlt]; exact hh, r⟩

set_option maxHeartbeats 1000000 in
theorem splitName_main (s : ByteArray) (h1 : 1 ≤ s.size) (h2 : s.size ≤ 60) (h3 : ((lst s).getLast? == some 46) = true) (hd : lst s ≠ [46]) (w : World) :
    Calls Try.prog 78 #[.string s] w fun e w' => ∃ A c, e = .returned (.tuple #[.slice A (Z.labels (lst s)).length c, .bool (Z.valid (lst s))]) ∧
      w'.ownsRow w.heap.size 9 1 (.slice A (Z.labels (lst s)).length c) (Z.labels (lst s)).length ((Z.labels (lst s)).map sv) ∧ Below w.heap.size w w' := by
  obtain ⟨i0, hi0, hz0, hz1, hz2⟩ := info_parts infoStr
  have hdot : (s.toList == [46]) = false := by rw [root_iff]; simpa using hd
  have hlab : Hid (Z.labs (lst s) = Z.cut (lst s) []) := hid (by unfold Z.labs; rw [if_neg hd])
  have hval : Hid (Z.valid (lst s) = (Z.okLabs (Z.labs (lst s)) && decide ((Z.labs (lst s)).length ≤ 8))) := hid (by unfold Z.valid; rw [h3, lst_length]; simp [h1, h2])
  clear hd
  go_enter Try.func78, Try.ntmps78
  go_wp2_with (go_at_call 93; refine (hasDot_any _ (by unfold maxLen; omega) _).mono ?_; rintro e w' ⟨rfl, rfl⟩)
  go_loopw [4, 5] (fun v st wr => ∃ (pos a : Nat) (done : List Z.Str), pos ≤ s.size ∧ a ≤ pos ∧ st = .int .i64 a ∧ Hid (CutAt s pos a done) ∧ wr.ownsRow (w.heap.size + 1) 9 1 v done.length (done.map sv) ∧
      Below w.heap.size w wr ∧ Hid (wr.heap[w.heap.size]? = some (.stringIter s pos))) (fun _ _ wr => s.size - wr.iterPos w.heap.size)
  case atStart => exact ⟨0, 0, [], Nat.zero_le _, Nat.le_refl _, rfl, hid (cutAt_start s), World.ownsRow_nil _ _ _ _, (Below.refl _ _).alloc (Nat.le_refl _) _, hid (World.iter_heap w s 0)⟩
  case round =>
    obtain ⟨pos, a, done, hp, ha, rfl, hcut, hown, hb, hit⟩ := hrel
    have hdl := cutAt_length hcut.out
    obtain ⟨A, c, rfl⟩ := own_slice hown
    have hip := hid (iterPos_of hit.out)
    by_cases hlt : pos < s.size
    · obtain ⟨r, wd, hdec, hwd, hend, hr⟩ := rune_at s pos hlt
      obtain ⟨W, hW⟩ : ∃ W, W = wr.iterAt w.heap.size s (pos + wd) := ⟨_, rfl⟩
      have hnx : ∀ ty, (Instr.next (.pointer (some ⟨w.heap.size, 0, none⟩)) true ty).run Try.prog wr = .ok (.tuple #[.bool true, .int .i64 pos, .int .i32 r]) W := fun ty => by
        rw [Lib.run_next_any_at wr w.heap.size s pos ty hit.out hlt, hdec, hW]
      have hitW : Hid (W.heap[w.heap.size]? = some (.stringIter s (pos + wd))) := hid (by rw [hW]; exact Lib.iterAt_heap wr _ s pos _ hit.out)
      have hownW : W.ownsRow (w.heap.size + 1) 9 1 (.slice A done.length c) done.length (done.map sv) := by rw [hW]; exact ownsRow_iterAt hown (by omega) s _
      have hbW : Below w.heap.size w W := by rw [hW]; exact Lib.below_iterAt hb (Nat.le_refl _) s _
      have hWs : w.heap.size + 1 ≤ W.heap.size := by
        have := (Array.getElem?_eq_some_iff.1 hitW.out).1
        omega
      have HR := hid hr
      clear hdec hr hW hown hb hit
      by_cases hrd : r = 46
      · subst hrd
        go_wp2_with (at_builtin; refine wpList_append1 W (.string (s.extract a pos)) _ rfl (.tmp 26) (.tmp 31) _ rfl (w.heap.size + 1) 9 i0 _ 16 Try.underlying26 hi0 hz0 hz1 hz2 rfl _ _ _ rfl hownW rfl rfl (by unfold maxLen; omega) (by omega) hWs ?_; intro v1 w1 hown1 hb1)
        have hit1 : w1.heap[w.heap.size]? = some (.stringIter s (pos + wd)) := (hb1.block _ (by omega)).trans hitW.out
        have hasc : s[pos] = 46 ∧ wd = 1 := by
          rcases HR.out with ⟨_, h5, h6⟩ | ⟨h5, _⟩
          · exact ⟨by rw [← UInt8.toNat_inj]; simp; omega, h6⟩
          · omega
        have hc1 := cutAt_dot hcut.out hlt hasc.1
        refine ⟨⟨pos + wd, pos + 1, done ++ [lst (s.extract a pos)], hend, by omega, by go_num, hid (by rw [hasc.2]; exact hc1), by simpa [sv_lst] using hown1, hbW.trans (hb1.mono (by omega)), hid hit1⟩, ?_⟩
        rw [iterPos_of hit1, hip.out]
        omega
      · have hrd' : ((r : Int) == 46) = false := by simp; omega
        go_wp2
        refine ⟨⟨pos + wd, a, done, hend, by omega, rfl, hid (cutAt_run wd pos hcut.out fun j hj => ?_), hownW, hbW, hitW⟩, ?_⟩
        · rcases HR.out with ⟨_, h5, h6⟩ | ⟨_, h6⟩
          · obtain rfl : j = 0 := by omega
            exact ⟨by omega, fun e => hrd (by rw [h5]; simp only [Nat.add_zero] at e; rw [e]; rfl)⟩
          · obtain ⟨h7, h8⟩ := h6 j hj
            exact ⟨h7, fun e => by rw [e] at h8; simp at h8⟩
        · rw [iterPos_of hitW.out, hip.out]
          omega
    · have hnx : ∀ ty, (Instr.next (.pointer (some ⟨w.heap.size, 0, none⟩)) true ty).run Try.prog wr = _ := fun ty => Lib.run_next_end_at wr w.heap.size s pos ty hit.out hlt
      have hps : pos = s.size := by omega
      have hce := cutAt_end (by rw [← hps]; exact hcut.out)
      have hdone : Hid (Z.labs (lst s) = done) := hid (hlab.out.trans hce)
      have hdl2 : ∀ l ∈ done, l.length ≤ 67108864 := fun l hl => by
        rw [← hdone.out] at hl
        have := Z.labs_piece (lst s) l hl
        rw [lst_length] at this
        omega
      clear hps hce
      have hbs := hb.size
      by_cases hok : (Z.okLabs done && decide (done.length ≤ 8)) = true
      · have hv : Hid (Z.valid (lst s) = true) := hid (by rw [hval.out, hdone.out]; exact hok)
        have hl : Hid (Z.labels (lst s) = done) := hid (by unfold Z.labels; rw [if_pos hv.out, hdone.out])
        have HOK := hid hok
        clear hok
        go_wp2_with fail
        refine (labelsValid_any done _ A done.length c wr (Reads.of_own hown) (Nat.le_refl _) (by omega) hdl2).mono ?_
        rintro e w3 ⟨rfl, hb3⟩
        rw [HOK.out]
        go_wp2_with fail
        go_ret2
        rw [hv.out, hl.out]
        exact ⟨A, c, rfl, own_mono (own_below hown hb3) (by omega), below2 hb (hb3.mono (Nat.le_refl _))⟩
      · have hok' : (Z.okLabs done && decide (done.length ≤ 8)) = false := by simpa using hok
        have hv : Hid (Z.valid (lst s) = false) := hid (by rw [hval.out, hdone.out]; exact hok')
        have hl : Hid (Z.labels (lst s) = []) := hid (by unfold Z.labels; rw [hv.out]; rfl)
        have HOK := hid hok'
        clear hok hok'
        go_wp2_with fail
        refine (labelsValid_any done _ A done.length c wr (Reads.of_own hown) (Nat.le_refl _) (by omega) hdl2).mono ?_
        rintro e w3 ⟨rfl, hb3⟩
        rw [HOK.out]
        go_wp2_with fail
        go_ret2
        rw [hv.out, hl.out]
        exact ⟨none, 0, rfl, World.ownsRow_nil _ _ _ _, below2 hb hb3⟩
end Go.Proofs.Ytgglakonkphbgaa

namespace Go.Proofs.Ytgglakonkphbgaa
open Go.RowKit
set_option maxRecDepth 100000

set_option maxHeartbeats 400000 in
theorem splitName_any (s : ByteArray) (hs : s.size ≤ maxLen) (w : World) :
    Calls Try.prog 78 #[.string s] w fun e w' => ∃ A c, e = .returned (.tuple #[.slice A (Z.labels (lst s)).length c, .bool (Z.valid (lst s))]) ∧
      w'.ownsRow w.heap.size 9 1 (.slice A (Z.labels (lst s)).length c) (Z.labels (lst s)).length ((Z.labels (lst s)).map sv) ∧ Below w.heap.size w w' := by
  unfold maxLen at hs
  by_cases hd : lst s = [46]
  · have h1 : (s.toList == [46]) = true := by rw [root_iff]; simpa using hd
    have hv : Hid (Z.valid (lst s) = true) := hid (by rw [hd]; decide)
    have hl : Hid (Z.labels (lst s) = []) := hid (by unfold Z.labels; rw [if_pos hv.out, hd, Z.labs_root])
    clear hd
    go_enter Try.func78, Try.ntmps78
    go_wp2_with fail
    go_ret2
    rw [hv.out, hl.out]
    exact ⟨none, 0, rfl, World.ownsRow_nil _ _ _ _, Below.refl _ _⟩
  · have h1 : (s.toList == [46]) = false := by rw [root_iff]; simpa using hd
    by_cases h2 : s.size ≤ 60
    · by_cases h3 : ((lst s).getLast? == some 46) = true
      · have h4 : 1 ≤ s.size := by
          rw [← lst_length]
          cases hl : lst s with
          | nil => rw [hl] at h3; simp at h3
          | cons => simp
        exact splitName_main s h4 h2 h3 hd w
      · have h3' : ((lst s).getLast? == some 46) = false := by simpa using h3
        have hv : Hid (Z.valid (lst s) = false) := hid (by unfold Z.valid; rw [h3']; simp)
        have hl : Hid (Z.labels (lst s) = []) := hid (by unfold Z.labels; rw [hv.out]; rfl)
        have H3 := hid h3'
        clear hd h3 h3'
        go_enter Try.func78, Try.ntmps78
        go_wp2_with fail
        refine (hasDot_any _ (by unfold maxLen; omega) _).mono ?_
        rintro e w' ⟨rfl, rfl⟩
        rw [H3.out]
        go_wp2_with fail
        go_ret2
        rw [hv.out, hl.out]
        exact ⟨none, 0, rfl, World.ownsRow_nil _ _ _ _, Below.refl _ _⟩
    · have hv : Hid (Z.valid (lst s) = false) := hid (by unfold Z.valid; rw [lst_length]; simp; omega)
      have hl : Hid (Z.labels (lst s) = []) := hid (by unfold Z.labels; rw [hv.out]; rfl)
      clear hd
      go_enter Try.func78, Try.ntmps78
      go_wp2_with fail
      go_ret2
      rw [hv.out, hl.out]
      exact ⟨none, 0, rfl, World.ownsRow_nil _ _ _ _, Below.refl _ _⟩

set_option maxHeartbeats 400000 in
theorem iNameValid_any (s : ByteArray) (hs : s.size ≤ maxLen) (w : World) :
    Calls Try.prog 72 #[.string s] w fun e w' => e = .returned (.bool (Z.valid (lst s))) ∧ Below w.heap.size w w' := by
  go_enter Try.func72, Try.ntmps72
  go_wp2_with fail
  refine (splitName_any s hs _).mono ?_
  rintro e w1 ⟨A, c, rfl, hown, hb1⟩
  go_wp2_with fail
  go_ret
  exact ⟨rfl, hb1⟩

set_option maxHeartbeats 400000 in
theorem iLabelsOf_any (s : ByteArray) (hs : s.size ≤ maxLen) (w : World) :
    Calls Try.prog 82 #[.string s] w fun e w' => ∃ A c, e = .returned (.slice A (Z.labels (lst s)).length c) ∧ w'.ownsRow w.heap.size 9 1 (.slice A (Z.labels (lst s)).length c) (Z.labels (lst s)).length ((Z.labels (lst s)).map sv) ∧ Below w.heap.size w w' := by
  go_enter Try.func82, Try.ntmps82
  go_wp2_with fail
  refine (splitName_any s hs _).mono ?_
  rintro e w1 ⟨A, c, rfl, hown, hb1⟩
  go_wp2_with fail
  go_ret
  exact ⟨A, c, rfl, hown, hb1⟩

theorem intercalate_dot (ls : List Z.Str) : Lib.join ls [46] ++ [46] = Z.join ls := by
  unfold Lib.join Z.join
  by_cases e : ls = []
  · subst e; rfl
  · rw [if_neg e]
    induction ls with
    | nil => exact absurd rfl e
    | cons a r ih =>
      cases r with
      | nil => simp [List.intercalate, Z.joined]
      | cons b r =>
        have := ih (by simp)
        rw [Z.joined_cons, ← this]
        simp [List.intercalate]

/-- An address without a part, in a block that is there. -/
def Plain (w : World) (A : Option Addr) : Prop := ∃ g o, A = some ⟨g, o, none⟩ ∧ g < w.heap.size

set_option maxHeartbeats 400000 in
theorem joinLabels_any (ls : List Z.Str) (B : Nat) (A : Option Addr) (n c : Nat) (w : World) (hr : Reads w B A n (ls.map sv)) (hA : 0 < n → Plain w A) (hc : n ≤ c) (hn : ls.length ≤ 67108864) (hj : (Z.join ls).length ≤ 67108864) :
    Calls Try.prog 83 #[.slice A n c] w fun e w' => e = .returned (.string (bs (Z.join ls))) ∧ Below w.heap.size w w' := by
  obtain rfl : n = ls.length := by simpa using hr.1.symm
  have hjl : (Lib.join ls [46]).length ≤ 67108864 := by
    have := congrArg List.length (intercalate_dot ls)
    rw [List.length_append] at this
    simp at this
    omega
  have hfin : Hid (bs (Lib.join ls [46]) ++ ⟨#[46]⟩ = bs (Z.join ls)) := hid (by apply lst_inj; rw [lst_append, lst_bs, lst_bs, ← intercalate_dot]; rfl)
  have ha : ∀ W : World, (Op.stringOp .add (bs (Lib.join ls [46])) ⟨#[46]⟩).run Try.prog W = .ok (.string (bs (Lib.join ls [46]) ++ ⟨#[46]⟩)) W := fun W => run_string_add_sum W _ _ (by rw [bs_size]; show _ + 1 ≤ _; omega)
  have hcall : Calls Try.prog 95 #[.slice A ls.length c, .string ⟨#[46]⟩] w fun e w' => e = .returned (.string (bs (Lib.join ls [46]))) ∧ Below w.heap.size w w' := by
    rcases Nat.eq_zero_or_pos ls.length with h0 | h0
    · obtain rfl := List.eq_nil_of_length_eq_zero h0
      exact (Try.strings_Join_none A c ⟨#[46]⟩ w).mono fun e w' ⟨he, hw⟩ => ⟨he, hw ▸ Below.refl _ _⟩
    · obtain ⟨g, o, rfl, hg⟩ := hA h0
      obtain ⟨ad, e1, hb, hcell⟩ := hr.2 h0
      injection e1 with e1
      subst e1
      have hm : (ls.map bs).map (·.data.toList) = ls := by
        rw [List.map_map]
        conv => rhs; rw [← List.map_id ls]
        rfl
      have := Try.strings_Join g o c (ls.map bs) ⟨#[46]⟩ w (fun j x hx => by
        have h2 := hcell j (.string x) (by rw [List.getElem?_map] at hx ⊢; cases hl : ls[j]? with
                                           | none => rw [hl] at hx; cases hx
                                           | some l => rw [hl] at hx; simp at hx; subst hx; rfl)
        have e2 : (⟨g, o, none⟩ : Addr).add j = ⟨g, o + j, none⟩ := by unfold Addr.add; split <;> simp_all
        rwa [e2] at h2) hg (by simp; omega) (by simpa using hc) (by rw [hm]; show (Lib.join ls [46]).length ≤ _; omega)
      rw [List.length_map, hm] at this
      exact this
  have HC := hid hcall
  clear hcall hA hj
  go_enter Try.func83, Try.ntmps83
  go_wp2_with fail
  refine HC.out.mono ?_
  rintro e w1 ⟨rfl, hb1⟩
  go_wp2_with fail
  go_ret
  exact ⟨ret_str hfin.out, hb1⟩

theorem join_bound {ls : List Z.Str} (h8 : ls.length ≤ 8) (hl : Z.okLabs ls = true) : (Z.join ls).length ≤ 67108864 := by
  have h1 := join_le ls
  have h2 : (Z.joined ls).length ≤ 11 * ls.length := by
    have hp := Z.okLabs_pos hl
    clear h1 h8 hl
    induction ls with
    | nil => simp [Z.joined]
    | cons a r ih =>
      have h3 := hp a (by simp)
      have h4 := ih (fun l hl => hp l (by simp [hl]))
      rw [Z.joined_cons]
      simp
      omega
  omega

end Go.Proofs.Ytgglakonkphbgaa

namespace Go.Proofs.Ytgglakonkphbgaa
open Go.RowKit
set_option maxRecDepth 100000

theorem cell_add (g j : Nat) : (⟨g, 0, none⟩ : Addr).add j = ⟨g, j, none⟩ := by unfold Addr.add; split <;> simp_all

/-- The bytes of a string in a new block. -/
theorem bytes_of_string {P : Program} (w : World) (src dst e : TypeId) (s : ByteArray) (hs : P.underlying src = some .string) (hd : P.underlying dst = some (.slice e)) (he : P.underlying e = some (.int .u8)) :
    ∃ W cap, (convert src dst (.string s)).run P w = .ok (.slice (some ⟨w.heap.size, 0, none⟩) s.size cap) W ∧ s.size ≤ cap ∧ W.heap.size = w.heap.size + 1 ∧ Below w.heap.size w W ∧
      ∀ j, (hj : j < s.size) → W.cell? ⟨w.heap.size, j, none⟩ = some (bv s[j]) ∧ W.frozen? ⟨w.heap.size, j, none⟩ = false := by
  refine ⟨_, _, run_bytes_of_string w src dst e s hs hd he, grownCap_ge _ _ _ _, ?_, ?_, fun j hj => ⟨?_, ?_⟩⟩
  · simp
  · exact (Below.refl _ _).drew.alloc (Nat.le_refl _) _
  · have := World.cell?_alloc_mark w.drew (bytesRow s (grownCap w s.size 0 e)) e ((bytesRow s (grownCap w s.size 0 e)).size, (bytesRow s (grownCap w s.size 0 e)).size + 1) j
    refine this.trans ?_
    unfold bytesRow
    rw [Array.getElem?_append_left (by simpa using hj)]
    have hj2 : j < s.data.size := hj
    rw [Array.getElem?_map, Array.getElem?_eq_getElem hj2]
    rfl
  · have h1 : (w.drew.alloc (.cells (bytesRow s (grownCap w s.size 0 e)) e ((bytesRow s (grownCap w s.size 0 e)).size, (bytesRow s (grownCap w s.size 0 e)).size + 1))).heap[w.heap.size]? = some (.cells (bytesRow s (grownCap w s.size 0 e)) e ((bytesRow s (grownCap w s.size 0 e)).size, (bytesRow s (grownCap w s.size 0 e)).size + 1)) := by
      show (w.heap.push _)[w.heap.size]? = _
      simp
    simp only [World.frozen?, h1]
    have h2 : (bytesRow s (grownCap w s.size 0 e)).size = s.size + (grownCap w s.size 0 e - s.size) := by simp [bytesRow]
    rw [h2]
    simp
    omega

def alphabet : ByteArray := ⟨#[97, 98, 99, 100, 101, 102, 103, 104, 105, 106, 107, 108, 109, 110, 111, 112, 113, 114, 115, 116, 117, 118, 119, 120, 121, 122]⟩
theorem small_65 (w : World) : (Instr.index 9 (.string alphabet) (.int .i32 (65 - 65))).run Try.prog w = .ok (.int .u8 (65 + 32)) w := by kernel_rfl
theorem small_66 (w : World) : (Instr.index 9 (.string alphabet) (.int .i32 (66 - 65))).run Try.prog w = .ok (.int .u8 (66 + 32)) w := by kernel_rfl
theorem small_67 (w : World) : (Instr.index 9 (.string alphabet) (.int .i32 (67 - 65))).run Try.prog w = .ok (.int .u8 (67 + 32)) w := by kernel_rfl
theorem small_68 (w : World) : (Instr.index 9 (.string alphabet) (.int .i32 (68 - 65))).run Try.prog w = .ok (.int .u8 (68 + 32)) w := by kernel_rfl
theorem small_69 (w : World) : (Instr.index 9 (.string alphabet) (.int .i32 (69 - 65))).run Try.prog w = .ok (.int .u8 (69 + 32)) w := by kernel_rfl
theorem small_70 (w : World) : (Instr.index 9 (.string alphabet) (.int .i32 (70 - 65))).run Try.prog w = .ok (.int .u8 (70 + 32)) w := by kernel_rfl
theorem small_71 (w : World) : (Instr.index 9 (.string alphabet) (.int .i32 (71 - 65))).run Try.prog w = .ok (.int .u8 (71 + 32)) w := by kernel_rfl
theorem small_72 (w : World) : (Instr.index 9 (.string alphabet) (.int .i32 (72 - 65))).run Try.prog w = .ok (.int .u8 (72 + 32)) w := by kernel_rfl
theorem small_73 (w : World) : (Instr.index 9 (.string alphabet) (.int .i32 (73 - 65))).run Try.prog w = .ok (.int .u8 (73 + 32)) w := by kernel_rfl
theorem small_74 (w : World) : (Instr.index 9 (.string alphabet) (.int .i32 (74 - 65))).run Try.prog w = .ok (.int .u8 (74 + 32)) w := by kernel_rfl
theorem small_75 (w : World) : (Instr.index 9 (.string alphabet) (.int .i32 (75 - 65))).run Try.prog w = .ok (.int .u8 (75 + 32)) w := by kernel_rfl
theorem small_76 (w : World) : (Instr.index 9 (.string alphabet) (.int .i32 (76 - 65))).run Try.prog w = .ok (.int .u8 (76 + 32)) w := by kernel_rfl
theorem small_77 (w : World) : (Instr.index 9 (.string alphabet) (.int .i32 (77 - 65))).run Try.prog w = .ok (.int .u8 (77 + 32)) w := by kernel_rfl
theorem small_78 (w : World) : (Instr.index 9 (.string alphabet) (.int .i32 (78 - 65))).run Try.prog w = .ok (.int .u8 (78 + 32)) w := by kernel_rfl
theorem small_79 (w : World) : (Instr.index 9 (.string alphabet) (.int .i32 (79 - 65))).run Try.prog w = .ok (.int .u8 (79 + 32)) w := by kernel_rfl
theorem small_80 (w : World) : (Instr.index 9 (.string alphabet) (.int .i32 (80 - 65))).run Try.prog w = .ok (.int .u8 (80 + 32)) w := by kernel_rfl
theorem small_81 (w : World) : (Instr.index 9 (.string alphabet) (.int .i32 (81 - 65))).run Try.prog w = .ok (.int .u8 (81 + 32)) w := by kernel_rfl
theorem small_82 (w : World) : (Instr.index 9 (.string alphabet) (.int .i32 (82 - 65))).run Try.prog w = .ok (.int .u8 (82 + 32)) w := by kernel_rfl
theorem small_83 (w : World) : (Instr.index 9 (.string alphabet) (.int .i32 (83 - 65))).run Try.prog w = .ok (.int .u8 (83 + 32)) w := by kernel_rfl
theorem small_84 (w : World) : (Instr.index 9 (.string alphabet) (.int .i32 (84 - 65))).run Try.prog w = .ok (.int .u8 (84 + 32)) w := by kernel_rfl
theorem small_85 (w : World) : (Instr.index 9 (.string alphabet) (.int .i32 (85 - 65))).run Try.prog w = .ok (.int .u8 (85 + 32)) w := by kernel_rfl
theorem small_86 (w : World) : (Instr.index 9 (.string alphabet) (.int .i32 (86 - 65))).run Try.prog w = .ok (.int .u8 (86 + 32)) w := by kernel_rfl
theorem small_87 (w : World) : (Instr.index 9 (.string alphabet) (.int .i32 (87 - 65))).run Try.prog w = .ok (.int .u8 (87 + 32)) w := by kernel_rfl
theorem small_88 (w : World) : (Instr.index 9 (.string alphabet) (.int .i32 (88 - 65))).run Try.prog w = .ok (.int .u8 (88 + 32)) w := by kernel_rfl
theorem small_89 (w : World) : (Instr.index 9 (.string alphabet) (.int .i32 (89 - 65))).run Try.prog w = .ok (.int .u8 (89 + 32)) w := by kernel_rfl
theorem small_90 (w : World) : (Instr.index 9 (.string alphabet) (.int .i32 (90 - 65))).run Try.prog w = .ok (.int .u8 (90 + 32)) w := by kernel_rfl
theorem small_of (r : Int) (h1 : 65 ≤ r) (h2 : r ≤ 90) (w : World) : (Instr.index 9 (.string alphabet) (.int .i32 (r - 65))).run Try.prog w = .ok (.int .u8 (r + 32)) w := by
  have h : r = 65 ∨ r = 66 ∨ r = 67 ∨ r = 68 ∨ r = 69 ∨ r = 70 ∨ r = 71 ∨ r = 72 ∨ r = 73 ∨ r = 74 ∨ r = 75 ∨ r = 76 ∨ r = 77 ∨ r = 78 ∨ r = 79 ∨ r = 80 ∨ r = 81 ∨ r = 82 ∨ r = 83 ∨ r = 84 ∨ r = 85 ∨ r = 86 ∨ r = 87 ∨ r = 88 ∨ r = 89 ∨ r = 90 := by omega
  rcases h with rfl | rfl | rfl | rfl | rfl | rfl | rfl | rfl | rfl | rfl | rfl | rfl | rfl | rfl | rfl | rfl | rfl | rfl | rfl | rfl | rfl | rfl | rfl | rfl | rfl | rfl
  · exact small_65 w
  · exact small_66 w
  · exact small_67 w
  · exact small_68 w
  · exact small_69 w
  · exact small_70 w
  · exact small_71 w
  · exact small_72 w
  · exact small_73 w
  · exact small_74 w
  · exact small_75 w
  · exact small_76 w
  · exact small_77 w
  · exact small_78 w
  · exact small_79 w
  · exact small_80 w
  · exact small_81 w
  · exact small_82 w
  · exact small_83 w
  · exact small_84 w
  · exact small_85 w
  · exact small_86 w
  · exact small_87 w
  · exact small_88 w
  · exact small_89 w
  · exact small_90 w

/-- The bytes before a place in small letters, the others as they were. -/
def mixed (s : ByteArray) (pos j : Nat) (hj : j < s.size) : UInt8 := if j < pos then Z.lowByte s[j] else s[j]
theorem mixed_run (s : ByteArray) (pos wd j : Nat) (hj : j < s.size) (h : ∀ i, i < wd → ∃ hi : pos + i < s.size, Z.lowByte (s[pos + i]'hi) = s[pos + i]'hi) : mixed s (pos + wd) j hj = mixed s pos j hj := by
  unfold mixed
  by_cases h1 : j < pos
  · rw [if_pos h1, if_pos (by omega)]
  · rw [if_neg h1]
    by_cases h2 : j < pos + wd
    · rw [if_pos h2]
      obtain ⟨h3, h4⟩ := h (j - pos) (by omega)
      have e : pos + (j - pos) = j := by omega
      simpa only [e] using h4
    · rw [if_neg h2]
theorem lowByte_high {c : UInt8} (h : ¬ (65 ≤ c.toNat ∧ c.toNat ≤ 90)) : Z.lowByte c = c := by
  unfold Z.lowByte
  rw [if_neg]
  simp only [UInt8.le_iff_toNat_le]
  simpa using h

end Go.Proofs.Ytgglakonkphbgaa

namespace Go.Proofs.Ytgglakonkphbgaa
open Go.RowKit
set_option maxRecDepth 100000

/-! ### the common ends of two lists -/

set_option maxHeartbeats 1000000 in
theorem commonEnd_any (xs ys : List Z.Str) (B : Nat) (A A2 : Option Addr) (n m c c2 : Nat) (w : World) (hr1 : Reads w B A n (xs.map sv)) (hr2 : Reads w B A2 m (ys.map sv)) (hx : xs.length ≤ 67108864) (hy : ys.length ≤ 67108864) :
    Calls Try.prog 79 #[.slice A n c, .slice A2 m c2] w fun e w' => e = .returned (.int .i64 (Z.sameEnds xs ys : Nat)) ∧ ∃ q, w' = w.drewN q := by
  obtain rfl : n = xs.length := by simpa using hr1.1.symm
  obtain rfl : m = ys.length := by simpa using hr2.1.symm
  go_enter Try.func79, Try.ntmps79
  go_wp2_with fail
  go_loopw [5] (fun i wr => ∃ (k nq : Nat), k ≤ xs.length ∧ k ≤ ys.length ∧ i = .int .i64 k ∧ wr = w.drewN nq ∧ Hid (ComSame xs ys k)) (fun i _ => ys.length - (intOf i).toNat)
  case atStart => exact ⟨0, 0, Nat.zero_le _, Nat.zero_le _, rfl, rfl, hid (comSame_start _ _)⟩
  case round =>
    obtain ⟨k, nq, hk1, hk2, rfl, rfl, hok⟩ := hrel
    by_cases hlt1 : k < xs.length
    · by_cases hlt2 : k < ys.length
      · obtain ⟨ad1, x, rfl, hab1, hx2, hcell1⟩ := reads_end hr1 hlt1
        obtain ⟨ad2, y, rfl, hab2, hy2, hcell2⟩ := reads_end hr2 hlt2
        have Hx := hid hx2
        have Hy := hid hy2
        clear hx2 hy2
        have p1 : 0 ≤ (xs.length : Int) - 1 - k := by omega
        have p2 : 0 ≤ (ys.length : Int) - 1 - k := by omega
        have q1 : (xs.length : Int) - 1 - k < xs.length := by omega
        have q2 : (ys.length : Int) - 1 - k < ys.length := by omega
        have e1 : IntKind.i64.wrap ((xs.length : Int) - 1) = (xs.length : Int) - 1 := IntWalk.i64_in _ (by omega)
        have e2 : IntKind.i64.wrap ((xs.length : Int) - 1 - k) = (xs.length : Int) - 1 - k := IntWalk.i64_in _ (by omega)
        have e3 : IntKind.i64.wrap ((ys.length : Int) - 1) = (ys.length : Int) - 1 := IntWalk.i64_in _ (by omega)
        have e4 : IntKind.i64.wrap ((ys.length : Int) - 1 - k) = (ys.length : Int) - 1 - k := IntWalk.i64_in _ (by omega)
        have f1 : ((xs.length : Int) - 1 - k).toNat = xs.length - (k + 1) := by omega
        have f2 : ((ys.length : Int) - 1 - k).toNat = ys.length - (k + 1) := by omega
        go_wp2_with fail
        go_quiet (fail)
        clear e1 e2 e3 e4 f1 f2 p1 p2 q1 q2
        go_wp2_with fail
        · have hq : (x.toList == y.toList) = true := by assumption
          rw [toList_lst, toList_lst] at hq
          exact ⟨⟨k + 1, _, by omega, by omega, by go_num, rfl, hid (comSame_next hok.out hlt1 hlt2 (by rw [← Hx.out, ← Hy.out]; simpa using hq))⟩, by simp [intOf]; omega⟩
        · have hq' : (x.toList == y.toList) = false := by assumption
          have hsame := hid (comSame_ne hok.out hlt1 hlt2 (by rw [← Hx.out, ← Hy.out]; rw [toList_lst, toList_lst] at hq'; simpa using hq'))
          go_ret
          exact ⟨ret_int (by rw [hsame.out]), ⟨_, World.drewN_drewN _ _ _⟩⟩
      · have hd2 : decide (k < ys.length) = false := by simpa using hlt2
        go_wp2_with fail
        have hsame := hid (comSame_end hok.out (Or.inr (by omega)))
        go_quiet (fail)
        go_wp2_with fail
        go_ret
        exact ⟨ret_int (by rw [hsame.out]), ⟨_, World.drewN_drewN _ _ _⟩⟩
    · have hd1 : decide (k < xs.length) = false := by simpa using hlt1
      go_wp2_with fail
      have hsame := hid (comSame_end hok.out (Or.inl (by omega)))
      go_quiet (fail)
      go_wp2_with fail
      go_ret
      exact ⟨ret_int (by rw [hsame.out]), ⟨_, World.drewN_drewN _ _ _⟩⟩
end Go.Proofs.Ytgglakonkphbgaa

namespace Go.Proofs.Ytgglakonkphbgaa
open Go.RowKit
set_option maxRecDepth 100000

theorem labels_valid {s : Z.Str} (h : Z.valid s = true) : Z.labels s = Z.labs s := by unfold Z.labels; rw [if_pos h]
theorem labels_count (s : ByteArray) : (Z.labels (lst s)).length ≤ 60 := by
  unfold Z.labels
  split
  · rename_i h
    have h1 := Z.labs_count (lst s)
    have h2 := (Z.valid_len h).2
    omega
  · simp
theorem suffix_ends (x y : List Z.Str) : ((Z.sameEnds x y : Int) == (y.length : Int)) = y.isSuffixOf x := by
  rw [Bool.eq_iff_iff, List.isSuffixOf_iff_suffix]
  have h1 := Z.sameEnds_le y x
  have h2 := Z.drop_suffix_iff y x 0 (Nat.zero_le _)
  simp only [List.drop_zero, Nat.sub_zero] at h2
  rw [h2, Z.sameEnds_comm x y]
  simp
  omega

set_option maxHeartbeats 400000 in
theorem iIsBelow_any (s t : ByteArray) (hs : s.size ≤ maxLen) (ht : t.size ≤ maxLen) (w : World) :
    Calls Try.prog 57 #[.string s, .string t] w fun e w' => e = .returned (.bool (Z.below (lst s) (lst t))) ∧ Below w.heap.size w w' := by
  have hc1 := labels_count s
  have hc2 := labels_count t
  by_cases hv : Z.valid (lst s) = true
  · by_cases hv2 : Z.valid (lst t) = true
    · have hfin : Hid (Z.below (lst s) (lst t) = ((Z.sameEnds (Z.labels (lst s)) (Z.labels (lst t)) : Int) == ((Z.labels (lst t)).length : Int))) := hid (by rw [suffix_ends, labels_valid hv, labels_valid hv2]; unfold Z.below; rw [hv, hv2]; simp)
      go_enter Try.func57, Try.ntmps57
      go_wp2_with fail
      refine (splitName_any s hs _).mono ?_
      rintro e w1 ⟨A, c, rfl, hown1, hb1⟩
      go_wp2_with fail
      refine (splitName_any t ht _).mono ?_
      rintro e w2 ⟨A2, c2, rfl, hown2, hb2⟩
      have hr1 := (Reads.of_own hown1).below hb2 (Nat.le_refl _)
      have hr2 := Reads.of_own hown2
      have hbb := below2 hb1 hb2
      go_wp2_with fail
      refine (commonEnd_any (Z.labels (lst s)) (Z.labels (lst t)) _ A A2 _ _ c c2 w2 (hr1.more hb2.size) hr2 (by omega) (by omega)).mono ?_
      rintro e w3 ⟨rfl, q, rfl⟩
      go_wp2_with fail
      go_ret
      exact ⟨ret_bool hfin.out.symm, below_drewN hbb _⟩
    · have hv2' : Z.valid (lst t) = false := by simpa using hv2
      have hfin : Hid (Z.below (lst s) (lst t) = false) := hid (by unfold Z.below; rw [hv2']; simp)
      clear hv2
      go_enter Try.func57, Try.ntmps57
      go_wp2_with fail
      refine (splitName_any s hs _).mono ?_
      rintro e w1 ⟨A, c, rfl, hown1, hb1⟩
      go_wp2_with fail
      refine (splitName_any t ht _).mono ?_
      rintro e w2 ⟨A2, c2, rfl, hown2, hb2⟩
      have hr1 := (Reads.of_own hown1).below hb2 (Nat.le_refl _)
      have hr2 := Reads.of_own hown2
      have hbb := below2 hb1 hb2
      go_wp2_with fail
      go_ret
      exact ⟨ret_bool hfin.out.symm, hbb⟩
  · have hv' : Z.valid (lst s) = false := by simpa using hv
    have hfin : Hid (Z.below (lst s) (lst t) = false) := hid (by unfold Z.below; rw [hv']; simp)
    clear hv
    go_enter Try.func57, Try.ntmps57
    go_wp2_with fail
    refine (splitName_any s hs _).mono ?_
    rintro e w1 ⟨A, c, rfl, hown1, hb1⟩
    go_wp2_with fail
    refine (splitName_any t ht _).mono ?_
    rintro e w2 ⟨A2, c2, rfl, hown2, hb2⟩
    have hr1 := (Reads.of_own hown1).below hb2 (Nat.le_refl _)
    have hr2 := Reads.of_own hown2
    have hbb := below2 hb1 hb2
    go_wp2_with fail
    go_ret
    exact ⟨ret_bool hfin.out.symm, hbb⟩

theorem before_ends {x y : List Z.Str} : (Z.sameEnds x y = x.length ∨ Z.sameEnds x y = y.length → Z.ltRev x.reverse y.reverse = decide (x.length < y.length)) ∧
    (Z.sameEnds x y ≠ x.length → Z.sameEnds x y ≠ y.length → Z.ltRev x.reverse y.reverse = decide (rget x (Z.sameEnds x y) < rget y (Z.sameEnds x y)) ∧ Z.sameEnds x y < x.length ∧ Z.sameEnds x y < y.length) := by
  have key : ∀ k : Nat, k ≤ Z.sameEnds x y → EndsSame x y k ∧ ComSame x y k := by
    intro k
    induction k with
    | zero => exact fun _ => ⟨endsSame_start _ _, comSame_start _ _⟩
    | succ k ih =>
      intro hk
      obtain ⟨h1, h2⟩ := ih (by omega)
      have l1 := Z.sameEnds_le x y
      have l2 := Z.sameEnds_le y x
      rw [Z.sameEnds_comm] at l2
      by_cases e : rget x k = rget y k
      · exact ⟨endsSame_next h1 (by omega) (by omega) e, comSame_next h2 (by omega) (by omega) e⟩
      · have := comSame_ne h2 (by omega) (by omega) e
        omega
  have l1 := Z.sameEnds_le x y
  have l2 := Z.sameEnds_le y x
  rw [Z.sameEnds_comm] at l2
  obtain ⟨h1, h2⟩ := key _ (Nat.le_refl _)
  refine ⟨fun h => endsSame_end h1 l1 l2 h, fun hx hy => ⟨?_, by omega, by omega⟩⟩
  by_cases e : rget x (Z.sameEnds x y) = rget y (Z.sameEnds x y)
  · have h3 := comSame_next h2 (by omega) (by omega) e
    unfold ComSame at h3
    omega
  · exact endsSame_ne h1 (by omega) (by omega) e

set_option maxHeartbeats 1000000 in
theorem iNameBefore_any (s t : ByteArray) (hs : s.size ≤ maxLen) (ht : t.size ≤ maxLen) (w : World) :
    Calls Try.prog 104 #[.string s, .string t] w fun e w' => e = .returned (.bool (Z.before (lst s) (lst t))) ∧ Below w.heap.size w w' := by
  have hc1 := labels_count s
  have hc2 := labels_count t
  by_cases hv : Z.valid (lst s) = true
  · by_cases hv2 : Z.valid (lst t) = true
    · have hfin : Hid (Z.before (lst s) (lst t) = Z.ltRev (Z.labels (lst s)).reverse (Z.labels (lst t)).reverse) := hid (by rw [labels_valid hv, labels_valid hv2]; unfold Z.before; rw [hv, hv2]; simp)
      have hends := hid (@before_ends (Z.labels (lst s)) (Z.labels (lst t)))
      have l1 := Z.sameEnds_le (Z.labels (lst s)) (Z.labels (lst t))
      have l2 := Z.sameEnds_le (Z.labels (lst t)) (Z.labels (lst s))
      rw [Z.sameEnds_comm] at l2
      go_enter Try.func104, Try.ntmps104
      go_wp2_with fail
      refine (splitName_any s hs _).mono ?_
      rintro e w1 ⟨A, c, rfl, hown1, hb1⟩
      go_wp2_with fail
      refine (splitName_any t ht _).mono ?_
      rintro e w2 ⟨A2, c2, rfl, hown2, hb2⟩
      have hr1 := (Reads.of_own hown1).below hb2 (Nat.le_refl _)
      have hr2 := Reads.of_own hown2
      have hbb := below2 hb1 hb2
      go_wp2_with fail
      refine (commonEnd_any (Z.labels (lst s)) (Z.labels (lst t)) _ A A2 _ _ c c2 w2 (hr1.more hb2.size) hr2 (by omega) (by omega)).mono ?_
      rintro e w3 ⟨rfl, q, rfl⟩
      obtain ⟨k, hk⟩ : ∃ k, k = Z.sameEnds (Z.labels (lst s)) (Z.labels (lst t)) := ⟨_, rfl⟩
      have HK := hid hk.symm
      rw [← hk] at l1 l2
      clear hk
      rw [HK.out]
      by_cases e1 : k = (Z.labels (lst s)).length
      · have t1 : ((k : Int) == ((Z.labels (lst s)).length : Int)) = true := by simp; omega
        have hlt := hid (hends.out.1 (by rw [HK.out]; exact Or.inl e1))
        clear e1
        go_wp2_with fail
        go_ret
        exact ⟨ret_bool (by rw [hfin.out, hlt.out]), below_drewN hbb _⟩
      · by_cases e2 : k = (Z.labels (lst t)).length
        · have t1 : ((k : Int) == ((Z.labels (lst s)).length : Int)) = false := by simp; omega
          have t2 : ((k : Int) == ((Z.labels (lst t)).length : Int)) = true := by simp; omega
          have hlt := hid (hends.out.1 (by rw [HK.out]; exact Or.inr e2))
          clear e1 e2
          go_wp2_with fail
          go_ret
          exact ⟨ret_bool (by rw [hfin.out, hlt.out]), below_drewN hbb _⟩
        · have t1 : ((k : Int) == ((Z.labels (lst s)).length : Int)) = false := by simp; omega
          have t2 : ((k : Int) == ((Z.labels (lst t)).length : Int)) = false := by simp; omega
          obtain ⟨hlt, hk1, hk2⟩ := hends.out.2 (by rw [HK.out]; exact e1) (by rw [HK.out]; exact e2)
          rw [HK.out] at hlt hk1 hk2
          have HLT := hid hlt
          obtain ⟨ad1, x, rfl, hab1, hx2, hcell1⟩ := reads_end hr1 hk1
          obtain ⟨ad2, y, rfl, hab2, hy2, hcell2⟩ := reads_end hr2 hk2
          have Hx := hid hx2
          have Hy := hid hy2
          clear hx2 hy2 hlt
          have p1 : 0 ≤ ((Z.labels (lst s)).length : Int) - 1 - k := by omega
          have p2 : 0 ≤ ((Z.labels (lst t)).length : Int) - 1 - k := by omega
          have q1 : ((Z.labels (lst s)).length : Int) - 1 - k < (Z.labels (lst s)).length := by omega
          have q2 : ((Z.labels (lst t)).length : Int) - 1 - k < (Z.labels (lst t)).length := by omega
          have g1 : IntKind.i64.wrap (((Z.labels (lst s)).length : Int) - 1) = ((Z.labels (lst s)).length : Int) - 1 := IntWalk.i64_in _ (by omega)
          have g2 : IntKind.i64.wrap (((Z.labels (lst s)).length : Int) - 1 - k) = ((Z.labels (lst s)).length : Int) - 1 - k := IntWalk.i64_in _ (by omega)
          have g3 : IntKind.i64.wrap (((Z.labels (lst t)).length : Int) - 1) = ((Z.labels (lst t)).length : Int) - 1 := IntWalk.i64_in _ (by omega)
          have g4 : IntKind.i64.wrap (((Z.labels (lst t)).length : Int) - 1 - k) = ((Z.labels (lst t)).length : Int) - 1 - k := IntWalk.i64_in _ (by omega)
          have f1 : (((Z.labels (lst s)).length : Int) - 1 - k).toNat = (Z.labels (lst s)).length - (k + 1) := by omega
          have f2 : (((Z.labels (lst t)).length : Int) - 1 - k).toNat = (Z.labels (lst t)).length - (k + 1) := by omega
          go_wp2_with fail
          go_quiet (fail)
          clear g1 g2 g3 g4 f1 f2 p1 p2 q1 q2
          go_wp2_with fail
          go_ret
          refine ⟨ret_bool ?_, by repeat (first | exact hbb | refine below_drewN ?_ _)⟩
          rw [hfin.out, HLT.out, bytesLess_lt, toList_lst, toList_lst, ← Hx.out, ← Hy.out]
    · have hv2' : Z.valid (lst t) = false := by simpa using hv2
      have hfin : Hid (Z.before (lst s) (lst t) = false) := hid (by unfold Z.before; rw [hv2']; simp)
      clear hv2
      go_enter Try.func104, Try.ntmps104
      go_wp2_with fail
      refine (splitName_any s hs _).mono ?_
      rintro e w1 ⟨A, c, rfl, hown1, hb1⟩
      go_wp2_with fail
      refine (splitName_any t ht _).mono ?_
      rintro e w2 ⟨A2, c2, rfl, hown2, hb2⟩
      have hr1 := (Reads.of_own hown1).below hb2 (Nat.le_refl _)
      have hr2 := Reads.of_own hown2
      have hbb := below2 hb1 hb2
      go_wp2_with fail
      go_ret
      exact ⟨ret_bool hfin.out.symm, hbb⟩
  · have hv' : Z.valid (lst s) = false := by simpa using hv
    have hfin : Hid (Z.before (lst s) (lst t) = false) := hid (by unfold Z.before; rw [hv']; simp)
    clear hv
    go_enter Try.func104, Try.ntmps104
    go_wp2_with fail
    refine (splitName_any s hs _).mono ?_
    rintro e w1 ⟨A, c, rfl, hown1, hb1⟩
    go_wp2_with fail
    refine (splitName_any t ht _).mono ?_
    rintro e w2 ⟨A2, c2, rfl, hown2, hb2⟩
    have hr1 := (Reads.of_own hown1).below hb2 (Nat.le_refl _)
    have hr2 := Reads.of_own hown2
    have hbb := below2 hb1 hb2
    go_wp2_with fail
    go_ret
    exact ⟨ret_bool hfin.out.symm, hbb⟩
end Go.Proofs.Ytgglakonkphbgaa

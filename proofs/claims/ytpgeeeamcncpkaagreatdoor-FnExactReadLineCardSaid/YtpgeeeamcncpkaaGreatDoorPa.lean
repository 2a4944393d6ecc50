/- What the program's readers of numbers and of quoted texts return. What the program's readers of lists of numbers, of quoted texts and of the fields of data return. -/
import Derived.Test.YtpgeeeamcncpkaaGreatDoorSf
import Derived.Test.YtpgeeeamcncpkaaGreatDoorBk
import Derived.Test.YtpgeeeamcncpkaaGreatDoorMa
import Derived.Outline
import Derived.Test.YtpgeeeamcncpkaaGreatDoorShelf
import Derived.Handy
namespace Go.Proofs.YtpgeeeamcncpkaaGreatDoor
open Go.RowKit
set_option maxRecDepth 100000
set_option linter.unusedVariables false

theorem readNum_empty {s : ByteArray} (m : Int) (h : s.size = 0) : Z.readNum (lst s) m = none := by
  have : lst s = [] := List.length_eq_zero_iff.1 (by rw [lst_length]; exact h)
  simp [Z.readNum, this]
theorem readNum_zero {s : ByteArray} (m : Int) (h : 0 < s.size) (h0 : (s[0].toNat : Int) = 48) (h1 : 1 < s.size) : Z.readNum (lst s) m = none := by
  have e : s[0] = 48 := by rw [← UInt8.toNat_inj]; simp; omega
  have hh := head_lst h
  rw [e] at hh
  unfold Z.readNum
  rw [if_neg (fun hx => hx.2.2.1 ⟨hh, by rw [lst_length]; exact h1⟩)]
theorem readNum_digit {s : ByteArray} {k : Nat} (m : Int) (hk : k < s.size) (h : ¬ (48 ≤ (s[k].toNat : Int) ∧ (s[k].toNat : Int) ≤ 57)) : Z.readNum (lst s) m = none := by
  have hm : s[k] ∈ lst s := by rw [← lst_get s k hk]; exact List.getElem_mem _
  have : ¬ (lst s).all Z.digit = true := fun ha => h ((digit_int _).1 (List.all_eq_true.1 ha _ hm))
  unfold Z.readNum
  rw [if_neg (fun hh => this hh.2.1)]
theorem readNum_great {s : ByteArray} {k N : Nat} {m : Int} (hn : NumAt s k N) (h : m < N) : Z.readNum (lst s) m = none := by
  have h1 := Z.natOf_take_le (lst s) k
  rw [← hn.1] at h1
  unfold Z.readNum
  rw [if_neg (fun hh => by have := hh.2.2.2; omega)]
theorem readNum_good {s : ByteArray} {N : Nat} {m : Int} (h : 0 < s.size) (h0 : Lead s false h) (hn : NumAt s s.size N) (hm : (N : Int) ≤ m) : Z.readNum (lst s) m = some (N : Int) := by
  obtain ⟨e, a, _⟩ := hn
  rw [List.take_of_length_le (by rw [lst_length]; exact Nat.le_refl _)] at e a
  have hh := head_lst h
  have hne : lst s ≠ [] := fun e2 => by rw [e2] at hh; cases hh
  have hno : ¬ ((lst s).head? = some 48 ∧ 1 < (lst s).length) := fun hx => by
    rcases h0 with h0 | h0
    · rw [hh] at hx
      have h3 : s[0] = 48 := Option.some.inj hx.1
      exact h0 (by rw [h3]; rfl)
    · have h4 := hx.2
      rw [lst_length] at h4
      omega
  unfold Z.readNum
  rw [e] at hm ⊢
  rw [if_pos ⟨hne, a, hno, hm⟩]
theorem toList_one {s : ByteArray} (h : s.size = 1) (h0 : (s[0].toNat : Int) = 48) : (s.toList == [48]) = true := by
  have e : s[0] = 48 := by rw [← UInt8.toNat_inj]; simp; omega
  have h1 : lst s = [48] := by
    have h2 := head_lst (s := s) (by omega)
    rw [e] at h2
    have h3 : (lst s).length = 1 := by rw [lst_length]; exact h
    match hl : lst s, h3 with
    | [x], _ => rw [hl] at h2; simp at h2; rw [h2]
  rw [toList_lst, h1]; rfl
theorem toList_more {s : ByteArray} (h : 1 < s.size) : (s.toList == [48]) = false := by
  rw [toList_lst]
  apply beq_eq_false_iff_ne.2
  intro e
  have := congrArg List.length e
  rw [lst_length] at this
  simp at this
  omega
theorem toList_empty {s : ByteArray} (h : 0 < s.size) : s.toList.isEmpty = false := by
  rw [toList_lst]
  cases e : lst s with
  | nil => have h2 := lst_length s; rw [e] at h2; simp only [List.length_nil] at h2; omega
  | cons => rfl

set_option maxHeartbeats 2000000 in
theorem readNumber_any (s : ByteArray) (hs : s.size ≤ 67108864) (m : Int) (hm0 : 0 ≤ m) (hm : m ≤ 4294967295) (w : World) :
    Calls Tryz.prog 125 #[.string s, .int .i64 m] w fun e w' => e = .returned (numTup (Z.readNum (lst s) m)) ∧ w = w' := by
  by_cases h0 : 0 < s.size
  · have q1 := toList_empty h0
    by_cases hlead : (s[0].toNat : Int) = 48 ∧ 1 < s.size
    · obtain ⟨hz, h1⟩ := hlead
      have HX := hid (readNum_zero m h0 hz h1)
      have q2 := toList_more h1
      have q3 : (s.toList != [48]) = true := by rw [bne, q2]; rfl
      have q4 : ((s[0].toNat : Int) == 48) = true := by simpa using hz
      have HZ := hid hz
      clear hz
      go_enter Tryz.func125, Tryz.ntmps125
      go_wp2
      all_goals go_ret2
      all_goals exact ⟨by rw [HX.out]; rfl, rfl⟩
    · by_cases hz : (s[0].toNat : Int) = 48
      · have h1 : s.size = 1 := by have : ¬ 1 < s.size := fun h => hlead ⟨hz, h⟩; omega
        have h48 : Hid (Lead s false h0) := hid (Or.inr ⟨h1, rfl⟩)
        have q2 := toList_one h1 hz
        have q3 : (s.toList != [48]) = false := by rw [bne, q2]; rfl
        have q4 : ((s[0].toNat : Int) == 48) = true := by simpa using hz
        have HZ := hid hz
        have H1 := hid h1
        clear hz hlead h1
        go_enter Tryz.func125, Tryz.ntmps125
        go_wp2
        go_loop [6, 22] (fun v i => ∃ k N : Nat, k ≤ s.size ∧ i = .int .i64 k ∧ v = .int .i64 N ∧ (N : Int) ≤ m ∧ Hid (NumAt s k N)) (fun _ i => s.size - (intOf i).toNat)
        case atStart => exact ⟨0, 0, Nat.zero_le _, rfl, rfl, hm0, hid (numAt_start _)⟩
        case round =>
          obtain ⟨k, N, hk, rfl, rfl, hN, hok⟩ := hrel
          by_cases hlt : k < s.size
          · by_cases hd : 48 ≤ (s[k].toNat : Int) ∧ (s[k].toNat : Int) ≤ 57
            · have HS := numAt_succ hok.out hlt hd.1 hd.2
              obtain ⟨hd1, hd2⟩ := hd
              by_cases hgt : m < ((N * 10 + (s[k].toNat - 48) : Nat) : Int)
              · have HX := hid (readNum_great HS hgt)
                clear HS
                go_wp2
                all_goals go_ret2
                all_goals exact ⟨by rw [HX.out]; rfl, rfl⟩
              · have HS := hid HS
                go_wp2
                exact ⟨⟨k + 1, N * 10 + (s[k].toNat - 48), by omega, by go_num, by congr 1; omega, by omega, HS⟩, by simp [intOf]; omega⟩
            · have HX := hid (readNum_digit m hlt hd)
              go_wp2
              all_goals first | (exfalso; apply hd; go_light; simp_all; omega) | skip
              all_goals go_ret2
              all_goals exact ⟨by rw [HX.out]; rfl, rfl⟩
          · have hks : k = s.size := by omega
            subst hks
            have HX := hid (readNum_good h0 h48.out hok.out hN)
            go_wp2
            all_goals go_ret2
            all_goals exact ⟨by rw [HX.out]; rfl, rfl⟩
      · have h48 : Hid (Lead s false h0) := hid (Or.inl hz)
        have q4 : ((s[0].toNat : Int) == 48) = false := by simpa using hz
        have HZ := hid hz
        clear hz hlead
        go_enter Tryz.func125, Tryz.ntmps125
        go_wp2
        go_loop [6, 22] (fun v i => ∃ k N : Nat, k ≤ s.size ∧ i = .int .i64 k ∧ v = .int .i64 N ∧ (N : Int) ≤ m ∧ Hid (NumAt s k N)) (fun _ i => s.size - (intOf i).toNat)
        case atStart => exact ⟨0, 0, Nat.zero_le _, rfl, rfl, hm0, hid (numAt_start _)⟩
        case round =>
          obtain ⟨k, N, hk, rfl, rfl, hN, hok⟩ := hrel
          by_cases hlt : k < s.size
          · by_cases hd : 48 ≤ (s[k].toNat : Int) ∧ (s[k].toNat : Int) ≤ 57
            · have HS := numAt_succ hok.out hlt hd.1 hd.2
              obtain ⟨hd1, hd2⟩ := hd
              by_cases hgt : m < ((N * 10 + (s[k].toNat - 48) : Nat) : Int)
              · have HX := hid (readNum_great HS hgt)
                clear HS
                go_wp2
                all_goals go_ret2
                all_goals exact ⟨by rw [HX.out]; rfl, rfl⟩
              · have HS := hid HS
                go_wp2
                exact ⟨⟨k + 1, N * 10 + (s[k].toNat - 48), by omega, by go_num, by congr 1; omega, by omega, HS⟩, by simp [intOf]; omega⟩
            · have HX := hid (readNum_digit m hlt hd)
              go_wp2
              all_goals first | (exfalso; apply hd; go_light; simp_all; omega) | skip
              all_goals go_ret2
              all_goals exact ⟨by rw [HX.out]; rfl, rfl⟩
          · have hks : k = s.size := by omega
            subst hks
            have HX := hid (readNum_good h0 h48.out hok.out hN)
            go_wp2
            all_goals go_ret2
            all_goals exact ⟨by rw [HX.out]; rfl, rfl⟩
  · have HX := hid (readNum_empty (s := s) m (by omega))
    obtain rfl : s = ByteArray.empty := ByteArray.size_eq_zero_iff.1 (by omega)
    go_enter Tryz.func125, Tryz.ntmps125
    go_wp2
    all_goals go_ret2
    all_goals exact ⟨by rw [HX.out]; rfl, rfl⟩
end Go.Proofs.YtpgeeeamcncpkaaGreatDoor

namespace Go.Proofs.YtpgeeeamcncpkaaGreatDoor
open Go.RowKit
set_option maxRecDepth 100000
set_option linter.unusedVariables false

/-- The library's greatest length holds some number. -/
def MX (w : World) : Prop := 3 < w.heap.size ∧ ∃ m, w.cell? ⟨3, 0, none⟩ = some (.int .i64 m)
theorem MX.below {w w' : World} (h : MX w) (hb : Below w.heap.size w w') : MX w' := by
  obtain ⟨h1, m, hm⟩ := h
  exact ⟨by have := hb.size; omega, m, (hb.cell (p := ⟨3, 0, none⟩) h1).trans hm⟩
theorem mx_of {w : World} {m : Int} (hm : w.cell? ⟨3, 0, none⟩ = some (.int .i64 m)) : MX w := by
  refine ⟨?_, m, hm⟩
  rcases Nat.lt_or_ge 3 w.heap.size with h1 | h1
  · exact h1
  · unfold World.cell? at hm
    rw [Array.getElem?_eq_none h1] at hm
    cases hm

/-- The numbers that are read, and those that are left. -/
def ReadAt (ls : List Z.Str) (k : Nat) (ns : List Int) : Prop := ns.length = k ∧ Z.readNums ls = (Z.readNums (ls.drop k)).map (ns ++ ·)
theorem readAt_start (ls : List Z.Str) : ReadAt ls 0 [] := ⟨rfl, by simp⟩
theorem readAt_split {ls : List Z.Str} {k : Nat} (hk : k < ls.length) : ls.drop k = ls.getD k [] :: ls.drop (k + 1) := by
  rw [List.drop_eq_getElem_cons hk]
  simp [hk]
theorem readAt_next {ls : List Z.Str} {k : Nat} {ns : List Int} {n : Int} (h : ReadAt ls k ns) (hk : k < ls.length) (hn : Z.readNum (ls.getD k []) 4294967295 = some n) : ReadAt ls (k + 1) (ns ++ [n]) := by
  refine ⟨by rw [List.length_append, h.1]; rfl, ?_⟩
  rw [h.2, readAt_split hk, Z.readNums_cons, hn]
  cases Z.readNums (ls.drop (k + 1)) with
  | none => rfl
  | some r => simp
theorem readAt_fail {ls : List Z.Str} {k : Nat} {ns : List Int} (h : ReadAt ls k ns) (hk : k < ls.length) (hn : Z.readNum (ls.getD k []) 4294967295 = none) : Z.readNums ls = none := by
  rw [h.2, readAt_split hk, Z.readNums_cons, hn]
  rfl
theorem readAt_end {ls : List Z.Str} {k : Nat} {ns : List Int} (h : ReadAt ls k ns) (hk : ls.length ≤ k) : Z.readNums ls = some ns := by
  rw [h.2, List.drop_eq_nil_of_le hk]
  simp [Z.readNums]

theorem readNumber_some (s : ByteArray) (hs : s.size ≤ 67108864) (m : Int) (hm0 : 0 ≤ m) (hm : m ≤ 4294967295) {n : Int} (hn : Hid (Z.readNum (lst s) m = some n)) (w : World) :
    Calls Tryz.prog 125 #[.string s, .int .i64 m] w fun e w' => e = .returned (.tuple #[.int .i64 n, .bool true]) ∧ w = w' := by
  have h := readNumber_any s hs m hm0 hm w
  rw [hn.out] at h
  exact h
theorem readNumber_none (s : ByteArray) (hs : s.size ≤ 67108864) (m : Int) (hm0 : 0 ≤ m) (hm : m ≤ 4294967295) (hn : Hid (Z.readNum (lst s) m = none)) (w : World) :
    Calls Tryz.prog 125 #[.string s, .int .i64 m] w fun e w' => e = .returned (.tuple #[.int .i64 0, .bool false]) ∧ w = w' := by
  have h := readNumber_any s hs m hm0 hm w
  rw [hn.out] at h
  exact h

/-- What a reader of numbers leaves. -/
def ReadOut (o : Option (List Int)) (w : World) (e : Ending) (w' : World) : Prop :=
  ∃ A q, e = .returned (.tuple #[.slice A (o.getD []).length q, .bool o.isSome]) ∧ w'.ownsRow w.heap.size 3 1 (.slice A (o.getD []).length q) (o.getD []).length ((o.getD []).map iv) ∧ Below w.heap.size w w'
theorem readOut_none {w w' : World} {A : Option Addr} {q : Nat} (ho : w'.ownsRow w.heap.size 3 1 (.slice A 0 q) 0 []) (hb : Below w.heap.size w w') : ReadOut none w (.returned (.tuple #[.slice A 0 q, .bool false])) w' := ⟨A, q, rfl, ho, hb⟩
theorem readOut_some {w w' : World} {A : Option Addr} {q : Nat} {ns : List Int} (ho : w'.ownsRow w.heap.size 3 1 (.slice A ns.length q) ns.length (ns.map iv)) (hb : Below w.heap.size w w') : ReadOut (some ns) w (.returned (.tuple #[.slice A ns.length q, .bool true])) w' := ⟨A, q, rfl, ho, hb⟩

set_option maxHeartbeats 2000000 in
theorem readNumbers_any (ls : List Z.Str) (B : Nat) (A : Option Addr) (n c : Nat) (w : World) (hr : Reads w B A n (ls.map sv)) (hB : B ≤ w.heap.size) (hn : n ≤ 67108865) (hsz : Hid (∀ l ∈ ls, l.length ≤ 67108864)) :
    Calls Tryz.prog 84 #[.slice A n c] w (ReadOut (Z.readNums ls) w) := by
  have hlen : ls.length = n := by have := hr.1; simpa using this
  subst hlen
  obtain ⟨i0, hi0, hz0, hz1, hz2⟩ := info_parts infoIntz
  go_enter Tryz.func84, Tryz.ntmps84
  go_wp2
  go_loopw [4, 11] (fun v i wr => ∃ (k : Nat) (ns : List Int), k ≤ ls.length ∧ i = .int .i64 k ∧ Hid (ReadAt ls k ns) ∧ wr.ownsRow w.heap.size 3 1 v k (ns.map iv) ∧ Below w.heap.size w wr) (fun _ i _ => ls.length - (intOf i).toNat)
  case atStart => exact ⟨0, [], Nat.zero_le _, rfl, hid (readAt_start ls), World.ownsRow_nil w w.heap.size 3 1, Below.refl _ _⟩
  case round =>
    obtain ⟨k, ns, hk, rfl, hat, hown, hb⟩ := hrel
    have hbs := hb.size
    by_cases hlt : k < ls.length
    · obtain ⟨ad, x, rfl, hab, hx, hcell⟩ := reads_str (hr.below hb hB) hlt
      have hxs : x.size ≤ 67108864 := by
        have hm : ls.getD k [] ∈ ls := by simp [hlt]
        have := hsz.out _ hm
        rw [← hx, lst_length] at this
        exact this
      have Hx := hid hx
      clear hx
      cases hn : Z.readNum (lst x) 4294967295 with
      | none =>
        have HF := hid (readAt_fail hat.out hlt (by rw [← Hx.out]; exact hn))
        have HN := hid hn
        clear hn
        go_wp2_with (first | (go_at_call 125; refine (readNumber_none _ hxs _ (by omega) (by omega) HN _).mono ?_; rintro e w2 ⟨rfl, rfl⟩))
        all_goals go_ret2
        all_goals rw [HF.out]
        all_goals exact readOut_none (World.ownsRow_nil _ _ _ _) hb
      | some n =>
        have HF := hid (readAt_next hat.out hlt (by rw [← Hx.out]; exact hn))
        have HN := hid hn
        clear hn
        go_wp2_with (first | (go_at_call 125; refine (readNumber_some _ hxs _ (by omega) (by omega) HN _).mono ?_; rintro e w2 ⟨rfl, rfl⟩) | (at_builtin; refine wpList_append1 wr (.int .i64 n) _ rfl _ _ _ rfl w.heap.size 3 i0 _ 8 Tryz.underlying23 hi0 hz0 hz1 hz2 rfl _ _ _ rfl hown rfl rfl (by unfold maxLen; omega) (by omega) hbs ?_; intro v1 w2 hown2 hb2))
        go_roundw
        case rel => exact ⟨k + 1, ns ++ [n], by omega, by go_num, HF, by rw [List.map_append]; exact hown2, hb.trans hb2⟩
        case measure => simp [intOf]; try omega
    · have HE := hid (readAt_end hat.out (by omega))
      obtain rfl := hat.out.1
      obtain ⟨A2, q2, rfl⟩ := own_slice hown
      go_wp2
      all_goals go_ret2
      all_goals rw [HE.out]
      all_goals exact readOut_some hown hb

/-! ### quoted texts -/

theorem last_at {s : ByteArray} {m : Nat} (hm : s.size = m + 2) : (lst s).getLast? = some s[m + 1] := by
  rw [List.getLast?_eq_getElem?, lst_length, show s.size - 1 = m + 1 by omega, List.getElem?_eq_getElem (by rw [lst_length]; omega), lst_get s (m + 1) (by omega)]
theorem quote_int {c : UInt8} : ((c.toNat : Int) = 34) ↔ c = 34 := by
  rw [← UInt8.toNat_inj]; simp; omega
theorem unq_short {s : ByteArray} (h : s.size < 2) : Z.unq (lst s) = none := by
  unfold Z.unq
  rw [if_neg (fun hh => by have := hh.1; rw [lst_length] at this; omega)]
theorem unq_head {s : ByteArray} (h : 2 ≤ s.size) (h0 : ¬ (s[0].toNat : Int) = 34) : Z.unq (lst s) = none := by
  unfold Z.unq
  rw [if_neg (fun hh => h0 (quote_int.2 (by have := hh.2.1; rw [head_lst (by omega)] at this; exact Option.some.inj this)))]
theorem unq_last {s : ByteArray} {m : Nat} (hm : s.size = m + 2) (h1 : ¬ (s[m + 1].toNat : Int) = 34) : Z.unq (lst s) = none := by
  unfold Z.unq
  rw [if_neg (fun hh => h1 (quote_int.2 (by have := hh.2.2; rw [last_at hm] at this; exact Option.some.inj this)))]
theorem unq_good {s : ByteArray} {m : Nat} (hm : s.size = m + 2) (h0 : (s[0].toNat : Int) = 34) (h1 : (s[m + 1].toNat : Int) = 34) : Z.unq (lst s) = some (lst (s.extract 1 (m + 1))) := by
  unfold Z.unq
  rw [if_pos ⟨by rw [lst_length]; omega, by rw [head_lst (by omega), quote_int.1 h0], by rw [last_at hm, quote_int.1 h1]⟩, lst_extract, lst_length, hm]
  rfl
def strTup (o : Option Z.Str) : Value := .tuple #[.string (bs (o.getD [])), .bool o.isSome]

set_option maxHeartbeats 1000000 in
theorem unquote_any (s : ByteArray) (hs : s.size ≤ 67108864) (w : World) :
    Calls Tryz.prog 85 #[.string s] w fun e w' => e = .returned (strTup (Z.unq (lst s))) ∧ w = w' := by
  by_cases h2 : 2 ≤ s.size
  · obtain ⟨m, hm⟩ : ∃ m, s.size = m + 2 := ⟨s.size - 2, by omega⟩
    by_cases h0 : (s[0].toNat : Int) = 34
    · by_cases h1 : (s[m + 1].toNat : Int) = 34
      · have HX := hid (unq_good hm h0 h1)
        go_enter Tryz.func85, Tryz.ntmps85
        go_wp2
        all_goals go_ret2
        all_goals exact ⟨by rw [HX.out]; simp [strTup, bs_lst], rfl⟩
      · have HX := hid (unq_last hm h1)
        have q1 : ((s[m + 1].toNat : Int) == 34) = false := by simpa using h1
        have q2 : ((s[m + 1].toNat : Int) != 34) = true := by simpa using h1
        go_enter Tryz.func85, Tryz.ntmps85
        go_wp2
        all_goals first | (go_ret2; exact ⟨by rw [HX.out]; rfl, rfl⟩) | (exfalso; simp_all; done)
    · have HX := hid (unq_head h2 h0)
      go_enter Tryz.func85, Tryz.ntmps85
      go_wp2
      all_goals first | (go_ret2; exact ⟨by rw [HX.out]; rfl, rfl⟩) | (exfalso; simp_all; done)
  · have HX := hid (unq_short (s := s) (by omega))
    go_enter Tryz.func85, Tryz.ntmps85
    go_wp2
    all_goals go_ret2
    all_goals exact ⟨by rw [HX.out]; rfl, rfl⟩
end Go.Proofs.YtpgeeeamcncpkaaGreatDoor

/- What the functions of the program's chapter 1 return: short names, parents, wildcards, common tops. What the functions of the program's chapter 1 return: wildcards and common tops. -/
import Derived.Test.YtpgeeeamcncpkaaGreatDoorI
namespace Go.Proofs.YtpgeeeamcncpkaaGreatDoor
open Go.RowKit
set_option maxRecDepth 100000

theorem trim_dot {s o p : Z.Str} (h : s = p ++ [46] ++ o) : Lib.trimSuffix s (46 :: o) = p := by
  unfold Lib.trimSuffix Lib.hasSuffix
  rw [if_pos]
  · rw [h]
    have e : (p ++ [46] ++ o).length - (46 :: o).length = p.length := by simp
    rw [e]
    simp
  · rw [List.isSuffixOf_iff_suffix]
    exact ⟨p, by rw [h]; simp⟩

theorem trimDot_any (s t : ByteArray) (p : Z.Str) (hs : s.size ≤ maxLen) (h : lst s = p ++ [46] ++ lst t) (w : World) :
    Calls Tryz.prog 97 #[.string s, .string (⟨#[46]⟩ ++ t)] w fun e w' => e = .returned (.string (bs p)) ∧ w = w' := by
  have e : Lib.trimSuffix s.data.toList ((⟨#[46]⟩ ++ t : ByteArray)).data.toList = p := by
    have h2 : ((⟨#[46]⟩ ++ t : ByteArray)).data.toList = 46 :: lst t := lst_append ⟨#[46]⟩ t
    rw [h2]
    exact trim_dot h
  have hc := Tryz.strings_TrimSuffix s (⟨#[46]⟩ ++ t) w hs
  rw [e] at hc
  exact hc.mono fun _ _ hh => ⟨hh.1, hh.2.symm⟩

set_option maxHeartbeats 1000000 in
theorem iShortName_valid (s t : ByteArray) (hs : s.size ≤ maxLen) (ht : t.size ≤ maxLen) (hv : Z.valid (lst s) = true) (hv2 : Z.valid (lst t) = true) (w : World) :
    Calls Tryz.prog 54 #[.string s, .string t] w fun e w' => e = .returned (rOpt (Z.shortName (lst s) (lst t))) ∧ Below w.heap.size w w' := by
  have hsn : Hid (Z.shortName (lst s) (lst t) = some (if lst s = lst t then [64] else if lst t = [46] || !(Z.below (lst s) (lst t)) then lst s else (lst s).take ((lst s).length - (lst t).length - 1))) := hid (by unfold Z.shortName; rw [hv, hv2]; rfl)
  have hcs := hid (@Z.shortName_cases (lst s) (lst t) hv hv2)
  have htl := (Z.valid_len hv2).2
  rw [lst_length] at htl
  have hq := eq_toList s t
  by_cases h0 : lst s = lst t
  · have h1 : (s.toList == t.toList) = true := by rw [hq]; simpa using h0
    have H0 := hid h0
    clear hq h0
    go_enter Tryz.func54, Tryz.ntmps54
    go_wp2_with fail
    refine (iNameValid_any s hs _).mono ?_
    rintro e w1 ⟨rfl, hb1⟩
    go_wp2_with fail
    refine (iNameValid_any t ht _).mono ?_
    rintro e w2 ⟨rfl, hb2⟩
    have hbb := below2 hb1 hb2
    go_wp2_with fail
    go_ret2
    exact ⟨rOpt_some (by rw [hsn.out, if_pos H0.out]; rfl), hbb⟩
  · have h1 : (s.toList == t.toList) = false := by rw [hq]; simpa using h0
    have H0 := hid h0
    clear hq
    by_cases hd : lst t = [46]
    · have h2 : (t.toList == [46]) = true := by rw [root_iff]; simpa using hd
      have HD := hid hd
      clear hd h0
      go_enter Tryz.func54, Tryz.ntmps54
      go_wp2_with fail
      refine (iNameValid_any s hs _).mono ?_
      rintro e w1 ⟨rfl, hb1⟩
      go_wp2_with fail
      refine (iNameValid_any t ht _).mono ?_
      rintro e w2 ⟨rfl, hb2⟩
      have hbb := below2 hb1 hb2
      go_wp2_with fail
      go_ret2
      exact ⟨rOpt_some (by rw [hsn.out, if_neg H0.out, HD.out]; simp), hbb⟩
    · have h2 : (t.toList == [46]) = false := by rw [root_iff]; simpa using hd
      have HD := hid hd
      by_cases hb : Z.below (lst s) (lst t) = true
      · obtain ⟨p, hp, hpn, hpl⟩ := Z.below_split hb hd h0
        have HP := hid hp
        have ha : ∀ W : World, (Op.stringOp .add ⟨#[46]⟩ t).run Tryz.prog W = .ok (.string (⟨#[46]⟩ ++ t)) W := fun W => run_string_add_sum W _ _ (by show 1 + _ ≤ _; omega)
        have hfin : Hid (Z.shortName (lst s) (lst t) = some p) := hid (by
          rw [hsn.out, if_neg H0.out, if_neg (by simp [HD.out, hb]), HP.out]
          congr 1
          have e : (p ++ [46] ++ lst t).length - (lst t).length - 1 = p.length := by rw [List.length_append, List.length_append, List.length_singleton]; omega
          rw [e]
          simp)
        clear hp hd h0
        go_enter Tryz.func54, Tryz.ntmps54
        go_wp2_with fail
        refine (iNameValid_any s hs _).mono ?_
        rintro e w1 ⟨rfl, hb1⟩
        go_wp2_with fail
        refine (iNameValid_any t ht _).mono ?_
        rintro e w2 ⟨rfl, hb2⟩
        have hbb := below2 hb1 hb2
        go_wp2_with fail
        refine (iIsBelow_any s t hs ht _).mono ?_
        rintro e w3 ⟨rfl, hb3⟩
        go_wp2_with fail
        refine (trimDot_any s t p hs HP.out w3).mono ?_
        rintro e w4 ⟨rfl, rfl⟩
        go_wp2_with fail
        go_ret2
        exact ⟨rOpt_some (by rw [hfin.out, lst_bs]), below2 hbb hb3⟩
      · have hb' : Z.below (lst s) (lst t) = false := by simpa using hb
        clear hd h0 hb
        go_enter Tryz.func54, Tryz.ntmps54
        go_wp2_with fail
        refine (iNameValid_any s hs _).mono ?_
        rintro e w1 ⟨rfl, hb1⟩
        go_wp2_with fail
        refine (iNameValid_any t ht _).mono ?_
        rintro e w2 ⟨rfl, hb2⟩
        have hbb := below2 hb1 hb2
        go_wp2_with fail
        refine (iIsBelow_any s t hs ht _).mono ?_
        rintro e w3 ⟨rfl, hb3⟩
        go_wp2_with fail
        go_ret2
        exact ⟨rOpt_some (by rw [hsn.out, if_neg H0.out, hb']; simp), below2 hbb hb3⟩

set_option maxHeartbeats 400000 in
theorem iShortName_any (s t : ByteArray) (hs : s.size ≤ maxLen) (ht : t.size ≤ maxLen) (w : World) :
    Calls Tryz.prog 54 #[.string s, .string t] w fun e w' => e = .returned (rOpt (Z.shortName (lst s) (lst t))) ∧ Below w.heap.size w w' := by
  by_cases hv : Z.valid (lst s) = true
  · by_cases hv2 : Z.valid (lst t) = true
    · exact iShortName_valid s t hs ht hv hv2 w
    · have hv2' : Z.valid (lst t) = false := by simpa using hv2
      have hfin : Hid (Z.shortName (lst s) (lst t) = none) := hid (by unfold Z.shortName; rw [hv2']; simp)
      clear hv2
      go_enter Tryz.func54, Tryz.ntmps54
      go_wp2_with fail
      refine (iNameValid_any s hs _).mono ?_
      rintro e w1 ⟨rfl, hb1⟩
      go_wp2_with fail
      refine (iNameValid_any t ht _).mono ?_
      rintro e w2 ⟨rfl, hb2⟩
      have hbb := below2 hb1 hb2
      go_wp2_with fail
      go_ret2
      exact ⟨rOpt_none hfin.out, hbb⟩
  · have hv' : Z.valid (lst s) = false := by simpa using hv
    have hfin : Hid (Z.shortName (lst s) (lst t) = none) := hid (by unfold Z.shortName; rw [hv']; simp)
    clear hv
    go_enter Tryz.func54, Tryz.ntmps54
    go_wp2_with fail
    refine (iNameValid_any s hs _).mono ?_
    rintro e w1 ⟨rfl, hb1⟩
    go_wp2_with fail
    go_ret2
    exact ⟨rOpt_none hfin.out, hb1⟩

theorem plain_of {w : World} {g o : Nat} (h : g < w.heap.size) : 0 < 1 → Plain w (some ⟨g, o, none⟩) := fun _ => ⟨g, o, rfl, h⟩
theorem own_lt {w : World} {base : Nat} {e : TypeId} {g o n c : Nat} {xs : List Value} (h : w.ownsRow base e 1 (.slice (some ⟨g, o, none⟩) n c) n xs) (h1 : 1 ≤ n) : g < w.heap.size := by
  obtain ⟨g2, cap, hv, _, hlt⟩ := h.form h1
  injection hv with hA
  injection hA with hA
  injection hA with hg
  omega
theorem join_drop_bound {s : Z.Str} (hv : Z.valid s = true) (k : Nat) : (Z.join ((Z.labels s).drop k)).length ≤ 67108864 := by
  rw [labels_valid hv]
  have := (Z.valid_len (Z.valid_drop hv k)).2
  omega
theorem labels_pos {s : Z.Str} (hv : Z.valid s = true) (hd : s ≠ [46]) : 1 ≤ (Z.labels s).length := by
  rw [labels_valid hv]
  have : Z.labs s ≠ [] := fun e => hd ((Z.labs_nil hv).1 e)
  exact List.length_pos_iff.2 this

end Go.Proofs.YtpgeeeamcncpkaaGreatDoor

namespace Go.Proofs.YtpgeeeamcncpkaaGreatDoor
open Go.RowKit
set_option maxRecDepth 100000

theorem set_star {ls : List Z.Str} (h : 1 ≤ ls.length) : (ls.map sv).set 0 (.string ⟨#[42]⟩) = ([42] :: ls.tail).map sv := by
  cases ls with
  | nil => simp at h
  | cons a r => rfl
theorem own_base {w : World} {base : Nat} {e : TypeId} {g o n c : Nat} {xs : List Value} (h : w.ownsRow base e 1 (.slice (some ⟨g, o, none⟩) n c) n xs) (h1 : 1 ≤ n) : base ≤ g := by
  obtain ⟨g2, cap, hv, hb, hlt⟩ := h.form h1
  injection hv with hA
  injection hA with hA
  injection hA with hg
  omega

theorem cutPlain {w : World} {A : Option Addr} {k n : Nat} (h : 0 < n → ∃ g o, A = some ⟨g, o, none⟩ ∧ g < w.heap.size) : 0 < n → Plain w (A.map (·.add k)) := fun hn => by
  obtain ⟨g, o, rfl, hg⟩ := h hn
  by_cases hk : k = 0
  · exact ⟨g, o, by simp [Addr.add, hk], hg⟩
  · exact ⟨g, o + k, by simp [Addr.add, hk], hg⟩

end Go.Proofs.YtpgeeeamcncpkaaGreatDoor

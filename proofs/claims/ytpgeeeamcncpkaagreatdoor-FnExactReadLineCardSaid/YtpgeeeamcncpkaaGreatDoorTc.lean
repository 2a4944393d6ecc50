/- What FieldsOf of the program returns. -/
import Derived.Test.YtpgeeeamcncpkaaGreatDoorTb
import Derived.Test.YtpgeeeamcncpkaaGreatDoorPa
import Derived.Test.YtpgeeeamcncpkaaGreatDoorSi
import Derived.Outline
namespace Go.Proofs.YtpgeeeamcncpkaaGreatDoor
open Go.RowKit
set_option maxRecDepth 100000
set_option linter.unusedVariables false

theorem indexByte_mem (c : UInt8) : ∀ l : List UInt8, decide (0 ≤ Lib.indexByte l c) = decide (c ∈ l)
  | [] => by simp [Lib.indexByte]
  | b :: l => by
    have ih := indexByte_mem c l
    have hge := Lib.indexByte_ge l c
    rw [Bool.eq_iff_iff, decide_eq_true_eq, decide_eq_true_eq] at ih ⊢
    unfold Lib.indexByte
    by_cases h : b = c
    · subst h; simp
    · have h1 : ¬ (b == c) = true := by simpa using h
      have h2 : c ∈ b :: l ↔ c ∈ l := by simp [Ne.symm h]
      rw [if_neg h1, h2, ← ih]
      by_cases h3 : Lib.indexByte l c = -1
      · rw [if_pos (by rw [h3]; rfl), h3]
      · rw [if_neg (by simpa using h3)]
        omega
theorem Contains_eq (s : ByteArray) (c : UInt8) (b : Bool) (hb : Hid (decide (c ∈ lst s) = b)) (w : World) :
    Calls Tryz.prog 109 #[.string s, .string ⟨#[c]⟩] w fun e w' => e = .returned (.bool b) ∧ w = w' := by
  refine (Tryz.strings_Contains_one s c w).mono ?_
  rintro e w' ⟨rfl, rfl⟩
  exact ⟨ret_bool ((indexByte_mem c _).trans hb.out), rfl⟩
theorem HasPrefix_eq (s : ByteArray) (c : UInt8) (b : Bool) (hb : Hid (decide ((lst s).head? = some c) = b)) (w : World) :
    Calls Tryz.prog 107 #[.string s, .string ⟨#[c]⟩] w fun e w' => e = .returned (.bool b) ∧ w = w' := by
  refine (Tryz.strings_HasPrefix s ⟨#[c]⟩ w).mono ?_
  rintro e w' ⟨rfl, rfl⟩
  exact ⟨ret_bool ((Z.lib_prefix c (lst s)).trans hb.out), rfl⟩
theorem Trim_eq (s t : ByteArray) (ht : Hid (bs (Z.trim (lst s)) = t)) (w : World) :
    Calls Tryz.prog 59 #[.string s, .string ⟨#[32]⟩] w fun e w' => e = .returned (.string t) ∧ w = w' := by
  refine (Tryz.strings_TrimLeft_one s 32 (by decide) w).mono ?_
  rintro e w' ⟨rfl, rfl⟩
  refine ⟨ret_str ?_, rfl⟩
  rw [← ht.out]
  show bs (Lib.trimLeftB (lst s) 32) = _
  rw [← Lib.trimLeftS_one, Z.lib_trim]
theorem Cut_eq (s : ByteArray) (hs : s.size ≤ 67108864) (c : UInt8) (F R : ByteArray) (b : Bool) (hF : Hid (bs (if c ∈ lst s then Z.hd c (lst s) else lst s) = F)) (hR : Hid (bs (if c ∈ lst s then Z.tl c (lst s) else []) = R)) (hb : Hid (decide (c ∈ lst s) = b)) (w : World) (hm : MX w) :
    Calls Tryz.prog 108 #[.string s, .string ⟨#[c]⟩] w fun e w' => e = .returned (.tuple #[.string F, .string R, .bool b]) ∧ ∃ n, w.drewN n = w' := by
  obtain ⟨_, m, hm⟩ := hm
  refine (Tryz.strings_Cut s ⟨#[c]⟩ m w (by omega) hm).mono ?_
  rintro e w' ⟨rfl, n, rfl⟩
  refine ⟨?_, n, rfl⟩
  have h := Z.lib_cut c (lst s)
  rw [← hF.out, ← hR.out, ← hb.out]
  show Ending.returned (.tuple #[.string (bs (Lib.cut (lst s) [c]).1), .string (bs (Lib.cut (lst s) [c]).2.1), .bool (Lib.cut (lst s) [c]).2.2]) = _
  rw [h]
  by_cases hc : c ∈ lst s
  · simp only [if_pos hc, decide_eq_true hc]
  · simp only [if_neg hc, decide_eq_false hc]
theorem hd_all {c : UInt8} {s : Z.Str} (h : c ∉ s) : Z.hd c s = s := by
  have := List.takeWhile_append_of_pos (p := (· != c)) (l₂ := []) (l₁ := s) (fun x hx => by
    have : x ≠ c := fun e => h (e ▸ hx)
    simpa using this)
  unfold Z.hd
  simpa using this
theorem head_if (c : UInt8) (s : Z.Str) : (if c ∈ s then Z.hd c s else s) = Z.hd c s := by
  by_cases h : c ∈ s
  · rw [if_pos h]
  · rw [if_neg h, hd_all h]

set_option maxHeartbeats 2000000 in
theorem cutField_plain (s : ByteArray) (hs : s.size ≤ 67108860) (w : World) (hm : MX w) (h34 : ¬ (lst s).head? = some 34) :
    Calls Tryz.prog 60 #[.string s] w fun e w' => e = .returned (.tuple #[.string (bs (Z.cutF (lst s)).1), .string (bs (Z.cutF (lst s)).2.1), .bool (Z.cutF (lst s)).2.2]) ∧ Below w.heap.size w w' := by
  obtain ⟨F, hF⟩ : ∃ F, bs (Z.hd 32 (lst s)) = F := ⟨_, rfl⟩
  obtain ⟨R, hR⟩ : ∃ R, bs (if (32 : UInt8) ∈ lst s then Z.tl 32 (lst s) else []) = R := ⟨_, rfl⟩
  obtain ⟨b, hb⟩ : ∃ b, decide ((32 : UInt8) ∈ lst s) = b := ⟨_, rfl⟩
  obtain ⟨q, hq⟩ : ∃ q, decide ((34 : UInt8) ∈ lst F) = q := ⟨_, rfl⟩
  have hlF : lst F = Z.hd 32 (lst s) := by rw [← hF, lst_bs]
  have hFs : F.size ≤ s.size := by
    have h1 : (Z.hd 32 (lst s)).length ≤ (lst s).length := by unfold Z.hd; exact (List.takeWhile_sublist _).length_le
    rw [← hlF, lst_length, lst_length] at h1
    exact h1
  have hx : bs ((lst s).drop (Z.hd 32 (lst s)).length) = s.extract F.size s.size := by
    apply lst_inj
    rw [lst_bs, lst_extract, ← hlF, lst_length, List.take_of_length_le (by rw [List.length_drop, lst_length]; omega)]
  have hout : (.tuple #[.string (bs (Z.cutF (lst s)).1), .string (bs (Z.cutF (lst s)).2.1), .bool (Z.cutF (lst s)).2.2] : Value) = .tuple #[.string F, .string (s.extract F.size s.size), .bool (!q)] := by
    unfold Z.cutF
    rw [if_neg h34]
    simp only [hF, hx, ← hq, hlF]
    simp
  have HO := hid hout
  have H1 := hid (show decide ((lst s).head? = some 34) = false by simp [h34])
  have HF := hid (show bs (if (32 : UInt8) ∈ lst s then Z.hd 32 (lst s) else lst s) = F by rw [head_if]; exact hF)
  have HR := hid hR
  have HB := hid hb
  have HQ := hid hq
  clear h34 hF hR hb hq hlF hx hout
  go_enter Tryz.func60, Tryz.ntmps60
  go_wp2_with fail
  refine (HasPrefix_eq s 34 false H1 _).mono ?_
  rintro e w1 ⟨rfl, rfl⟩
  go_wp2_with fail
  refine (Cut_eq s (by omega) 32 F R b HF HR HB _ hm).mono ?_
  rintro e w2 ⟨rfl, n, rfl⟩
  go_wp2_with fail
  go_region_with (first | (go_at_call 109; refine (Contains_eq F 34 q HQ _).mono ?_; rintro e w3 ⟨rfl, rfl⟩))
  all_goals go_wp2
  all_goals go_ret3
  all_goals exact ⟨by rw [HO.out]; rfl, below_drewN (below_drewN (Below.refl _ _) n) 1⟩
theorem quoted_text (F : ByteArray) : bs (34 :: (lst F ++ [34])) = ⟨#[34]⟩ ++ F ++ ⟨#[34]⟩ := by
  apply lst_inj
  rw [lst_bs, lst_append, lst_append]
  rfl

set_option maxHeartbeats 2000000 in
theorem cutField_quoted (s : ByteArray) (hs : s.size ≤ 67108860) (w : World) (hm : MX w) (h34 : (lst s).head? = some 34) :
    Calls Tryz.prog 60 #[.string s] w fun e w' => e = .returned (.tuple #[.string (bs (Z.cutF (lst s)).1), .string (bs (Z.cutF (lst s)).2.1), .bool (Z.cutF (lst s)).2.2]) ∧ Below w.heap.size w w' := by
  have hpos : 0 < s.size := by
    rcases Nat.eq_zero_or_pos s.size with h0 | h0
    · have : lst s = [] := List.length_eq_zero_iff.1 (by rw [lst_length]; exact h0)
      rw [this] at h34
      cases h34
    · exact h0
  obtain ⟨t, ht⟩ : ∃ t, s.extract 1 s.size = t := ⟨_, rfl⟩
  have hlt : lst t = (lst s).drop 1 := by
    rw [← ht, lst_extract, List.take_of_length_le (by rw [List.length_drop, lst_length]; omega)]
  have hts : t.size ≤ s.size := by
    have h1 := congrArg List.length hlt
    rw [lst_length, List.length_drop, lst_length] at h1
    omega
  obtain ⟨F, hF⟩ : ∃ F, bs (if (34 : UInt8) ∈ lst t then Z.hd 34 (lst t) else lst t) = F := ⟨_, rfl⟩
  obtain ⟨R, hR⟩ : ∃ R, bs (if (34 : UInt8) ∈ lst t then Z.tl 34 (lst t) else []) = R := ⟨_, rfl⟩
  obtain ⟨b, hb⟩ : ∃ b, decide ((34 : UInt8) ∈ lst t) = b := ⟨_, rfl⟩
  obtain ⟨p, hp⟩ : ∃ p, decide ((lst R).head? = some 32) = p := ⟨_, rfl⟩
  obtain ⟨z, hz⟩ : ∃ z, R.toList.isEmpty = z := ⟨_, rfl⟩
  have hlF : lst F = Z.hd 34 (lst t) := by rw [← hF, lst_bs, head_if]
  have hFs : F.size ≤ s.size := by
    have h1 : (Z.hd 34 (lst t)).length ≤ (lst t).length := by unfold Z.hd; exact (List.takeWhile_sublist _).length_le
    rw [← hlF, lst_length, lst_length] at h1
    omega
  have hzz : decide (lst R = []) = z := by
    rw [← hz, toList_lst]
    cases lst R <;> rfl
  have hout : (.tuple #[.string (bs (Z.cutF (lst s)).1), .string (bs (Z.cutF (lst s)).2.1), .bool (Z.cutF (lst s)).2.2] : Value) = .tuple #[.string (⟨#[34]⟩ ++ F ++ ⟨#[34]⟩), .string R, .bool (b && (z || p))] := by
    unfold Z.cutF
    rw [if_pos h34, ← hlt]
    unfold Z.cutQ
    by_cases hm34 : (34 : UInt8) ∈ lst t
    · have hlR : lst R = Z.tl 34 (lst t) := by rw [← hR, lst_bs, if_pos hm34]
      rw [if_pos hm34, ← quoted_text, hlF, ← hb, decide_eq_true hm34, ← hzz, ← hp, hlR, ← hlR, bs_lst, hlR]
      simp
    · have hR0 : R = ⟨#[]⟩ := by rw [← hR, if_neg hm34]; rfl
      rw [if_neg hm34, ← quoted_text, hlF, hd_all hm34, ← hb, decide_eq_false hm34, hR0]
      simp
      rfl
  have HO := hid hout
  have H1 := hid (show decide ((lst s).head? = some 34) = true by simp [h34])
  have HF := hid hF
  have HR := hid hR
  have HB := hid hb
  have HP := hid hp
  have a0 : (⟨#[34]⟩ : ByteArray).size = 1 := rfl
  have a1 := add_run ⟨#[34]⟩ F (by omega)
  have a2 := add_run (⟨#[34]⟩ ++ F) ⟨#[34]⟩ (by simp only [ByteArray.size_append]; omega)
  have HT := hid hlt
  clear h34 hF hR hb hp hlF hlt hzz hout a0
  go_enter Tryz.func60, Tryz.ntmps60
  go_wp2_with fail
  refine (HasPrefix_eq s 34 true H1 _).mono ?_
  rintro e w1 ⟨rfl, rfl⟩
  go_wp2_with fail
  refine (Cut_eq t (by omega) 34 F R b HF HR HB _ hm).mono ?_
  rintro e w2 ⟨rfl, n, rfl⟩
  cases b
  all_goals cases z
  all_goals cases p
  all_goals go_wp2_with (first | (go_at_call 107; refine (HasPrefix_eq R 32 _ HP _).mono ?_; rintro e w3 ⟨rfl, rfl⟩))
  all_goals go_ret3
  all_goals exact ⟨by rw [HO.out]; rfl, below_drewN (Below.refl _ _) n⟩

theorem cutField_any (s : ByteArray) (hs : s.size ≤ 67108860) (w : World) (hm : MX w) :
    Calls Tryz.prog 60 #[.string s] w fun e w' => e = .returned (.tuple #[.string (bs (Z.cutF (lst s)).1), .string (bs (Z.cutF (lst s)).2.1), .bool (Z.cutF (lst s)).2.2]) ∧ Below w.heap.size w w' := by
  by_cases h : (lst s).head? = some 34
  · exact cutField_quoted s hs w hm h
  · exact cutField_plain s hs w hm h
theorem cutField_eq (s : ByteArray) (hs : s.size ≤ 67108860) (w : World) (hm : MX w) (F R : ByteArray) (b : Bool) (hF : Hid (bs (Z.cutF (lst s)).1 = F)) (hR : Hid (bs (Z.cutF (lst s)).2.1 = R)) (hb : Hid ((Z.cutF (lst s)).2.2 = b)) :
    Calls Tryz.prog 60 #[.string s] w fun e w' => e = .returned (.tuple #[.string F, .string R, .bool b]) ∧ Below w.heap.size w w' := by
  have h := cutField_any s hs w hm
  rw [hF.out, hR.out, hb.out] at h
  exact h

/-- The fields that are done, and the text that is left. -/
def CutAtF (s r : ByteArray) (done : List Z.Str) : Prop := Z.fields (lst s) = (Z.fields (lst r)).map (done ++ ·) ∧ (lst r).head? ≠ some 32 ∧ r.size + done.length ≤ s.size
theorem cutAtF_start {s r : ByteArray} (h : bs (Z.trim (lst s)) = r) : CutAtF s r [] := by
  have e : lst r = Z.trim (lst s) := by rw [← h, lst_bs]
  refine ⟨by rw [e, Z.fields_trim]; simp, by rw [e]; exact Z.trim_head _, ?_⟩
  have := Z.trim_length (lst s)
  rw [← e, lst_length, lst_length] at this
  simpa using this
theorem lst_ne {r : ByteArray} (h : 0 < r.size) : lst r ≠ [] := fun e => by have := congrArg List.length e; rw [lst_length, List.length_nil] at this; omega
theorem cutAtF_next {s r F R T : ByteArray} {done : List Z.Str} (h : CutAtF s r done) (hr : 0 < r.size) (hF : bs (Z.cutF (lst r)).1 = F) (hR : bs (Z.cutF (lst r)).2.1 = R) (hb : (Z.cutF (lst r)).2.2 = true) (hT : bs (Z.trim (lst R)) = T) :
    CutAtF s T (done ++ [lst F]) ∧ T.size < r.size := by
  have eF : lst F = (Z.cutF (lst r)).1 := by rw [← hF, lst_bs]
  have eR : lst R = (Z.cutF (lst r)).2.1 := by rw [← hR, lst_bs]
  have eT : lst T = Z.trim (lst R) := by rw [← hT, lst_bs]
  have hl := (Z.cutF_length (lst_ne hr) h.2.1).1
  have ht := Z.trim_length (lst R)
  rw [← eT, lst_length, lst_length] at ht
  rw [← eR, lst_length, lst_length] at hl
  have h3 := h.2.2
  refine ⟨⟨?_, by rw [eT]; exact Z.trim_head _, by rw [List.length_append]; simp only [List.length_cons, List.length_nil]; omega⟩, by omega⟩
  rw [h.1, Z.fields_cut (lst_ne hr) h.2.1, if_pos hb, ← eF, ← eR, eT, Z.fields_trim]
  cases Z.fields (lst R) <;> simp
theorem cutAtF_fail {s r : ByteArray} {done : List Z.Str} (h : CutAtF s r done) (hr : 0 < r.size) (hb : (Z.cutF (lst r)).2.2 = false) : Z.fields (lst s) = none := by
  rw [h.1, Z.fields_cut (lst_ne hr) h.2.1, if_neg (by rw [hb]; decide)]
  rfl
theorem cutAtF_end {s r : ByteArray} {done : List Z.Str} (h : CutAtF s r done) (hr : r.size = 0) : Z.fields (lst s) = some done := by
  have : lst r = [] := List.length_eq_zero_iff.1 (by rw [lst_length]; exact hr)
  rw [h.1, this, Z.fields_nil]
  simp
def strOf : Value → ByteArray
  | .string s => s
  | _ => ⟨#[]⟩

set_option maxHeartbeats 2000000 in
theorem iFieldsOf_any (s : ByteArray) (hs : s.size ≤ 67108860) (w : World) (hm : MX w) :
    Calls Tryz.prog 19 #[.string s] w (FieldsOut s w) := by
  obtain ⟨i0, hi0, hz0, hz1, hz2⟩ := info_parts infoStrt
  obtain ⟨r0, hr0⟩ : ∃ r, bs (Z.trim (lst s)) = r := ⟨_, rfl⟩
  have HA0 := hid (cutAtF_start hr0)
  have HR0 := hid hr0
  clear hr0
  go_enter Tryz.func19, Tryz.ntmps19
  go_wp2_with (first | (go_at_call 59; refine (Trim_eq s r0 HR0 _).mono ?_; rintro e w3 ⟨rfl, rfl⟩))
  go_loopw [4, 5] (fun v rest wr => ∃ (r : ByteArray) (done : List Z.Str), rest = .string r ∧ Hid (CutAtF s r done) ∧ r.size + done.length ≤ s.size ∧ wr.ownsRow w.heap.size 9 1 v done.length (done.map sv) ∧ Below w.heap.size w wr) (fun _ rest _ => (strOf rest).size)
  case atStart => exact ⟨r0, [], rfl, HA0, HA0.out.2.2, World.ownsRow_nil _ _ _ _, Below.refl _ _⟩
  case round =>
    obtain ⟨r, done, rfl, hat, hsz, hown, hb⟩ := hrel
    have hbs := hb.size
    by_cases hpos : 0 < r.size
    · have q1 := toList_empty hpos
      obtain ⟨F, hF⟩ : ∃ F, bs (Z.cutF (lst r)).1 = F := ⟨_, rfl⟩
      obtain ⟨R, hR⟩ : ∃ R, bs (Z.cutF (lst r)).2.1 = R := ⟨_, rfl⟩
      obtain ⟨b, hb0⟩ : ∃ b, (Z.cutF (lst r)).2.2 = b := ⟨_, rfl⟩
      cases b with
      | false =>
        have HX := hid (cutAtF_fail hat.out hpos hb0)
        have HF := hid hF
        have HR := hid hR
        have HB := hid hb0
        clear hF hR hb0
        go_wp2_with (first | (go_at_call 60; refine (cutField_eq r (by omega) _ (hm.below hb) F R _ HF HR HB).mono ?_; rintro e w3 ⟨rfl, hb3⟩))
        all_goals go_ret2
        all_goals exact fieldsOut_none HX.out (World.ownsRow_nil _ _ _ _) (hb.trans (hb3.mono hbs))
      | true =>
        obtain ⟨T, hT⟩ : ∃ T, bs (Z.trim (lst R)) = T := ⟨_, rfl⟩
        obtain ⟨hnx, hlt⟩ := cutAtF_next hat.out hpos hF hR hb0 hT
        have HX := hid hnx
        have hsz2 := hnx.2.2
        have HF := hid hF
        have HR := hid hR
        have HB := hid hb0
        have HT := hid hT
        clear hF hR hb0 hnx hT
        go_wp2_with (first | (go_at_call 60; refine (cutField_eq r (by omega) _ (hm.below hb) F R _ HF HR HB).mono ?_; rintro e w3 ⟨rfl, hb3⟩; have hown3 := own_next hown hb3; have hbw3 := hb.trans (hb3.mono hbs); have hs3 := hbw3.size) | (go_at_call 59; refine (Trim_eq R T HT _).mono ?_; rintro e w5 ⟨rfl, rfl⟩) | (at_builtin; refine wpList_append1 w3 (.string F) _ rfl _ _ _ rfl w.heap.size 9 i0 _ 16 Tryz.underlying26 hi0 hz0 hz1 hz2 rfl _ _ _ rfl hown3 rfl rfl (by unfold maxLen; omega) (by omega) hs3 ?_; intro v1 w4 hown4 hb4))
        go_roundw
        case rel => exact ⟨T, _, rfl, HX, hsz2, by rw [List.length_append]; simpa [sv_lst] using hown4, hbw3.trans hb4⟩
        case measure => simp [strOf]; omega
    · have HX := hid (cutAtF_end hat.out (by omega))
      obtain rfl : r = ByteArray.empty := ByteArray.size_eq_zero_iff.1 (by omega)
      obtain ⟨A, q, rfl⟩ := own_slice hown
      go_wp2
      all_goals go_ret2
      all_goals exact fieldsOut_some HX.out hown hb
end Go.Proofs.YtpgeeeamcncpkaaGreatDoor

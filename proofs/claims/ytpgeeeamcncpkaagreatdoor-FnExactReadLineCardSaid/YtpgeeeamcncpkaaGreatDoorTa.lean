/- What StripComment of the model and of the program return. -/
import Derived.Test.YtpgeeeamcncpkaaGreatDoorB
import Derived.Handy
import Derived.Test.YtpgeeeamcncpkaaGreatDoorMc
namespace Go.Proofs.YtpgeeeamcncpkaaGreatDoor
open Go.RowKit
set_option maxRecDepth 100000
set_option linter.unusedVariables false

/-- What is left of a line from a place on. -/
def StripAt (s : ByteArray) (k : Nat) (q : Bool) : Prop := Z.strip false (lst s) = (lst s).take k ++ Z.strip q ((lst s).drop k)
theorem byte_is {c : UInt8} {n : Nat} (hn : n < 256) : ((c.toNat : Int) = n) ↔ c = UInt8.ofNat n := by
  rw [← UInt8.toNat_inj]; simp; omega
theorem stripAt_start (s : ByteArray) : StripAt s 0 false := by simp [StripAt]
theorem stripAt_quote {s : ByteArray} {k : Nat} {q : Bool} (h : StripAt s k q) (hk : k < s.size) (hc : (s[k].toNat : Int) = 34) : StripAt s (k + 1) (!q) := by
  unfold StripAt at h ⊢
  have e : s[k] = 34 := (byte_is (n := 34) (by decide)).1 hc
  rw [h, lst_drop s k hk, lst_take_succ s k hk, Z.strip, if_pos e]
  simp
theorem stripAt_plain {s : ByteArray} {k : Nat} {q : Bool} (h : StripAt s k q) (hk : k < s.size) (hc : ¬ (s[k].toNat : Int) = 34) (hd : ¬ ((s[k].toNat : Int) = 59 ∧ q = false)) : StripAt s (k + 1) q := by
  unfold StripAt at h ⊢
  rw [h, lst_drop s k hk, lst_take_succ s k hk, Z.strip, if_neg (fun e => hc (by rw [e]; rfl)), if_neg (fun e => hd ⟨by rw [e.1]; rfl, e.2⟩)]
  simp
theorem stripAt_end {s : ByteArray} {k : Nat} (h : StripAt s k false) (hk : k < s.size) (hc : (s[k].toNat : Int) = 59) : s.extract 0 k = bs (Z.strip false (lst s)) := by
  unfold StripAt at h
  have e : s[k] = 59 := (byte_is (n := 59) (by decide)).1 hc
  apply lst_inj
  rw [lst_bs, h, lst_drop s k hk, Z.strip, if_neg (by rw [e]; decide), if_pos ⟨e, rfl⟩, lst_extract]
  simp
theorem stripAt_all {s : ByteArray} {q : Bool} (h : StripAt s s.size q) : s = bs (Z.strip false (lst s)) := by
  unfold StripAt at h
  apply lst_inj
  rw [lst_bs, h, List.drop_eq_nil_of_le (by rw [lst_length]; exact Nat.le_refl _), List.take_of_length_le (by rw [lst_length]; exact Nat.le_refl _)]
  simp [Z.strip]

set_option maxHeartbeats 1000000 in
theorem StripComment_any (s : ByteArray) (hs : s.size ≤ 67108864) (w : World) :
    Calls Tryz.prog 62 #[.string s] w fun e w' => e = .returned (.string (bs (Z.strip false (lst s)))) ∧ w = w' := by
  go_enter Tryz.func62, Tryz.ntmps62
  go_wp2
  go_loop [3, 4] (fun q i => ∃ (k : Nat) (b : Bool), k ≤ s.size ∧ i = .int .i64 k ∧ q = .bool b ∧ Hid (StripAt s k b)) (fun _ i => s.size - (intOf i).toNat)
  case atStart => exact ⟨0, false, Nat.zero_le _, rfl, rfl, hid (stripAt_start s)⟩
  case round =>
    obtain ⟨k, b, hk, rfl, rfl, hok⟩ := hrel
    by_cases hlt : k < s.size
    · by_cases h34 : (s[k].toNat : Int) = 34
      · have HX := hid (stripAt_quote hok.out hlt h34)
        have h59 : ((s[k].toNat : Int) == 59) = false := by rw [h34]; rfl
        cases b
        · go_wp2
          all_goals exact ⟨⟨k + 1, _, by omega, by go_num, rfl, HX⟩, by simp [intOf]; omega⟩
        · go_wp2
          all_goals exact ⟨⟨k + 1, _, by omega, by go_num, rfl, HX⟩, by simp [intOf]; omega⟩
      · by_cases h59 : (s[k].toNat : Int) = 59
        · cases b
          · have HX := hid (stripAt_end hok.out hlt h59)
            go_wp2
            all_goals go_ret
            all_goals exact ⟨ret_str HX.out, rfl⟩
          · have HX := hid (stripAt_plain hok.out hlt h34 (fun h => by cases h.2))
            go_wp2
            all_goals exact ⟨⟨k + 1, _, by omega, by go_num, rfl, HX⟩, by simp [intOf]; omega⟩
        · have HX := hid (stripAt_plain hok.out hlt h34 (fun h => h59 h.1))
          cases b
          · go_wp2
            all_goals exact ⟨⟨k + 1, _, by omega, by go_num, rfl, HX⟩, by simp [intOf]; omega⟩
          · go_wp2
            all_goals exact ⟨⟨k + 1, _, by omega, by go_num, rfl, HX⟩, by simp [intOf]; omega⟩
    · have hks : k = s.size := by omega
      subst hks
      have HX := hid (stripAt_all hok.out)
      go_wp2
      all_goals go_ret
      all_goals exact ⟨ret_str HX.out, rfl⟩

set_option maxHeartbeats 1000000 in
theorem iStripComment_any (s : ByteArray) (hs : s.size ≤ 67108864) (w : World) :
    Calls Tryz.prog 145 #[.string s] w fun e w' => e = .returned (.string (bs (Z.strip false (lst s)))) ∧ w = w' := by
  go_enter Tryz.func145, Tryz.ntmps145
  go_wp2
  go_loop [3, 7] (fun q i => ∃ (k : Nat) (b : Bool), k ≤ s.size ∧ i = .int .i64 k ∧ q = .bool b ∧ Hid (StripAt s k b)) (fun _ i => s.size - (intOf i).toNat)
  case atStart => exact ⟨0, false, Nat.zero_le _, rfl, rfl, hid (stripAt_start s)⟩
  case round =>
    obtain ⟨k, b, hk, rfl, rfl, hok⟩ := hrel
    by_cases hlt : k < s.size
    · by_cases h34 : (s[k].toNat : Int) = 34
      · have HX := hid (stripAt_quote hok.out hlt h34)
        have h59 : ((s[k].toNat : Int) == 59) = false := by rw [h34]; rfl
        cases b
        · go_wp2
          all_goals exact ⟨⟨k + 1, _, by omega, by go_num, rfl, HX⟩, by simp [intOf]; omega⟩
        · go_wp2
          all_goals exact ⟨⟨k + 1, _, by omega, by go_num, rfl, HX⟩, by simp [intOf]; omega⟩
      · by_cases h59 : (s[k].toNat : Int) = 59
        · cases b
          · have HX := hid (stripAt_end hok.out hlt h59)
            go_wp2
            all_goals go_ret
            all_goals exact ⟨ret_str HX.out, rfl⟩
          · have HX := hid (stripAt_plain hok.out hlt h34 (fun h => by cases h.2))
            go_wp2
            all_goals exact ⟨⟨k + 1, _, by omega, by go_num, rfl, HX⟩, by simp [intOf]; omega⟩
        · have HX := hid (stripAt_plain hok.out hlt h34 (fun h => h59 h.1))
          cases b
          · go_wp2
            all_goals exact ⟨⟨k + 1, _, by omega, by go_num, rfl, HX⟩, by simp [intOf]; omega⟩
          · go_wp2
            all_goals exact ⟨⟨k + 1, _, by omega, by go_num, rfl, HX⟩, by simp [intOf]; omega⟩
    · have hks : k = s.size := by omega
      subst hks
      have HX := hid (stripAt_all hok.out)
      go_wp2
      all_goals go_ret
      all_goals exact ⟨ret_str HX.out, rfl⟩
end Go.Proofs.YtpgeeeamcncpkaaGreatDoor

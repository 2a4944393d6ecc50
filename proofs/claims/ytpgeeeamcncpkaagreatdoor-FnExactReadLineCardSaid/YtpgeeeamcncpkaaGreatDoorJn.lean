/- What strconv.Itoa, strings.Join and joinNumbers of the program return. -/
import Derived.Test.YtpgeeeamcncpkaaGreatDoorBk
import Derived.Test.YtpgeeeamcncpkaaGreatDoorIa
import Derived.Test.YtpgeeeamcncpkaaGreatDoorShelf
import Derived.Lib.Join
namespace Go.Proofs.YtpgeeeamcncpkaaGreatDoor
open Go.RowKit
set_option maxRecDepth 100000
set_option linter.unusedVariables false

/-- The table of powers lies as the library's text lays it. -/
def PT (w : World) : Prop := 2 < w.heap.size ∧ Lib.TabIs Tryz.prog w "internal/strconv.uint64pow10" .u64 Lib.pow10Tab
theorem gPow : Tryz.prog.globalNamed "internal/strconv.uint64pow10" = some 2 := by kernel_rfl
theorem PT.below {w w' : World} (h : PT w) (hb : Below w.heap.size w w') : PT w' := ⟨by have := hb.size; have := h.1; omega, var?_below hb gPow h.1 h.2⟩
theorem below_more (w : World) (k : Nat) (os : Array Obj) : Below w.heap.size w (Go.Sort.grow (w.drewN k) os) :=
  ⟨rfl, rfl, rfl, by show w.heap.size ≤ (w.heap ++ os).size; simp, fun i hi => by
    show (w.heap ++ os)[i]? = w.heap[i]?
    exact Array.getElem?_append_left hi⟩
theorem Itoa_any (z : Int) (h0 : 0 ≤ z) (h1 : z ≤ 4294967295) (w : World) (ht : PT w) :
    Calls Tryz.prog 55 #[.int .i64 z] w fun e w' => e = .returned (.string (bs (Lib.itoa z))) ∧ Below w.heap.size w w' := by
  refine (Tryz.strconv_Itoa z (by omega) (by omega) w ht.2).mono ?_
  rintro e w' ⟨rfl, k, os, rfl⟩
  exact ⟨rfl, below_more w k os⟩
theorem Itoa_eq (z : Int) (h0 : 0 ≤ z) (h1 : z ≤ 4294967295) (s : ByteArray) (hs : Hid (bs (Lib.itoa z) = s)) (w : World) (ht : PT w) :
    Calls Tryz.prog 55 #[.int .i64 z] w fun e w' => e = .returned (.string s) ∧ Below w.heap.size w w' := by
  have h := Itoa_any z h0 h1 w ht
  rw [hs.out] at h
  exact h
/-- strings.Join of a row of the call's own. -/
theorem Join_own (ls : List Z.Str) (A : Option Addr) (c : Nat) (m : ByteArray) (B : Nat) (w : World) (ho : w.ownsRow B 9 1 (.slice A ls.length c) ls.length (ls.map sv)) (hn : ls.length ≤ 67108864) (hj : (Lib.join ls (lst m)).length ≤ 67108864) :
    Calls Tryz.prog 58 #[.slice A ls.length c, .string m] w fun e w' => e = .returned (.string (bs (Lib.join ls (lst m)))) ∧ Below w.heap.size w w' := by
  have hc := own_cap ho
  have hr := Reads.of_own ho
  rcases Nat.eq_zero_or_pos ls.length with h0 | h0
  · obtain rfl := List.eq_nil_of_length_eq_zero h0
    exact (Tryz.strings_Join_none A c m w).mono fun e w' ⟨he, hw⟩ => ⟨he, hw ▸ Below.refl _ _⟩
  · obtain ⟨g, cap, hv, hbg, hlt⟩ := ho.form h0
    have hA : A = some ⟨g, 0, none⟩ := by injection hv
    subst hA
    obtain ⟨ad, e1, hb, hcell⟩ := hr.2 h0
    injection e1 with e1
    subst e1
    have hm : (ls.map bs).map (·.data.toList) = ls := by
      rw [List.map_map]
      conv => rhs; rw [← List.map_id ls]
      rfl
    have := Tryz.strings_Join g 0 c (ls.map bs) m w (fun j x hx => by
      have h2 := hcell j (.string x) (by rw [List.getElem?_map] at hx ⊢; cases hl : ls[j]? with
                                         | none => rw [hl] at hx; cases hx
                                         | some l => rw [hl] at hx; simp at hx; subst hx; rfl)
      have e2 : (⟨g, 0, none⟩ : Addr).add j = ⟨g, 0 + j, none⟩ := by unfold Addr.add; split <;> simp_all
      rwa [e2] at h2) hlt (by simp; omega) (by simpa using hc.1) (by rw [hm]; show (Lib.join ls (lst m)).length ≤ _; omega)
    rw [List.length_map, hm] at this
    exact this
theorem infoStrz : (Tryz.prog.info? 9).map (fun i => (i.zero, i.size, i.bytes)) = some (some (.string ⟨#[]⟩), 1, 16) := by kernel_rfl

set_option maxHeartbeats 1000000 in
theorem joinNumbers_any (zs : List Int) (B : Nat) (A : Option Addr) (n c : Nat) (m : ByteArray) (w : World) (hr : Reads w B A n (zs.map iv)) (hB : B ≤ w.heap.size) (hn : n ≤ 100) (hz : Hid (∀ z ∈ zs, 0 ≤ z ∧ z ≤ 4294967295)) (ht : PT w) (hj : (Lib.join (zs.map Lib.itoa) (lst m)).length ≤ 67108864) :
    Calls Tryz.prog 220 #[.slice A n c, .string m] w fun e w' => e = .returned (.string (bs (Lib.join (zs.map Lib.itoa) (lst m)))) ∧ Below w.heap.size w w' := by
  have hlen := hid (reads_len hr)
  have HJ := hid hj
  clear hj
  obtain ⟨i0, hi0, hz0, hz1, hz2⟩ := info_parts infoStrz
  go_enter Tryz.func220, Tryz.ntmps220
  go_wp2
  go_loopw [5, 10] (fun v i wr => ∃ k : Nat, k ≤ n ∧ i = .int .i64 k ∧ wr.ownsRow w.heap.size 9 1 v k (((zs.take k).map Lib.itoa).map sv) ∧ Below w.heap.size w wr) (fun _ i _ => n - (intOf i).toNat)
  case atStart => exact ⟨0, Nat.zero_le _, rfl, by simpa using World.ownsRow_nil w w.heap.size 9 1, Below.refl _ _⟩
  case round =>
    obtain ⟨k, hk, rfl, hown, hb⟩ := hrel
    by_cases hlt : k < n
    · obtain ⟨ad, rfl, hab, hcell⟩ := reads_int (hr.below hb hB) hlt
      have hkz : k < zs.length := by rw [hlen.out]; exact hlt
      have hzk := hz.out (zs.getD k 0) (by simp [hkz])
      obtain ⟨z, hzz⟩ : ∃ z, z = zs.getD k 0 := ⟨_, rfl⟩
      obtain ⟨s, hs⟩ : ∃ s, bs (Lib.itoa z) = s := ⟨_, rfl⟩
      have hnext : ((zs.take (k + 1)).map Lib.itoa).map sv = ((zs.take k).map Lib.itoa).map sv ++ [.string s] := by
        have e : zs[k] = z := by rw [hzz]; simp [hkz]
        rw [List.take_succ_eq_append_getElem hkz, e]
        simp [sv, hs]
      rw [← hzz] at hcell hzk
      obtain ⟨h0, h1⟩ := hzk
      have HN := hid hnext
      have HS := hid hs
      have hbs := hb.size
      clear hnext hs hzz
      go_wp2_with (first
        | (go_at_call 55; refine (Itoa_eq z h0 h1 s HS _ (ht.below hb)).mono ?_; rintro e w9 ⟨rfl, hb9⟩; have hown9 := own_next hown hb9; have hbw9 := hb.trans (hb9.mono hbs); have hbs9 := hbw9.size)
        | (at_builtin; refine wpList_append1 w9 (.string s) _ rfl (.tmp 14) (.tmp 17) _ rfl w.heap.size 9 i0 _ 16 Tryz.underlying26 hi0 hz0 hz1 hz2 rfl _ _ _ rfl hown9 rfl rfl (by unfold maxLen; omega) (by omega) hbs9 ?_; intro v1 w1 hown1 hb1))
      go_roundw
      case rel => exact ⟨k + 1, by omega, by go_num, by rw [HN.out]; exact hown1, hbw9.trans hb1⟩
      case measure => simp [intOf]; omega
    · have hks : k = n := by omega
      have hall : zs.take k = zs := List.take_of_length_le (by rw [hlen.out]; omega)
      rw [hall] at hown
      obtain ⟨A2, c2, rfl⟩ := own_slice hown
      have hl2 : (zs.map Lib.itoa).length = k := by rw [List.length_map, hlen.out, hks]
      have HH := hid hl2
      have hjn := Join_own (zs.map Lib.itoa) A2 c2 m w.heap.size wr (by rw [hl2]; exact hown) (by rw [hl2]; omega) HJ.out
      rw [hl2] at hjn
      clear hl2 hall hks hown
      go_wp2_with (go_at_call 58; refine hjn.mono ?_; rintro e w9 ⟨rfl, hb9⟩)
      go_ret
      exact ⟨rfl, hb.trans (hb9.mono hb.size)⟩
end Go.Proofs.YtpgeeeamcncpkaaGreatDoor

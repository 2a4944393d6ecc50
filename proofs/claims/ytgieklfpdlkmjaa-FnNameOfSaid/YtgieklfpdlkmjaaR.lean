/- What the draws of chapter 1 return: labels. -/
import Derived.Test.YtgieklfpdlkmjaaA
namespace Go.Proofs.Ytgieklfpdlkmjaa
open Go.RowKit

def iv (z : Int) : Value := .int .i64 z
theorem own_but {w w' : World} {base g : Nat} {e : TypeId} {v : Value} {n : Nat} {xs : List Value} (h : w.ownsRow base e 1 v n xs) (hb : But g w w') (hg : g < base) : w'.ownsRow base e 1 v n xs := by
  obtain ⟨h1, h2⟩ := h
  refine ⟨h1, ?_⟩
  rcases h2 with h2 | ⟨k, cap, cur, hv, hk, hh, r⟩
  · exact Or.inl h2
  · have hlt : k < w.heap.size := (Array.getElem?_eq_some_iff.1 hh).1
    exact Or.inr ⟨k, cap, cur, hv, hk, by rw [hb.block k hlt (by omega)]; exact hh, r⟩

set_option maxHeartbeats 1000000 in
theorem num_any (g p B : Nat) (A : Option Addr) (n c : Nat) (zs : List Int) (w : World) (hr : Rd w g p) (hp : p ≤ 1000000) (hrd : Reads w B A n (zs.map iv)) (hB : B ≤ w.heap.size) (hn1 : 1 ≤ n) (hn2 : n ≤ 1048576) (hA : ∀ ad, A = some ad → ad.block ≠ g) :
    Calls Try.prog 53 #[.pointer (some ⟨g, 0, none⟩), .slice A n c] w fun e w' => ∃ z : Int, e = .returned (.int .i64 z) ∧ z ∈ zs ∧ Rd w' g (p + 1) ∧ But g w w' := by
  obtain rfl : n = zs.length := by simpa using hrd.1.symm
  have HA := hid hA
  clear hA
  go_enter Try.func53, Try.ntmps53
  go_wp2_with fail
  refine (pick_any g p _ w hr hp (by omega) (by omega)).mono ?_
  rintro e w1 ⟨i, rfl, hi0, hi1, hr1, hb1⟩
  obtain ⟨k, rfl⟩ := Int.eq_ofNat_of_zero_le hi0
  have hk : k < zs.length := by omega
  obtain ⟨ad, u, rfl, hab, hx, hcell⟩ := (hb1.reads hrd hB (fun _ => HA.out)).at_ hk
  rw [List.getElem?_map, List.getElem?_eq_getElem hk] at hx
  simp only [Option.map_some, Option.some.injEq] at hx
  subst hx
  obtain ⟨z, hz⟩ : ∃ z, z = zs[k] := ⟨_, rfl⟩
  have hzm : z ∈ zs := by rw [hz]; exact List.getElem_mem _
  unfold iv at hcell
  rw [← hz] at hcell
  clear hz
  go_wp2_with fail
  go_ret
  exact ⟨z, rfl, hzm, hr1, hb1⟩

def numList : List Int := [2, 3, 1, 0, 8, 9]
theorem numList_le : ∀ z ∈ numList, 0 ≤ z ∧ z ≤ 9 := by decide
def labTexts : List Z.Str := [[97], [98], [119, 119, 119], [120, 45, 49], [97], [98], [97, 98], [99]]
theorem labTexts_le : ∀ l ∈ labTexts, l.length ≤ 12 := by decide
def oddTexts : List Z.Str := [[], [42], [97, 46, 98], [65], [97, 98, 99, 100, 101, 102, 103, 104, 105, 106, 107]]
theorem oddTexts_le : ∀ l ∈ oddTexts, l.length ≤ 12 := by decide

/-- A new row of numbers as an argument. -/
theorem with_nums {w : World} {g p : Nat} (hr : Rd w g p) (zs : List Int) (t : TypeId) :
    Rd (w.alloc (.cells (zs.map iv).toArray t)) g p ∧ Reads (w.alloc (.cells (zs.map iv).toArray t)) (w.heap.size + 1) (some ⟨w.heap.size, 0, none⟩) zs.length (zs.map iv) ∧
      But g w (w.alloc (.cells (zs.map iv).toArray t)) ∧ w.heap.size + 1 ≤ (w.alloc (.cells (zs.map iv).toArray t)).heap.size ∧ ∀ ad : Addr, some (⟨w.heap.size, 0, none⟩ : Addr) = some ad → ad.block ≠ g := by
  have hgl := hr.lt
  have h := reads_alloc w (zs.map iv) t
  rw [List.length_map] at h
  refine ⟨hr.but ((Below.refl _ _).alloc (Nat.le_refl _) _), h, (But.refl g w).alloc _, by simp, fun ad e => ?_⟩
  injection e with e
  subst e
  show w.heap.size ≠ g
  omega

set_option maxHeartbeats 2000000 in
theorem DrawNameOf_any (A : Option Addr) (c : Nat) (zs : List UInt8) (w : World) (hcode : Code w A c zs) :
    Calls Try.prog 22 #[.slice A zs.length c] w fun e w' => ∃ A c ls, e = .returned (.slice A (List.length ls) c) ∧ w'.ownsRow w.heap.size 9 1 (.slice A ls.length c) ls.length (ls.map sv) ∧ ls.length ≤ 9 ∧ Hid (∀ l ∈ ls, List.length l ≤ 12) ∧ Below w.heap.size w w' := by
  obtain ⟨i0, hi0, hz0, hz1, hz2⟩ := info_parts infoStr
  go_enter Try.func22, Try.ntmps22
  go_wp2_with fail
  refine (l13Open_any A c zs w hcode.1 hcode.2.1 hcode.2.2.1 hcode.2.2.2).mono ?_
  rintro e w1 ⟨rfl, hr1, hb1⟩
  have hgl := hr1.lt
  have hr1' := hr1.but ((Below.refl w1.heap.size w1).alloc (Nat.le_refl _) (.cells #[] 9))
  obtain ⟨hr2, hrd2, hb2, hB2, hA2⟩ := with_nums hr1' numList 3
  have es : (w1.alloc (.cells #[] 9)).heap.size = w1.heap.size + 1 := by simp
  rw [es] at hrd2 hB2 hA2
  clear es
  have HA2 := hid hA2
  clear hA2
  go_wp2_with fail
  refine (num_any _ _ _ _ 6 6 numList _ (by exact hr2) (by omega) (by exact hrd2) (by exact hB2) (by omega) (by omega) HA2.out).mono ?_
  rintro e w3 ⟨z, rfl, hzm, hr3, hb3⟩
  obtain ⟨hz9, hz10⟩ := numList_le z hzm
  obtain ⟨m0, rfl⟩ := Int.eq_ofNat_of_zero_le hz9
  have hown0 := World.ownsRow_made (e := 9) (size := 1) w1 #[] 0 hgl (by decide) (by simp)
  have hown3 := own_but (own_but hown0 hb2 (by omega)) hb3 (by omega)
  have hbw3 : Below w.heap.size w w3 := (hb1.alloc (by have := hb1.size; omega) _).trans ((hb2.trans hb3).below (Nat.le_refl _) (by simp; omega))
  clear hrd2 hB2 hb2 hb3 hr2 hr1 hr1' hown0 hzm
  go_wp2_with fail
  go_loopw [4, 5] (fun v i wr => ∃ (m q : Nat) (done : List Z.Str), i = .int .i64 (m : Int) ∧ m + done.length ≤ 9 ∧ q ≤ 100 + done.length ∧ Rd wr w.heap.size q ∧ wr.ownsRow (w.heap.size + 1) 9 1 v done.length (done.map sv) ∧ Hid (∀ l ∈ done, List.length l ≤ 12) ∧ Below w.heap.size w wr) (fun _ i _ => (intOf i).toNat)
  case atStart => exact ⟨m0, _, [], rfl, by simp; omega, by simp, hr3, hown3, hid (fun l hl => by cases hl), hbw3⟩
  case round =>
    obtain ⟨m, q, done, rfl, hmd, hq, hr, hown, hlen, hb⟩ := hrel
    have hgw := hr.lt
    obtain ⟨A1, c1, rfl⟩ := own_slice hown
    by_cases hm : 0 < m
    · obtain ⟨hr4, hrd4, hb4, hB4, hA4⟩ := with_row hr labTexts 9
      have HA4 := hid hA4
      clear hA4
      go_wp2_with fail
      refine (of_any _ _ 12 _ _ 8 8 labTexts _ (by exact hr4) (by omega) (by exact hrd4) (by exact hB4) (by omega) (by omega) HA4.out labTexts_le).mono ?_
      rintro e w5 ⟨x, rfl, hx, hr5, hb5⟩
      have hown5 := own_but (own_but hown hb4 (by omega)) hb5 (by omega)
      have hb45 := (hb4.trans hb5).below (Nat.le_refl _) (by omega)
      have hbw5 := hb.trans hb45
      have hgw5 := hr5.lt
      clear hrd4 hB4 hb4 hb5 hr4 hown
      go_wp2_with (at_builtin; refine wpList_append1 w5 (.string x) _ rfl (.tmp 16) (.tmp 20) _ rfl (w.heap.size + 1) 9 i0 _ 16 Try.underlying24 hi0 hz0 hz1 hz2 rfl _ _ _ rfl hown5 rfl rfl (by unfold maxLen; omega) (by omega) hgw5 ?_; intro v6 w6 hown6 hb6)
      have hr6 : Rd w6 w.heap.size (q + 1) := by
        obtain ⟨A7, c7, z7, k1, k2, k3⟩ := hr5
        exact ⟨A7, c7, z7, k1, (hb6.block _ (by omega)).trans k2, k3.below hb6 (by omega)⟩
      refine ⟨⟨m - 1, q + 1, done ++ [lst x], by go_num, by simp; omega, by simp; omega, hr6, by simpa [sv_lst] using hown6, hid (fun l hl => ?_), hbw5.trans (hb6.mono (by omega))⟩, by simp [intOf]; omega⟩
      rcases List.mem_append.1 hl with hl | hl
      · exact hlen.out l hl
      · simp at hl; subst hl; rw [lst_length]; exact hx
    · obtain rfl : m = 0 := by omega
      have hdl : done.length ≤ 9 := by omega
      by_cases hd0 : 0 < done.length
      · go_wp2_with fail
        refine (pick_any _ _ _ wr hr (by omega) (by omega) (by omega)).mono ?_
        rintro e w5 ⟨i, rfl, hi0', hi1, hr5, hb5⟩
        have hown5 := own_but hown hb5 (by omega)
        have hbw5 := hb.trans (hb5.below (Nat.le_refl _) (by omega))
        have hgw5 := hr5.lt
        clear hown hb5
        by_cases hi : i = 0
        · subst hi
          go_wp2_with fail
          refine (pick_any _ _ _ w5 hr5 (by omega) (by omega) (by omega)).mono ?_
          rintro e w6 ⟨i2, rfl, hj0, hj1, hr6, hb6⟩
          obtain ⟨k, rfl⟩ := Int.eq_ofNat_of_zero_le hj0
          have hk : k < done.length := by omega
          have hown6 := own_but hown5 hb6 (by omega)
          have hbw6 := hbw5.trans (hb6.below (Nat.le_refl _) (by omega))
          have hgw6 := hr6.lt
          obtain ⟨hr7, hrd7, hb7, hB7, hA7⟩ := with_row hr6 oddTexts 9
          have HA7 := hid hA7
          clear hA7
          go_wp2_with fail
          refine (of_any _ _ 12 _ _ 5 5 oddTexts _ (by exact hr7) (by omega) (by exact hrd7) (by exact hB7) (by omega) (by omega) HA7.out oddTexts_le).mono ?_
          rintro e w8 ⟨x, rfl, hx, hr8, hb8⟩
          have hown8 := own_but (own_but hown6 hb7 (by omega)) hb8 (by omega)
          have hbw8 := hbw6.trans ((hb7.trans hb8).below (Nat.le_refl _) (by omega))
          obtain ⟨g2, cap2, hv2, hbg, hgl2⟩ := hown8.form hd0
          injection hv2 with hA _ hC
          subst hA
          subst hC
          have hcell : w8.cell? ⟨g2, k, none⟩ = some (.string (bs (done.getD k []))) := by
            rw [hown8.cellAt k (by omega), List.getElem?_map, List.getElem?_eq_getElem hk]
            simp [sv, hk]
          have hfz := hown8.frozenAt k
          obtain ⟨hown9, _⟩ := hown8.stored k (.string x)
          have hset : (done.map sv).set k (.string x) = (done.set k (lst x)).map sv := by rw [List.map_set, sv_lst]
          rw [hset] at hown9
          have hsl : Hid ((done.set k (lst x)).length = done.length) := hid (by simp)
          have hbw9 := hbw8.setCell (p := ⟨g2, k, none⟩) (by show w.heap.size ≤ g2; omega) (.string x)
          have hle : Hid (∀ l ∈ done.set k (lst x), List.length l ≤ 12) := hid (fun l hl => by
            rcases List.mem_or_eq_of_mem_set hl with h | h
            · exact hlen.out l h
            · rw [h, lst_length]; exact hx)
          clear hown8 hown6 hrd7 hB7 hb7 hb8 hr7 hset
          go_wp2_with fail
          go_ret
          refine ⟨some ⟨g2, 0, none⟩, c1, done.set k (lst x), (by rw [hsl.out]; rfl), (by rw [hsl.out]; exact own_mono hown9 (by omega)), (by rw [hsl.out]; omega), hle, hbw9⟩
        · have hi' : (i == 0) = false := by simpa using hi
          clear hi
          go_wp2_with fail
          go_ret
          exact ⟨_, _, done, rfl, own_mono hown5 (by omega), hdl, hlen, hbw5⟩
      · go_wp2_with fail
        go_ret
        exact ⟨_, _, done, rfl, own_mono hown (by omega), hdl, hlen, hb⟩
end Go.Proofs.Ytgieklfpdlkmjaa

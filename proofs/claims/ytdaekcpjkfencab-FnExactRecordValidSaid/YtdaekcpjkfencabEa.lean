/- What the helpers of the exact laws return for records. -/
import Derived.Test.YtdaekcpjkfencabIf
namespace Go.Proofs.Ytdaekcpjkfencab
open Go.RowKit
set_option maxRecDepth 100000
set_option linter.unusedVariables false

set_option maxHeartbeats 1000000 in
theorem szIntS_any (A : Option Addr) (n c : Nat) (m : Int) (w : World) (hn : n ≤ maxLen) (hm : 0 ≤ m) (hm2 : m ≤ 1048576) :
    Calls Try.prog 18 #[.slice A n c, .int .i64 m] w fun e w' => e = .returned (.int .i64 (if m - n < 0 then -1 else m - n)) ∧ w = w' := by
  unfold maxLen at hn
  go_enter Try.func18, Try.ntmps18
  by_cases h : m - n < 0
  · rw [if_pos h]
    go_wp2
    go_ret
    exact ⟨rfl, rfl⟩
  · rw [if_neg h]
    go_wp2
    go_ret
    exact ⟨rfl, rfl⟩

/-- What szRecord leaves of m, or less than 0. -/
def SzLeft (nm n tg tx : Nat) (m k : Int) : Prop := k ≤ m ∧ (0 ≤ k → nm + n + tg + tx ≤ m)
set_option maxHeartbeats 4000000 in
theorem szRecord_any (aN : ByteArray) (aT aK : Int) (aA : Option Addr) (aL aC : Nat) (aG aX : ByteArray) (aZ : List Int) (aB : Nat) (m : Int) (w : World) (hN : aN.size ≤ maxLen) (hL : aL ≤ maxLen) (hG : aG.size ≤ maxLen) (hX : aX.size ≤ maxLen) (hm : 0 ≤ m) (hm2 : m ≤ 1048576) :
    Calls Try.prog 7 #[.agg #[.string aN, .int .i64 aT, .int .i64 aK, .slice aA aL aC, .string aG, .string aX], .int .i64 m] w fun e w' => ∃ k : Int, e = .returned (.int .i64 k) ∧ Hid (SzLeft aN.size aL aG.size aX.size m k) ∧ Below w.heap.size w w' := by
  unfold maxLen at hN hG hX
  have hL' := hL
  unfold maxLen at hL'
  go_enter Try.func7, Try.ntmps7
  by_cases h1 : m - aN.size < 0
  · go_wp2
    go_ret
    exact ⟨_, rfl, hid ⟨by omega, fun h => absurd h (by decide)⟩, by go_grown⟩
  · go_wp2_with fail
    refine (szIntS_any _ _ _ _ _ hL (by omega) (by omega)).mono ?_
    rintro e w2 ⟨rfl, rfl⟩
    by_cases h2 : m - aN.size - aL < 0
    · rw [if_pos h2]
      go_wp2
      go_ret
      exact ⟨_, rfl, hid ⟨by omega, fun h => absurd h (by decide)⟩, by go_grown⟩
    · rw [if_neg h2]
      by_cases h3 : m - aN.size - aL - aG.size < 0
      · go_wp2
        go_ret
        exact ⟨_, rfl, hid ⟨by omega, fun h => absurd h (by decide)⟩, by go_grown⟩
      · by_cases h4 : m - aN.size - aL - aG.size - aX.size < 0
        · go_wp2
          go_ret
          exact ⟨_, rfl, hid ⟨by omega, fun h => absurd h (by decide)⟩, by go_grown⟩
        · go_wp2
          go_ret
          exact ⟨_, rfl, hid ⟨by omega, fun h => by omega⟩, by go_grown⟩

/-- The first k numbers, and zeros behind them. -/
def copiedI (ls : List Int) (k : Nat) : List Int := ls.take k ++ List.replicate (ls.length - k) 0
theorem copiedI_length (ls : List Int) (k : Nat) (h : k ≤ ls.length) : (copiedI ls k).length = ls.length := by simp [copiedI]; omega
theorem copiedI_set (ls : List Int) (k : Nat) (h : k < ls.length) : (copiedI ls k).set k (ls.getD k 0) = copiedI ls (k + 1) := by
  have e : ls.getD k 0 = ls[k] := by simp [h]
  unfold copiedI
  rw [e, List.take_succ_eq_append_getElem h, List.set_append_right _ _ (by simp; omega)]
  have e2 : ls.length - k = (ls.length - (k + 1)) + 1 := by omega
  have e3 : k - (ls.take k).length = 0 := by rw [List.length_take]; omega
  rw [e2, e3, List.replicate_succ, List.set_cons_zero, List.append_assoc]
  rfl
theorem copiedI_all (ls : List Int) : copiedI ls ls.length = ls := by simp [copiedI]
theorem made_zero (n : Nat) : (madeCells #[Value.int .i64 0] (n * 1)).toList = (List.replicate n (0 : Int)).map iv := by
  apply List.ext_getElem?
  intro i
  rw [List.getElem?_map]
  by_cases h : i < n
  · rw [List.getElem?_replicate, if_pos h]
    simp [madeCells, h, Nat.mod_one]
    rfl
  · rw [List.getElem?_replicate, if_neg h]
    simp [madeCells]
    omega
theorem infoInt3 : (Try.prog.info? 3).map (fun i => (i.zero, i.size, i.bytes)) = some (some (.int .i64 0), 1, 8) := by kernel_rfl

set_option maxHeartbeats 1000000 in
theorem toIntS_any (ls : List Int) (B : Nat) (A : Option Addr) (n c : Nat) (w : World) (hr : Reads w B A n (ls.map iv)) (hB : B ≤ w.heap.size) (hn : n ≤ 1048576) :
    Calls Try.prog 23 #[.slice A n c] w fun e w' => ∃ A2 c2, e = .returned (.slice A2 n c2) ∧ w'.ownsRow w.heap.size 3 1 (.slice A2 n c2) n (ls.map iv) ∧ Below w.heap.size w w' := by
  obtain rfl : n = ls.length := (reads_len hr).symm
  obtain ⟨i0, hi0, hz0, hz1, hz2⟩ := info_parts infoInt3
  go_enter Try.func23, Try.ntmps23
  go_wp2_with (at_make; refine wpList_make_full _ rfl _ _ 22 rfl w.heap.size 3 i0 _ 1 Try.underlying22 hi0 hz0 hz1 _ _ _ _ ls.length rfl rfl rfl rfl (by rw [hz2]; omega) (by unfold maxLen; omega) (Nat.le_refl _) ?_; intro w1 hown1 hg1)
  have hb1 : Below w.heap.size w w1 := (Below.refl _ _).grown hg1 (Nat.le_refl _) (fun k h => by cases h)
  have hown2 : w1.ownsRow w.heap.size 3 1 (.slice (some ⟨w.heap.size, 0, none⟩) ls.length ls.length) ls.length ((copiedI ls 0).map iv) := by
    have : copiedI ls 0 = List.replicate ls.length 0 := by simp [copiedI]
    rw [this, ← made_zero]
    exact hown1
  clear hown1 hg1
  go_loopw [4] (fun i wr => ∃ k : Nat, k ≤ ls.length ∧ i = .int .i64 k ∧ wr.ownsRow w.heap.size 3 1 (.slice (some ⟨w.heap.size, 0, none⟩) ls.length ls.length) ls.length ((copiedI ls k).map iv) ∧ Below w.heap.size w wr) (fun i _ => ls.length - (intOf i).toNat)
  case atStart => exact ⟨0, Nat.zero_le _, rfl, hown2, hb1⟩
  case round =>
    obtain ⟨k, hk, rfl, ho, hb⟩ := hrel
    by_cases hlt : k < ls.length
    · obtain ⟨ad, rfl, hab, hcell⟩ := reads_int (hr.below hb hB) hlt
      obtain ⟨x, hx⟩ : ∃ x, x = ls.getD k 0 := ⟨_, rfl⟩
      rw [← hx] at hcell
      have HX := hid hx
      clear hx
      have hcl := hid (copiedI_length ls k hk)
      have hcell2 : wr.cell? ⟨w.heap.size, k, none⟩ = some (.int .i64 ((copiedI ls k).getD k 0)) := by
        rw [ho.cellAt k (by omega), List.getElem?_map, List.getElem?_eq_getElem (by rw [hcl.out]; exact hlt)]
        simp [iv, hcl.out, hlt]
      have hfz := ho.frozenAt k
      obtain ⟨ho3, _⟩ := ho.stored k (.int .i64 x)
      have hset : ((copiedI ls k).map iv).set k (.int .i64 x) = (copiedI ls (k + 1)).map iv := by
        rw [show Value.int .i64 x = iv x from rfl, ← List.map_set, HX.out, copiedI_set ls k hlt]
      rw [hset] at ho3
      have hb3 := hb.setCell (p := ⟨w.heap.size, k, none⟩) (Nat.le_refl _) (.int .i64 x)
      have hcell0 : k = 0 → wr.cell? ad = some (.int .i64 x) := fun e => by subst e; simpa [Addr.add] using hcell
      clear hset ho
      go_wp2_with fail
      all_goals exact ⟨⟨k + 1, by omega, by go_num, ho3, hb3⟩, by simp [intOf]; omega⟩
    · obtain rfl : k = ls.length := by omega
      rw [copiedI_all] at ho
      go_wp2_with fail
      go_ret
      exact ⟨_, _, rfl, ho, hb⟩

set_option maxHeartbeats 400000 in
theorem eqIntS_any (xs : List Int) (B B' : Nat) (A A' : Option Addr) (n c c' : Nat) (w : World) (hx : Reads w B A n (xs.map iv)) (hy : Reads w B' A' n (xs.map iv)) (hn : n ≤ 67108864) :
    Calls Try.prog 25 #[.slice A n c, .slice A' n c'] w fun e w' => e = .returned (.bool true) ∧ Below w.heap.size w w' := by
  have hl1 := hid (reads_len hx)
  go_enter Try.func25, Try.ntmps25
  go_wp2
  go_loopw [5] (fun i wr => ∃ (k nq : Nat), k ≤ n ∧ i = .int .i64 k ∧ wr = w.drewN nq) (fun i _ => n - (intOf i).toNat)
  case atStart => exact ⟨0, 0, Nat.zero_le _, rfl, rfl⟩
  case round =>
    obtain ⟨k, nq, hk, rfl, rfl⟩ := hrel
    by_cases hlt : k < n
    · obtain ⟨ad2, rfl, hab2, hcell2⟩ := reads_int hy hlt
      obtain ⟨ad1, rfl, hab1, hcell1⟩ := reads_int hx hlt
      go_wp2_with fail
      go_quiet (fail)
      go_wp2
      exact ⟨⟨k + 1, _, by omega, by go_num, rfl⟩, by simp [intOf]; omega⟩
    · go_wp2
      go_ret
      exact ⟨rfl, by repeat (first | exact Below.refl _ _ | refine below_drewN ?_ _)⟩

/-- Two records with the same fields are equal. -/
theorem eqRecord_any (aN : ByteArray) (aT aK : Int) (aA : Option Addr) (aL aC : Nat) (aG aX : ByteArray) (aZ : List Int) (aB : Nat) (bA : Option Addr) (bC bB : Nat) (w : World) (hra : Reads w aB aA aL (aZ.map iv)) (hba : aB ≤ w.heap.size) (hla : aL ≤ 67108864) (hrb : Reads w bB bA aL (aZ.map iv)) (hbb : bB ≤ w.heap.size) :
    Calls Try.prog 11 #[.agg #[.string aN, .int .i64 aT, .int .i64 aK, .slice aA aL aC, .string aG, .string aX], .agg #[.string aN, .int .i64 aT, .int .i64 aK, .slice bA aL bC, .string aG, .string aX]] w fun e w' => e = .returned (.bool true) ∧ Below w.heap.size w w' := by
  go_enter Try.func11, Try.ntmps11
  go_wp2_with (go_at_call 25; refine (eqIntS_any aZ aB bB _ _ _ _ _ _ ((hra.alloc (by omega) _).alloc (by simp; omega) _) ((hrb.alloc (by omega) _).alloc (by simp; omega) _) hla).mono ?_; rintro e w3 ⟨rfl, hb3⟩; obtain ⟨hc3, hf3⟩ := bcell hb3)
  clear hc3 hf3
  go_ret
  exact ⟨rfl, (((Below.refl _ _).alloc (Nat.le_refl _) _).alloc (by simp) _).trans (hb3.mono (by simp; omega))⟩

theorem ret_to {a : Act} {W : World} {post : Ending → World → Prop} (b : Nat) {c0 c1 c2 c3 c4 c5 : Value} (hp : a.tmps[2]?.getD undef = .pointer (some ⟨b, 0, none⟩)) (hd : a.defers = [])
    (h0 : W.cell? ⟨b, 0, none⟩ = some c0) (h1 : W.cell? ⟨b, 1, none⟩ = some c1) (h2 : W.cell? ⟨b, 2, none⟩ = some c2) (h3 : W.cell? ⟨b, 3, none⟩ = some c3) (h4 : W.cell? ⟨b, 4, none⟩ = some c4) (h5 : W.cell? ⟨b, 5, none⟩ = some c5)
    (h : post (.returned (.agg #[c0, c1, c2, c3, c4, c5])) W) : bodyPost Try.prog Try.f9 post Exit.ret a W :=
  bodyPost_ret (by simp [results, Try.results9, go_sem, hp, h0, h1, h2, h3, h4, h5]) hd h

set_option maxHeartbeats 4000000 in
theorem toRecord_any (aN : ByteArray) (aT aK : Int) (aA : Option Addr) (aL aC : Nat) (aG aX : ByteArray) (aZ : List Int) (aB : Nat) (w : World) (hra : Reads w aB aA aL (aZ.map iv)) (hba : aB ≤ w.heap.size) (hla : aL ≤ 67108864) (hl2 : aL ≤ 1048576) :
    Calls Try.prog 9 #[.agg #[.string aN, .int .i64 aT, .int .i64 aK, .slice aA aL aC, .string aG, .string aX]] w fun e w' => ∃ A c, e = .returned (.agg #[.string aN, .int .i64 aT, .int .i64 aK, .slice A aL c, .string aG, .string aX]) ∧ Reads w' w'.heap.size A aL (aZ.map iv) ∧ Below w.heap.size w w' := by
  go_enter Try.func9, Try.ntmps9
  go_wp2_with fail
  refine (toIntS_any aZ aB _ _ _ _ (hra.below (by go_grown) hba) (by simp; omega) hl2).mono ?_
  rintro e w3 ⟨A, c, rfl, hown, hb3⟩
  obtain ⟨hc3, hf3⟩ := bcell hb3
  have hbw : Below w.heap.size w w3 := Below.trans (by go_grown) (hb3.mono (by simp; omega))
  have r0 : w3.cell? ⟨w.heap.size + 1, 0, none⟩ = some (.string ⟨#[]⟩) := (hc3 _ _ (by simp)).trans (by go_simp)
  have r1 : w3.cell? ⟨w.heap.size + 1, 1, none⟩ = some (.int .i64 0) := (hc3 _ _ (by simp)).trans (by go_simp)
  have r2 : w3.cell? ⟨w.heap.size + 1, 2, none⟩ = some (.int .i64 0) := (hc3 _ _ (by simp)).trans (by go_simp)
  have r3 : w3.cell? ⟨w.heap.size + 1, 3, none⟩ = some (.slice none 0 0) := (hc3 _ _ (by simp)).trans (by go_simp)
  have r4 : w3.cell? ⟨w.heap.size + 1, 4, none⟩ = some (.string ⟨#[]⟩) := (hc3 _ _ (by simp)).trans (by go_simp)
  have r5 : w3.cell? ⟨w.heap.size + 1, 5, none⟩ = some (.string ⟨#[]⟩) := (hc3 _ _ (by simp)).trans (by go_simp)
  go_wp2
  have o1 := ownsRow_setCell_below hown (a := ⟨w.heap.size + 1 + 1, 3, none⟩) (by first | (simp; done) | (simp; omega)) (.slice A aL c)
  have o2 := ownsRow_setCell_below o1 (a := ⟨w.heap.size + 1 + 1, 4, none⟩) (by first | (simp; done) | (simp; omega)) (.string aG)
  have o3 := ownsRow_setCell_below o2 (a := ⟨w.heap.size + 1 + 1, 5, none⟩) (by first | (simp; done) | (simp; omega)) (.string aX)
  have o4 := ownsRow_setCell_below o3 (a := ⟨w.heap.size + 1, 0, none⟩) (by first | (simp; done) | (simp; omega)) (.string aN)
  have o5 := ownsRow_setCell_below o4 (a := ⟨w.heap.size + 1, 1, none⟩) (by first | (simp; done) | (simp; omega)) (.int .i64 aT)
  have o6 := ownsRow_setCell_below o5 (a := ⟨w.heap.size + 1, 2, none⟩) (by first | (simp; done) | (simp; omega)) (.int .i64 aK)
  have o7 := ownsRow_setCell_below o6 (a := ⟨w.heap.size + 1, 3, none⟩) (by first | (simp; done) | (simp; omega)) (.slice A aL c)
  have o8 := ownsRow_setCell_below o7 (a := ⟨w.heap.size + 1, 4, none⟩) (by first | (simp; done) | (simp; omega)) (.string aG)
  have o9 := ownsRow_setCell_below o8 (a := ⟨w.heap.size + 1, 5, none⟩) (by first | (simp; done) | (simp; omega)) (.string aX)
  refine ret_to (w.heap.size + 1) rfl rfl (c0 := .string aN) (c1 := .int .i64 aT) (c2 := .int .i64 aK) (c3 := .slice A aL c) (c4 := .string aG) (c5 := .string aX) (by go_simp) (by go_simp) (by go_simp) (by go_simp) (by go_simp) (by go_simp) ⟨A, c, rfl, ?_, ?_⟩
  · exact Reads.of_own o9
  · clear hb3 hc3 hf3
    go_grown
end Go.Proofs.Ytdaekcpjkfencab

/- What the methods 'text' of the program's forms of data return. -/
import Derived.Test.YtpgeeeamcncpkaaGreatDoorJn
import Derived.Test.YtpgeeeamcncpkaaGreatDoorId
import Derived.Test.YtpgeeeamcncpkaaGreatDoorSi
namespace Go.Proofs.YtpgeeeamcncpkaaGreatDoor
open Go.RowKit
set_option maxRecDepth 100000
set_option linter.unusedVariables false

theorem join_between (c : UInt8) (ls : List Z.Str) : Lib.join ls [c] = Z.between c ls := by
  cases ls with
  | nil => rfl
  | cons x r => rw [Lib.join_cons, Z.between_cons]; rfl
theorem between_size {c : UInt8} : ∀ {zs : List Int}, (∀ z ∈ zs, 0 ≤ z ∧ z ≤ 4294967295) → (Z.between c (zs.map Lib.itoa)).length ≤ 20 * zs.length
  | [], _ => by simp [Z.between]
  | z :: r, h => by
    have h1 := itoa_len (h z (by simp)).1 (h z (by simp)).2
    have h2 : ((r.map Lib.itoa).map (c :: ·)).flatten.length ≤ 20 * r.length := by
      clear h1
      induction r with
      | nil => simp
      | cons y q ih =>
        have h3 := itoa_len (h y (by simp)).1 (h y (by simp)).2
        have h4 := ih (fun x hx => h x (by simp only [List.mem_cons] at hx ⊢; rcases hx with hx | hx <;> simp [hx]))
        simp only [List.map_cons, List.flatten_cons, List.length_append, List.length_cons]
        omega
    rw [List.map_cons, Z.between_cons, List.length_append, List.length_cons]
    omega
theorem joined_len {zs : List Int} (c : UInt8) (h : Hid (∀ z ∈ zs, 0 ≤ z ∧ z ≤ 4294967295)) (hl : zs.length ≤ 100) : (Lib.join (zs.map Lib.itoa) [c]).length ≤ 2000 := by
  rw [join_between]
  have := between_size (c := c) h.out
  omega

set_option maxHeartbeats 1000000 in
theorem aText_any (n0 n1 n2 n3 : Int) (w : World) (ht : PT w) (hz : Hid (∀ z ∈ [n0, n1, n2, n3], 0 ≤ z ∧ z ≤ 4294967295)) (g x : Z.Str) :
    Calls Tryz.prog 218 #[.agg #[.int .i64 n0, .int .i64 n1, .int .i64 n2, .int .i64 n3]] w fun e w' => e = .returned (.string (bs (Z.dataText 1 [n0, n1, n2, n3] g x))) ∧ Below w.heap.size w w' := by
  have hjn := joinNumbers_any [n0, n1, n2, n3] (w.heap.size + 1) (some ⟨w.heap.size, 0, none⟩) 4 4 ⟨#[46]⟩ (w.alloc (.cells #[.int .i64 n0, .int .i64 n1, .int .i64 n2, .int .i64 n3] 182)) (reads_new w [.int .i64 n0, .int .i64 n1, .int .i64 n2, .int .i64 n3] _ 0 _ _ rfl (by intro j u hu; simpa [iv] using hu)) (by simp) (by omega) hz (ht.below ((Below.refl _ _).alloc (Nat.le_refl _) _)) (by have := joined_len 46 hz (by simp); exact Nat.le_trans this (by omega))
  have hfin : bs (Lib.join ([n0, n1, n2, n3].map Lib.itoa) (lst ⟨#[46]⟩)) = bs (Z.dataText 1 [n0, n1, n2, n3] g x) := by
    rw [show lst ⟨#[46]⟩ = [46] from rfl, join_between]; rfl
  rw [hfin] at hjn
  clear hfin
  go_enter Tryz.func218, Tryz.ntmps218
  go_wp2_with (go_at_call 220; refine hjn.mono ?_; rintro e w2 ⟨rfl, hb2⟩)
  go_ret
  exact ⟨rfl, ((Below.refl _ _).alloc (Nat.le_refl _) _).trans (hb2.mono (by simp))⟩

set_option maxHeartbeats 1000000 in
theorem tText_any (t : ByteArray) (w : World) (K : Int) (hk : K = 2 ∨ K = 5 ∨ K = 12) (x : Z.Str) :
    Calls Tryz.prog 222 #[.agg #[.string t]] w fun e w' => e = .returned (.string (bs (Z.dataText K [] (lst t) x))) ∧ Below w.heap.size w w' := by
  have hfin : Hid (t = bs (Z.dataText K [] (lst t) x)) := hid (by
    apply lst_inj
    rw [lst_bs]
    rcases hk with rfl | rfl | rfl <;> simp [Z.dataText])
  go_enter Tryz.func222, Tryz.ntmps222
  go_wp2
  go_ret
  exact ⟨ret_str hfin.out, by go_grown⟩

set_option maxHeartbeats 1000000 in
theorem xText_any (t : ByteArray) (ht : t.size ≤ 67108864) (w : World) (zs : List Int) (g : Z.Str) :
    Calls Tryz.prog 228 #[.agg #[.string t]] w fun e w' => e = .returned (.string (bs (Z.dataText 16 zs g (lst t)))) ∧ Below w.heap.size w w' := by
  have hfin : Hid (⟨#[34]⟩ ++ t ++ ⟨#[34]⟩ = bs (Z.dataText 16 zs g (lst t))) := hid (by
    apply lst_inj
    simp only [lst_append, lst_bs]
    simp [Z.dataText, lst])
  have z : (⟨#[34]⟩ : ByteArray).size = 1 := rfl
  have a1 := add_run ⟨#[34]⟩ t (by omega)
  have a2 := add_run (⟨#[34]⟩ ++ t) ⟨#[34]⟩ (by simp only [ByteArray.size_append]; omega)
  clear z
  go_enter Tryz.func228, Tryz.ntmps228
  go_wp2
  all_goals go_ret
  all_goals exact ⟨ret_str hfin.out, by go_grown⟩
theorem joinNumbers_eq (zs : List Int) (B : Nat) (A : Option Addr) (n c : Nat) (m : UInt8) (w : World) (hr : Reads w B A n (zs.map iv)) (hB : B ≤ w.heap.size) (hn : n ≤ 100) (hz : Hid (∀ z ∈ zs, 0 ≤ z ∧ z ≤ 4294967295)) (ht : PT w) (D : ByteArray) (hD : Hid (bs (Z.between m (zs.map Lib.itoa)) = D)) :
    Calls Tryz.prog 220 #[.slice A n c, .string ⟨#[m]⟩] w fun e w' => e = .returned (.string D) ∧ Below w.heap.size w w' := by
  have hl := reads_len hr
  have h := joinNumbers_any zs B A n c ⟨#[m]⟩ w hr hB hn hz ht (by have := joined_len m hz (by omega); exact Nat.le_trans this (by omega))
  rw [show lst ⟨#[m]⟩ = [m] from rfl, join_between, hD.out] at h
  exact h
theorem PT.held {w W : World} {b : Nat} {cs : List Value} (h : PT w) (hh : Held w W b cs) : PT W := h.below hh.1

set_option maxHeartbeats 4000000 in
theorem mText_any (n0 : Int) (t : ByteArray) (hts : t.size ≤ 67108864) (w : World) (ht : PT w) (hz : Hid (∀ z ∈ [n0], 0 ≤ z ∧ z ≤ 4294967295)) (x : Z.Str) :
    Calls Tryz.prog 226 #[.agg #[.int .i64 n0, .string t]] w fun e w' => e = .returned (.string (bs (Z.dataText 15 [n0] (lst t) x))) ∧ Below w.heap.size w w' := by
  obtain ⟨D, hD⟩ : ∃ D, bs (Z.between 32 ([n0].map Lib.itoa)) = D := ⟨_, rfl⟩
  have hDs : D.size ≤ 2000 := by
    rw [← hD, bs_size]
    have := between_size (c := 32) hz.out
    simp only [List.length_cons, List.length_nil] at this
    omega
  have hfin : Hid (D ++ ⟨#[32]⟩ ++ t = bs (Z.dataText 15 [n0] (lst t) x)) := hid (by
    apply lst_inj
    simp only [lst_append, lst_bs, ← hD]
    simp [Z.dataText, Z.between, lst])
  have z : (⟨#[32]⟩ : ByteArray).size = 1 := rfl
  have a1 := add_run D ⟨#[32]⟩ (by omega)
  have a2 := add_run (D ++ ⟨#[32]⟩) t (by simp only [ByteArray.size_append]; omega)
  have HD := hid hD
  clear z hD
  have hx0 := Held.box w [.int .i64 n0, .string t] 190
  have p1 := hx0.2.2.2 1 _ rfl
  go_enter Tryz.func226, Tryz.ntmps226
  go_wp2_with fail
  go_region_held3 (fun w' => Held w w' w.heap.size [.int .i64 n0, .string t] ∧ w'.cell? ⟨w.heap.size, 1, none⟩ = some (.string t))
    (first
      | (exact ⟨hx0, p1⟩)
      | (exact ⟨hx0.drewN 1, (hx0.drewN 1).2.2.2 1 _ rfl⟩)
      | (go_split_ands; have hx := Held.next (by assumption) hb9; exact ⟨hx, hx.2.2.2 1 _ rfl⟩)
      | go_keep)
    (first
      | (go_at_call 220; go_split_ands; refine (joinNumbers_eq [n0] (w.heap.size + 1) _ 1 _ 32 _ (Held.reads (by assumption) 0 1 _ rfl (by intro j u hu; match j, hu with | 0, hu => simpa [iv] using hu)) (by have := (show Held w _ w.heap.size _ from by assumption).2.2.1; omega) (by omega) hz (PT.held ht (by assumption)) D HD).mono ?_; rintro e w9 ⟨rfl, hb9⟩))
  all_goals go_split_ands
  all_goals go_wp2
  all_goals go_ret
  all_goals exact ⟨ret_str hfin.out, And.left (show Held w _ w.heap.size _ from by assumption)⟩

set_option maxHeartbeats 4000000 in
theorem sText_any (t : ByteArray) (n0 n1 n2 n3 n4 : Int) (hts : t.size ≤ 67108864) (w : World) (ht : PT w) (hz : Hid (∀ z ∈ [n0, n1, n2, n3, n4], 0 ≤ z ∧ z ≤ 4294967295)) (x : Z.Str) :
    Calls Tryz.prog 224 #[.agg #[.string t, .int .i64 n0, .int .i64 n1, .int .i64 n2, .int .i64 n3, .int .i64 n4]] w fun e w' => e = .returned (.string (bs (Z.dataText 6 [n0, n1, n2, n3, n4] (lst t) x))) ∧ Below w.heap.size w w' := by
  obtain ⟨D, hD⟩ : ∃ D, bs (Z.between 32 ([n0, n1, n2, n3, n4].map Lib.itoa)) = D := ⟨_, rfl⟩
  have hDs : D.size ≤ 2000 := by
    rw [← hD, bs_size]
    have := between_size (c := 32) hz.out
    simp only [List.length_cons, List.length_nil] at this
    omega
  have hfin : Hid (t ++ ⟨#[32]⟩ ++ D = bs (Z.dataText 6 [n0, n1, n2, n3, n4] (lst t) x)) := hid (by
    apply lst_inj
    simp only [lst_append, lst_bs, ← hD]
    simp [Z.dataText, Z.between, lst])
  have z : (⟨#[32]⟩ : ByteArray).size = 1 := rfl
  have a1 := add_run t ⟨#[32]⟩ (by omega)
  have a2 := add_run (t ++ ⟨#[32]⟩) D (by simp only [ByteArray.size_append]; omega)
  have HD := hid hD
  clear z hD
  have hx0 := Held.box w [.string t, .int .i64 n0, .int .i64 n1, .int .i64 n2, .int .i64 n3, .int .i64 n4] 187
  have p0 := hx0.2.2.2 0 _ rfl
  go_enter Tryz.func224, Tryz.ntmps224
  go_wp2_with fail
  go_region_held3 (fun w' => Held w w' w.heap.size [.string t, .int .i64 n0, .int .i64 n1, .int .i64 n2, .int .i64 n3, .int .i64 n4] ∧ w'.cell? ⟨w.heap.size, 0, none⟩ = some (.string t))
    (first
      | (exact ⟨hx0, p0⟩)
      | (exact ⟨hx0.drewN 1, (hx0.drewN 1).2.2.2 0 _ rfl⟩)
      | (go_split_ands; have hx := Held.next (by assumption) hb9; exact ⟨hx, hx.2.2.2 0 _ rfl⟩)
      | go_keep)
    (first
      | (go_at_call 220; go_split_ands; refine (joinNumbers_eq [n0, n1, n2, n3, n4] (w.heap.size + 1) _ 5 _ 32 _ (Held.reads (by assumption) 1 5 _ rfl (by intro j u hu; rw [show 1 + j = j + 1 by omega]; simpa [iv] using hu)) (by have := (show Held w _ w.heap.size _ from by assumption).2.2.1; omega) (by omega) hz (PT.held ht (by assumption)) D HD).mono ?_; rintro e w9 ⟨rfl, hb9⟩))
  all_goals go_split_ands
  all_goals go_wp2
  all_goals go_ret
  all_goals exact ⟨ret_str hfin.out, And.left (show Held w _ w.heap.size _ from by assumption)⟩
end Go.Proofs.YtpgeeeamcncpkaaGreatDoor

/- Searches in lists of records by a function of the program's own, and what NameExists of program and model returns. -/
import Derived.Test.YtgglakonkphbgaaZg
namespace Go.Proofs.Ytgglakonkphbgaa
open Go.RowKit
set_option maxRecDepth 100000
set_option linter.unusedVariables false
set_option linter.unusedSimpArgs false

/-- The place of the first record with a property, or less than 0. -/
def FirstAt (P : Z.Rec → Bool) (zs : List Z.Rec) (m : Int) : Prop := (m < 0 ∧ zs.any P = false) ∨ (∃ (k : Nat) (x : Z.Rec), m = k ∧ zs[k]? = some x ∧ P x = true ∧ (zs.take k).any P = false)
theorem FirstAt.any {P : Z.Rec → Bool} {zs : List Z.Rec} {m : Int} (h : FirstAt P zs m) : decide (0 ≤ m) = zs.any P := by
  rcases h with ⟨h1, h2⟩ | ⟨k, x, rfl, h1, h2, h3⟩
  · rw [h2]
    simpa using h1
  · have : zs.any P = true := List.any_eq_true.2 ⟨x, List.mem_of_getElem? h1, h2⟩
    rw [this]
    simp
theorem any_take_succ {P : Z.Rec → Bool} {zs : List Z.Rec} {k : Nat} {x : Z.Rec} (h : zs[k]? = some x) : (zs.take (k + 1)).any P = ((zs.take k).any P || P x) := by
  obtain ⟨hk, e⟩ := List.getElem?_eq_some_iff.1 h
  rw [List.take_succ_eq_append_getElem hk, List.any_append, e]
  simp

set_option maxHeartbeats 4000000 in
theorem IndexFuncBelow_any (cv : Value) (P : Z.Rec → Bool) (rs : List RV) (B : Nat) (A : Option Addr) (n c : Nat) (w : World) (hr : Recs w B A n rs) (hB : B ≤ w.heap.size) (hn : n ≤ 67108864)
    (hcall : Hid (∀ (r : RV) (W : World), r ∈ rs → Below w.heap.size w W → Calls Try.prog 59 #[.agg #[.string r.N, .int .i64 r.T, .int .i64 r.K, .slice r.A r.L r.C, .string r.G, .string r.X], cv] W fun e W' => e = .returned (.bool (P r.z)) ∧ Below W.heap.size W W')) :
    Calls Try.prog 80 #[.slice A n c, .func (.func 59) #[] #[cv]] w fun e w' => ∃ m : Int, e = .returned (.int .i64 m) ∧ Hid (FirstAt P (rs.map RV.z) m) ∧ Below w.heap.size w w' := by
  have hlen := hid hr.2.1
  go_enter Try.func80, Try.ntmps80
  go_wp2_with fail
  go_loopw [8] (fun v wr => ∃ k : Nat, k ≤ n ∧ v = .int .i64 k ∧ Hid (((rs.map RV.z).take k).any P = false) ∧ Below w.heap.size w wr) (fun v _ => n - (intOf v).toNat)
  case atStart => exact ⟨0, Nat.zero_le _, rfl, hid rfl, Below.refl _ _⟩
  case round =>
    obtain ⟨k, hk, rfl, hinv, hb⟩ := hrel
    have hbs := hb.size
    by_cases hlt : k < n
    · obtain ⟨ad, r, p, rfl, hp, hab, hrk, hrr, c0, c1, c2, c3, c4, c5⟩ := (hr.below hb hB).at_ hlt
      have HZK := hid (zat hrk)
      have HM := hid (List.mem_of_getElem? hrk)
      have p1 : 0 ≤ (k : Int) := by omega
      have p2 : (k : Int) < n := by omega
      clear hrk hrr
      obtain ⟨y, hy⟩ : ∃ y, P r.z = y := ⟨_, rfl⟩
      have HY := hid hy
      clear hy
      go_wp2_with fail
      refine (hcall.out r _ HM.out hb).mono ?_
      rintro e w2 ⟨rfl, hb2⟩
      have hb3 := hb.trans (hb2.mono hbs)
      rw [HY.out]
      cases y with
      | true =>
        go_wp2_with fail
        go_ret
        exact ⟨_, rfl, hid (Or.inr ⟨k, _, rfl, HZK.out, HY.out, hinv.out⟩), hb3⟩
      | false =>
        have hnx : Hid (((rs.map RV.z).take (k + 1)).any P = false) := hid (by rw [any_take_succ HZK.out, hinv.out, HY.out]; rfl)
        go_wp2_with fail
        exact ⟨⟨k + 1, by omega, by go_num, hnx, hb3⟩, by simp [intOf]; omega⟩
    · obtain rfl : k = n := by omega
      go_wp2_with fail
      go_ret
      exact ⟨_, rfl, hid (Or.inl ⟨by decide, by have h := hinv.out; rwa [List.take_of_length_le (by rw [List.length_map, hlen.out]; omega)] at h⟩), hb⟩

theorem ContainsFuncBelow_any (cv : Value) (P : Z.Rec → Bool) (rs : List RV) (B : Nat) (A : Option Addr) (n c : Nat) (w : World) (hr : Recs w B A n rs) (hB : B ≤ w.heap.size) (hn : n ≤ 67108864)
    (hcall : Hid (∀ (r : RV) (W : World), r ∈ rs → Below w.heap.size w W → Calls Try.prog 59 #[.agg #[.string r.N, .int .i64 r.T, .int .i64 r.K, .slice r.A r.L r.C, .string r.G, .string r.X], cv] W fun e W' => e = .returned (.bool (P r.z)) ∧ Below W.heap.size W W')) (v : Bool) (hv : Hid ((rs.map RV.z).any P = v)) :
    Calls Try.prog 58 #[.slice A n c, .func (.func 59) #[] #[cv]] w fun e w' => e = .returned (.bool v) ∧ Below w.heap.size w w' := by
  go_enter Try.func58, Try.ntmps58
  go_wp2_with fail
  refine (IndexFuncBelow_any cv P rs B A n c _ hr hB hn hcall).mono ?_
  rintro e w2 ⟨m, rfl, hm, hb2⟩
  go_wp2_with fail
  go_ret
  exact ⟨ret_bool (by rw [← hv.out]; exact hm.out.any), hb2⟩
end Go.Proofs.Ytgglakonkphbgaa

/- What l2Put of the model returns for a text, and for every kind. -/
import Derived.Test.YtaiijnaockbahaaSk
namespace Go.Proofs.Ytaiijnaockbahaa
open Go.RowKit
set_option maxRecDepth 100000
set_option linter.unusedVariables false

set_option maxHeartbeats 4000000 in
theorem put_16_short (N d : ByteArray) (T : Int) (hd : d.size < 2) (w : World) :
    Calls Try.prog 71 #[.agg #[.string N, .int .i64 T, .int .i64 16, .slice none 0 0, .string ⟨#[]⟩, .string ⟨#[]⟩], .string d] w (PutOut d N T 16 none w) := by
  go_enter Try.func71, Try.ntmps71
  go_wp2
  refine ret_put _ rfl rfl rfl (by go_simp) (by go_simp) (by go_simp) (by go_simp) (by go_simp) (by go_simp) ⟨none, 0, 0, ⟨#[]⟩, ⟨#[]⟩, [], rfl, World.ownsRow_nil _ _ _ _, (fun p hp => by cases hp), Nat.zero_le _, Nat.zero_le _, Nat.zero_le _, ?_⟩
  go_grown
set_option maxHeartbeats 4000000 in
theorem put_16_head (N d : ByteArray) (T : Int) (hd : d.size ≤ 67108864) (h2 : 2 ≤ d.size) (h0 : ¬ (d[0].toNat : Int) = 34) (w : World) :
    Calls Try.prog 71 #[.agg #[.string N, .int .i64 T, .int .i64 16, .slice none 0 0, .string ⟨#[]⟩, .string ⟨#[]⟩], .string d] w (PutOut d N T 16 none w) := by
  go_enter Try.func71, Try.ntmps71
  go_wp2
  refine ret_put _ rfl rfl rfl (by go_simp) (by go_simp) (by go_simp) (by go_simp) (by go_simp) (by go_simp) ⟨none, 0, 0, ⟨#[]⟩, ⟨#[]⟩, [], rfl, World.ownsRow_nil _ _ _ _, (fun p hp => by cases hp), Nat.zero_le _, Nat.zero_le _, Nat.zero_le _, ?_⟩
  go_grown
set_option maxHeartbeats 4000000 in
theorem put_16_last (N d : ByteArray) (T : Int) (m : Nat) (hm : d.size = m + 2) (hd : d.size ≤ 67108864) (h0 : (d[0].toNat : Int) = 34) (h1 : ¬ (d[m + 1].toNat : Int) = 34) (w : World) :
    Calls Try.prog 71 #[.agg #[.string N, .int .i64 T, .int .i64 16, .slice none 0 0, .string ⟨#[]⟩, .string ⟨#[]⟩], .string d] w (PutOut d N T 16 none w) := by
  have q1 : ((d[m + 1].toNat : Int) == 34) = false := by simpa using h1
  have q2 : ((d[m + 1].toNat : Int) != 34) = true := by simpa using h1
  go_enter Try.func71, Try.ntmps71
  go_wp2
  all_goals first | (refine ret_put _ rfl rfl rfl (by go_simp) (by go_simp) (by go_simp) (by go_simp) (by go_simp) (by go_simp) ⟨none, 0, 0, ⟨#[]⟩, ⟨#[]⟩, [], rfl, World.ownsRow_nil _ _ _ _, (fun p hp => by cases hp), Nat.zero_le _, Nat.zero_le _, Nat.zero_le _, ?_⟩; go_grown) | (exfalso; simp_all; done)
set_option maxHeartbeats 4000000 in
theorem put_16_good (N d : ByteArray) (T : Int) (m : Nat) (hm : d.size = m + 2) (hd : d.size ≤ 67108864) (h0 : (d[0].toNat : Int) = 34) (h1 : (d[m + 1].toNat : Int) = 34) (w : World) :
    Calls Try.prog 71 #[.agg #[.string N, .int .i64 T, .int .i64 16, .slice none 0 0, .string ⟨#[]⟩, .string ⟨#[]⟩], .string d] w (PutOut d N T 16 (some ([], [], lst (d.extract 1 (m + 1)))) w) := by
  go_enter Try.func71, Try.ntmps71
  go_wp2
  refine ret_put _ rfl rfl rfl (by go_simp) (by go_simp) (by go_simp) (by go_simp) (by go_simp) (by go_simp) ⟨none, 0, 0, ⟨#[]⟩, d.extract 1 (m + 1), [], rfl, World.ownsRow_nil _ _ _ _, (fun p hp => (Option.some.inj hp).symm), Nat.zero_le _, Nat.zero_le _, by rw [ByteArray.size_extract]; omega, ?_⟩
  go_grown

theorem l2Put_any (N d : ByteArray) (T K : Int) (hd : d.size ≤ 67108864) (w : World) :
    Calls Try.prog 71 #[.agg #[.string N, .int .i64 T, .int .i64 K, .slice none 0 0, .string ⟨#[]⟩, .string ⟨#[]⟩], .string d] w (PutOut d N T K (Z.put K (lst d)) w) := by
  unfold Z.put
  by_cases h1 : K = 1
  · subst h1
    rw [if_pos rfl]
    cases hn : Z.numbers 46 (lst d) with
    | none => exact put_1_none N d T hd hn w
    | some ns => exact put_1_some N d T hd ns hn w
  · rw [if_neg h1]
    by_cases h16 : K = 16
    · subst h16
      rw [if_pos rfl]
      by_cases h2 : 2 ≤ d.size
      · obtain ⟨m, hm⟩ : ∃ m, d.size = m + 2 := ⟨d.size - 2, by omega⟩
        have hh := head_lst (s := d) (by omega)
        have hl : (lst d).getLast? = some d[m + 1] := by
          rw [List.getLast?_eq_getElem?, lst_length, show d.size - 1 = m + 1 by omega, List.getElem?_eq_getElem (by rw [lst_length]; omega), lst_get d (m + 1) (by omega)]
        have key : ∀ c : UInt8, ((c.toNat : Int) = 34) ↔ c = 34 := fun c => by
          rw [← UInt8.toNat_inj]; simp; omega
        by_cases h0 : (d[0].toNat : Int) = 34
        · by_cases hx : (d[m + 1].toNat : Int) = 34
          · rw [if_pos ⟨by rw [lst_length]; exact h2, by rw [hh, (key _).1 h0], by rw [hl, (key _).1 hx]⟩]
            have e : ((lst d).drop 1).take ((lst d).length - 2) = lst (d.extract 1 (m + 1)) := by
              rw [lst_extract, lst_length, hm]
              congr 1
            rw [e]
            exact put_16_good N d T m hm hd h0 hx w
          · rw [if_neg (fun h => hx ((key _).2 (by have := h.2.2; rw [hl] at this; injection this)))]
            exact put_16_last N d T m hm hd h0 hx w
        · rw [if_neg (fun h => h0 ((key _).2 (by have := h.2.1; rw [hh] at this; injection this)))]
          exact put_16_head N d T hd h2 h0 w
      · rw [if_neg (fun h => h2 (by have := h.1; rwa [lst_length] at this))]
        exact put_16_short N d T (by omega) w
    · rw [if_neg h16]
      by_cases h15 : K = 15
      · subst h15
        rw [if_pos rfl]
        cases hn : Z.numbers 32 (Z.fld (lst d)) with
        | none => exact put_15_none N d T hd hn w
        | some ns => exact put_15_some N d T hd ns hn w
      · rw [if_neg h15]
        have b1 : (K == 1) = false := by simpa using h1
        have b2 : (K == 16) = false := by simpa using h16
        have b3 : (K == 15) = false := by simpa using h15
        by_cases hr : Z.rst (lst d) = []
        · rw [if_pos hr]
          exact put_else_bare N d T K b1 b2 b3 hd hr w
        · rw [if_neg hr]
          cases hn : Z.numbers 32 (Z.rst (lst d)) with
          | none => exact put_else_none N d T K b1 b2 b3 hd hr hn w
          | some ns => exact put_else_some N d T K b1 b2 b3 hd ns hr hn w
end Go.Proofs.Ytaiijnaockbahaa

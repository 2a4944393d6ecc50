/- For all lists of texts, NameOf answers as the model does, and leaves what it was given as it was. -/
import Derived.Test.YtgieklfpdlkmjabC
import Derived.SliceStrings
namespace Go.Proofs.Ytgieklfpdlkmjab.fnExactNameOf
open Go.ChangeShapes Go.WideShapes Go.ChangeAt Go.RowKit
set_option linter.unusedVariables false

theorem own : ownKnob Try.prog.godebug = none := by kernel_rfl
theorem laidOut : laidOutB Try.prog = true := by kernel_rfl

/-- What the walk is told of a slice of texts that came in. -/
def IsStrRow (w : World) (a : Option Addr) (len cap : Nat) (ss : List ByteArray) : Prop :=
  (a = none ∧ len = 0 ∧ cap = 0 ∧ ss = []) ∨
  ∃ x, a = some x ∧ len ≤ cap ∧ cap ≤ maxLen ∧ ss.length = cap ∧ (∀ i, i < ss.length → w.cell? (x.add i) = some (.string (ss.getD i ByteArray.empty))) ∧ ∀ s ∈ ss, s.size ≤ maxLen

theorem strs_of_row {w : World} {a : Option Addr} {len cap : Nat} {ss : List ByteArray} (h : IsStrRow w a len cap ss) :
    len ≤ cap ∧ cap ≤ maxLen ∧ ∃ ls : List Z.Str, ls.length = len ∧ Reads w w.heap.size a len (ls.map sv) ∧ ∀ l ∈ ls, List.length l ≤ maxLen := by
  rcases h with ⟨rfl, rfl, rfl, _⟩ | ⟨x, rfl, h1, h2, h3, h4, h5⟩
  · exact ⟨Nat.le_refl _, by decide, [], rfl, Reads.none_, fun l hl => by cases hl⟩
  · refine ⟨h1, h2, (ss.take len).map lst, by simp; omega, ⟨by simp; omega, fun hn => ?_⟩, fun l hl => ?_⟩
    · refine ⟨x, rfl, by have := block_lt (h4 0 (by omega)); rwa [block_of_add] at this, fun j u hu => ?_⟩
      simp only [List.map_map, List.getElem?_map] at hu
      have hj : j < len := by
        rcases Nat.lt_or_ge j (ss.take len).length with h6 | h6
        · rw [List.length_take] at h6; omega
        · rw [List.getElem?_eq_none h6] at hu; cases hu
      have h6 : j < (ss.take len).length := by rw [List.length_take]; omega
      rw [List.getElem?_eq_getElem h6] at hu
      simp only [List.getElem_take, Option.map_some, Option.some.injEq, Function.comp_apply] at hu
      have hjs : j < ss.length := by omega
      rw [h4 j hjs, ← hu, sv_lst]
      simp [hjs]
    · obtain ⟨s, hs, rfl⟩ := List.mem_map.1 hl
      rw [lst_length]
      exact h5 s (List.mem_of_mem_take hs)

theorem joined_sizes (ls : List Z.Str) : (Z.joined ls).length = sizes ls + ls.length := by
  induction ls with
  | nil => rfl
  | cons a r ih => rw [Z.joined_cons]; simp [sizes] at ih ⊢; omega
theorem own_plain' {w : World} {base : Nat} {e : TypeId} {A : Option Addr} {n c : Nat} {xs : List Value} (h : w.ownsRow base e 1 (.slice A n c) n xs) : 0 < n → Plain w A := fun hn => by
  obtain ⟨g, cap, hv, _, hg⟩ := h.form hn
  injection hv with hA
  exact ⟨g, 0, hA, hg⟩

set_option maxHeartbeats 2000000 in
theorem walk (a0 : Option Addr) (len0 cap0 : Nat) (z0 : List ByteArray) (w : World) (w0 : IsStrRow w a0 len0 cap0 z0) :
    Calls Try.prog 7 #[.slice a0 len0 cap0] w fun e w' => e = .returned (.bool true) ∧ Below w.heap.size w w' := by
  obtain ⟨hc1, hc2, ls, rfl, hr, hl⟩ := strs_of_row w0
  unfold maxLen at hc2
  have HL := hid hl
  clear hl w0
  go_enter Try.func7, Try.ntmps7
  go_wp2_with fail
  refine (szStringS_any ls w.heap.size a0 _ cap0 w hr (by unfold maxLen; omega) HL.out).mono ?_
  rintro e w1 ⟨m, rfl, hm, rfl⟩
  by_cases hm0 : m < 0
  · go_wp2_with fail
    go_ret
    exact ⟨rfl, Below.refl _ _⟩
  · have hsz : ls.length + sizes ls ≤ 1048576 := by
      rcases hm.out with h | h
      · exact absurd h hm0
      · exact h.2
    have hlb : Hid (∀ l ∈ ls, List.length l ≤ 67108864) := hid (fun l hl => by have := sizes_mem hl; omega)
    have hjl : Hid (ls.length ≤ 8 → (Z.joined ls).length ≤ 33554432) := hid (fun _ => by rw [joined_sizes]; omega)
    have hge : 0 ≤ m := by omega
    clear hm0
    rcases opt_text (L := 60) (o := Z.nameOf ls) (fun x hx => nameOf_len hx) with m0 | ⟨x, m0, m1⟩
    · go_wp2_with fail
      refine (toStringS_any ls w.heap.size a0 _ cap0 w hr (Nat.le_refl _) (by omega)).mono ?_
      rintro e v1 ⟨A1, c1, rfl, hown1, hb1⟩
      have hs1 := (Since.start w).next hb1
      go_wp2_with fail
      refine (NameOf_any ls v1.heap.size A1 _ c1 v1 (Reads.of_own hown1) (by omega) hjl.out).mono ?_
      rintro e v2 ⟨he2, hb2⟩
      rw [ret_rOpt_none m0] at he2
      subst he2
      have hs2 := hs1.next hb2
      have hr2 := hr.below hs2.1 (Nat.le_refl _)
      clear hown1 hb1 hb2
      go_wp2_with fail
      refine (toStringS_any ls w.heap.size a0 _ cap0 v2 hr2 hs2.2 (by omega)).mono ?_
      rintro e v3 ⟨A3, c3, rfl, hown3, hb3⟩
      have hs3 := hs2.next hb3
      have hcap3 := (own_cap hown3).1
      have hpl3 := hid (own_plain' hown3)
      go_wp2_with fail
      refine (iNameOf_any ls v3.heap.size A3 _ c3 v3 (Reads.of_own hown3) (Nat.le_refl _) hpl3.out hcap3 (by omega) hlb.out).mono ?_
      rintro e v4 ⟨he4, hb4⟩
      rw [ret_rOpt_none m0] at he4
      subst he4
      have hs4 := hs3.next hb4
      have hown4 := own_below hown3 hb4
      have hr4 := hr.below hs4.1 (Nat.le_refl _)
      clear hown3 hb3 hb4 hpl3
      go_wp2_with fail
      refine (toStringS_any ls w.heap.size a0 _ cap0 v4 hr4 hs4.2 (by omega)).mono ?_
      rintro e v5 ⟨A5, c5, rfl, hown5, hb5⟩
      have hs5 := hs4.next hb5
      have hr5 := Reads.of_own hown5
      have hr4b := (Reads.of_own hown4).below hb5 (Nat.le_refl _)
      go_wp2_with fail
      refine (eqStringS_any ls ls _ A3 A5 _ _ c3 c5 v5 (hr4b.more hb5.size) hr5 (by omega) (by omega)).mono ?_
      rintro e v6 ⟨rfl, q6, rfl⟩
      go_wp2_with fail
      go_ret
      exact ⟨rfl, (hs5.drewN q6).1⟩
    · go_wp2_with fail
      refine (toStringS_any ls w.heap.size a0 _ cap0 w hr (Nat.le_refl _) (by omega)).mono ?_
      rintro e v1 ⟨A1, c1, rfl, hown1, hb1⟩
      have hs1 := (Since.start w).next hb1
      go_wp2_with fail
      refine (NameOf_any ls v1.heap.size A1 _ c1 v1 (Reads.of_own hown1) (by omega) hjl.out).mono ?_
      rintro e v2 ⟨he2, hb2⟩
      rw [ret_rOpt_some m0] at he2
      subst he2
      have hs2 := hs1.next hb2
      have hr2 := hr.below hs2.1 (Nat.le_refl _)
      clear hown1 hb1 hb2
      go_wp2_with fail
      refine (toStringS_any ls w.heap.size a0 _ cap0 v2 hr2 hs2.2 (by omega)).mono ?_
      rintro e v3 ⟨A3, c3, rfl, hown3, hb3⟩
      have hs3 := hs2.next hb3
      have hcap3 := (own_cap hown3).1
      have hpl3 := hid (own_plain' hown3)
      go_wp2_with fail
      refine (iNameOf_any ls v3.heap.size A3 _ c3 v3 (Reads.of_own hown3) (Nat.le_refl _) hpl3.out hcap3 (by omega) hlb.out).mono ?_
      rintro e v4 ⟨he4, hb4⟩
      rw [ret_rOpt_some m0] at he4
      subst he4
      have hs4 := hs3.next hb4
      have hown4 := own_below hown3 hb4
      have hr4 := hr.below hs4.1 (Nat.le_refl _)
      clear hown3 hb3 hb4 hpl3
      go_wp2_with fail
      refine (toStringS_any ls w.heap.size a0 _ cap0 v4 hr4 hs4.2 (by omega)).mono ?_
      rintro e v5 ⟨A5, c5, rfl, hown5, hb5⟩
      have hs5 := hs4.next hb5
      have hr5 := Reads.of_own hown5
      have hr4b := (Reads.of_own hown4).below hb5 (Nat.le_refl _)
      go_wp2_with fail
      refine (eqStringS_any ls ls _ A3 A5 _ _ c3 c5 v5 (hr4b.more hb5.size) hr5 (by omega) (by omega)).mono ?_
      rintro e v6 ⟨rfl, q6, rfl⟩
      go_wp2_with fail
      go_ret
      exact ⟨rfl, (hs5.drewN q6).1⟩

set_option maxRecDepth 100000 in
theorem lifted (os : Os) (started : os.Started) (H : Type) (enc : TypeId × Value → H) :
    ReturnsInHanded {} Try.checked os 7 .any (Rows.fnExactNameOfSpec.pre6 enc Try.prog Try.f7 Rows.fnExactNameOfRow.domain false) (Rows.fnExactNameOfSpec.post enc Try.prog Try.f7 false true false false) := by
  refine returnsInHanded_of_change (C := Try.checked) own started (by kernel_rfl) Try.func7
    (ChangeSpec.witness6 (enc := enc) (C := Try.checked) false ⟨#[], #[.slice none 0 0], []⟩ 8 (by kernel_rfl) (by kernel_rfl) (by kernel_rfl) (by kernel_rfl)) ?_
  intro W base args ds gs before hval0 hW hcnd _
  have hval : ∀ (j : Nat) t v, Try.f7.params[j]? = some t → args[j]? = some v → Value.okWide Try.prog W .any base t v := hval0
  have hW' := hW
  obtain ⟨p, q, hA0, hV, rfl, hfz, hnd⟩ := hW
  have hA : DataW.TrodAll enc Try.prog W 0 (fun _ => true) true Try.f7.params.toList args.toList ds p := hA0
  rw [Try.params7] at hA hval
  obtain ⟨v0, vs0, d0, ds0, p0, q0, hargs, rfl, rfl, h0, r0⟩ := trodAll_cons hA
  obtain ⟨rfl, rfl, rfl⟩ := trodAll_nil r0
  obtain rfl : args = #[v0] := by cases args; simp_all
  obtain ⟨rfl, rfl⟩ := trodVars_none hV
  obtain ⟨a0, len0, cap0, rfl⟩ := okWide_slice Try.underlying31 (hval 0 31 v0 rfl rfl)
  have k0 := h0
  have lt0 : ∀ x ∈ p0, x.block < W.heap.size := by obtain ⟨m, hm⟩ := k0; exact DataW.trod_lt m _ _ _ hm
  obtain ⟨z0, w0⟩ : ∃ zs, IsStrRow W a0 len0 cap0 zs := by
    obtain ⟨fuel, hf⟩ := h0
    rcases open_strings Try.underlying31 Try.underlying9 (by kernel_rfl) hf with ⟨hcs, _⟩ | ⟨x, l, c, ss, hcs, _, hl, hm, hz, _, hcell, hws⟩
    · simp [Value.cells] at hcs
      obtain ⟨rfl, rfl, rfl⟩ := hcs
      exact ⟨[], .inl ⟨rfl, rfl, rfl, rfl⟩⟩
    · simp [Value.cells] at hcs
      obtain ⟨rfl, rfl, rfl⟩ := hcs
      exact ⟨ss, .inr ⟨_, rfl, hl, hm, by simpa using hz, hcell, hws⟩⟩
  clear hA0 hval0
  refine (walk a0 len0 cap0 z0 W w0).mono fun e W' ⟨he, bel⟩ => ?_
  subst he
  exact ⟨_, rfl, _, _, _, [], _, [], hW', trodAll_mk1 (shut_bool Try.underlying4 _), (trodAll_cons_mk (Below.trod laidOut (by kernel_rfl) (of_decide_eq_true (by kernel_rfl)) k0 bel lt0) trodAll_mk0), rfl, bel.frame _, fun h => by cases h⟩

theorem over : Rows.fnExactNameOfRow.holds Try.pinned (OpenSpec.ofChange Rows.fnExactNameOfSpec) :=
  OpenClaim.holds_of_wide 7 Try.f7 rfl rfl rfl rfl rfl rfl rfl ⟨rfl, rfl, rfl, rfl, rfl⟩ rfl rfl rfl rfl rfl (by kernel_rfl) Try.func7 (by kernel_rfl)
    (of_decide_eq_true (by kernel_rfl)) (by unfold Func.isWrapper; first | (rw [if_pos (by decide +kernel)]; kernel_rfl) | (rw [if_neg (by decide +kernel)]; exact ⟨rfl, rfl⟩))
    (fun os started H enc _ => lifted os started H enc)

theorem proved : Rows.FnExactNameOfSaid := over
end Go.Proofs.Ytgieklfpdlkmjab.fnExactNameOf

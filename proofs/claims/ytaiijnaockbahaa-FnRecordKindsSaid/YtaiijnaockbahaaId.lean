/- What the methods 'valid' of the program's forms of data return. -/
import Derived.Test.YtaiijnaockbahaaIb
import Derived.Test.YtaiijnaockbahaaSb
import Derived.Test.YtaiijnaockbahaaJ
namespace Go.Proofs.Ytaiijnaockbahaa
open Go.RowKit
set_option maxRecDepth 100000
set_option linter.unusedVariables false

theorem plain_add (b o j : Nat) : (⟨b, o, none⟩ : Addr).add j = ⟨b, o + j, none⟩ := by unfold Addr.add; split <;> simp_all
theorem Held.reads {w W : World} {b : Nat} {cs : List Value} (h : Held w W b cs) (off n : Nat) (xs : List Value) (hn : xs.length = n) (hx : ∀ j u, xs[j]? = some u → cs[off + j]? = some u) : Reads W (b + 1) (some ⟨b, off, none⟩) n xs :=
  ⟨hn, fun _ => ⟨_, rfl, by simp, fun j u hu => by rw [plain_add]; exact h.2.2.2 _ _ (hx j u hu)⟩⟩
theorem reads_new (w : World) (cs : List Value) (T : TypeId) (off n : Nat) (xs : List Value) (hn : xs.length = n) (hx : ∀ j u, xs[j]? = some u → cs[off + j]? = some u) :
    Reads (w.alloc (.cells cs.toArray T)) (w.heap.size + 1) (some ⟨w.heap.size, off, none⟩) n xs := (Held.box w cs T).reads off n xs hn hx

set_option maxHeartbeats 1000000 in
theorem aValid_any (n0 n1 n2 n3 : Int) (w : World) :
    Calls Try.prog 94 #[.agg #[.int .i64 n0, .int .i64 n1, .int .i64 n2, .int .i64 n3]] w fun e w' => e = .returned (.bool ([n0, n1, n2, n3].all (within · 255))) ∧ Below w.heap.size w w' := by
  go_enter Try.func94, Try.ntmps94
  go_wp2_with (go_at_call 95; refine (allWithin_any [n0, n1, n2, n3] (w.heap.size + 1) _ 4 _ _ _ (reads_new w [.int .i64 n0, .int .i64 n1, .int .i64 n2, .int .i64 n3] _ 0 _ _ rfl (by intro j u hu; simpa [iv] using hu)) (by omega)).mono ?_; rintro e w2 ⟨rfl, rfl⟩)
  go_ret
  exact ⟨ret_bool (by simp), by go_grown⟩

set_option maxHeartbeats 1000000 in
theorem tValid_any (t : ByteArray) (ht : t.size ≤ 67108864) (w : World) :
    Calls Try.prog 97 #[.agg #[.string t]] w fun e w' => e = .returned (.bool (Z.valid (lst t))) ∧ Below w.heap.size w w' := by
  go_enter Try.func97, Try.ntmps97
  go_wp2_with (go_at_call 44; refine (iNameValid_any _ (by unfold maxLen; omega) _).mono ?_; rintro e w2 ⟨rfl, hb2⟩)
  go_ret
  exact ⟨rfl, ((Below.refl _ _).alloc (Nat.le_refl _) _).trans (hb2.mono (by simp))⟩

set_option maxHeartbeats 1000000 in
theorem xValid_any (t : ByteArray) (ht : t.size ≤ 67108864) (w : World) :
    Calls Try.prog 103 #[.agg #[.string t]] w fun e w' => e = .returned (.bool (Z.okText (lst t))) ∧ Below w.heap.size w w' := by
  by_cases h20 : t.size ≤ 20
  · go_enter Try.func103, Try.ntmps103
    go_wp2
    go_loop [11] (fun i => ∃ k : Nat, k ≤ t.size ∧ i = .int .i64 k ∧ Hid (((lst t).take k).all Z.okChar = true)) (fun i => t.size - (intOf i).toNat)
    case atStart => exact ⟨0, Nat.zero_le _, rfl, hid (by simp)⟩
    case round =>
      obtain ⟨k, hk, rfl, hok⟩ := hrel
      by_cases hlt : k < t.size
      · go_wp2_with (go_at_call 104; refine (isTextByte_any _ _).mono ?_; rintro e w' ⟨rfl, rfl⟩)
        · have hb : (!okC t[k].toNat) = true := by assumption
          go_ret
          exact ⟨ret_bool (not_txt t k hlt (by simpa using hb)).symm, by go_grown⟩
        · have hb : (!okC t[k].toNat) = false := by assumption
          refine ⟨⟨k + 1, by omega, by go_num, hid ?_⟩, by simp [intOf]; omega⟩
          rw [txt_snoc t k hlt, hok.out]
          simpa using hb
      · have hks : k = t.size := by omega
        have HN := hid (txt_all t h20 (by rw [← hks]; exact hok.out))
        clear hks
        go_wp2
        go_ret
        exact ⟨ret_bool HN.out.symm, by go_grown⟩
  · have HN := hid (txt_len t h20)
    go_enter Try.func103, Try.ntmps103
    go_wp2
    go_ret
    exact ⟨ret_bool HN.out.symm, by go_grown⟩

set_option maxHeartbeats 1000000 in
theorem mValid_any (n0 : Int) (t : ByteArray) (ht : t.size ≤ 67108864) (w : World) :
    Calls Try.prog 101 #[.agg #[.int .i64 n0, .string t]] w fun e w' => e = .returned (.bool (Z.valid (lst t) && [n0].all (within · 999))) ∧ Below w.heap.size w w' := by
  have hx0 := Held.box w [.int .i64 n0, .string t] 84
  go_enter Try.func101, Try.ntmps101
  go_wp2_with (first
    | (go_at_call 44; refine (iNameValid_any _ (by unfold maxLen; omega) _).mono ?_; rintro e w2 ⟨rfl, hb2⟩; have hx2 := Held.next hx0 hb2; have q0 := hx2.2.2.2 0 _ rfl; have q1 := hx2.2.2.2 1 _ rfl)
    | (go_at_call 95; refine (allWithin_any [n0] (w.heap.size + 1) _ 1 _ _ _ (hx2.reads 0 _ _ rfl (by intro j u hu; match j, hu with | 0, hu => simpa [iv] using hu)) (by omega)).mono ?_; rintro e w3 ⟨rfl, rfl⟩))
  all_goals go_ret
  all_goals exact ⟨ret_bool (by simp_all), hx2.1⟩

set_option maxHeartbeats 1000000 in
theorem sValid_any (t : ByteArray) (n0 n1 n2 n3 n4 : Int) (ht : t.size ≤ 67108864) (w : World) :
    Calls Try.prog 99 #[.agg #[.string t, .int .i64 n0, .int .i64 n1, .int .i64 n2, .int .i64 n3, .int .i64 n4]] w fun e w' => e = .returned (.bool (Z.valid (lst t) && within n0 4294967295 && [n1, n2, n3, n4].all (within · 100000))) ∧ Below w.heap.size w w' := by
  have hx0 := Held.box w [.string t, .int .i64 n0, .int .i64 n1, .int .i64 n2, .int .i64 n3, .int .i64 n4] 81
  go_enter Try.func99, Try.ntmps99
  go_wp2_with (first
    | (go_at_call 44; refine (iNameValid_any _ (by unfold maxLen; omega) _).mono ?_; rintro e w2 ⟨rfl, hb2⟩; have hx2 := Held.next hx0 hb2; obtain ⟨q0, q1, q2, q3, q4, q5⟩ := hx2.cells6)
    | (go_at_call 45; refine (isWithin_any _ _ _).mono ?_; rintro e w' ⟨rfl, rfl⟩)
    | (go_at_call 95; refine (allWithin_any [n1, n2, n3, n4] (w.heap.size + 1) _ 4 _ _ _ (hx2.reads 2 _ _ rfl (by intro j u hu; rw [show 2 + j = j + 2 by omega]; simpa [iv] using hu)) (by omega)).mono ?_; rintro e w3 ⟨rfl, rfl⟩))
  all_goals go_ret
  all_goals exact ⟨ret_bool (by simp_all), hx2.1⟩
end Go.Proofs.Ytaiijnaockbahaa

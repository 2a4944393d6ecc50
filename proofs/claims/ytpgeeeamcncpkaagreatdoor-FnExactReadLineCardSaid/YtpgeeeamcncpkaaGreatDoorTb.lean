/- What FieldsOf of the model returns. -/
import Derived.Test.YtpgeeeamcncpkaaGreatDoorMh
import Derived.Test.YtpgeeeamcncpkaaGreatDoorS
import Derived.Outline
import Derived.ArgAppend
import Derived.Handy
namespace Go.Proofs.YtpgeeeamcncpkaaGreatDoor
open Go.RowKit
set_option maxRecDepth 100000
set_option linter.unusedVariables false

/-- What a reader of fields leaves. -/
def FieldsOut (s : ByteArray) (w : World) (e : Ending) (w' : World) : Prop :=
  ∃ (A : Option Addr) (n q : Nat), e = .returned (.tuple #[.slice A n q, .bool (Z.fields (lst s)).isSome]) ∧ n = ((Z.fields (lst s)).getD []).length ∧ w'.ownsRow w.heap.size 9 1 (.slice A n q) n (((Z.fields (lst s)).getD []).map sv) ∧ Below w.heap.size w w'
theorem fieldsOut_none {s : ByteArray} {w w' : World} {A : Option Addr} {q : Nat} (h : Z.fields (lst s) = none) (ho : w'.ownsRow w.heap.size 9 1 (.slice A 0 q) 0 []) (hb : Below w.heap.size w w') :
    FieldsOut s w (.returned (.tuple #[.slice A 0 q, .bool false])) w' := by
  unfold FieldsOut
  rw [h]
  exact ⟨A, 0, q, rfl, rfl, ho, hb⟩
theorem fieldsOut_some {s : ByteArray} {w w' : World} {A : Option Addr} {q : Nat} {fs : List Z.Str} (h : Z.fields (lst s) = some fs) (ho : w'.ownsRow w.heap.size 9 1 (.slice A fs.length q) fs.length (fs.map sv)) (hb : Below w.heap.size w w') :
    FieldsOut s w (.returned (.tuple #[.slice A fs.length q, .bool true])) w' := by
  unfold FieldsOut
  rw [h]
  exact ⟨A, fs.length, q, rfl, rfl, ho, hb⟩
/-- How many fields there can be. -/
theorem snoc_len {α : Type} {l : List α} {x : α} {k e : Nat} (h : l.length ≤ k) (he : k + 1 ≤ e) : (l ++ [x]).length ≤ e := by simp; omega
theorem infoStrt : (Tryz.prog.info? 9).map (fun i => (i.zero, i.size, i.bytes)) = some (some (.string ⟨#[]⟩), 1, 16) := by kernel_rfl
set_option maxHeartbeats 2000000 in
theorem FieldsOf_any (s : ByteArray) (hs : s.size ≤ 67108864) (w : World) :
    Calls Tryz.prog 43 #[.string s] w (FieldsOut s w) := by
  obtain ⟨i0, hi0, hz0, hz1, hz2⟩ := info_parts infoStrt
  go_enter Tryz.func43, Tryz.ntmps43
  go_wp2
  go_loopw [4, 5, 6] (fun v a e wr => ∃ (k : Nat) (done : List Z.Str), k ≤ s.size ∧ a = .int .i64 k ∧ Hid (FieldsAt s k done) ∧ done.length ≤ k ∧ wr.ownsRow w.heap.size 9 1 v done.length (done.map sv) ∧ Below w.heap.size w wr) (fun _ a _ _ => s.size - (intOf a).toNat)
  case atStart => exact ⟨0, [], Nat.zero_le _, rfl, hid (fieldsAt_start s), Nat.le_refl _, World.ownsRow_made w #[] 0 (Nat.le_refl _) (by decide) (by simp), (Below.refl _ _).alloc (Nat.le_refl _) _⟩
  case round =>
    obtain ⟨k, done, hk, rfl, hat, hdl, hown, hb⟩ := hrel
    have hbs := hb.size
    by_cases hlt : k < s.size
    · by_cases h32 : (s[k].toNat : Int) = 32
      · have HX := hid (fieldsAt_space hat.out hlt h32)
        have q1 : ((s[k].toNat : Int) == 32) = true := by simpa using h32
        go_wp2
        go_roundw
        case rel => exact ⟨k + 1, done, by omega, by go_num, HX, by omega, hown, hb⟩
        case measure => simp [intOf]; omega
      · have q1 : ((s[k].toNat : Int) == 32) = false := by simpa using h32
        by_cases h34 : (s[k].toNat : Int) = 34
        · have q2 : ((s[k].toNat : Int) == 34) = true := by simpa using h34
          have H34 := hid h34
          clear h34 h32
          go_wp2
          go_loop [6] (fun e => ∃ j : Nat, k + 1 ≤ j ∧ j ≤ s.size ∧ e = .int .i64 j ∧ Hid (Span isNo34 s (k + 1) j)) (fun e => s.size - (intOf e).toNat)
          case atStart => exact ⟨k + 1, Nat.le_refl _, hlt, by go_num, hid (span_start _ _ _)⟩
          case round =>
            obtain ⟨j, hj1, hj2, rfl, hsp⟩ := hrel
            by_cases hlt2 : j < s.size
            · by_cases hq : (s[j].toNat : Int) = 34
              · have q3 : ((s[j].toNat : Int) != 34) = false := by simp [hq]
                by_cases hn : j + 1 < s.size
                · by_cases hz : (s[j + 1].toNat : Int) = 32
                  · have HX := hid (fieldsAt_quoted hat.out hlt H34.out hj1 hlt2 hsp.out hq (fun _ => hz))
                    have q4 : ((s[j + 1].toNat : Int) != 32) = false := by simp [hz]
                    clear hz hq
                    go_wp2_with ((at_builtin; refine wpList_append1 wr (.string (s.extract k (j + 1))) _ rfl _ _ _ rfl w.heap.size 9 i0 _ 16 Tryz.underlying26 hi0 hz0 hz1 hz2 rfl _ _ _ rfl hown rfl rfl (by unfold maxLen; omega) (by omega) hbs ?_; intro v1 w1 hown1 hb1))
                    go_roundw
                    case rel => exact ⟨j + 1, _, by omega, by go_num, HX, by rw [List.length_append]; simp only [List.length_cons, List.length_nil]; omega, by simpa [sv_lst] using hown1, hb.trans hb1⟩
                    case measure => simp [intOf]; omega
                  · have HX := hid (fieldsAt_close hat.out hlt H34.out hj1 hsp.out hn hq hz)
                    have q4 : ((s[j + 1].toNat : Int) != 32) = true := by simpa using hz
                    clear hz hq
                    go_wp2
                    all_goals go_ret2
                    all_goals exact fieldsOut_none HX.out (World.ownsRow_made _ #[] 0 (by omega) (by decide) (by simp)) (hb.alloc (by omega) _)
                · have HX := hid (fieldsAt_quoted hat.out hlt H34.out hj1 hlt2 hsp.out hq (fun h => absurd h hn))
                  clear hq
                  go_wp2_with ((at_builtin; refine wpList_append1 wr (.string (s.extract k (j + 1))) _ rfl _ _ _ rfl w.heap.size 9 i0 _ 16 Tryz.underlying26 hi0 hz0 hz1 hz2 rfl _ _ _ rfl hown rfl rfl (by unfold maxLen; omega) (by omega) hbs ?_; intro v1 w1 hown1 hb1))
                  go_roundw
                  case rel => exact ⟨j + 1, _, by omega, by go_num, HX, by rw [List.length_append]; simp only [List.length_cons, List.length_nil]; omega, by simpa [sv_lst] using hown1, hb.trans hb1⟩
                  case measure => simp [intOf]; omega
              · have q3 : ((s[j].toNat : Int) != 34) = true := by simpa using hq
                have HX := hid (span_succ hsp.out hj1 hlt2 (by unfold isNo34; rw [bne_iff_ne]; intro e; exact hq (by rw [e]; rfl)))
                clear hq
                go_wp2
                exact ⟨⟨j + 1, by omega, by omega, by go_num, HX⟩, by simp [intOf]; omega⟩
            · obtain rfl : j = s.size := by omega
              have HX := hid (fieldsAt_open hat.out hlt H34.out hsp.out)
              go_wp2
              all_goals go_ret2
              all_goals exact fieldsOut_none HX.out (World.ownsRow_made _ #[] 0 (by omega) (by decide) (by simp)) (hb.alloc (by omega) _)
        · have q2 : ((s[k].toNat : Int) == 34) = false := by simpa using h34
          have HS0 := hid (span_succ (span_start isNoSep s k) (Nat.le_refl _) hlt ((sep_iff _).2 ⟨h32, h34⟩))
          clear h34 h32
          go_wp2
          go_loop [6] (fun e => ∃ j : Nat, k + 1 ≤ j ∧ j ≤ s.size ∧ e = .int .i64 j ∧ Hid (Span isNoSep s k j)) (fun e => s.size - (intOf e).toNat)
          case atStart => exact ⟨k + 1, Nat.le_refl _, hlt, by go_num, HS0⟩
          case round =>
            obtain ⟨j, hj1, hj2, rfl, hsp⟩ := hrel
            by_cases hlt2 : j < s.size
            · by_cases hz : (s[j].toNat : Int) = 32
              · have q3 : ((s[j].toNat : Int) != 32) = false := by simp [hz]
                have q4 : ((s[j].toNat : Int) == 34) = false := by rw [hz]; rfl
                have HX := hid (fieldsAt_plain hat.out hj1 hj2 hsp.out (fun _ => hz))
                clear hz
                go_wp2_with ((at_builtin; refine wpList_append1 wr (.string (s.extract k (j))) _ rfl _ _ _ rfl w.heap.size 9 i0 _ 16 Tryz.underlying26 hi0 hz0 hz1 hz2 rfl _ _ _ rfl hown rfl rfl (by unfold maxLen; omega) (by omega) hbs ?_; intro v1 w1 hown1 hb1))
                go_roundw
                case rel => exact ⟨j, _, by omega, by go_num, HX, by rw [List.length_append]; simp only [List.length_cons, List.length_nil]; omega, by simpa [sv_lst] using hown1, hb.trans hb1⟩
                case measure => simp [intOf]; omega
              · have q3 : ((s[j].toNat : Int) != 32) = true := by simpa using hz
                by_cases hq : (s[j].toNat : Int) = 34
                · have q4 : ((s[j].toNat : Int) != 34) = false := by simp [hq]
                  have q5 : ((s[j].toNat : Int) == 34) = true := by simpa using hq
                  have HX := hid (fieldsAt_within hat.out hj1 hlt2 hsp.out hq)
                  clear hz hq
                  go_wp2
                  all_goals go_ret2
                  all_goals exact fieldsOut_none HX.out (World.ownsRow_made _ #[] 0 (by omega) (by decide) (by simp)) (hb.alloc (by omega) _)
                · have q4 : ((s[j].toNat : Int) != 34) = true := by simpa using hq
                  have HX := hid (span_succ hsp.out (by omega : k ≤ j) hlt2 ((sep_iff _).2 ⟨hz, hq⟩))
                  clear hz hq
                  go_wp2
                  exact ⟨⟨j + 1, by omega, by omega, by go_num, HX⟩, by simp [intOf]; omega⟩
            · obtain rfl : j = s.size := by omega
              have HX := hid (fieldsAt_plain hat.out hj1 (Nat.le_refl _) hsp.out (fun h => absurd h (Nat.lt_irrefl _)))
              go_wp2_with ((at_builtin; refine wpList_append1 wr (.string (s.extract k (s.size))) _ rfl _ _ _ rfl w.heap.size 9 i0 _ 16 Tryz.underlying26 hi0 hz0 hz1 hz2 rfl _ _ _ rfl hown rfl rfl (by unfold maxLen; omega) (by omega) hbs ?_; intro v1 w1 hown1 hb1))
              go_roundw
              case rel => exact ⟨s.size, _, by omega, by go_num, HX, by rw [List.length_append]; simp only [List.length_cons, List.length_nil]; omega, by simpa [sv_lst] using hown1, hb.trans hb1⟩
              case measure => simp [intOf]; omega
    · obtain rfl : k = s.size := by omega
      have HX := hid (fieldsAt_all hat.out)
      obtain ⟨A, q, rfl⟩ := own_slice hown
      go_wp2
      all_goals go_ret2
      all_goals exact fieldsOut_some HX.out hown hb
end Go.Proofs.YtpgeeeamcncpkaaGreatDoor

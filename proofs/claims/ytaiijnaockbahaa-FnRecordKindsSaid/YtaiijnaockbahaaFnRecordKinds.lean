/- For every input, a valid record that is drawn from it is valid with no other kind, but for those that have one name as their data. -/
import Derived.Test.YtaiijnaockbahaaRows
import Derived.Test.YtaiijnaockbahaaNf
import Derived.WalkKit
import Derived.ProofKit
import Derived.OpenShut
import Derived.ShutString
import Derived.ChangeOld
import Derived.Below
namespace Go.Proofs.Ytaiijnaockbahaa.fnRecordKinds
open Go.ChangeShapes Go.WideShapes Go.ChangeAt Go.RowKit
open Go.ChangeMaps (open_string shut_string)
set_option linter.unusedVariables false

theorem own : ownKnob Try.prog.godebug = none := by kernel_rfl
theorem laidOut : laidOutB Try.prog = true := by kernel_rfl

theorem next_of {w W : World} {p : Nat} {aN : ByteArray} {aT aK : Int} {aA : Option Addr} {aL aC : Nat} {aG aX : ByteArray} {aZ : List Int} {W' : World} (hb : Below W.heap.size W W') (h : One w W p aN aT aK aA aL aC aG aX aZ) : One w W' p aN aT aK aA aL aC aG aX aZ := h.next hb
theorem keepS {w W : World} {p : Nat} {aN : ByteArray} {aT aK : Int} {aA : Option Addr} {aL aC : Nat} {aG aX : ByteArray} {aZ : List Int} {q : Nat} {k : Int} (h : One w W p aN aT aK aA aL aC aG aX aZ) (g : One w W q aN aT k aA aL aC aG aX aZ) : One w W p aN aT aK aA aL aC aG aX aZ ∧ One w W q aN aT k aA aL aC aG aX aZ ∧ (W.cell? ⟨p, 0, none⟩ = some (.string aN) ∧ W.cell? ⟨p, 1, none⟩ = some (.int .i64 aT) ∧ W.cell? ⟨p, 2, none⟩ = some (.int .i64 aK) ∧ W.cell? ⟨p, 3, none⟩ = some (.slice aA aL aC) ∧ W.cell? ⟨p, 4, none⟩ = some (.string aG) ∧ W.cell? ⟨p, 5, none⟩ = some (.string aX)) ∧ (W.cell? ⟨q, 0, none⟩ = some (.string aN) ∧ W.cell? ⟨q, 1, none⟩ = some (.int .i64 aT) ∧ W.cell? ⟨q, 2, none⟩ = some (.int .i64 k) ∧ W.cell? ⟨q, 3, none⟩ = some (.slice aA aL aC) ∧ W.cell? ⟨q, 4, none⟩ = some (.string aG) ∧ W.cell? ⟨q, 5, none⟩ = some (.string aX)) := ⟨h, g, h.cells, g.cells⟩

set_option maxHeartbeats 12000000 in
theorem walk (a0 : Option Addr) (len0 cap0 : Nat) (z0 : List Int) (w : World) (w0 : IsRow .u8 w a0 len0 cap0 z0) :
    Calls Try.prog 6 #[.slice a0 len0 cap0] w fun e w' => e = .returned (.bool true) ∧ Below w.heap.size w w' := by
  have hc0 := row_cap w0
  unfold maxLen at hc0
  by_cases hb0 : len0 ≤ 1048576
  · obtain ⟨zs0, rfl, hcode0⟩ := code_of_row w0 hb0
    clear w0
    go_enter Try.func6, Try.ntmps6
    go_wp2_with fail
    refine (DrawRecordValid_any _ _ zs0 w hcode0).mono ?_
    rintro e v1 ⟨aN, aT, aK, aA, aL, aC, aG, aX, aZ, rfl, ho1, hl1, s1, s2, s3, hbv1⟩
    have hp := one_new (aT := aT) (aK := aK) hbv1 ho1 hl1 s1 s2 s3
    clear ho1 hl1 s1 s2 s3 hbv1
    obtain ⟨c0, c1, c2, c3, c4, c5⟩ := hp.cells
    obtain ⟨VA, hVA⟩ : ∃ v : Bool, Z.recValid (⟨lst aN, aT, aK, aZ, lst aG, lst aX⟩ : Z.Rec) = v := ⟨_, rfl⟩
    have HVA := hid hVA
    cases VA with
    | false =>
      clear hVA
      go_wp2_with (first | (go_at_call 13; first | (((with_reducible refine (io_RecordValid hp _ HVA).mono ?_)); rintro e w2 ⟨rfl, hb9⟩; have hp2 := hp.next hb9; clear hb9; clear c0 c1 c2 c3 c4 c5 hp; have hp := hp2; clear hp2; obtain ⟨c0, c1, c2, c3, c4, c5⟩ := hp.cells)) | (go_at_call 21; first | (((with_reducible refine (so_RecordValid hp _ HVA).mono ?_)); rintro e w2 ⟨rfl, hb9⟩; have hp2 := hp.next hb9; clear hb9; clear c0 c1 c2 c3 c4 c5 hp; have hp := hp2; clear hp2; obtain ⟨c0, c1, c2, c3, c4, c5⟩ := hp.cells)))
      all_goals go_ret
      all_goals exact ⟨rfl, hp.below⟩
    | true =>
      have HVK := hid (show ∀ k : Int, Z.recValid (⟨lst aN, aT, k, aZ, lst aG, lst aX⟩ : Z.Rec) = true ↔ k = aK ∨ Z.bare aK ∧ Z.bare k from fun k => @Z.valid_kind (⟨lst aN, aT, aK, aZ, lst aG, lst aX⟩ : Z.Rec) hVA k)
      have hsn := hp.2.2.2.2.2.1
      clear hVA
      go_wp2_with fail
      refine (io_RecordValid hp _ HVA).mono ?_
      rintro e w2 ⟨rfl, hb9⟩
      replace hp := hp.next hb9
      clear hb9 c0 c1 c2 c3 c4 c5
      obtain ⟨c0, c1, c2, c3, c4, c5⟩ := hp.cells
      go_wp2_with fail
      refine (so_RecordValid hp _ HVA).mono ?_
      rintro e w3 ⟨rfl, hb9⟩
      replace hp := hp.next hb9
      clear hb9 c0 c1 c2 c3 c4 c5
      obtain ⟨c0, c1, c2, c3, c4, c5⟩ := hp.cells
      by_cases n2 : aK = 2
      · subst n2
        go_wp2_with fail
        go_loopw [6] (fun v wr => ∃ k : Int, 0 ≤ k ∧ k ≤ 21 ∧ v = .int .i64 k ∧ One w wr v1.heap.size aN aT 2 aA aL aC aG aX aZ) (fun v _ => 21 - (intOf v).toNat)
        case atStart => exact ⟨0, by omega, by omega, rfl, hp⟩
        case round =>
          clear c0 c1 c2 c3 c4 c5 hp
          obtain ⟨k, hk0, hk, rfl, hp⟩ := hrel
          by_cases hlt : k ≤ 20
          · have ql : decide (k ≤ 20) = true := by simpa using hlt
            by_cases e2 : k = 2
            · subst e2
              have HVX := hid (show Z.recValid (⟨lst aN, aT, 2, aZ, lst aG, lst aX⟩ : Z.Rec) = true from (HVK.out 2).2 (by simp [Z.bare]))
              have hx := one_copy hp aN aT 2 hsn
              obtain ⟨m0, m1, m2, m3, m4, m5⟩ := hp.cells
              replace hp := hp.alloc (.cells #[.string aN, .int .i64 aT, .int .i64 2, .slice aA aL aC, .string aG, .string aX] 25)
              obtain ⟨k0, k1, k2, k3, k4, k5⟩ := hp.cells
              obtain ⟨d0, d1, d2, d3, d4, d5⟩ := hx.cells
              go_wp2_with fail
              have hun : undef = Value.tuple #[] := rfl
              first | (go_region_with (go_at_call 13; (with_reducible refine Calls.mono (io_RecordValid (p := wr.heap.size) (hx.next (Below.refl _ _).drew) _ HVX) ?_); rintro e w9 ⟨rfl, hb9⟩; replace hp := (hp.next (Below.refl _ _).drew).next hb9; replace hx := (hx.next (Below.refl _ _).drew).next hb9; clear hb9 k0 k1 k2 k3 k4 k5 d0 d1 d2 d3 d4 d5; obtain ⟨k0, k1, k2, k3, k4, k5⟩ := hp.cells; obtain ⟨d0, d1, d2, d3, d4, d5⟩ := hx.cells)) | skip
              all_goals go_split_ands
              all_goals (try simp only [← hun])
              all_goals clear hun
              all_goals go_wp2_with fail
              all_goals exact ⟨⟨3, by omega, by omega, by go_num, (by first | assumption | exact hp.next (Below.refl _ _).drew)⟩, by simp [intOf] <;> omega⟩
            · have q2 : (k == 2) = false := by simpa using e2
              by_cases e5 : k = 5
              · subst e5
                have HVX := hid (show Z.recValid (⟨lst aN, aT, 5, aZ, lst aG, lst aX⟩ : Z.Rec) = true from (HVK.out 5).2 (by simp [Z.bare]))
                have hx := one_copy hp aN aT 5 hsn
                obtain ⟨m0, m1, m2, m3, m4, m5⟩ := hp.cells
                replace hp := hp.alloc (.cells #[.string aN, .int .i64 aT, .int .i64 5, .slice aA aL aC, .string aG, .string aX] 25)
                obtain ⟨k0, k1, k2, k3, k4, k5⟩ := hp.cells
                obtain ⟨d0, d1, d2, d3, d4, d5⟩ := hx.cells
                go_wp2_with fail
                first | (go_region_held3 (fun w' => One w w' v1.heap.size aN aT 2 aA aL aC aG aX aZ ∧ One w w' wr.heap.size aN aT 5 aA aL aC aG aX aZ ∧ (w'.cell? ⟨v1.heap.size, 0, none⟩ = some (.string aN) ∧ w'.cell? ⟨v1.heap.size, 1, none⟩ = some (.int .i64 aT) ∧ w'.cell? ⟨v1.heap.size, 2, none⟩ = some (.int .i64 2) ∧ w'.cell? ⟨v1.heap.size, 3, none⟩ = some (.slice aA aL aC) ∧ w'.cell? ⟨v1.heap.size, 4, none⟩ = some (.string aG) ∧ w'.cell? ⟨v1.heap.size, 5, none⟩ = some (.string aX)) ∧ (w'.cell? ⟨wr.heap.size, 0, none⟩ = some (.string aN) ∧ w'.cell? ⟨wr.heap.size, 1, none⟩ = some (.int .i64 aT) ∧ w'.cell? ⟨wr.heap.size, 2, none⟩ = some (.int .i64 5) ∧ w'.cell? ⟨wr.heap.size, 3, none⟩ = some (.slice aA aL aC) ∧ w'.cell? ⟨wr.heap.size, 4, none⟩ = some (.string aG) ∧ w'.cell? ⟨wr.heap.size, 5, none⟩ = some (.string aX)))
                  (first | exact keepS (by assumption) (by assumption) | exact keepS (next_of (Below.refl _ _).drew (by assumption)) (next_of (Below.refl _ _).drew (by assumption)) | (go_split_ands; exact keepS (next_of hb9 (by assumption)) (next_of hb9 (by assumption))))
                  (first | (go_at_call 13; go_split_ands; (with_reducible refine Calls.mono (io_RecordValid (p := wr.heap.size) (by assumption) _ HVX) ?_); rintro e w9 ⟨rfl, hb9⟩))) | skip
                all_goals go_split_ands
                all_goals go_wp2_with fail
                all_goals exact ⟨⟨6, by omega, by omega, by go_num, (by first | assumption | exact hp.next (Below.refl _ _).drew)⟩, by simp [intOf] <;> omega⟩
              · have q5 : (k == 5) = false := by simpa using e5
                by_cases e12 : k = 12
                · subst e12
                  have HVX := hid (show Z.recValid (⟨lst aN, aT, 12, aZ, lst aG, lst aX⟩ : Z.Rec) = true from (HVK.out 12).2 (by simp [Z.bare]))
                  have hx := one_copy hp aN aT 12 hsn
                  obtain ⟨m0, m1, m2, m3, m4, m5⟩ := hp.cells
                  replace hp := hp.alloc (.cells #[.string aN, .int .i64 aT, .int .i64 12, .slice aA aL aC, .string aG, .string aX] 25)
                  obtain ⟨k0, k1, k2, k3, k4, k5⟩ := hp.cells
                  obtain ⟨d0, d1, d2, d3, d4, d5⟩ := hx.cells
                  go_wp2_with fail
                  first | (go_region_held3 (fun w' => One w w' v1.heap.size aN aT 2 aA aL aC aG aX aZ ∧ One w w' wr.heap.size aN aT 12 aA aL aC aG aX aZ ∧ (w'.cell? ⟨v1.heap.size, 0, none⟩ = some (.string aN) ∧ w'.cell? ⟨v1.heap.size, 1, none⟩ = some (.int .i64 aT) ∧ w'.cell? ⟨v1.heap.size, 2, none⟩ = some (.int .i64 2) ∧ w'.cell? ⟨v1.heap.size, 3, none⟩ = some (.slice aA aL aC) ∧ w'.cell? ⟨v1.heap.size, 4, none⟩ = some (.string aG) ∧ w'.cell? ⟨v1.heap.size, 5, none⟩ = some (.string aX)) ∧ (w'.cell? ⟨wr.heap.size, 0, none⟩ = some (.string aN) ∧ w'.cell? ⟨wr.heap.size, 1, none⟩ = some (.int .i64 aT) ∧ w'.cell? ⟨wr.heap.size, 2, none⟩ = some (.int .i64 12) ∧ w'.cell? ⟨wr.heap.size, 3, none⟩ = some (.slice aA aL aC) ∧ w'.cell? ⟨wr.heap.size, 4, none⟩ = some (.string aG) ∧ w'.cell? ⟨wr.heap.size, 5, none⟩ = some (.string aX)))
                    (first | exact keepS (by assumption) (by assumption) | exact keepS (next_of (Below.refl _ _).drew (by assumption)) (next_of (Below.refl _ _).drew (by assumption)) | (go_split_ands; exact keepS (next_of hb9 (by assumption)) (next_of hb9 (by assumption))))
                    (first | (go_at_call 13; go_split_ands; (with_reducible refine Calls.mono (io_RecordValid (p := wr.heap.size) (by assumption) _ HVX) ?_); rintro e w9 ⟨rfl, hb9⟩))) | skip
                  all_goals go_split_ands
                  all_goals go_wp2_with fail
                  all_goals exact ⟨⟨13, by omega, by omega, by go_num, (by first | assumption | exact hp.next (Below.refl _ _).drew)⟩, by simp [intOf] <;> omega⟩
                · have q12 : (k == 12) = false := by simpa using e12
                  have HVX := hid (show Z.recValid (⟨lst aN, aT, k, aZ, lst aG, lst aX⟩ : Z.Rec) = false from Bool.eq_false_iff.2 (fun h => by have h9 := (HVK.out k).1 h; simp only [Z.bare] at h9; clear HVK; omega))
                  have hx := one_copy hp aN aT k hsn
                  obtain ⟨m0, m1, m2, m3, m4, m5⟩ := hp.cells
                  replace hp := hp.alloc (.cells #[.string aN, .int .i64 aT, .int .i64 k, .slice aA aL aC, .string aG, .string aX] 25)
                  obtain ⟨k0, k1, k2, k3, k4, k5⟩ := hp.cells
                  obtain ⟨d0, d1, d2, d3, d4, d5⟩ := hx.cells
                  go_wp2_with fail
                  first | (go_region_held3 (fun w' => One w w' v1.heap.size aN aT 2 aA aL aC aG aX aZ ∧ One w w' wr.heap.size aN aT k aA aL aC aG aX aZ ∧ (w'.cell? ⟨v1.heap.size, 0, none⟩ = some (.string aN) ∧ w'.cell? ⟨v1.heap.size, 1, none⟩ = some (.int .i64 aT) ∧ w'.cell? ⟨v1.heap.size, 2, none⟩ = some (.int .i64 2) ∧ w'.cell? ⟨v1.heap.size, 3, none⟩ = some (.slice aA aL aC) ∧ w'.cell? ⟨v1.heap.size, 4, none⟩ = some (.string aG) ∧ w'.cell? ⟨v1.heap.size, 5, none⟩ = some (.string aX)) ∧ (w'.cell? ⟨wr.heap.size, 0, none⟩ = some (.string aN) ∧ w'.cell? ⟨wr.heap.size, 1, none⟩ = some (.int .i64 aT) ∧ w'.cell? ⟨wr.heap.size, 2, none⟩ = some (.int .i64 k) ∧ w'.cell? ⟨wr.heap.size, 3, none⟩ = some (.slice aA aL aC) ∧ w'.cell? ⟨wr.heap.size, 4, none⟩ = some (.string aG) ∧ w'.cell? ⟨wr.heap.size, 5, none⟩ = some (.string aX)))
                    (first | exact keepS (by assumption) (by assumption) | exact keepS (next_of (Below.refl _ _).drew (by assumption)) (next_of (Below.refl _ _).drew (by assumption)) | (go_split_ands; exact keepS (next_of hb9 (by assumption)) (next_of hb9 (by assumption))))
                    (first | (go_at_call 13; go_split_ands; (with_reducible refine Calls.mono (io_RecordValid (p := wr.heap.size) (by assumption) _ HVX) ?_); rintro e w9 ⟨rfl, hb9⟩))) | skip
                  all_goals go_split_ands
                  all_goals go_wp2_with fail
                  all_goals exact ⟨⟨k + 1, by omega, by omega, by go_num, (by first | assumption | exact hp.next (Below.refl _ _).drew)⟩, by simp [intOf] <;> omega⟩
          · have ql : decide (k ≤ 20) = false := by simpa using hlt
            go_wp2_with fail
            go_ret
            exact ⟨rfl, hp.below⟩
      · have p2 : (aK == 2) = false := by simpa using n2
        by_cases n5 : aK = 5
        · subst n5
          go_wp2_with fail
          go_loopw [6] (fun v wr => ∃ k : Int, 0 ≤ k ∧ k ≤ 21 ∧ v = .int .i64 k ∧ One w wr v1.heap.size aN aT 5 aA aL aC aG aX aZ) (fun v _ => 21 - (intOf v).toNat)
          case atStart => exact ⟨0, by omega, by omega, rfl, hp⟩
          case round =>
            clear c0 c1 c2 c3 c4 c5 hp
            obtain ⟨k, hk0, hk, rfl, hp⟩ := hrel
            by_cases hlt : k ≤ 20
            · have ql : decide (k ≤ 20) = true := by simpa using hlt
              by_cases e2 : k = 2
              · subst e2
                have HVX := hid (show Z.recValid (⟨lst aN, aT, 2, aZ, lst aG, lst aX⟩ : Z.Rec) = true from (HVK.out 2).2 (by simp [Z.bare]))
                have hx := one_copy hp aN aT 2 hsn
                obtain ⟨m0, m1, m2, m3, m4, m5⟩ := hp.cells
                replace hp := hp.alloc (.cells #[.string aN, .int .i64 aT, .int .i64 2, .slice aA aL aC, .string aG, .string aX] 25)
                obtain ⟨k0, k1, k2, k3, k4, k5⟩ := hp.cells
                obtain ⟨d0, d1, d2, d3, d4, d5⟩ := hx.cells
                go_wp2_with fail
                first | (go_region_held3 (fun w' => One w w' v1.heap.size aN aT 5 aA aL aC aG aX aZ ∧ One w w' wr.heap.size aN aT 2 aA aL aC aG aX aZ ∧ (w'.cell? ⟨v1.heap.size, 0, none⟩ = some (.string aN) ∧ w'.cell? ⟨v1.heap.size, 1, none⟩ = some (.int .i64 aT) ∧ w'.cell? ⟨v1.heap.size, 2, none⟩ = some (.int .i64 5) ∧ w'.cell? ⟨v1.heap.size, 3, none⟩ = some (.slice aA aL aC) ∧ w'.cell? ⟨v1.heap.size, 4, none⟩ = some (.string aG) ∧ w'.cell? ⟨v1.heap.size, 5, none⟩ = some (.string aX)) ∧ (w'.cell? ⟨wr.heap.size, 0, none⟩ = some (.string aN) ∧ w'.cell? ⟨wr.heap.size, 1, none⟩ = some (.int .i64 aT) ∧ w'.cell? ⟨wr.heap.size, 2, none⟩ = some (.int .i64 2) ∧ w'.cell? ⟨wr.heap.size, 3, none⟩ = some (.slice aA aL aC) ∧ w'.cell? ⟨wr.heap.size, 4, none⟩ = some (.string aG) ∧ w'.cell? ⟨wr.heap.size, 5, none⟩ = some (.string aX)))
                  (first | exact keepS (by assumption) (by assumption) | exact keepS (next_of (Below.refl _ _).drew (by assumption)) (next_of (Below.refl _ _).drew (by assumption)) | (go_split_ands; exact keepS (next_of hb9 (by assumption)) (next_of hb9 (by assumption))))
                  (first | (go_at_call 13; go_split_ands; (with_reducible refine Calls.mono (io_RecordValid (p := wr.heap.size) (by assumption) _ HVX) ?_); rintro e w9 ⟨rfl, hb9⟩))) | skip
                all_goals go_split_ands
                all_goals go_wp2_with fail
                all_goals exact ⟨⟨3, by omega, by omega, by go_num, (by first | assumption | exact hp.next (Below.refl _ _).drew)⟩, by simp [intOf] <;> omega⟩
              · have q2 : (k == 2) = false := by simpa using e2
                by_cases e5 : k = 5
                · subst e5
                  have HVX := hid (show Z.recValid (⟨lst aN, aT, 5, aZ, lst aG, lst aX⟩ : Z.Rec) = true from (HVK.out 5).2 (by simp [Z.bare]))
                  have hx := one_copy hp aN aT 5 hsn
                  obtain ⟨m0, m1, m2, m3, m4, m5⟩ := hp.cells
                  replace hp := hp.alloc (.cells #[.string aN, .int .i64 aT, .int .i64 5, .slice aA aL aC, .string aG, .string aX] 25)
                  obtain ⟨k0, k1, k2, k3, k4, k5⟩ := hp.cells
                  obtain ⟨d0, d1, d2, d3, d4, d5⟩ := hx.cells
                  go_wp2_with fail
                  have hun : undef = Value.tuple #[] := rfl
                  first | (go_region_with (go_at_call 13; (with_reducible refine Calls.mono (io_RecordValid (p := wr.heap.size) (hx.next (Below.refl _ _).drew) _ HVX) ?_); rintro e w9 ⟨rfl, hb9⟩; replace hp := (hp.next (Below.refl _ _).drew).next hb9; replace hx := (hx.next (Below.refl _ _).drew).next hb9; clear hb9 k0 k1 k2 k3 k4 k5 d0 d1 d2 d3 d4 d5; obtain ⟨k0, k1, k2, k3, k4, k5⟩ := hp.cells; obtain ⟨d0, d1, d2, d3, d4, d5⟩ := hx.cells)) | skip
                  all_goals go_split_ands
                  all_goals (try simp only [← hun])
                  all_goals clear hun
                  all_goals go_wp2_with fail
                  all_goals exact ⟨⟨6, by omega, by omega, by go_num, (by first | assumption | exact hp.next (Below.refl _ _).drew)⟩, by simp [intOf] <;> omega⟩
                · have q5 : (k == 5) = false := by simpa using e5
                  by_cases e12 : k = 12
                  · subst e12
                    have HVX := hid (show Z.recValid (⟨lst aN, aT, 12, aZ, lst aG, lst aX⟩ : Z.Rec) = true from (HVK.out 12).2 (by simp [Z.bare]))
                    have hx := one_copy hp aN aT 12 hsn
                    obtain ⟨m0, m1, m2, m3, m4, m5⟩ := hp.cells
                    replace hp := hp.alloc (.cells #[.string aN, .int .i64 aT, .int .i64 12, .slice aA aL aC, .string aG, .string aX] 25)
                    obtain ⟨k0, k1, k2, k3, k4, k5⟩ := hp.cells
                    obtain ⟨d0, d1, d2, d3, d4, d5⟩ := hx.cells
                    go_wp2_with fail
                    first | (go_region_held3 (fun w' => One w w' v1.heap.size aN aT 5 aA aL aC aG aX aZ ∧ One w w' wr.heap.size aN aT 12 aA aL aC aG aX aZ ∧ (w'.cell? ⟨v1.heap.size, 0, none⟩ = some (.string aN) ∧ w'.cell? ⟨v1.heap.size, 1, none⟩ = some (.int .i64 aT) ∧ w'.cell? ⟨v1.heap.size, 2, none⟩ = some (.int .i64 5) ∧ w'.cell? ⟨v1.heap.size, 3, none⟩ = some (.slice aA aL aC) ∧ w'.cell? ⟨v1.heap.size, 4, none⟩ = some (.string aG) ∧ w'.cell? ⟨v1.heap.size, 5, none⟩ = some (.string aX)) ∧ (w'.cell? ⟨wr.heap.size, 0, none⟩ = some (.string aN) ∧ w'.cell? ⟨wr.heap.size, 1, none⟩ = some (.int .i64 aT) ∧ w'.cell? ⟨wr.heap.size, 2, none⟩ = some (.int .i64 12) ∧ w'.cell? ⟨wr.heap.size, 3, none⟩ = some (.slice aA aL aC) ∧ w'.cell? ⟨wr.heap.size, 4, none⟩ = some (.string aG) ∧ w'.cell? ⟨wr.heap.size, 5, none⟩ = some (.string aX)))
                      (first | exact keepS (by assumption) (by assumption) | exact keepS (next_of (Below.refl _ _).drew (by assumption)) (next_of (Below.refl _ _).drew (by assumption)) | (go_split_ands; exact keepS (next_of hb9 (by assumption)) (next_of hb9 (by assumption))))
                      (first | (go_at_call 13; go_split_ands; (with_reducible refine Calls.mono (io_RecordValid (p := wr.heap.size) (by assumption) _ HVX) ?_); rintro e w9 ⟨rfl, hb9⟩))) | skip
                    all_goals go_split_ands
                    all_goals go_wp2_with fail
                    all_goals exact ⟨⟨13, by omega, by omega, by go_num, (by first | assumption | exact hp.next (Below.refl _ _).drew)⟩, by simp [intOf] <;> omega⟩
                  · have q12 : (k == 12) = false := by simpa using e12
                    have HVX := hid (show Z.recValid (⟨lst aN, aT, k, aZ, lst aG, lst aX⟩ : Z.Rec) = false from Bool.eq_false_iff.2 (fun h => by have h9 := (HVK.out k).1 h; simp only [Z.bare] at h9; clear HVK; omega))
                    have hx := one_copy hp aN aT k hsn
                    obtain ⟨m0, m1, m2, m3, m4, m5⟩ := hp.cells
                    replace hp := hp.alloc (.cells #[.string aN, .int .i64 aT, .int .i64 k, .slice aA aL aC, .string aG, .string aX] 25)
                    obtain ⟨k0, k1, k2, k3, k4, k5⟩ := hp.cells
                    obtain ⟨d0, d1, d2, d3, d4, d5⟩ := hx.cells
                    go_wp2_with fail
                    first | (go_region_held3 (fun w' => One w w' v1.heap.size aN aT 5 aA aL aC aG aX aZ ∧ One w w' wr.heap.size aN aT k aA aL aC aG aX aZ ∧ (w'.cell? ⟨v1.heap.size, 0, none⟩ = some (.string aN) ∧ w'.cell? ⟨v1.heap.size, 1, none⟩ = some (.int .i64 aT) ∧ w'.cell? ⟨v1.heap.size, 2, none⟩ = some (.int .i64 5) ∧ w'.cell? ⟨v1.heap.size, 3, none⟩ = some (.slice aA aL aC) ∧ w'.cell? ⟨v1.heap.size, 4, none⟩ = some (.string aG) ∧ w'.cell? ⟨v1.heap.size, 5, none⟩ = some (.string aX)) ∧ (w'.cell? ⟨wr.heap.size, 0, none⟩ = some (.string aN) ∧ w'.cell? ⟨wr.heap.size, 1, none⟩ = some (.int .i64 aT) ∧ w'.cell? ⟨wr.heap.size, 2, none⟩ = some (.int .i64 k) ∧ w'.cell? ⟨wr.heap.size, 3, none⟩ = some (.slice aA aL aC) ∧ w'.cell? ⟨wr.heap.size, 4, none⟩ = some (.string aG) ∧ w'.cell? ⟨wr.heap.size, 5, none⟩ = some (.string aX)))
                      (first | exact keepS (by assumption) (by assumption) | exact keepS (next_of (Below.refl _ _).drew (by assumption)) (next_of (Below.refl _ _).drew (by assumption)) | (go_split_ands; exact keepS (next_of hb9 (by assumption)) (next_of hb9 (by assumption))))
                      (first | (go_at_call 13; go_split_ands; (with_reducible refine Calls.mono (io_RecordValid (p := wr.heap.size) (by assumption) _ HVX) ?_); rintro e w9 ⟨rfl, hb9⟩))) | skip
                    all_goals go_split_ands
                    all_goals go_wp2_with fail
                    all_goals exact ⟨⟨k + 1, by omega, by omega, by go_num, (by first | assumption | exact hp.next (Below.refl _ _).drew)⟩, by simp [intOf] <;> omega⟩
            · have ql : decide (k ≤ 20) = false := by simpa using hlt
              go_wp2_with fail
              go_ret
              exact ⟨rfl, hp.below⟩
        · have p5 : (aK == 5) = false := by simpa using n5
          by_cases n12 : aK = 12
          · subst n12
            go_wp2_with fail
            go_loopw [6] (fun v wr => ∃ k : Int, 0 ≤ k ∧ k ≤ 21 ∧ v = .int .i64 k ∧ One w wr v1.heap.size aN aT 12 aA aL aC aG aX aZ) (fun v _ => 21 - (intOf v).toNat)
            case atStart => exact ⟨0, by omega, by omega, rfl, hp⟩
            case round =>
              clear c0 c1 c2 c3 c4 c5 hp
              obtain ⟨k, hk0, hk, rfl, hp⟩ := hrel
              by_cases hlt : k ≤ 20
              · have ql : decide (k ≤ 20) = true := by simpa using hlt
                by_cases e2 : k = 2
                · subst e2
                  have HVX := hid (show Z.recValid (⟨lst aN, aT, 2, aZ, lst aG, lst aX⟩ : Z.Rec) = true from (HVK.out 2).2 (by simp [Z.bare]))
                  have hx := one_copy hp aN aT 2 hsn
                  obtain ⟨m0, m1, m2, m3, m4, m5⟩ := hp.cells
                  replace hp := hp.alloc (.cells #[.string aN, .int .i64 aT, .int .i64 2, .slice aA aL aC, .string aG, .string aX] 25)
                  obtain ⟨k0, k1, k2, k3, k4, k5⟩ := hp.cells
                  obtain ⟨d0, d1, d2, d3, d4, d5⟩ := hx.cells
                  go_wp2_with fail
                  first | (go_region_held3 (fun w' => One w w' v1.heap.size aN aT 12 aA aL aC aG aX aZ ∧ One w w' wr.heap.size aN aT 2 aA aL aC aG aX aZ ∧ (w'.cell? ⟨v1.heap.size, 0, none⟩ = some (.string aN) ∧ w'.cell? ⟨v1.heap.size, 1, none⟩ = some (.int .i64 aT) ∧ w'.cell? ⟨v1.heap.size, 2, none⟩ = some (.int .i64 12) ∧ w'.cell? ⟨v1.heap.size, 3, none⟩ = some (.slice aA aL aC) ∧ w'.cell? ⟨v1.heap.size, 4, none⟩ = some (.string aG) ∧ w'.cell? ⟨v1.heap.size, 5, none⟩ = some (.string aX)) ∧ (w'.cell? ⟨wr.heap.size, 0, none⟩ = some (.string aN) ∧ w'.cell? ⟨wr.heap.size, 1, none⟩ = some (.int .i64 aT) ∧ w'.cell? ⟨wr.heap.size, 2, none⟩ = some (.int .i64 2) ∧ w'.cell? ⟨wr.heap.size, 3, none⟩ = some (.slice aA aL aC) ∧ w'.cell? ⟨wr.heap.size, 4, none⟩ = some (.string aG) ∧ w'.cell? ⟨wr.heap.size, 5, none⟩ = some (.string aX)))
                    (first | exact keepS (by assumption) (by assumption) | exact keepS (next_of (Below.refl _ _).drew (by assumption)) (next_of (Below.refl _ _).drew (by assumption)) | (go_split_ands; exact keepS (next_of hb9 (by assumption)) (next_of hb9 (by assumption))))
                    (first | (go_at_call 13; go_split_ands; (with_reducible refine Calls.mono (io_RecordValid (p := wr.heap.size) (by assumption) _ HVX) ?_); rintro e w9 ⟨rfl, hb9⟩))) | skip
                  all_goals go_split_ands
                  all_goals go_wp2_with fail
                  all_goals exact ⟨⟨3, by omega, by omega, by go_num, (by first | assumption | exact hp.next (Below.refl _ _).drew)⟩, by simp [intOf] <;> omega⟩
                · have q2 : (k == 2) = false := by simpa using e2
                  by_cases e5 : k = 5
                  · subst e5
                    have HVX := hid (show Z.recValid (⟨lst aN, aT, 5, aZ, lst aG, lst aX⟩ : Z.Rec) = true from (HVK.out 5).2 (by simp [Z.bare]))
                    have hx := one_copy hp aN aT 5 hsn
                    obtain ⟨m0, m1, m2, m3, m4, m5⟩ := hp.cells
                    replace hp := hp.alloc (.cells #[.string aN, .int .i64 aT, .int .i64 5, .slice aA aL aC, .string aG, .string aX] 25)
                    obtain ⟨k0, k1, k2, k3, k4, k5⟩ := hp.cells
                    obtain ⟨d0, d1, d2, d3, d4, d5⟩ := hx.cells
                    go_wp2_with fail
                    first | (go_region_held3 (fun w' => One w w' v1.heap.size aN aT 12 aA aL aC aG aX aZ ∧ One w w' wr.heap.size aN aT 5 aA aL aC aG aX aZ ∧ (w'.cell? ⟨v1.heap.size, 0, none⟩ = some (.string aN) ∧ w'.cell? ⟨v1.heap.size, 1, none⟩ = some (.int .i64 aT) ∧ w'.cell? ⟨v1.heap.size, 2, none⟩ = some (.int .i64 12) ∧ w'.cell? ⟨v1.heap.size, 3, none⟩ = some (.slice aA aL aC) ∧ w'.cell? ⟨v1.heap.size, 4, none⟩ = some (.string aG) ∧ w'.cell? ⟨v1.heap.size, 5, none⟩ = some (.string aX)) ∧ (w'.cell? ⟨wr.heap.size, 0, none⟩ = some (.string aN) ∧ w'.cell? ⟨wr.heap.size, 1, none⟩ = some (.int .i64 aT) ∧ w'.cell? ⟨wr.heap.size, 2, none⟩ = some (.int .i64 5) ∧ w'.cell? ⟨wr.heap.size, 3, none⟩ = some (.slice aA aL aC) ∧ w'.cell? ⟨wr.heap.size, 4, none⟩ = some (.string aG) ∧ w'.cell? ⟨wr.heap.size, 5, none⟩ = some (.string aX)))
                      (first | exact keepS (by assumption) (by assumption) | exact keepS (next_of (Below.refl _ _).drew (by assumption)) (next_of (Below.refl _ _).drew (by assumption)) | (go_split_ands; exact keepS (next_of hb9 (by assumption)) (next_of hb9 (by assumption))))
                      (first | (go_at_call 13; go_split_ands; (with_reducible refine Calls.mono (io_RecordValid (p := wr.heap.size) (by assumption) _ HVX) ?_); rintro e w9 ⟨rfl, hb9⟩))) | skip
                    all_goals go_split_ands
                    all_goals go_wp2_with fail
                    all_goals exact ⟨⟨6, by omega, by omega, by go_num, (by first | assumption | exact hp.next (Below.refl _ _).drew)⟩, by simp [intOf] <;> omega⟩
                  · have q5 : (k == 5) = false := by simpa using e5
                    by_cases e12 : k = 12
                    · subst e12
                      have HVX := hid (show Z.recValid (⟨lst aN, aT, 12, aZ, lst aG, lst aX⟩ : Z.Rec) = true from (HVK.out 12).2 (by simp [Z.bare]))
                      have hx := one_copy hp aN aT 12 hsn
                      obtain ⟨m0, m1, m2, m3, m4, m5⟩ := hp.cells
                      replace hp := hp.alloc (.cells #[.string aN, .int .i64 aT, .int .i64 12, .slice aA aL aC, .string aG, .string aX] 25)
                      obtain ⟨k0, k1, k2, k3, k4, k5⟩ := hp.cells
                      obtain ⟨d0, d1, d2, d3, d4, d5⟩ := hx.cells
                      go_wp2_with fail
                      have hun : undef = Value.tuple #[] := rfl
                      first | (go_region_with (go_at_call 13; (with_reducible refine Calls.mono (io_RecordValid (p := wr.heap.size) (hx.next (Below.refl _ _).drew) _ HVX) ?_); rintro e w9 ⟨rfl, hb9⟩; replace hp := (hp.next (Below.refl _ _).drew).next hb9; replace hx := (hx.next (Below.refl _ _).drew).next hb9; clear hb9 k0 k1 k2 k3 k4 k5 d0 d1 d2 d3 d4 d5; obtain ⟨k0, k1, k2, k3, k4, k5⟩ := hp.cells; obtain ⟨d0, d1, d2, d3, d4, d5⟩ := hx.cells)) | skip
                      all_goals go_split_ands
                      all_goals (try simp only [← hun])
                      all_goals clear hun
                      all_goals go_wp2_with fail
                      all_goals exact ⟨⟨13, by omega, by omega, by go_num, (by first | assumption | exact hp.next (Below.refl _ _).drew)⟩, by simp [intOf] <;> omega⟩
                    · have q12 : (k == 12) = false := by simpa using e12
                      have HVX := hid (show Z.recValid (⟨lst aN, aT, k, aZ, lst aG, lst aX⟩ : Z.Rec) = false from Bool.eq_false_iff.2 (fun h => by have h9 := (HVK.out k).1 h; simp only [Z.bare] at h9; clear HVK; omega))
                      have hx := one_copy hp aN aT k hsn
                      obtain ⟨m0, m1, m2, m3, m4, m5⟩ := hp.cells
                      replace hp := hp.alloc (.cells #[.string aN, .int .i64 aT, .int .i64 k, .slice aA aL aC, .string aG, .string aX] 25)
                      obtain ⟨k0, k1, k2, k3, k4, k5⟩ := hp.cells
                      obtain ⟨d0, d1, d2, d3, d4, d5⟩ := hx.cells
                      go_wp2_with fail
                      first | (go_region_held3 (fun w' => One w w' v1.heap.size aN aT 12 aA aL aC aG aX aZ ∧ One w w' wr.heap.size aN aT k aA aL aC aG aX aZ ∧ (w'.cell? ⟨v1.heap.size, 0, none⟩ = some (.string aN) ∧ w'.cell? ⟨v1.heap.size, 1, none⟩ = some (.int .i64 aT) ∧ w'.cell? ⟨v1.heap.size, 2, none⟩ = some (.int .i64 12) ∧ w'.cell? ⟨v1.heap.size, 3, none⟩ = some (.slice aA aL aC) ∧ w'.cell? ⟨v1.heap.size, 4, none⟩ = some (.string aG) ∧ w'.cell? ⟨v1.heap.size, 5, none⟩ = some (.string aX)) ∧ (w'.cell? ⟨wr.heap.size, 0, none⟩ = some (.string aN) ∧ w'.cell? ⟨wr.heap.size, 1, none⟩ = some (.int .i64 aT) ∧ w'.cell? ⟨wr.heap.size, 2, none⟩ = some (.int .i64 k) ∧ w'.cell? ⟨wr.heap.size, 3, none⟩ = some (.slice aA aL aC) ∧ w'.cell? ⟨wr.heap.size, 4, none⟩ = some (.string aG) ∧ w'.cell? ⟨wr.heap.size, 5, none⟩ = some (.string aX)))
                        (first | exact keepS (by assumption) (by assumption) | exact keepS (next_of (Below.refl _ _).drew (by assumption)) (next_of (Below.refl _ _).drew (by assumption)) | (go_split_ands; exact keepS (next_of hb9 (by assumption)) (next_of hb9 (by assumption))))
                        (first | (go_at_call 13; go_split_ands; (with_reducible refine Calls.mono (io_RecordValid (p := wr.heap.size) (by assumption) _ HVX) ?_); rintro e w9 ⟨rfl, hb9⟩))) | skip
                      all_goals go_split_ands
                      all_goals go_wp2_with fail
                      all_goals exact ⟨⟨k + 1, by omega, by omega, by go_num, (by first | assumption | exact hp.next (Below.refl _ _).drew)⟩, by simp [intOf] <;> omega⟩
              · have ql : decide (k ≤ 20) = false := by simpa using hlt
                go_wp2_with fail
                go_ret
                exact ⟨rfl, hp.below⟩
          · have p12 : (aK == 12) = false := by simpa using n12
            go_wp2_with fail
            go_loopw [6] (fun v wr => ∃ k : Int, 0 ≤ k ∧ k ≤ 21 ∧ v = .int .i64 k ∧ One w wr v1.heap.size aN aT aK aA aL aC aG aX aZ) (fun v _ => 21 - (intOf v).toNat)
            case atStart => exact ⟨0, by omega, by omega, rfl, hp⟩
            case round =>
              clear c0 c1 c2 c3 c4 c5 hp
              obtain ⟨k, hk0, hk, rfl, hp⟩ := hrel
              by_cases hlt : k ≤ 20
              · have ql : decide (k ≤ 20) = true := by simpa using hlt
                by_cases e2 : k = 2
                · subst e2
                  have qa : ((2 : Int) == aK) = false := by simp; omega
                  have HVX := hid (show Z.recValid (⟨lst aN, aT, 2, aZ, lst aG, lst aX⟩ : Z.Rec) = false from Bool.eq_false_iff.2 (fun h => by have h9 := (HVK.out 2).1 h; simp only [Z.bare] at h9; clear HVK; omega))
                  have hx := one_copy hp aN aT 2 hsn
                  obtain ⟨m0, m1, m2, m3, m4, m5⟩ := hp.cells
                  replace hp := hp.alloc (.cells #[.string aN, .int .i64 aT, .int .i64 2, .slice aA aL aC, .string aG, .string aX] 25)
                  obtain ⟨k0, k1, k2, k3, k4, k5⟩ := hp.cells
                  obtain ⟨d0, d1, d2, d3, d4, d5⟩ := hx.cells
                  go_wp2_with fail
                  first | (go_region_with (go_at_call 13; (with_reducible refine Calls.mono (io_RecordValid (p := wr.heap.size) (hx.next (Below.refl _ _).drew) _ HVX) ?_); rintro e w9 ⟨rfl, hb9⟩; replace hp := (hp.next (Below.refl _ _).drew).next hb9; replace hx := (hx.next (Below.refl _ _).drew).next hb9; clear hb9 k0 k1 k2 k3 k4 k5 d0 d1 d2 d3 d4 d5; obtain ⟨k0, k1, k2, k3, k4, k5⟩ := hp.cells; obtain ⟨d0, d1, d2, d3, d4, d5⟩ := hx.cells)) | skip
                  all_goals go_split_ands
                  all_goals go_wp2_with fail
                  all_goals exact ⟨⟨3, by omega, by omega, by go_num, (by first | assumption | exact hp.next (Below.refl _ _).drew)⟩, by simp [intOf] <;> omega⟩
                · have q2 : (k == 2) = false := by simpa using e2
                  by_cases e5 : k = 5
                  · subst e5
                    have qa : ((5 : Int) == aK) = false := by simp; omega
                    have HVX := hid (show Z.recValid (⟨lst aN, aT, 5, aZ, lst aG, lst aX⟩ : Z.Rec) = false from Bool.eq_false_iff.2 (fun h => by have h9 := (HVK.out 5).1 h; simp only [Z.bare] at h9; clear HVK; omega))
                    have hx := one_copy hp aN aT 5 hsn
                    obtain ⟨m0, m1, m2, m3, m4, m5⟩ := hp.cells
                    replace hp := hp.alloc (.cells #[.string aN, .int .i64 aT, .int .i64 5, .slice aA aL aC, .string aG, .string aX] 25)
                    obtain ⟨k0, k1, k2, k3, k4, k5⟩ := hp.cells
                    obtain ⟨d0, d1, d2, d3, d4, d5⟩ := hx.cells
                    go_wp2_with fail
                    first | (go_region_with (go_at_call 13; (with_reducible refine Calls.mono (io_RecordValid (p := wr.heap.size) (hx.next (Below.refl _ _).drew) _ HVX) ?_); rintro e w9 ⟨rfl, hb9⟩; replace hp := (hp.next (Below.refl _ _).drew).next hb9; replace hx := (hx.next (Below.refl _ _).drew).next hb9; clear hb9 k0 k1 k2 k3 k4 k5 d0 d1 d2 d3 d4 d5; obtain ⟨k0, k1, k2, k3, k4, k5⟩ := hp.cells; obtain ⟨d0, d1, d2, d3, d4, d5⟩ := hx.cells)) | skip
                    all_goals go_split_ands
                    all_goals go_wp2_with fail
                    all_goals exact ⟨⟨6, by omega, by omega, by go_num, (by first | assumption | exact hp.next (Below.refl _ _).drew)⟩, by simp [intOf] <;> omega⟩
                  · have q5 : (k == 5) = false := by simpa using e5
                    by_cases e12 : k = 12
                    · subst e12
                      have qa : ((12 : Int) == aK) = false := by simp; omega
                      have HVX := hid (show Z.recValid (⟨lst aN, aT, 12, aZ, lst aG, lst aX⟩ : Z.Rec) = false from Bool.eq_false_iff.2 (fun h => by have h9 := (HVK.out 12).1 h; simp only [Z.bare] at h9; clear HVK; omega))
                      have hx := one_copy hp aN aT 12 hsn
                      obtain ⟨m0, m1, m2, m3, m4, m5⟩ := hp.cells
                      replace hp := hp.alloc (.cells #[.string aN, .int .i64 aT, .int .i64 12, .slice aA aL aC, .string aG, .string aX] 25)
                      obtain ⟨k0, k1, k2, k3, k4, k5⟩ := hp.cells
                      obtain ⟨d0, d1, d2, d3, d4, d5⟩ := hx.cells
                      go_wp2_with fail
                      first | (go_region_with (go_at_call 13; (with_reducible refine Calls.mono (io_RecordValid (p := wr.heap.size) (hx.next (Below.refl _ _).drew) _ HVX) ?_); rintro e w9 ⟨rfl, hb9⟩; replace hp := (hp.next (Below.refl _ _).drew).next hb9; replace hx := (hx.next (Below.refl _ _).drew).next hb9; clear hb9 k0 k1 k2 k3 k4 k5 d0 d1 d2 d3 d4 d5; obtain ⟨k0, k1, k2, k3, k4, k5⟩ := hp.cells; obtain ⟨d0, d1, d2, d3, d4, d5⟩ := hx.cells)) | skip
                      all_goals go_split_ands
                      all_goals go_wp2_with fail
                      all_goals exact ⟨⟨13, by omega, by omega, by go_num, (by first | assumption | exact hp.next (Below.refl _ _).drew)⟩, by simp [intOf] <;> omega⟩
                    · have q12 : (k == 12) = false := by simpa using e12
                      by_cases ea : k = aK
                      · have qa : (k == aK) = true := by simpa using ea
                        have HVX := hid (show Z.recValid (⟨lst aN, aT, k, aZ, lst aG, lst aX⟩ : Z.Rec) = true from (HVK.out k).2 (Or.inl ea))
                        have HE := hid ea
                        clear ea
                        have hx := one_copy hp aN aT k hsn
                        obtain ⟨m0, m1, m2, m3, m4, m5⟩ := hp.cells
                        replace hp := hp.alloc (.cells #[.string aN, .int .i64 aT, .int .i64 k, .slice aA aL aC, .string aG, .string aX] 25)
                        obtain ⟨k0, k1, k2, k3, k4, k5⟩ := hp.cells
                        obtain ⟨d0, d1, d2, d3, d4, d5⟩ := hx.cells
                        go_wp2_with fail
                        have hun : undef = Value.tuple #[] := rfl
                        first | (go_region_with (go_at_call 13; (with_reducible refine Calls.mono (io_RecordValid (p := wr.heap.size) (hx.next (Below.refl _ _).drew) _ HVX) ?_); rintro e w9 ⟨rfl, hb9⟩; replace hp := (hp.next (Below.refl _ _).drew).next hb9; replace hx := (hx.next (Below.refl _ _).drew).next hb9; clear hb9 k0 k1 k2 k3 k4 k5 d0 d1 d2 d3 d4 d5; obtain ⟨k0, k1, k2, k3, k4, k5⟩ := hp.cells; obtain ⟨d0, d1, d2, d3, d4, d5⟩ := hx.cells)) | skip
                        all_goals go_split_ands
                        all_goals (try simp only [← hun])
                        all_goals clear hun
                        all_goals go_wp2_with fail
                        all_goals exact ⟨⟨k + 1, by omega, by omega, by go_num, (by first | assumption | exact hp.next (Below.refl _ _).drew)⟩, by simp [intOf] <;> omega⟩
                      · have qa : (k == aK) = false := by simpa using ea
                        have HVX := hid (show Z.recValid (⟨lst aN, aT, k, aZ, lst aG, lst aX⟩ : Z.Rec) = false from Bool.eq_false_iff.2 (fun h => by have h9 := (HVK.out k).1 h; simp only [Z.bare] at h9; clear HVK; omega))
                        have hx := one_copy hp aN aT k hsn
                        obtain ⟨m0, m1, m2, m3, m4, m5⟩ := hp.cells
                        replace hp := hp.alloc (.cells #[.string aN, .int .i64 aT, .int .i64 k, .slice aA aL aC, .string aG, .string aX] 25)
                        obtain ⟨k0, k1, k2, k3, k4, k5⟩ := hp.cells
                        obtain ⟨d0, d1, d2, d3, d4, d5⟩ := hx.cells
                        go_wp2_with fail
                        first | (go_region_with (go_at_call 13; (with_reducible refine Calls.mono (io_RecordValid (p := wr.heap.size) (hx.next (Below.refl _ _).drew) _ HVX) ?_); rintro e w9 ⟨rfl, hb9⟩; replace hp := (hp.next (Below.refl _ _).drew).next hb9; replace hx := (hx.next (Below.refl _ _).drew).next hb9; clear hb9 k0 k1 k2 k3 k4 k5 d0 d1 d2 d3 d4 d5; obtain ⟨k0, k1, k2, k3, k4, k5⟩ := hp.cells; obtain ⟨d0, d1, d2, d3, d4, d5⟩ := hx.cells)) | skip
                        all_goals go_split_ands
                        all_goals go_wp2_with fail
                        all_goals exact ⟨⟨k + 1, by omega, by omega, by go_num, (by first | assumption | exact hp.next (Below.refl _ _).drew)⟩, by simp [intOf] <;> omega⟩
              · have ql : decide (k ≤ 20) = false := by simpa using hlt
                go_wp2_with fail
                go_ret
                exact ⟨rfl, hp.below⟩
  · go_enter Try.func6, Try.ntmps6
    go_wp2_with fail
    go_ret
    exact ⟨rfl, Below.refl _ _⟩

set_option maxRecDepth 100000 in
theorem lifted (os : Os) (started : os.Started) (H : Type) (enc : TypeId × Value → H) :
    ReturnsInHanded {} Try.checked os 6 .any (Rows.fnRecordKindsSpec.pre6 enc Try.prog Try.f6 Rows.fnRecordKindsRow.domain false) (Rows.fnRecordKindsSpec.post enc Try.prog Try.f6 false true false false) := by
  refine returnsInHanded_of_change (C := Try.checked) own started (by kernel_rfl) Try.func6
    (ChangeSpec.witness6 (enc := enc) (C := Try.checked) false ⟨#[], #[.slice none 0 0], []⟩ 8 (by kernel_rfl) (by kernel_rfl) (by kernel_rfl) (by kernel_rfl)) ?_
  intro W base args ds gs before hval0 hW hcnd _
  have hval : ∀ (j : Nat) t v, Try.f6.params[j]? = some t → args[j]? = some v → Value.okWide Try.prog W .any base t v := hval0
  have hW' := hW
  obtain ⟨p, q, hA0, hV, rfl, hfz, hnd⟩ := hW
  have hA : DataW.TrodAll enc Try.prog W 0 (fun _ => true) true Try.f6.params.toList args.toList ds p := hA0
  rw [Try.params6] at hA hval
  obtain ⟨v0, vs0, d0, ds0, p0, q0, hargs, rfl, rfl, h0, r0⟩ := trodAll_cons hA
  obtain ⟨rfl, rfl, rfl⟩ := trodAll_nil r0
  obtain rfl : args = #[v0] := by cases args; simp_all
  obtain ⟨rfl, rfl⟩ := trodVars_none hV
  obtain ⟨a0, len0, cap0, rfl⟩ := okWide_slice Try.underlying22 (hval 0 22 v0 rfl rfl)
  have k0 := h0
  have lt0 : ∀ x ∈ p0, x.block < W.heap.size := by obtain ⟨m, hm⟩ := k0; exact DataW.trod_lt m _ _ _ hm
  obtain ⟨z0, w0⟩ : ∃ zs, IsRow .u8 W a0 len0 cap0 zs := by
    obtain ⟨fuel, hf⟩ := h0
    rcases open_ints Try.underlying22 Try.underlying5 (by kernel_rfl) hf with ⟨hcs, _⟩ | ⟨x, l, c, zs, hcs, _, hl, hm, hz, _, hcell, hwz⟩
    · simp [Value.cells] at hcs
      obtain ⟨rfl, rfl, rfl⟩ := hcs
      exact ⟨[], .inl ⟨rfl, rfl, rfl, rfl⟩⟩
    · simp [Value.cells] at hcs
      obtain ⟨rfl, rfl, rfl⟩ := hcs
      exact ⟨zs, .inr ⟨_, rfl, hl, hm, by simpa using hz, hcell, hwz⟩⟩
  clear hA0 hval0
  refine (walk a0 len0 cap0 z0 W w0).mono fun e W' ⟨he, bel⟩ => ?_
  subst he
  exact ⟨_, rfl, _, _, _, [], _, [], hW', trodAll_mk1 (shut_bool Try.underlying4 _), (trodAll_cons_mk (Below.trod laidOut (by kernel_rfl) (of_decide_eq_true (by kernel_rfl)) k0 bel lt0) trodAll_mk0), rfl, bel.frame _, fun h => by cases h⟩

theorem over : Rows.fnRecordKindsRow.holds Try.pinned (OpenSpec.ofChange Rows.fnRecordKindsSpec) :=
  OpenClaim.holds_of_wide 6 Try.f6 rfl rfl rfl rfl rfl rfl rfl ⟨rfl, rfl, rfl, rfl, rfl⟩ rfl rfl rfl rfl rfl (by kernel_rfl) Try.func6 (by kernel_rfl)
    (of_decide_eq_true (by kernel_rfl)) (by unfold Func.isWrapper; first | (rw [if_pos (by decide +kernel)]; kernel_rfl) | (rw [if_neg (by decide +kernel)]; exact ⟨rfl, rfl⟩))
    (fun os started H enc _ => lifted os started H enc)

theorem proved : Rows.FnRecordKindsSaid := over
end Go.Proofs.Ytaiijnaockbahaa.fnRecordKinds

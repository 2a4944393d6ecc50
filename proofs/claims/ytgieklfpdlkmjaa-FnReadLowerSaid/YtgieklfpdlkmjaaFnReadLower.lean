/- For every input, a text with great letters is read as the one with small letters. -/
import Derived.Test.YtgieklfpdlkmjaaRows
import Derived.Test.YtgieklfpdlkmjaaL
import Derived.WalkKit
import Derived.ProofKit
import Derived.OpenShut
import Derived.ShutString
import Derived.ChangeOld
import Derived.Below
namespace Go.Proofs.Ytgieklfpdlkmjaa.fnReadLower
open Go.ChangeShapes Go.WideShapes Go.ChangeAt Go.RowKit
open Go.ChangeMaps (open_string shut_string)
set_option linter.unusedVariables false

theorem own : ownKnob Try.prog.godebug = none := by kernel_rfl
theorem laidOut : laidOutB Try.prog = true := by kernel_rfl

theorem upper_take_succ (s : ByteArray) (k : Nat) (h : k < s.size) : (Z.upper (lst s)).take (k + 1) = (Z.upper (lst s)).take k ++ [Z.upByte s[k]] := by
  unfold Z.upper
  rw [← List.map_take, lst_take_succ s k h, List.map_append, List.map_take]; rfl
theorem upper_up {c : UInt8} (h1 : 97 ≤ (c.toNat : Int)) (h2 : (c.toNat : Int) ≤ 122) : bv (Z.upByte c) = .int .u8 ((c.toNat : Int) - 32) := by
  unfold bv
  congr 1
  rcases Z.upByte_cases c with ⟨_, _, h5⟩ | ⟨h3, _⟩
  · rw [h5]; omega
  · omega
theorem upper_same {c : UInt8} (h : ¬ (97 ≤ (c.toNat : Int) ∧ (c.toNat : Int) ≤ 122)) : bv (Z.upByte c) = .int .u8 (c.toNat : Int) := by
  unfold bv
  congr 2
  rcases Z.upByte_cases c with ⟨h3, h4, _⟩ | ⟨_, h5⟩
  · omega
  · rw [h5]

set_option maxHeartbeats 2000000 in
theorem walk (a0 : Option Addr) (len0 cap0 : Nat) (z0 : List Int) (w : World) (w0 : IsRow .u8 w a0 len0 cap0 z0) :
    Calls Try.prog 13 #[.slice a0 len0 cap0] w fun e w' => e = .returned (.bool true) ∧ Below w.heap.size w w' := by
  obtain ⟨i0, hi0, hz0, hz1, hz2⟩ := info_parts infoByte
  have hc0 := row_cap w0
  unfold maxLen at hc0
  by_cases hb0 : len0 ≤ 1048576
  · obtain ⟨zs0, rfl, hcode0⟩ := code_of_row w0 hb0
    clear w0
    go_enter Try.func13, Try.ntmps13
    go_wp2_with fail
    refine (DrawReadName_any _ _ zs0 w hcode0).mono ?_
    rintro e v1 ⟨a, b, rfl, ha, hb, hbv1⟩
    have hs1 : Since w.heap.size w v1 := (Since.start w).next hbv1
    rcases opt_text (L := 60) (o := Z.readName (lst a) (lst b)) (fun x hx => readName_len hx) with n0 | ⟨n, n0, n1⟩
    · have hu : Z.readName (lst (bs (Z.upper (lst a)))) (lst b) = none := by rw [lst_bs, Z.readName_upper]; exact n0
      have hul : (Z.upper (lst a)).length = a.size := by unfold Z.upper; rw [List.length_map, lst_length]
      have hus : (bs (Z.upper (lst a))).size ≤ 100 := by rw [bs_size]; omega
      go_wp2_with (first | (go_at_call 25; first | (refine (i_ReadName_some _ _ (by omega) (by omega) (by assumption) (by assumption)).mono ?_; rintro e w2 ⟨rfl, hs⟩) | (refine (i_ReadName_none _ _ (by omega) (by omega) (by assumption) (by assumption)).mono ?_; rintro e w2 ⟨rfl, hs⟩)) | (go_at_call 26; first | (refine (s_ReadName_some _ _ (by omega) (by omega) (by assumption) (by assumption)).mono ?_; rintro e w2 ⟨rfl, hs⟩) | (refine (s_ReadName_none _ _ (by omega) (by omega) (by assumption) (by assumption)).mono ?_; rintro e w2 ⟨rfl, hs⟩)))
      have hsx := hs
      go_loopw [9, 10] (fun v i wr => ∃ (k : Nat), k ≤ a.size ∧ i = .int .i64 k ∧ wr.ownsRow w.heap.size 5 1 v k (((Z.upper (lst a)).take k).map bv) ∧ Since w.heap.size w wr) (fun _ i _ => a.size - (intOf i).toNat)
      case atStart => exact ⟨0, Nat.zero_le _, rfl, World.ownsRow_made _ #[] 0 hsx.2 (by decide) (by simp), hsx.1.alloc hsx.2 _, by have := hsx.2; simp; omega⟩
      case round =>
        obtain ⟨k, hk, rfl, hown, hsw⟩ := hrel
        have hbs := hsw.2
        by_cases hlt : k < a.size
        · have hsn := hid (upper_take_succ a k hlt)
          by_cases hup : 97 ≤ (a[k].toNat : Int) ∧ (a[k].toNat : Int) ≤ 122
          · obtain ⟨hu1, hu2⟩ := hup
            go_wp2_with (at_builtin; refine wpList_append1 _ (.int .u8 ((a[k].toNat : Int) - 32)) _ rfl (.tmp 60) (.tmp 62) _ rfl w.heap.size 5 i0 _ 1 Try.underlying22 hi0 hz0 hz1 hz2 rfl _ _ _ rfl hown rfl rfl (by unfold maxLen; omega) (by omega) hbs ?_; intro v1 w1 hown1 hb1)
            go_roundw
            case rel =>
              refine ⟨k + 1, by omega, by go_num, ?_, hsw.1.trans hb1, Nat.le_trans hbs hb1.size⟩
              rw [hsn.out, List.map_append, List.map_singleton, upper_up hu1 hu2]
              exact hown1
            case measure => simp [intOf]; omega
          · have hlow := hid (upper_same hup)
            by_cases hu1 : 97 ≤ (a[k].toNat : Int)
            all_goals
              go_wp2_with (at_builtin; refine wpList_append1 _ (.int .u8 (a[k].toNat : Int)) _ rfl (.tmp 60) (.tmp 62) _ rfl w.heap.size 5 i0 _ 1 Try.underlying22 hi0 hz0 hz1 hz2 rfl _ _ _ rfl hown rfl rfl (by unfold maxLen; omega) (by omega) hbs ?_; intro v1 w1 hown1 hb1)
              go_roundw
              case rel =>
                refine ⟨k + 1, by omega, by go_num, ?_, hsw.1.trans hb1, Nat.le_trans hbs hb1.size⟩
                rw [hsn.out, List.map_append, List.map_singleton, hlow.out]
                exact hown1
              case measure => simp [intOf]; omega
        · have hks : k = a.size := by omega
          subst hks
          obtain ⟨A, c, rfl⟩ := own_slice hown
          have hfull : (Z.upper (lst a)).take a.size = Z.upper (lst a) := List.take_of_length_le (by omega)
          rw [hfull] at hown
          have hcv := conv_own (P := Try.prog) Try.underlying22 Try.underlying5 Try.underlying9 hown
          clear hfull
          have hs9 := hsw
          go_wp2_with (first | (go_at_call 25; first | (refine (i_ReadName_some _ _ (by omega) (by omega) (by assumption) (by assumption)).mono ?_; rintro e w2 ⟨rfl, hs⟩) | (refine (i_ReadName_none _ _ (by omega) (by omega) (by assumption) (by assumption)).mono ?_; rintro e w2 ⟨rfl, hs⟩)) | (go_at_call 26; first | (refine (s_ReadName_some _ _ (by omega) (by omega) (by assumption) (by assumption)).mono ?_; rintro e w2 ⟨rfl, hs⟩) | (refine (s_ReadName_none _ _ (by omega) (by omega) (by assumption) (by assumption)).mono ?_; rintro e w2 ⟨rfl, hs⟩)))
          all_goals go_ret
          all_goals exact ⟨rfl, And.left (by assumption)⟩
    · have hu : Z.readName (lst (bs (Z.upper (lst a)))) (lst b) = some (lst n) := by rw [lst_bs, Z.readName_upper]; exact n0
      have hul : (Z.upper (lst a)).length = a.size := by unfold Z.upper; rw [List.length_map, lst_length]
      have hus : (bs (Z.upper (lst a))).size ≤ 100 := by rw [bs_size]; omega
      go_wp2_with (first | (go_at_call 25; first | (refine (i_ReadName_some _ _ (by omega) (by omega) (by assumption) (by assumption)).mono ?_; rintro e w2 ⟨rfl, hs⟩) | (refine (i_ReadName_none _ _ (by omega) (by omega) (by assumption) (by assumption)).mono ?_; rintro e w2 ⟨rfl, hs⟩)) | (go_at_call 26; first | (refine (s_ReadName_some _ _ (by omega) (by omega) (by assumption) (by assumption)).mono ?_; rintro e w2 ⟨rfl, hs⟩) | (refine (s_ReadName_none _ _ (by omega) (by omega) (by assumption) (by assumption)).mono ?_; rintro e w2 ⟨rfl, hs⟩)))
      have hsx := hs
      go_loopw [9, 10] (fun v i wr => ∃ (k : Nat), k ≤ a.size ∧ i = .int .i64 k ∧ wr.ownsRow w.heap.size 5 1 v k (((Z.upper (lst a)).take k).map bv) ∧ Since w.heap.size w wr) (fun _ i _ => a.size - (intOf i).toNat)
      case atStart => exact ⟨0, Nat.zero_le _, rfl, World.ownsRow_made _ #[] 0 hsx.2 (by decide) (by simp), hsx.1.alloc hsx.2 _, by have := hsx.2; simp; omega⟩
      case round =>
        obtain ⟨k, hk, rfl, hown, hsw⟩ := hrel
        have hbs := hsw.2
        by_cases hlt : k < a.size
        · have hsn := hid (upper_take_succ a k hlt)
          by_cases hup : 97 ≤ (a[k].toNat : Int) ∧ (a[k].toNat : Int) ≤ 122
          · obtain ⟨hu1, hu2⟩ := hup
            go_wp2_with (at_builtin; refine wpList_append1 _ (.int .u8 ((a[k].toNat : Int) - 32)) _ rfl (.tmp 60) (.tmp 62) _ rfl w.heap.size 5 i0 _ 1 Try.underlying22 hi0 hz0 hz1 hz2 rfl _ _ _ rfl hown rfl rfl (by unfold maxLen; omega) (by omega) hbs ?_; intro v1 w1 hown1 hb1)
            go_roundw
            case rel =>
              refine ⟨k + 1, by omega, by go_num, ?_, hsw.1.trans hb1, Nat.le_trans hbs hb1.size⟩
              rw [hsn.out, List.map_append, List.map_singleton, upper_up hu1 hu2]
              exact hown1
            case measure => simp [intOf]; omega
          · have hlow := hid (upper_same hup)
            by_cases hu1 : 97 ≤ (a[k].toNat : Int)
            all_goals
              go_wp2_with (at_builtin; refine wpList_append1 _ (.int .u8 (a[k].toNat : Int)) _ rfl (.tmp 60) (.tmp 62) _ rfl w.heap.size 5 i0 _ 1 Try.underlying22 hi0 hz0 hz1 hz2 rfl _ _ _ rfl hown rfl rfl (by unfold maxLen; omega) (by omega) hbs ?_; intro v1 w1 hown1 hb1)
              go_roundw
              case rel =>
                refine ⟨k + 1, by omega, by go_num, ?_, hsw.1.trans hb1, Nat.le_trans hbs hb1.size⟩
                rw [hsn.out, List.map_append, List.map_singleton, hlow.out]
                exact hown1
              case measure => simp [intOf]; omega
        · have hks : k = a.size := by omega
          subst hks
          obtain ⟨A, c, rfl⟩ := own_slice hown
          have hfull : (Z.upper (lst a)).take a.size = Z.upper (lst a) := List.take_of_length_le (by omega)
          rw [hfull] at hown
          have hcv := conv_own (P := Try.prog) Try.underlying22 Try.underlying5 Try.underlying9 hown
          clear hfull
          have hs9 := hsw
          go_wp2_with (first | (go_at_call 25; first | (refine (i_ReadName_some _ _ (by omega) (by omega) (by assumption) (by assumption)).mono ?_; rintro e w2 ⟨rfl, hs⟩) | (refine (i_ReadName_none _ _ (by omega) (by omega) (by assumption) (by assumption)).mono ?_; rintro e w2 ⟨rfl, hs⟩)) | (go_at_call 26; first | (refine (s_ReadName_some _ _ (by omega) (by omega) (by assumption) (by assumption)).mono ?_; rintro e w2 ⟨rfl, hs⟩) | (refine (s_ReadName_none _ _ (by omega) (by omega) (by assumption) (by assumption)).mono ?_; rintro e w2 ⟨rfl, hs⟩)))
          all_goals go_ret
          all_goals exact ⟨rfl, And.left (by assumption)⟩
  · go_enter Try.func13, Try.ntmps13
    go_wp2_with fail
    go_ret
    exact ⟨rfl, Below.refl _ _⟩

set_option maxRecDepth 100000 in
theorem lifted (os : Os) (started : os.Started) (H : Type) (enc : TypeId × Value → H) :
    ReturnsInHanded {} Try.checked os 13 .any (Rows.fnReadLowerSpec.pre6 enc Try.prog Try.f13 Rows.fnReadLowerRow.domain false) (Rows.fnReadLowerSpec.post enc Try.prog Try.f13 false true false false) := by
  refine returnsInHanded_of_change (C := Try.checked) own started (by kernel_rfl) Try.func13
    (ChangeSpec.witness6 (enc := enc) (C := Try.checked) false ⟨#[], #[.slice none 0 0], []⟩ 8 (by kernel_rfl) (by kernel_rfl) (by kernel_rfl) (by kernel_rfl)) ?_
  intro W base args ds gs before hval0 hW hcnd _
  have hval : ∀ (j : Nat) t v, Try.f13.params[j]? = some t → args[j]? = some v → Value.okWide Try.prog W .any base t v := hval0
  have hW' := hW
  obtain ⟨p, q, hA0, hV, rfl, hfz, hnd⟩ := hW
  have hA : DataW.TrodAll enc Try.prog W 0 (fun _ => true) true Try.f13.params.toList args.toList ds p := hA0
  rw [Try.params13] at hA hval
  obtain ⟨v0, vs0, d0, ds0, p0, q0, hargs, rfl, rfl, h0, r0⟩ := trodAll_cons hA
  obtain ⟨rfl, rfl, rfl⟩ := trodAll_nil r0
  obtain rfl : args = #[v0] := by cases args; simp_all
  obtain ⟨rfl, rfl⟩ := trodVars_none hV
  obtain ⟨a0, len0, cap0, rfl⟩ := okWide_slice Try.underlying22 (hval 0 22 v0 rfl rfl)
  have k0 := h0
  have lt0 : ∀ x ∈ p0, x.block < W.heap.size := by obtain ⟨m, hm⟩ := k0; exact DataW.trod_lt m _ _ _ hm
  obtain ⟨z0, w0⟩ : ∃ zs, IsRow .u8 W a0 len0 cap0 zs := by
    obtain ⟨fuel, hf⟩ := h0
    rcases open_ints Try.underlying22 Try.underlying5 (by kernel_rfl) hf with ⟨hcs, _⟩ | ⟨x, l, c, zs, hcs, _, hl, hm, hz, _, hcell, hwz⟩
    · simp [Value.cells] at hcs
      obtain ⟨rfl, rfl, rfl⟩ := hcs
      exact ⟨[], .inl ⟨rfl, rfl, rfl, rfl⟩⟩
    · simp [Value.cells] at hcs
      obtain ⟨rfl, rfl, rfl⟩ := hcs
      exact ⟨zs, .inr ⟨_, rfl, hl, hm, by simpa using hz, hcell, hwz⟩⟩
  clear hA0 hval0
  refine (walk a0 len0 cap0 z0 W w0).mono fun e W' ⟨he, bel⟩ => ?_
  subst he
  exact ⟨_, rfl, _, _, _, [], _, [], hW', trodAll_mk1 (shut_bool Try.underlying4 _), (trodAll_cons_mk (Below.trod laidOut (by kernel_rfl) (of_decide_eq_true (by kernel_rfl)) k0 bel lt0) trodAll_mk0), rfl, bel.frame _, fun h => by cases h⟩

theorem over : Rows.fnReadLowerRow.holds Try.pinned (OpenSpec.ofChange Rows.fnReadLowerSpec) :=
  OpenClaim.holds_of_wide 13 Try.f13 rfl rfl rfl rfl rfl rfl rfl ⟨rfl, rfl, rfl, rfl, rfl⟩ rfl rfl rfl rfl rfl (by kernel_rfl) Try.func13 (by kernel_rfl)
    (of_decide_eq_true (by kernel_rfl)) (by unfold Func.isWrapper; first | (rw [if_pos (by decide +kernel)]; kernel_rfl) | (rw [if_neg (by decide +kernel)]; exact ⟨rfl, rfl⟩))
    (fun os started H enc _ => lifted os started H enc)

theorem proved : Rows.FnReadLowerSaid := over
end Go.Proofs.Ytgieklfpdlkmjaa.fnReadLower

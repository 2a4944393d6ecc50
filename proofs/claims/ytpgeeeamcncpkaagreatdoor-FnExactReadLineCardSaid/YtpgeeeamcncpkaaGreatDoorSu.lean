/- The scanner of master files: what scanLines does with lines that cannot be read. -/
import Derived.Test.YtpgeeeamcncpkaaGreatDoorSz
import Derived.Defers
import Derived.Recover
import Derived.Laws.Pointers
namespace Go.Proofs.YtpgeeeamcncpkaaGreatDoor
open Go.RowKit
set_option maxRecDepth 100000
set_option linter.unusedVariables false
set_option linter.unusedSimpArgs false

set_option maxHeartbeats 8000000 in
theorem scan_fail (o ow : ByteArray) (t : Int) (A : Option Addr) (c : Nat) (w : World) (hm : MX w) (hk : KT w) (ls : List Z.Str) (hr : Reads w w.heap.size A ls.length (ls.map sv)) (hn : ls.length ≤ 67108864) (hsz : Hid (∀ l ∈ ls, l.length ≤ 67108860)) (hst : Z.stOk ⟨lst o, t, lst ow⟩ = true) (m : Nat) (hres : Hid (Z.readLines ⟨lst o, t, lst ow⟩ 0 0 ls = .error m)) :
    Calls Tryz.prog 68 #[.agg #[.string o, .int .i64 t, .string ow], .slice A ls.length c] w fun e w' => ∃ (o' ow' : ByteArray) (t' l : Int) (FA : Option Addr) (Fn Fc : Nat) (LA : Option Addr) (Ln Lc : Nat), e = .returned (.tuple #[.agg #[.string o', .int .i64 t', .string ow', .int .i64 l, .slice FA Fn Fc, .slice LA Ln Lc], lineErr (m : Int)]) ∧ Below w.heap.size w w' := by
  have hmf : ∀ (fn : Fn) (first cap : Array Value) (w : World), (Instr.makeFunc fn first cap).run Tryz.prog w = .ok (.func fn first cap) w := fun _ _ _ _ => rfl
  obtain ⟨W1, hW1⟩ : ∃ W1, (((w.alloc (.cells #[.string o, .int .i64 t, .string ow] 41)).alloc (.cells #[.string o, .int .i64 t, .string ow, .int .i64 0, .slice none 0 0, .slice none 0 0] 87)).alloc (.cells #[.nilIface] 89)) = W1 := ⟨_, rfl⟩
  have hb1 : Below w.heap.size w W1 := by rw [← hW1]; go_grown
  have hs1 : Blk W1 (w.heap.size + 1) 87 [.string o, .int .i64 t, .string ow, .int .i64 0, .slice none 0 0, .slice none 0 0] := by
    have h9 := (Blk.new (w.alloc (.cells #[.string o, .int .i64 t, .string ow] 41)) 87 [.string o, .int .i64 t, .string ow, .int .i64 0, .slice none 0 0, .slice none 0 0]).alloc (.cells #[.nilIface] 89)
    rw [← hW1]
    simpa using h9
  have he1 : Blk W1 (w.heap.size + 1 + 1) 89 [.nilIface] := by
    have h9 := Blk.new ((w.alloc (.cells #[.string o, .int .i64 t, .string ow] 41)).alloc (.cells #[.string o, .int .i64 t, .string ow, .int .i64 0, .slice none 0 0, .slice none 0 0] 87)) 89 [.nilIface]
    rw [← hW1]
    simpa using h9
  have HB1 := hid hb1
  have HS1 : Hid (Blk W1 (w.heap.size + 1) TS [.string o, .int .i64 t, .string ow, .int .i64 0, .slice none 0 0, .slice none 0 0]) := hid hs1
  have HE1 : Hid (Blk W1 (w.heap.size + 1 + 1) TE [.nilIface]) := hid he1
  have HST := hid hst
  clear hb1 hs1 he1 hst
  go_enter_defers Tryz.func68, Tryz.ntmps68
  go_wp2_with fail
  try rw [hW1]
  clear hW1
  go_loopw [13] (fun i wr => ∃ (k : Nat) (o' ow' : ByteArray) (t' l : Int) (FA : Option Addr) (Fn Fc : Nat) (LV : Value) (os : List RV), k ≤ ls.length ∧ i = .int .i64 k ∧ Blk wr (w.heap.size + 1) TS [.string o', .int .i64 t', .string ow', .int .i64 l, .slice FA Fn Fc, LV] ∧ Lst (w.heap.size + 1) wr LV os ∧ Blk wr (w.heap.size + 1 + 1) TE [.nilIface] ∧ Below w.heap.size w wr ∧ Hid (Z.stOk ⟨lst o', t', lst ow'⟩ = true) ∧ os.length ≤ 60 ∧ Hid ((Z.readLines ⟨lst o', t', lst ow'⟩ k os.length (ls.drop k)).map (fun q => os.map RV.z ++ q) = .error m)) (fun i _ => ls.length - (intOf i).toNat)
  case atStart =>
    refine ⟨0, o, ow, t, 0, none, 0, 0, .slice none 0 0, [], Nat.zero_le _, rfl, HS1.out, lst_none _ _, HE1.out, HB1.out, HST, Nat.zero_le _, hid ?_⟩
    rw [List.drop_zero, List.length_nil, hres.out]
    rfl
  case round =>
    obtain ⟨k, o', ow', t', l, FA, Fn, Fc, LV, os, hkl, rfl, hs, hL, he, hb, hso, hos, hinv⟩ := hrel
    by_cases hlt : k < ls.length
    · obtain ⟨ad, x, rfl, hab, hx, hcell⟩ := reads_str (hr.below hb (Nat.le_refl _)) hlt
      have hgx : ls[k] = lst x := by rw [hx]; simp [List.getD, List.getElem?_eq_getElem hlt]
      have hxm : lst x ∈ ls := by rw [← hgx]; exact List.getElem_mem _
      have hxs : x.size ≤ 67108860 := by have := hsz.out _ hxm; rwa [lst_length] at this
      have hsizes := stOk_sizes hso.out
      dsimp only at hsizes
      rw [lst_length, lst_length] at hsizes
      have hdrop : ls.drop k = lst x :: ls.drop (k + 1) := by
        rw [List.drop_eq_getElem_cons hlt, hgx]
      cases hp : lineRes ⟨lst o', t', lst ow'⟩ os.length (lst x) with
      | none =>
        have hmk : m = k + 1 := by
          have h9 := hinv.out
          rw [hdrop] at h9
          unfold Z.readLines at h9
          rw [lineRes_eq hso.out] at hp
          cases hr : Z.readLine ⟨lst o', t', lst ow'⟩ (lst x) with
          | none => rw [hr] at h9; injection h9 with h9; exact h9.symm
          | some p =>
            obtain ⟨p1, p2⟩ := p
            rw [hr] at h9 hp
            cases p2 with
            | none => simp at hp
            | some r =>
              have h60 : ¬ os.length < 60 := fun h => by simp [h] at hp
              simp only [show 60 ≤ os.length by omega, if_true] at h9
              injection h9 with h9
              exact h9.symm
        have hml : (m : Int) = (k : Int) + 1 := by omega
        have HML := hid hml
        have HP := hid hp
        have p1 : 0 ≤ (k : Int) := by omega
        have p2 : (k : Int) < ls.length := by omega
        have hs2 := hs.put 3 (.int .i64 ((k : Int) + 1))
        have hL2 := hL.far (FarB.put (w.heap.size + 1) wr 3 (.int .i64 ((k : Int) + 1)))
        have he2 := he.far (p := ⟨w.heap.size + 1, 3, none⟩) (by show w.heap.size + 1 + 1 ≠ w.heap.size + 1; omega) (.int .i64 ((k : Int) + 1))
        have hb2 := hb.setCell (p := ⟨w.heap.size + 1, 3, none⟩) (by show w.heap.size ≤ w.heap.size + 1; omega) (.int .i64 ((k : Int) + 1))
        obtain ⟨d0, d1, d2, d3, d4, d5⟩ := hs.cells6
        obtain ⟨f0, f1, f2, f3, f4, f5⟩ := hs.free6
        clear hp hdrop hxm hx hso hinv hgx hmk hml
        go_wp2_with fail
        refine (readLine_any w hm hk (w.heap.size + 1) (Nat.le_succ _) o' ow' x t' ((k : Int) + 1) FA Fn Fc LV os _ hb2 hs2 hL2 hos (by omega) (by omega) hxs).mono ?_
        rintro e w5 h5
        rw [HP.out] at h5
        obtain ⟨rfl, hkeep, o5, ow5, t5, FA5, Fn5, Fc5, LA5, Ln5, Lc5, hblk5⟩ := h5
        have he5 := hkeep.2 _ _ _ (by unfold TE TR; decide) (by omega) he2
        have hb5 := hb2.trans (hkeep.1.mono (Nat.le_succ _))
        clear hs hL he hb hs2 hL2 he2 hb2 d0 d1 d2 d3 d4 d5 f0 f1 f2 f3 f4 f5 hkeep HP
        go_wp2
        have ec : w5.cell? ⟨w.heap.size + 1 + 1, 0, none⟩ = some .nilIface := he5.cell 0
        have ef : w5.frozen? ⟨w.heap.size + 1 + 1, 0, none⟩ = false := he5.frozen 0
        refine leaves_cons (f := 115) (args := #[.pointer (some ⟨w.heap.size + 1 + 1, 0, none⟩)]) (by simp) (by simp [go_sem]) ?_
        refine (scan_caught ⟨w.heap.size + 1 + 1, 0, none⟩ ((k : Int) + 1) .nilIface [] _ ec rfl ef).mono ?_
        rintro e u' w'' ⟨rfl, rfl, rfl⟩
        have hs9 := hblk5.far (p := ⟨w.heap.size + 1 + 1, 0, none⟩) (by show w.heap.size + 1 ≠ w.heap.size + 1 + 1; omega) (lineErr ((k : Int) + 1))
        have he9 := he5.put 0 (lineErr ((k : Int) + 1))
        have hb9 := hb5.setCell (p := ⟨w.heap.size + 1 + 1, 0, none⟩) (by show w.heap.size ≤ w.heap.size + 1 + 1; omega) (lineErr ((k : Int) + 1))
        obtain ⟨WF, hWF⟩ : ∃ WF, w5.setCell ⟨w.heap.size + 1 + 1, 0, none⟩ (lineErr ((k : Int) + 1)) = WF := ⟨_, rfl⟩
        rw [hWF] at hs9 he9 hb9 ⊢
        clear hWF ec ef he5 hblk5
        obtain ⟨d0, d1, d2, d3, d4, d5⟩ := hs9.cells6
        have ec : WF.cell? ⟨w.heap.size + 1 + 1, 0, none⟩ = some (lineErr ((k : Int) + 1)) := he9.cell 0
        simp [Leaves, settle, results, Tryz.results68, go_sem, d0, d1, d2, d3, d4, d5, ec]
        rw [HML.out]
        exact ⟨rfl, hb9⟩
      | some p =>
      obtain ⟨s', y⟩ := p
      have hok := lineRes_ok hso.out hp
      have HOK := hid hok.1
      have HY := hid hok.2
      have HIN := hid (show (Z.readLines s' (k + 1) (os.length + y.toList.length) (ls.drop (k + 1))).map (fun q => (os.map RV.z ++ y.toList) ++ q) = .error m by
        have h9 := hinv.out
        rw [hdrop] at h9
        unfold Z.readLines at h9
        have hp2 := hp
        rw [lineRes_eq hso.out] at hp2
        cases hr : Z.readLine ⟨lst o', t', lst ow'⟩ (lst x) with
        | none => rw [hr] at hp2; cases hp2
        | some p =>
          obtain ⟨p1, p2⟩ := p
          rw [hr, Option.bind_some] at hp2
          rw [hr] at h9
          cases p2 with
          | none =>
            simp only [Option.some.injEq, Prod.mk.injEq] at hp2
            obtain ⟨rfl, rfl⟩ := hp2
            simpa using h9
          | some r =>
            by_cases h60 : os.length < 60
            · simp only [h60, if_true, Option.some.injEq, Prod.mk.injEq] at hp2
              obtain ⟨rfl, rfl⟩ := hp2
              simp only [show ¬ 60 ≤ os.length by omega, if_false] at h9
              rw [← h9]
              show (Z.readLines p1 (k + 1) (os.length + 1) (ls.drop (k + 1))).map (fun q => (os.map RV.z ++ [r]) ++ q) = ((Z.readLines p1 (k + 1) (os.length + 1) (ls.drop (k + 1))).map (r :: ·)).map _
              generalize Z.readLines p1 (k + 1) (os.length + 1) (ls.drop (k + 1)) = X
              cases X <;> simp [Except.map]
            · simp [h60] at hp2)
      have HP := hid hp
      have p1 : 0 ≤ (k : Int) := by omega
      have p2 : (k : Int) < ls.length := by omega
      have hs2 := hs.put 3 (.int .i64 ((k : Int) + 1))
      have hL2 := hL.far (FarB.put (w.heap.size + 1) wr 3 (.int .i64 ((k : Int) + 1)))
      have he2 := he.far (p := ⟨w.heap.size + 1, 3, none⟩) (by show w.heap.size + 1 + 1 ≠ w.heap.size + 1; omega) (.int .i64 ((k : Int) + 1))
      have hb2 := hb.setCell (p := ⟨w.heap.size + 1, 3, none⟩) (by show w.heap.size ≤ w.heap.size + 1; omega) (.int .i64 ((k : Int) + 1))
      obtain ⟨d0, d1, d2, d3, d4, d5⟩ := hs.cells6
      obtain ⟨f0, f1, f2, f3, f4, f5⟩ := hs.free6
      clear hok hp hdrop hxm hx hso hinv hgx
      go_wp2_with fail
      refine (readLine_any w hm hk (w.heap.size + 1) (Nat.le_succ _) o' ow' x t' ((k : Int) + 1) FA Fn Fc LV os _ hb2 hs2 hL2 hos (by omega) (by omega) hxs).mono ?_
      rintro e w5 h5
      rw [HP.out] at h5
      obtain ⟨rfl, hkeep, o5, ow5, FA5, Fn5, Fc5, LV5, ys, hs5, hblk5, hL5, hz5⟩ := h5
      have he5 := hkeep.2 _ _ _ (by unfold TE TR; decide) (by omega) he2
      have hb5 := hb2.trans (hkeep.1.mono (Nat.le_succ _))
      have hys : ys.length = y.toList.length := by have := congrArg List.length hz5; rwa [List.length_map] at this
      have hos5 : (os ++ ys).length ≤ 60 := by
        rw [List.length_append, hys]
        rcases HY.out with h | h
        · rw [h]; simpa using hos
        · have : y.toList.length ≤ 1 := by cases y <;> simp
          omega
      have HI5 := hid (show (Z.readLines ⟨lst o5, s'.ttl, lst ow5⟩ (k + 1) (os ++ ys).length (ls.drop (k + 1))).map (fun q => (os ++ ys).map RV.z ++ q) = .error m by
        rw [← hs5, List.length_append, hys, List.map_append, hz5]
        exact HIN.out)
      have HO5 := hid (show Z.stOk ⟨lst o5, s'.ttl, lst ow5⟩ = true by rw [← hs5]; exact HOK.out)
      clear hs hL he hb hs2 hL2 he2 hb2 d0 d1 d2 d3 d4 d5 f0 f1 f2 f3 f4 f5 hz5 hys HIN hkeep HOK HY HP hs5
      go_wp2_with fail
      all_goals exact ⟨⟨k + 1, o5, ow5, s'.ttl, (k : Int) + 1, FA5, Fn5, Fc5, LV5, os ++ ys, by omega, by go_num, hblk5, hL5, he5, hb5, HO5, hos5, HI5⟩, by simp [intOf]; omega⟩
    · obtain rfl : k = ls.length := by omega
      exfalso
      have h9 := hinv.out
      rw [List.drop_length] at h9
      unfold Z.readLines at h9
      cases h9

set_option maxHeartbeats 8000000 in
theorem iReadLine_blank (o ow line : ByteArray) (t : Int) (w : World) (hm : MX w) (hk : KT w) (ho : o.size ≤ 67108864) (how : ow.size ≤ 67108864) (hline : line.size ≤ 67108860) (s' : Z.St) (hres : Z.readLine ⟨lst o, t, lst ow⟩ (lst line) = some (s', none)) :
    Calls Tryz.prog 24 #[.agg #[.string o, .int .i64 t, .string ow], .string line] w fun e w' => ∃ (o' ow' : ByteArray), e = .returned (.tuple #[.agg #[.string o', .int .i64 s'.ttl, .string ow'], .agg #[.string ⟨#[]⟩, .int .i64 0, .int .i64 0, .slice none 0 0, .string ⟨#[]⟩, .string ⟨#[]⟩], .bool false, .bool true]) ∧ s' = ⟨lst o', s'.ttl, lst ow'⟩ ∧ Below w.heap.size w w' := by
  have hst := (Z.readLine_state hres).1
  have hsc : scanOk ⟨lst o, t, lst ow⟩ 0 [lst line] = some (s', []) := by
    unfold scanOk
    rw [lineRes_eq hst, hres]
    simp [scanOk]
  have HSC := hid hsc
  have HSZ : Hid (∀ l ∈ [lst line], l.length ≤ 67108860) := hid (fun l hl => by rw [List.mem_singleton.1 hl, lst_length]; exact hline)
  have HST := hid hst
  clear hsc hst hres
  have hx0 : Blk (((w.alloc (.cells #[.string o, .int .i64 t, .string ow] 41)).alloc (.cells #[.string ⟨#[]⟩, .int .i64 0, .string ⟨#[]⟩] 41)).alloc (.cells #[.string ⟨#[]⟩, .int .i64 0, .int .i64 0, .slice none 0 0, .string ⟨#[]⟩, .string ⟨#[]⟩] 25)) w.heap.size 41 [.string o, .int .i64 t, .string ow] := ((Blk.new w 41 [.string o, .int .i64 t, .string ow]).alloc _).alloc _
  have hy0 : Blk (((w.alloc (.cells #[.string o, .int .i64 t, .string ow] 41)).alloc (.cells #[.string ⟨#[]⟩, .int .i64 0, .string ⟨#[]⟩] 41)).alloc (.cells #[.string ⟨#[]⟩, .int .i64 0, .int .i64 0, .slice none 0 0, .string ⟨#[]⟩, .string ⟨#[]⟩] 25)) (w.heap.size + 1) 41 [.string ⟨#[]⟩, .int .i64 0, .string ⟨#[]⟩] := by
    have := (Blk.new (w.alloc (.cells #[.string o, .int .i64 t, .string ow] 41)) 41 [.string ⟨#[]⟩, .int .i64 0, .string ⟨#[]⟩]).alloc (.cells #[.string ⟨#[]⟩, .int .i64 0, .int .i64 0, .slice none 0 0, .string ⟨#[]⟩, .string ⟨#[]⟩] 25)
    simpa using this
  have hz0 : Blk (((w.alloc (.cells #[.string o, .int .i64 t, .string ow] 41)).alloc (.cells #[.string ⟨#[]⟩, .int .i64 0, .string ⟨#[]⟩] 41)).alloc (.cells #[.string ⟨#[]⟩, .int .i64 0, .int .i64 0, .slice none 0 0, .string ⟨#[]⟩, .string ⟨#[]⟩] 25)) (w.heap.size + 1 + 1) 25 [.string ⟨#[]⟩, .int .i64 0, .int .i64 0, .slice none 0 0, .string ⟨#[]⟩, .string ⟨#[]⟩] := by
    have := Blk.new ((w.alloc (.cells #[.string o, .int .i64 t, .string ow] 41)).alloc (.cells #[.string ⟨#[]⟩, .int .i64 0, .string ⟨#[]⟩] 41)) 25 [.string ⟨#[]⟩, .int .i64 0, .int .i64 0, .slice none 0 0, .string ⟨#[]⟩, .string ⟨#[]⟩]
    simpa using this
  have hb0 : Below w.heap.size w (((w.alloc (.cells #[.string o, .int .i64 t, .string ow] 41)).alloc (.cells #[.string ⟨#[]⟩, .int .i64 0, .string ⟨#[]⟩] 41)).alloc (.cells #[.string ⟨#[]⟩, .int .i64 0, .int .i64 0, .slice none 0 0, .string ⟨#[]⟩, .string ⟨#[]⟩] 25)) := by go_grown
  have x0 := hx0.cell 0
  have x1 := hx0.cell 1
  have x2 := hx0.cell 2
  simp only [List.getElem?_cons_zero, List.getElem?_cons_succ] at x0 x1 x2
  go_enter Tryz.func24, Tryz.ntmps24
  go_wp2_with fail
  refine (stateValid_true o ow t _ ho how HST.out).mono ?_
  rintro e w1 ⟨rfl, hb1⟩
  have hx1 := hx0.next hb1
  have hy1 := hy0.next hb1
  have hz1 := hz0.next hb1
  have hbw1 := hb0.trans (hb1.mono hb0.size)
  have hs1 := hb1.size
  simp only [World.alloc, Array.size_push] at hs1
  clear x0 x1 x2 hx0 hy0 hz0 hb0 hb1
  have x0 := hx1.cell 0
  have x1 := hx1.cell 1
  have x2 := hx1.cell 2
  simp only [List.getElem?_cons_zero, List.getElem?_cons_succ] at x0 x1 x2
  have hy2 := hy1.alloc (.cells #[.string line] 9)
  have hz2 := hz1.alloc (.cells #[.string line] 9)
  have hbw2 := hbw1.alloc hbw1.size (.cells #[.string line] 9)
  have hrl : Reads (w1.alloc (.cells #[.string line] 9)) (w1.alloc (.cells #[.string line] 9)).heap.size (some ⟨w1.heap.size, 0, none⟩) 1 ([lst line].map sv) := by
    have ho := own_fresh w1 [.string line] 9 (show 1 ≤ maxLen by decide)
    have h9 := Reads.of_own ho
    simpa [sv_lst] using h9
  have HRL := hid hrl
  have hm2 := hm.below hbw2
  have hk2 := hk.below hbw2
  clear hrl
  go_wp2_with fail
  refine (scan_ok o ow t (some ⟨w1.heap.size, 0, none⟩) 1 _ hm2 hk2 [lst line] HRL.out (by simp) HSZ HST.out s' [] HSC).mono ?_
  rintro e w3 ⟨o3, ow3, l3, FA, Fn, Fc, LA, Lc, os, rfl, hs3, hL3, hz3, hb3⟩
  obtain rfl : os = [] := List.map_eq_nil_iff.1 hz3
  have HS3 := hid hs3
  clear hs3 hz3 hL3
  have hs3' := hb3.size
  simp only [World.alloc, Array.size_push] at hs3'
  have hy4 := (hy2.next hb3).alloc (.cells #[.string o3, .int .i64 s'.ttl, .string ow3, .int .i64 l3, .slice FA Fn Fc, .slice LA 0 Lc] 87)
  have hz4 := (hz2.next hb3).alloc (.cells #[.string o3, .int .i64 s'.ttl, .string ow3, .int .i64 l3, .slice FA Fn Fc, .slice LA 0 Lc] 87)
  have hn4 : Blk (w3.alloc (.cells #[.string o3, .int .i64 s'.ttl, .string ow3, .int .i64 l3, .slice FA Fn Fc, .slice LA 0 Lc] 87)) w3.heap.size 87 [.string o3, .int .i64 s'.ttl, .string ow3, .int .i64 l3, .slice FA Fn Fc, .slice LA 0 Lc] := Blk.new w3 _ _
  have hbw4 := (hbw2.trans (hb3.mono hbw2.size)).alloc (by omega) (.cells #[.string o3, .int .i64 s'.ttl, .string ow3, .int .i64 l3, .slice FA Fn Fc, .slice LA 0 Lc] 87)
  clear x0 x1 x2 hx1 hy1 hz1 hy2 hz2 hbw2 hm2 hk2 hb3
  obtain ⟨W4, hW4⟩ : ∃ W4, w3.alloc (.cells #[.string o3, .int .i64 s'.ttl, .string ow3, .int .i64 l3, .slice FA Fn Fc, .slice LA 0 Lc] 87) = W4 := ⟨_, rfl⟩
  rw [hW4] at hy4 hz4 hn4 hbw4
  obtain ⟨n0, n1, n2, n3, n4, n5⟩ := hn4.cells6
  obtain ⟨z0, z1, z2, z3, z4, z5⟩ := hz4.cells6
  obtain ⟨f0, f1, f2, f3, f4, f5⟩ := hz4.free6
  have y0 := hy4.cell 0
  have y1 := hy4.cell 1
  have y2 := hy4.cell 2
  have e0 := hy4.frozen 0
  have e1 := hy4.frozen 1
  have e2 := hy4.frozen 2
  simp only [List.getElem?_cons_zero, List.getElem?_cons_succ] at y0 y1 y2
  have v5 : ¬ w3.heap.size = w.heap.size + 1 := by omega
  have v6 : ¬ w.heap.size + 1 = w3.heap.size := by omega
  have v7 : ¬ w3.heap.size = w.heap.size + 1 + 1 := by omega
  have v8 : ¬ w.heap.size + 1 + 1 = w3.heap.size := by omega
  have y9 := six_apart ((((hy4.put 0 (.string o3)).put 1 (.int .i64 s'.ttl)).put 2 (.string ow3))) (g := w.heap.size + 1 + 1) (by omega) (.string ⟨#[]⟩) (.int .i64 0) (.int .i64 0) (.slice none 0 0) (.string ⟨#[]⟩) (.string ⟨#[]⟩)
  have z9 := six_set (((hz4.far (p := ⟨w.heap.size + 1, 0, none⟩) (by show w.heap.size + 1 + 1 ≠ w.heap.size + 1; omega) (.string o3)).far (p := ⟨w.heap.size + 1, 1, none⟩) (by show w.heap.size + 1 + 1 ≠ w.heap.size + 1; omega) (.int .i64 s'.ttl)).far (p := ⟨w.heap.size + 1, 2, none⟩) (by show w.heap.size + 1 + 1 ≠ w.heap.size + 1; omega) (.string ow3)) (.string ⟨#[]⟩) (.int .i64 0) (.int .i64 0) (.slice none 0 0) (.string ⟨#[]⟩) (.string ⟨#[]⟩)
  have b9 := six_below (((hbw4.setCell (p := ⟨w.heap.size + 1, 0, none⟩) (by show w.heap.size ≤ w.heap.size + 1; omega) (.string o3)).setCell (p := ⟨w.heap.size + 1, 1, none⟩) (by show w.heap.size ≤ w.heap.size + 1; omega) (.int .i64 s'.ttl)).setCell (p := ⟨w.heap.size + 1, 2, none⟩) (by show w.heap.size ≤ w.heap.size + 1; omega) (.string ow3)) (g := w.heap.size + 1 + 1) (by omega) (.string ⟨#[]⟩) (.int .i64 0) (.int .i64 0) (.slice none 0 0) (.string ⟨#[]⟩) (.string ⟨#[]⟩)
  have Y9 := hid y9
  have Z9 := hid z9
  have B9 := hid b9
  clear y9 z9 b9
  go_wp2
  refine ret_readLine (w.heap.size + 1) (w.heap.size + 1 + 1) rfl rfl rfl rfl rfl (Y9.out.cell 0) (Y9.out.cell 1) (Y9.out.cell 2) (Z9.out.cell 0) (Z9.out.cell 1) (Z9.out.cell 2) (Z9.out.cell 3) (Z9.out.cell 4) (Z9.out.cell 5) ?_
  exact ⟨o3, ow3, rfl, HS3.out, B9.out⟩

set_option maxHeartbeats 8000000 in
theorem iReadLine_wrong (o ow line : ByteArray) (t : Int) (w : World) (hm : MX w) (hk : KT w) (ho : o.size ≤ 67108864) (how : ow.size ≤ 67108864) (hline : line.size ≤ 67108860) (hst : Z.stOk ⟨lst o, t, lst ow⟩ = true) (hres : Z.readLine ⟨lst o, t, lst ow⟩ (lst line) = none) :
    Calls Tryz.prog 24 #[.agg #[.string o, .int .i64 t, .string ow], .string line] w fun e w' => e = .returned (.tuple #[.agg #[.string ⟨#[]⟩, .int .i64 0, .string ⟨#[]⟩], .agg #[.string ⟨#[]⟩, .int .i64 0, .int .i64 0, .slice none 0 0, .string ⟨#[]⟩, .string ⟨#[]⟩], .bool false, .bool false]) ∧ Below w.heap.size w w' := by
  have hsc : Z.readLines ⟨lst o, t, lst ow⟩ 0 0 [lst line] = .error 1 := by
    unfold Z.readLines
    rw [hres]
  have HSC := hid hsc
  have HSZ : Hid (∀ l ∈ [lst line], l.length ≤ 67108860) := hid (fun l hl => by rw [List.mem_singleton.1 hl, lst_length]; exact hline)
  have HST := hid hst
  clear hsc hst hres
  have hx0 : Blk (((w.alloc (.cells #[.string o, .int .i64 t, .string ow] 41)).alloc (.cells #[.string ⟨#[]⟩, .int .i64 0, .string ⟨#[]⟩] 41)).alloc (.cells #[.string ⟨#[]⟩, .int .i64 0, .int .i64 0, .slice none 0 0, .string ⟨#[]⟩, .string ⟨#[]⟩] 25)) w.heap.size 41 [.string o, .int .i64 t, .string ow] := ((Blk.new w 41 [.string o, .int .i64 t, .string ow]).alloc _).alloc _
  have hy0 : Blk (((w.alloc (.cells #[.string o, .int .i64 t, .string ow] 41)).alloc (.cells #[.string ⟨#[]⟩, .int .i64 0, .string ⟨#[]⟩] 41)).alloc (.cells #[.string ⟨#[]⟩, .int .i64 0, .int .i64 0, .slice none 0 0, .string ⟨#[]⟩, .string ⟨#[]⟩] 25)) (w.heap.size + 1) 41 [.string ⟨#[]⟩, .int .i64 0, .string ⟨#[]⟩] := by
    have := (Blk.new (w.alloc (.cells #[.string o, .int .i64 t, .string ow] 41)) 41 [.string ⟨#[]⟩, .int .i64 0, .string ⟨#[]⟩]).alloc (.cells #[.string ⟨#[]⟩, .int .i64 0, .int .i64 0, .slice none 0 0, .string ⟨#[]⟩, .string ⟨#[]⟩] 25)
    simpa using this
  have hz0 : Blk (((w.alloc (.cells #[.string o, .int .i64 t, .string ow] 41)).alloc (.cells #[.string ⟨#[]⟩, .int .i64 0, .string ⟨#[]⟩] 41)).alloc (.cells #[.string ⟨#[]⟩, .int .i64 0, .int .i64 0, .slice none 0 0, .string ⟨#[]⟩, .string ⟨#[]⟩] 25)) (w.heap.size + 1 + 1) 25 [.string ⟨#[]⟩, .int .i64 0, .int .i64 0, .slice none 0 0, .string ⟨#[]⟩, .string ⟨#[]⟩] := by
    have := Blk.new ((w.alloc (.cells #[.string o, .int .i64 t, .string ow] 41)).alloc (.cells #[.string ⟨#[]⟩, .int .i64 0, .string ⟨#[]⟩] 41)) 25 [.string ⟨#[]⟩, .int .i64 0, .int .i64 0, .slice none 0 0, .string ⟨#[]⟩, .string ⟨#[]⟩]
    simpa using this
  have hb0 : Below w.heap.size w (((w.alloc (.cells #[.string o, .int .i64 t, .string ow] 41)).alloc (.cells #[.string ⟨#[]⟩, .int .i64 0, .string ⟨#[]⟩] 41)).alloc (.cells #[.string ⟨#[]⟩, .int .i64 0, .int .i64 0, .slice none 0 0, .string ⟨#[]⟩, .string ⟨#[]⟩] 25)) := by go_grown
  have x0 := hx0.cell 0
  have x1 := hx0.cell 1
  have x2 := hx0.cell 2
  simp only [List.getElem?_cons_zero, List.getElem?_cons_succ] at x0 x1 x2
  go_enter Tryz.func24, Tryz.ntmps24
  go_wp2_with fail
  refine (stateValid_true o ow t _ ho how HST.out).mono ?_
  rintro e w1 ⟨rfl, hb1⟩
  have hx1 := hx0.next hb1
  have hy1 := hy0.next hb1
  have hz1 := hz0.next hb1
  have hbw1 := hb0.trans (hb1.mono hb0.size)
  have hs1 := hb1.size
  simp only [World.alloc, Array.size_push] at hs1
  clear x0 x1 x2 hx0 hy0 hz0 hb0 hb1
  have x0 := hx1.cell 0
  have x1 := hx1.cell 1
  have x2 := hx1.cell 2
  simp only [List.getElem?_cons_zero, List.getElem?_cons_succ] at x0 x1 x2
  have hy2 := hy1.alloc (.cells #[.string line] 9)
  have hz2 := hz1.alloc (.cells #[.string line] 9)
  have hbw2 := hbw1.alloc hbw1.size (.cells #[.string line] 9)
  have hrl : Reads (w1.alloc (.cells #[.string line] 9)) (w1.alloc (.cells #[.string line] 9)).heap.size (some ⟨w1.heap.size, 0, none⟩) 1 ([lst line].map sv) := by
    have ho := own_fresh w1 [.string line] 9 (show 1 ≤ maxLen by decide)
    have h9 := Reads.of_own ho
    simpa [sv_lst] using h9
  have HRL := hid hrl
  have hm2 := hm.below hbw2
  have hk2 := hk.below hbw2
  clear hrl
  go_wp2_with fail
  refine (scan_fail o ow t (some ⟨w1.heap.size, 0, none⟩) 1 _ hm2 hk2 [lst line] HRL.out (by simp) HSZ HST.out 1 HSC).mono ?_
  rintro e w3 ⟨o3, ow3, t3, l3, FA, Fn, Fc, LA, Ln, Lc, rfl, hb3⟩
  simp only [lineErr]
  have hs3' := hb3.size
  simp only [World.alloc, Array.size_push] at hs3'
  have hy4 := (hy2.next hb3).alloc (.cells #[.string o3, .int .i64 t3, .string ow3, .int .i64 l3, .slice FA Fn Fc, .slice LA Ln Lc] 87)
  have hz4 := (hz2.next hb3).alloc (.cells #[.string o3, .int .i64 t3, .string ow3, .int .i64 l3, .slice FA Fn Fc, .slice LA Ln Lc] 87)
  have hn4 : Blk (w3.alloc (.cells #[.string o3, .int .i64 t3, .string ow3, .int .i64 l3, .slice FA Fn Fc, .slice LA Ln Lc] 87)) w3.heap.size 87 [.string o3, .int .i64 t3, .string ow3, .int .i64 l3, .slice FA Fn Fc, .slice LA Ln Lc] := Blk.new w3 _ _
  have hbw4 := (hbw2.trans (hb3.mono hbw2.size)).alloc (by omega) (.cells #[.string o3, .int .i64 t3, .string ow3, .int .i64 l3, .slice FA Fn Fc, .slice LA Ln Lc] 87)
  clear x0 x1 x2 hx1 hy1 hz1 hy2 hz2 hbw2 hm2 hk2 hb3
  obtain ⟨W4, hW4⟩ : ∃ W4, w3.alloc (.cells #[.string o3, .int .i64 t3, .string ow3, .int .i64 l3, .slice FA Fn Fc, .slice LA Ln Lc] 87) = W4 := ⟨_, rfl⟩
  rw [hW4] at hy4 hz4 hn4 hbw4
  obtain ⟨n0, n1, n2, n3, n4, n5⟩ := hn4.cells6
  obtain ⟨z0, z1, z2, z3, z4, z5⟩ := hz4.cells6
  obtain ⟨f0, f1, f2, f3, f4, f5⟩ := hz4.free6
  have y0 := hy4.cell 0
  have y1 := hy4.cell 1
  have y2 := hy4.cell 2
  have e0 := hy4.frozen 0
  have e1 := hy4.frozen 1
  have e2 := hy4.frozen 2
  simp only [List.getElem?_cons_zero, List.getElem?_cons_succ] at y0 y1 y2
  have v5 : ¬ w3.heap.size = w.heap.size + 1 := by omega
  have v6 : ¬ w.heap.size + 1 = w3.heap.size := by omega
  have v7 : ¬ w3.heap.size = w.heap.size + 1 + 1 := by omega
  have v8 : ¬ w.heap.size + 1 + 1 = w3.heap.size := by omega
  have y9 := six_apart ((((hy4.put 0 (.string ⟨#[]⟩)).put 1 (.int .i64 0)).put 2 (.string ⟨#[]⟩))) (g := w.heap.size + 1 + 1) (by omega) (.string ⟨#[]⟩) (.int .i64 0) (.int .i64 0) (.slice none 0 0) (.string ⟨#[]⟩) (.string ⟨#[]⟩)
  have z9 := six_set (((hz4.far (p := ⟨w.heap.size + 1, 0, none⟩) (by show w.heap.size + 1 + 1 ≠ w.heap.size + 1; omega) (.string ⟨#[]⟩)).far (p := ⟨w.heap.size + 1, 1, none⟩) (by show w.heap.size + 1 + 1 ≠ w.heap.size + 1; omega) (.int .i64 0)).far (p := ⟨w.heap.size + 1, 2, none⟩) (by show w.heap.size + 1 + 1 ≠ w.heap.size + 1; omega) (.string ⟨#[]⟩)) (.string ⟨#[]⟩) (.int .i64 0) (.int .i64 0) (.slice none 0 0) (.string ⟨#[]⟩) (.string ⟨#[]⟩)
  have b9 := six_below (((hbw4.setCell (p := ⟨w.heap.size + 1, 0, none⟩) (by show w.heap.size ≤ w.heap.size + 1; omega) (.string ⟨#[]⟩)).setCell (p := ⟨w.heap.size + 1, 1, none⟩) (by show w.heap.size ≤ w.heap.size + 1; omega) (.int .i64 0)).setCell (p := ⟨w.heap.size + 1, 2, none⟩) (by show w.heap.size ≤ w.heap.size + 1; omega) (.string ⟨#[]⟩)) (g := w.heap.size + 1 + 1) (by omega) (.string ⟨#[]⟩) (.int .i64 0) (.int .i64 0) (.slice none 0 0) (.string ⟨#[]⟩) (.string ⟨#[]⟩)
  have Y9 := hid y9
  have Z9 := hid z9
  have B9 := hid b9
  clear y9 z9 b9
  go_wp2
  refine ret_readLine (w.heap.size + 1) (w.heap.size + 1 + 1) rfl rfl rfl rfl rfl (Y9.out.cell 0) (Y9.out.cell 1) (Y9.out.cell 2) (Z9.out.cell 0) (Z9.out.cell 1) (Z9.out.cell 2) (Z9.out.cell 3) (Z9.out.cell 4) (Z9.out.cell 5) ?_
  exact ⟨rfl, B9.out⟩
end Go.Proofs.YtpgeeeamcncpkaaGreatDoor

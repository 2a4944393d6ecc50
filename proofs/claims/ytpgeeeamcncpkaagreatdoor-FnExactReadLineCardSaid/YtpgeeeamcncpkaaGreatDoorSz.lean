/- The scanner of master files: what scanLines and ReadLine do. -/
import Derived.Test.YtpgeeeamcncpkaaGreatDoorSy
import Derived.Defers
import Derived.Recover
import Derived.Laws.Pointers
namespace Go.Proofs.YtpgeeeamcncpkaaGreatDoor
open Go.RowKit
set_option maxRecDepth 100000
set_option linter.unusedVariables false
set_option linter.unusedSimpArgs false
theorem own_fresh (w : World) (xs : List Value) (t : TypeId) (hn : xs.length ≤ maxLen) : (w.alloc (.cells xs.toArray t)).ownsRow w.heap.size t 1 (.slice (some ⟨w.heap.size, 0, none⟩) xs.length xs.length) xs.length xs :=
  ⟨by simp, .inr ⟨w.heap.size, xs.length, xs.toArray, rfl, Nat.le_refl _, heap_alloc_new w _, Nat.le_refl _, hn, by simp, by simp⟩⟩
theorem sEmpty {x : ByteArray} {b : Bool} (h : decide (lst x = []) = b) : x.toList.isEmpty = b := by
  rw [toList_lst, ← h]
  cases lst x <;> rfl
theorem sNameValid_v (s : ByteArray) (hs : s.size ≤ 67108864) (v : Bool) (hv : Hid (Z.valid (lst s) = v)) (w : World) :
    Calls Tryz.prog 49 #[.string s] w fun e w' => e = .returned (.bool v) ∧ Below w.heap.size w w' := by
  have h := iNameValid_any s (by unfold maxLen; omega) w
  rw [hv.out] at h
  exact h
theorem assert_nil (w : World) : (Instr.typeAssert .nilIface 20 89 true).run Tryz.prog w = .ok (.tuple #[.nilIface, .bool false]) w := by
  kernel_rfl
theorem assert_line (l : Int) (w : World) : (Instr.typeAssert (lineErr l) 20 89 true).run Tryz.prog w = .ok (.tuple #[lineErr l, .bool true]) w := by
  kernel_rfl
set_option maxHeartbeats 1000000 in
theorem scan_idle (p : Addr) (w : World) :
    CallsD Tryz.prog 115 #[.pointer (some p)] .returning w fun e u' w' => e = .returned (.tuple #[]) ∧ u' = .returning ∧ w' = w := by
  refine callsD_of_wpS Tryz.func115 rfl fun c₀ cs hu => ?_
  have ha := assert_nil w
  apply wpS_seq
  apply wpS_region
  simp [wpOpsS, go_sem, recoverD, hu, Tryz.ntmps115, Exit.thenS, ha]
  apply wpS_seq
  apply wpS_region
  simp [wpOpsS, go_sem, Exit.thenS]
  refine wpS_cond (t := false) (by simp [Act.eval, Array.replicate]) ?_
  simp only [Bool.false_eq_true, if_false]
  refine wpS_of_wp (wp_skip ?_)
  cases c₀
  simp_all [bodyPostS, results, Tryz.results115]
set_option maxHeartbeats 1000000 in
theorem scan_caught (p : Addr) (l : Int) (v : Value) (older : List PanicEntry) (w : World) (hc : w.cell? p = some v) (hv : v.oneCell' = true) (hz : w.frozen? p = false) :
    CallsD Tryz.prog 115 #[.pointer (some p)] (.panicking ({ v := lineErr l, recovered := false } :: older)) w fun e u' w' => e = .returned (.tuple #[]) ∧ u' = .panicking ({ v := lineErr l, recovered := true } :: older) ∧ w' = w.setCell p (lineErr l) := by
  refine callsD_of_wpS Tryz.func115 rfl fun c₀ cs hu => ?_
  have ha := assert_line l w
  apply wpS_seq
  apply wpS_region
  simp [wpOpsS, go_sem, recoverD, hu, Tryz.ntmps115, Exit.thenS, ha]
  apply wpS_seq
  apply wpS_region
  simp [wpOpsS, go_sem, Exit.thenS]
  refine wpS_cond (t := true) (by simp [Act.eval, Array.replicate]) ?_
  simp only [if_true]
  apply wpS_region
  simp [wpOpsS, go_sem, hc, hz, lineErr, bodyPostS, results, Tryz.results115]

/-- What lines say, one behind the other. -/
def scanOk : Z.St → Nat → List Z.Str → Option (Z.St × List Z.Rec)
  | s, _, [] => some (s, [])
  | s, n, l :: r => (lineRes s n l).bind fun p => (scanOk p.1 (n + p.2.toList.length) r).map fun q => (q.1, p.2.toList ++ q.2)
theorem lineRes_eq {s : Z.St} (hs : Z.stOk s = true) (m : Nat) (l : Z.Str) : lineRes s m l = (Z.readLine s l).bind fun p => match p.2 with
    | none => some (p.1, none)
    | some r => if m < 60 then some (p.1, some r) else none := by
  unfold lineRes Z.readLine
  rw [if_pos hs]
  cases Z.fields (Z.strip false l) with
  | none => rfl
  | some fs =>
    rw [Option.bind_some, Option.bind_some]
    cases Z.readFields s (Z.strip false l) fs with
    | none => rfl
    | some p =>
      obtain ⟨p1, p2⟩ := p
      cases p2 <;> rfl
theorem lineRes_ok {s s' : Z.St} {m : Nat} {l : Z.Str} {x : Option Z.Rec} (hs : Z.stOk s = true) (h : lineRes s m l = some (s', x)) : Z.stOk s' = true ∧ (x = none ∨ m < 60) := by
  rw [lineRes_eq hs] at h
  cases hr : Z.readLine s l with
  | none => rw [hr] at h; cases h
  | some p =>
    rw [hr, Option.bind_some] at h
    obtain ⟨p1, p2⟩ := p
    obtain ⟨_, h2, _⟩ := Z.readLine_state hr
    cases p2 with
    | none =>
      simp at h
      rw [← h.1, ← h.2]
      exact ⟨h2, Or.inl rfl⟩
    | some r =>
      by_cases hm : m < 60
      · simp [hm] at h
        rw [← h.1]
        exact ⟨h2, Or.inr hm⟩
      · simp [hm] at h
theorem stOk_sizes {s : Z.St} (hs : Z.stOk s = true) : s.origin.length ≤ 60 ∧ s.owner.length ≤ 60 := by
  unfold Z.stOk at hs
  simp only [Bool.and_eq_true, Bool.or_eq_true, decide_eq_true_eq] at hs
  refine ⟨(Z.valid_len hs.1.1.1).2, ?_⟩
  rcases hs.2 with h | h
  · rw [h]; exact Nat.zero_le _
  · exact (Z.valid_len h).2
theorem own_put {w : World} {base : Nat} {e : TypeId} {size : Nat} {v : Value} {n : Nat} {xs : List Value} {g : Nat} {t : TypeId} {cs : List Value} (h : w.ownsRow base e size v n xs) (hx : Blk w g t cs) (hne : t ≠ e) (i : Nat) (u : Value) : (w.setCell ⟨g, i, none⟩ u).ownsRow base e size v n xs := by
  obtain ⟨h1, h2⟩ := h
  refine ⟨h1, ?_⟩
  rcases h2 with h2 | ⟨k, cap, cur, hv, hg, hh, r⟩
  · exact Or.inl h2
  · have hk : Blk w k e cur.toList := hh
    have hkg : k ≠ g := fun e9 => by
      subst e9
      unfold Blk at hk hx
      rw [hk] at hx
      injection hx with h9
      injection h9 with h10 h11
      exact hne h11.symm
    exact Or.inr ⟨k, cap, cur, hv, hg, hk.far (p := ⟨g, i, none⟩) hkg u, r⟩
theorem lst_none (b : Nat) (w : World) : Lst b w (.slice none 0 0) [] := ⟨World.ownsRow_nil w (b + 1) TR 6, fun x hx => by cases hx⟩
def TE : TypeId := 89

set_option maxHeartbeats 8000000 in
theorem scan_ok (o ow : ByteArray) (t : Int) (A : Option Addr) (c : Nat) (w : World) (hm : MX w) (hk : KT w) (ls : List Z.Str) (hr : Reads w w.heap.size A ls.length (ls.map sv)) (hn : ls.length ≤ 67108864) (hsz : Hid (∀ l ∈ ls, l.length ≤ 67108860)) (hst : Z.stOk ⟨lst o, t, lst ow⟩ = true) (sF : Z.St) (rF : List Z.Rec) (hres : Hid (scanOk ⟨lst o, t, lst ow⟩ 0 ls = some (sF, rF))) :
    Calls Tryz.prog 68 #[.agg #[.string o, .int .i64 t, .string ow], .slice A ls.length c] w fun e w' => ∃ (o' ow' : ByteArray) (l : Int) (FA : Option Addr) (Fn Fc : Nat) (LA : Option Addr) (Lc : Nat) (os : List RV), e = .returned (.tuple #[.agg #[.string o', .int .i64 sF.ttl, .string ow', .int .i64 l, .slice FA Fn Fc, .slice LA os.length Lc], .nilIface]) ∧ sF = ⟨lst o', sF.ttl, lst ow'⟩ ∧ Lst (w.heap.size + 1) w' (.slice LA os.length Lc) os ∧ os.map RV.z = rF ∧ Below w.heap.size w w' := by
  have hmf : ∀ (fn : Fn) (first cap : Array Value) (w : World), (Instr.makeFunc fn first cap).run Tryz.prog w = .ok (.func fn first cap) w := fun _ _ _ _ => rfl
  obtain ⟨W1, hW1⟩ : ∃ W1, (((w.alloc (.cells #[.string o, .int .i64 t, .string ow] 41)).alloc (.cells #[.string o, .int .i64 t, .string ow, .int .i64 0, .slice none 0 0, .slice none 0 0] 87)).alloc (.cells #[.nilIface] 89)) = W1 := ⟨_, rfl⟩
  have hb1 : Below w.heap.size w W1 := by rw [← hW1]; go_grown
  have hs1 : Blk W1 (w.heap.size + 1) 87 [.string o, .int .i64 t, .string ow, .int .i64 0, .slice none 0 0, .slice none 0 0] := by
    have h9 := (Blk.new (w.alloc (.cells #[.string o, .int .i64 t, .string ow] 41)) 87 [.string o, .int .i64 t, .string ow, .int .i64 0, .slice none 0 0, .slice none 0 0]).alloc (.cells #[.nilIface] 89)
    rw [← hW1]
    simpa using h9
  have he1 : Blk W1 (w.heap.size + 1 + 1) 89 [.nilIface] := by
    have h9 := Blk.new ((w.alloc (.cells #[.string o, .int .i64 t, .string ow] 41)).alloc (.cells #[.string o, .int .i64 t, .string ow, .int .i64 0, .slice none 0 0, .slice none 0 0] 87)) 89 [.nilIface]
    rw [← hW1]
    simpa using h9
  have HB1 := hid hb1
  have HS1 : Hid (Blk W1 (w.heap.size + 1) TS [.string o, .int .i64 t, .string ow, .int .i64 0, .slice none 0 0, .slice none 0 0]) := hid hs1
  have HE1 : Hid (Blk W1 (w.heap.size + 1 + 1) TE [.nilIface]) := hid he1
  have HST := hid hst
  clear hb1 hs1 he1 hst
  go_enter_defers Tryz.func68, Tryz.ntmps68
  go_wp2_with fail
  try rw [hW1]
  clear hW1
  go_loopw [13] (fun i wr => ∃ (k : Nat) (o' ow' : ByteArray) (t' l : Int) (FA : Option Addr) (Fn Fc : Nat) (LV : Value) (os : List RV), k ≤ ls.length ∧ i = .int .i64 k ∧ Blk wr (w.heap.size + 1) TS [.string o', .int .i64 t', .string ow', .int .i64 l, .slice FA Fn Fc, LV] ∧ Lst (w.heap.size + 1) wr LV os ∧ Blk wr (w.heap.size + 1 + 1) TE [.nilIface] ∧ Below w.heap.size w wr ∧ Hid (Z.stOk ⟨lst o', t', lst ow'⟩ = true) ∧ os.length ≤ 60 ∧ Hid ((scanOk ⟨lst o', t', lst ow'⟩ os.length (ls.drop k)).map (fun q => (q.1, os.map RV.z ++ q.2)) = some (sF, rF))) (fun i _ => ls.length - (intOf i).toNat)
  case atStart =>
    refine ⟨0, o, ow, t, 0, none, 0, 0, .slice none 0 0, [], Nat.zero_le _, rfl, HS1.out, lst_none _ _, HE1.out, HB1.out, HST, Nat.zero_le _, hid ?_⟩
    rw [List.drop_zero, List.length_nil, hres.out]
    rfl
  case round =>
    obtain ⟨k, o', ow', t', l, FA, Fn, Fc, LV, os, hkl, rfl, hs, hL, he, hb, hso, hos, hinv⟩ := hrel
    by_cases hlt : k < ls.length
    · obtain ⟨ad, x, rfl, hab, hx, hcell⟩ := reads_str (hr.below hb (Nat.le_refl _)) hlt
      have hgx : ls[k] = lst x := by rw [hx]; simp [List.getD, List.getElem?_eq_getElem hlt]
      have hxm : lst x ∈ ls := by rw [← hgx]; exact List.getElem_mem _
      have hxs : x.size ≤ 67108860 := by have := hsz.out _ hxm; rwa [lst_length] at this
      have hsizes := stOk_sizes hso.out
      dsimp only at hsizes
      rw [lst_length, lst_length] at hsizes
      have hdrop : ls.drop k = lst x :: ls.drop (k + 1) := by
        rw [List.drop_eq_getElem_cons hlt, hgx]
      obtain ⟨p, hp⟩ : ∃ p, lineRes ⟨lst o', t', lst ow'⟩ os.length (lst x) = some p := by
        have h9 := hinv.out
        rw [hdrop] at h9
        unfold scanOk at h9
        cases hp : lineRes ⟨lst o', t', lst ow'⟩ os.length (lst x) with
        | none => rw [hp] at h9; cases h9
        | some p => exact ⟨p, rfl⟩
      obtain ⟨s', y⟩ := p
      have hok := lineRes_ok hso.out hp
      have HOK := hid hok.1
      have HY := hid hok.2
      have HIN := hid (show (scanOk s' (os.length + y.toList.length) (ls.drop (k + 1))).map (fun q => (q.1, (os.map RV.z ++ y.toList) ++ q.2)) = some (sF, rF) by
        have h9 := hinv.out
        rw [hdrop] at h9
        unfold scanOk at h9
        rw [hp, Option.bind_some] at h9
        rw [← h9, Option.map_map]
        congr 1
        funext q
        simp)
      have HP := hid hp
      have p1 : 0 ≤ (k : Int) := by omega
      have p2 : (k : Int) < ls.length := by omega
      have hs2 := hs.put 3 (.int .i64 ((k : Int) + 1))
      have hL2 := hL.far (FarB.put (w.heap.size + 1) wr 3 (.int .i64 ((k : Int) + 1)))
      have he2 := he.far (p := ⟨w.heap.size + 1, 3, none⟩) (by show w.heap.size + 1 + 1 ≠ w.heap.size + 1; omega) (.int .i64 ((k : Int) + 1))
      have hb2 := hb.setCell (p := ⟨w.heap.size + 1, 3, none⟩) (by show w.heap.size ≤ w.heap.size + 1; omega) (.int .i64 ((k : Int) + 1))
      obtain ⟨d0, d1, d2, d3, d4, d5⟩ := hs.cells6
      obtain ⟨f0, f1, f2, f3, f4, f5⟩ := hs.free6
      clear hok hp hdrop hxm hx hso hinv hgx
      go_wp2_with fail
      refine (readLine_any w hm hk (w.heap.size + 1) (Nat.le_succ _) o' ow' x t' ((k : Int) + 1) FA Fn Fc LV os _ hb2 hs2 hL2 hos (by omega) (by omega) hxs).mono ?_
      rintro e w5 h5
      rw [HP.out] at h5
      obtain ⟨rfl, hkeep, o5, ow5, FA5, Fn5, Fc5, LV5, ys, hs5, hblk5, hL5, hz5⟩ := h5
      have he5 := hkeep.2 _ _ _ (by unfold TE TR; decide) (by omega) he2
      have hb5 := hb2.trans (hkeep.1.mono (Nat.le_succ _))
      have hys : ys.length = y.toList.length := by have := congrArg List.length hz5; rwa [List.length_map] at this
      have hos5 : (os ++ ys).length ≤ 60 := by
        rw [List.length_append, hys]
        rcases HY.out with h | h
        · rw [h]; simpa using hos
        · have : y.toList.length ≤ 1 := by cases y <;> simp
          omega
      have HI5 := hid (show (scanOk ⟨lst o5, s'.ttl, lst ow5⟩ (os ++ ys).length (ls.drop (k + 1))).map (fun q => (q.1, (os ++ ys).map RV.z ++ q.2)) = some (sF, rF) by
        rw [← hs5, List.length_append, hys, List.map_append, hz5]
        exact HIN.out)
      have HO5 := hid (show Z.stOk ⟨lst o5, s'.ttl, lst ow5⟩ = true by rw [← hs5]; exact HOK.out)
      clear hs hL he hb hs2 hL2 he2 hb2 d0 d1 d2 d3 d4 d5 f0 f1 f2 f3 f4 f5 hz5 hys HIN hkeep HOK HY HP hs5
      go_wp2_with fail
      all_goals exact ⟨⟨k + 1, o5, ow5, s'.ttl, (k : Int) + 1, FA5, Fn5, Fc5, LV5, os ++ ys, by omega, by go_num, hblk5, hL5, he5, hb5, HO5, hos5, HI5⟩, by simp [intOf]; omega⟩
    · obtain rfl : k = ls.length := by omega
      obtain ⟨LA, Lc, rfl⟩ := hL.slice
      have hfin : sF = ⟨lst o', t', lst ow'⟩ ∧ os.map RV.z = rF := by
        have h9 := hinv.out
        rw [List.drop_length] at h9
        unfold scanOk at h9
        simp at h9
        exact ⟨h9.1.symm, h9.2⟩
      have HF := hid hfin
      clear hfin hinv
      obtain ⟨d0, d1, d2, d3, d4, d5⟩ := hs.cells6
      obtain ⟨f0, f1, f2, f3, f4, f5⟩ := hs.free6
      have ec : wr.cell? ⟨w.heap.size + 1 + 1, 0, none⟩ = some .nilIface := he.cell 0
      have ef := he.frozen 0
      have hs9 := (six_set hs (.string o') (.int .i64 t') (.string ow') (.int .i64 l) (.slice FA Fn Fc) (.slice LA os.length Lc)).far (p := ⟨w.heap.size + 1 + 1, 0, none⟩) (by show w.heap.size + 1 ≠ w.heap.size + 1 + 1; omega) .nilIface
      have hb9 := (six_below hb (g := w.heap.size + 1) (Nat.le_succ _) (.string o') (.int .i64 t') (.string ow') (.int .i64 l) (.slice FA Fn Fc) (.slice LA os.length Lc)).setCell (p := ⟨w.heap.size + 1 + 1, 0, none⟩) (by show w.heap.size ≤ w.heap.size + 1 + 1; omega) .nilIface
      have hf6 : FarB (w.heap.size + 1) wr ((((((wr.setCell ⟨w.heap.size + 1, 0, none⟩ (.string o')).setCell ⟨w.heap.size + 1, 1, none⟩ (.int .i64 t')).setCell ⟨w.heap.size + 1, 2, none⟩ (.string ow')).setCell ⟨w.heap.size + 1, 3, none⟩ (.int .i64 l)).setCell ⟨w.heap.size + 1, 4, none⟩ (.slice FA Fn Fc)).setCell ⟨w.heap.size + 1, 5, none⟩ (.slice LA os.length Lc)) := (((((FarB.put _ _ 0 _).trans (FarB.put _ _ 1 _)).trans (FarB.put _ _ 2 _)).trans (FarB.put _ _ 3 _)).trans (FarB.put _ _ 4 _)).trans (FarB.put _ _ 5 _)
      have he6 := hf6.keep _ _ _ (by omega) he
      have hL6 := hL.far hf6
      have hL9 : Lst (w.heap.size + 1) (((((((wr.setCell ⟨w.heap.size + 1, 0, none⟩ (.string o')).setCell ⟨w.heap.size + 1, 1, none⟩ (.int .i64 t')).setCell ⟨w.heap.size + 1, 2, none⟩ (.string ow')).setCell ⟨w.heap.size + 1, 3, none⟩ (.int .i64 l)).setCell ⟨w.heap.size + 1, 4, none⟩ (.slice FA Fn Fc)).setCell ⟨w.heap.size + 1, 5, none⟩ (.slice LA os.length Lc)).setCell ⟨w.heap.size + 1 + 1, 0, none⟩ .nilIface) (.slice LA os.length Lc) os := ⟨own_put hL6.1 he6 (by unfold TE TR; decide) 0 .nilIface, fun x hx => own_put (hL6.2 x hx) he6 (by unfold TE; decide) 0 .nilIface⟩
      have he9 := he6.put 0 .nilIface
      clear hL hL6 he6 hf6 he hs hb
      go_wp2_with fail
      obtain ⟨WF, hWF⟩ : ∃ WF, (((((((wr.setCell ⟨w.heap.size + 1, 0, none⟩ (.string o')).setCell ⟨w.heap.size + 1, 1, none⟩ (.int .i64 t')).setCell ⟨w.heap.size + 1, 2, none⟩ (.string ow')).setCell ⟨w.heap.size + 1, 3, none⟩ (.int .i64 l)).setCell ⟨w.heap.size + 1, 4, none⟩ (.slice FA Fn Fc)).setCell ⟨w.heap.size + 1, 5, none⟩ (.slice LA os.length Lc)).setCell ⟨w.heap.size + 1 + 1, 0, none⟩ .nilIface) = WF := ⟨_, rfl⟩
      rw [hWF] at hs9 hb9 hL9 he9 ⊢
      clear hWF d0 d1 d2 d3 d4 d5 f0 f1 f2 f3 f4 f5 ec ef
      obtain ⟨d0, d1, d2, d3, d4, d5⟩ := hs9.cells6
      have ec : WF.cell? ⟨w.heap.size + 1 + 1, 0, none⟩ = some .nilIface := he9.cell 0
      refine leaves_cons (f := 115) (args := #[.pointer (some ⟨w.heap.size + 1 + 1, 0, none⟩)]) (by simp) (by simp [go_sem]) ?_
      refine (scan_idle ⟨w.heap.size + 1 + 1, 0, none⟩ _).mono ?_
      rintro e u' w'' ⟨rfl, rfl, rfl⟩
      simp [Leaves, settle, results, Tryz.results68, go_sem, d0, d1, d2, d3, d4, d5, ec]
      exact ⟨o', ow', l, FA, Fn, Fc, LA, Lc, os, ⟨rfl, by rw [HF.out.1], rfl, rfl, ⟨rfl, rfl, rfl⟩, rfl, rfl, rfl⟩, by rw [HF.out.1], hL9, HF.out.2, hb9⟩

set_option maxHeartbeats 2000000 in
theorem stateValid_true (o ow : ByteArray) (t : Int) (w : World) (ho : o.size ≤ 67108864) (how : ow.size ≤ 67108864) (hst : Z.stOk ⟨lst o, t, lst ow⟩ = true) :
    Calls Tryz.prog 67 #[.agg #[.string o, .int .i64 t, .string ow]] w fun e w' => e = .returned (.bool true) ∧ Below w.heap.size w w' := by
  unfold Z.stOk at hst
  simp only [Bool.and_eq_true, Bool.or_eq_true, decide_eq_true_eq] at hst
  obtain ⟨⟨⟨hv, h1⟩, h2⟩, h3⟩ := hst
  have HV := hid hv
  have hx0 : Blk (w.alloc (.cells #[.string o, .int .i64 t, .string ow] 41)) w.heap.size 41 [.string o, .int .i64 t, .string ow] := Blk.new w 41 [.string o, .int .i64 t, .string ow]
  have hb0 : Below w.heap.size w (w.alloc (.cells #[.string o, .int .i64 t, .string ow] 41)) := (Below.refl _ _).alloc (Nat.le_refl _) _
  have c0 := hx0.cell 0
  have c1 := hx0.cell 1
  have c2 := hx0.cell 2
  simp only [List.getElem?_cons_zero, List.getElem?_cons_succ] at c0 c1 c2
  clear hv
  go_enter Tryz.func67, Tryz.ntmps67
  go_wp2_with fail
  refine (sNameValid_v o ho true HV _).mono ?_
  rintro e w1 ⟨rfl, hb1⟩
  have hx1 := hx0.next hb1
  have hbw1 := hb0.trans (hb1.mono hb0.size)
  clear c0 c1 c2
  have c0 := hx1.cell 0
  have c1 := hx1.cell 1
  have c2 := hx1.cell 2
  simp only [List.getElem?_cons_zero, List.getElem?_cons_succ] at c0 c1 c2
  by_cases ht : t = -1
  · have q1 : (t == -1) = true := by simpa using ht
    have HT := hid ht
    clear ht
    rcases h3 with h3 | h3
    · have q2 : ow.toList.isEmpty = true := sEmpty (decide_eq_true h3)
      go_wp2
      all_goals go_ret
      all_goals exact ⟨ret_bool (by simp), hbw1⟩
    · have q2 : ow.toList.isEmpty = false := sEmpty (decide_eq_false (Z.valid_ne h3))
      have H3 := hid h3
      clear h3
      go_wp2_with fail
      refine (sNameValid_v ow how true H3 _).mono ?_
      rintro e w2 ⟨rfl, hb2⟩
      go_wp2
      all_goals go_ret
      all_goals exact ⟨ret_bool (by simp), hbw1.trans (hb2.mono hbw1.size)⟩
  · have q1 : (t == -1) = false := by simpa using ht
    have h0 : 0 ≤ t := by omega
    have HT := hid ht
    clear ht
    go_wp2_with fail
    refine (isWithin_any t 100000 _).mono ?_
    rintro e w2 ⟨rfl, rfl⟩
    rw [show within t 100000 = true by unfold within; simp; omega]
    rcases h3 with h3 | h3
    · have q2 : ow.toList.isEmpty = true := sEmpty (decide_eq_true h3)
      go_wp2
      all_goals go_ret
      all_goals exact ⟨ret_bool (by simp), hbw1⟩
    · have q2 : ow.toList.isEmpty = false := sEmpty (decide_eq_false (Z.valid_ne h3))
      have H3 := hid h3
      clear h3
      go_wp2_with fail
      refine (sNameValid_v ow how true H3 _).mono ?_
      rintro e w3 ⟨rfl, hb2⟩
      go_wp2
      all_goals go_ret
      all_goals exact ⟨ret_bool (by simp), hbw1.trans (hb2.mono hbw1.size)⟩

theorem lst_one {b : Nat} {w : World} {LA : Option Addr} {Lc : Nat} {v : RV} (h : Lst b w (.slice LA 1 Lc) [v]) : ∃ g cs, LA = some ⟨g, 0, none⟩ ∧ b < g ∧ Blk w g TR cs ∧ cs[0]? = some (.string v.N) ∧ cs[1]? = some (.int .i64 v.T) ∧ cs[2]? = some (.int .i64 v.K) ∧ cs[3]? = some (.slice v.A v.L v.C) ∧ cs[4]? = some (.string v.G) ∧ cs[5]? = some (.string v.X) := by
  rcases h.1.2 with ⟨_, e2⟩ | ⟨g, cap, cur, hv, hg, hh, h3, h4, h5, h6⟩
  · cases e2
  · injection hv with hA
    have at_ : ∀ j, j < 6 → cur.toList[j]? = v.cells[j]? := fun j hj => by
      have h7 : (cur.toList.take (([v] : List RV).length * 6))[j]? = v.cells[j]? := by rw [h6]; simp [flat]
      rw [List.getElem?_take, if_pos (by simpa using hj)] at h7
      exact h7
    exact ⟨g, cur.toList, hA, by omega, hh, at_ 0 (by omega), at_ 1 (by omega), at_ 2 (by omega), at_ 3 (by omega), at_ 4 (by omega), at_ 5 (by omega)⟩

theorem ret_readLine {a : Act} {W : World} {post : Ending → World → Prop} (b g : Nat) {c0 c1 c2 d0 d1 d2 d3 d4 d5 h6 h7 : Value} (hp : a.tmps[4]?.getD undef = .pointer (some ⟨b, 0, none⟩)) (hq : a.tmps[5]?.getD undef = .pointer (some ⟨g, 0, none⟩)) (k6 : a.tmps[6]?.getD undef = h6) (k7 : a.tmps[7]?.getD undef = h7) (hd : a.defers = [])
    (e0 : W.cell? ⟨b, 0, none⟩ = some c0) (e1 : W.cell? ⟨b, 1, none⟩ = some c1) (e2 : W.cell? ⟨b, 2, none⟩ = some c2) (f0 : W.cell? ⟨g, 0, none⟩ = some d0) (f1 : W.cell? ⟨g, 1, none⟩ = some d1) (f2 : W.cell? ⟨g, 2, none⟩ = some d2) (f3 : W.cell? ⟨g, 3, none⟩ = some d3) (f4 : W.cell? ⟨g, 4, none⟩ = some d4) (f5 : W.cell? ⟨g, 5, none⟩ = some d5)
    (h : post (.returned (.tuple #[.agg #[c0, c1, c2], .agg #[d0, d1, d2, d3, d4, d5], h6, h7])) W) : bodyPost Tryz.prog Tryz.f24 post Exit.ret a W :=
  bodyPost_ret (by simp [results, Tryz.results24, go_sem, hp, hq, k6, k7, e0, e1, e2, f0, f1, f2, f3, f4, f5]) hd h
set_option maxHeartbeats 8000000 in
theorem iReadLine_some (o ow line : ByteArray) (t : Int) (w : World) (hm : MX w) (hk : KT w) (ho : o.size ≤ 67108864) (how : ow.size ≤ 67108864) (hline : line.size ≤ 67108860) (s' : Z.St) (r : Z.Rec) (hres : Z.readLine ⟨lst o, t, lst ow⟩ (lst line) = some (s', some r)) :
    Calls Tryz.prog 24 #[.agg #[.string o, .int .i64 t, .string ow], .string line] w fun e w' => ∃ (o' ow' : ByteArray) (N : ByteArray) (T K : Int) (A : Option Addr) (L C : Nat) (G X : ByteArray) (zs : List Int), e = .returned (.tuple #[.agg #[.string o', .int .i64 s'.ttl, .string ow'], .agg #[.string N, .int .i64 T, .int .i64 K, .slice A L C, .string G, .string X], .bool true, .bool true]) ∧ s' = ⟨lst o', s'.ttl, lst ow'⟩ ∧ r = ⟨lst N, T, K, zs, lst G, lst X⟩ ∧ w'.ownsRow w.heap.size 3 1 (.slice A L C) L (zs.map iv) ∧ Below w.heap.size w w' := by
  have hst := (Z.readLine_state hres).1
  have hsc : scanOk ⟨lst o, t, lst ow⟩ 0 [lst line] = some (s', [r]) := by
    unfold scanOk
    rw [lineRes_eq hst, hres]
    simp [scanOk]
  have HSC := hid hsc
  have HSZ : Hid (∀ l ∈ [lst line], l.length ≤ 67108860) := hid (fun l hl => by rw [List.mem_singleton.1 hl, lst_length]; exact hline)
  have HST := hid hst
  clear hsc hst hres
  have hx0 : Blk (((w.alloc (.cells #[.string o, .int .i64 t, .string ow] 41)).alloc (.cells #[.string ⟨#[]⟩, .int .i64 0, .string ⟨#[]⟩] 41)).alloc (.cells #[.string ⟨#[]⟩, .int .i64 0, .int .i64 0, .slice none 0 0, .string ⟨#[]⟩, .string ⟨#[]⟩] 25)) w.heap.size 41 [.string o, .int .i64 t, .string ow] := ((Blk.new w 41 [.string o, .int .i64 t, .string ow]).alloc _).alloc _
  have hy0 : Blk (((w.alloc (.cells #[.string o, .int .i64 t, .string ow] 41)).alloc (.cells #[.string ⟨#[]⟩, .int .i64 0, .string ⟨#[]⟩] 41)).alloc (.cells #[.string ⟨#[]⟩, .int .i64 0, .int .i64 0, .slice none 0 0, .string ⟨#[]⟩, .string ⟨#[]⟩] 25)) (w.heap.size + 1) 41 [.string ⟨#[]⟩, .int .i64 0, .string ⟨#[]⟩] := by
    have := (Blk.new (w.alloc (.cells #[.string o, .int .i64 t, .string ow] 41)) 41 [.string ⟨#[]⟩, .int .i64 0, .string ⟨#[]⟩]).alloc (.cells #[.string ⟨#[]⟩, .int .i64 0, .int .i64 0, .slice none 0 0, .string ⟨#[]⟩, .string ⟨#[]⟩] 25)
    simpa using this
  have hz0 : Blk (((w.alloc (.cells #[.string o, .int .i64 t, .string ow] 41)).alloc (.cells #[.string ⟨#[]⟩, .int .i64 0, .string ⟨#[]⟩] 41)).alloc (.cells #[.string ⟨#[]⟩, .int .i64 0, .int .i64 0, .slice none 0 0, .string ⟨#[]⟩, .string ⟨#[]⟩] 25)) (w.heap.size + 1 + 1) 25 [.string ⟨#[]⟩, .int .i64 0, .int .i64 0, .slice none 0 0, .string ⟨#[]⟩, .string ⟨#[]⟩] := by
    have := Blk.new ((w.alloc (.cells #[.string o, .int .i64 t, .string ow] 41)).alloc (.cells #[.string ⟨#[]⟩, .int .i64 0, .string ⟨#[]⟩] 41)) 25 [.string ⟨#[]⟩, .int .i64 0, .int .i64 0, .slice none 0 0, .string ⟨#[]⟩, .string ⟨#[]⟩]
    simpa using this
  have hb0 : Below w.heap.size w (((w.alloc (.cells #[.string o, .int .i64 t, .string ow] 41)).alloc (.cells #[.string ⟨#[]⟩, .int .i64 0, .string ⟨#[]⟩] 41)).alloc (.cells #[.string ⟨#[]⟩, .int .i64 0, .int .i64 0, .slice none 0 0, .string ⟨#[]⟩, .string ⟨#[]⟩] 25)) := by go_grown
  have x0 := hx0.cell 0
  have x1 := hx0.cell 1
  have x2 := hx0.cell 2
  simp only [List.getElem?_cons_zero, List.getElem?_cons_succ] at x0 x1 x2
  go_enter Tryz.func24, Tryz.ntmps24
  go_wp2_with fail
  refine (stateValid_true o ow t _ ho how HST.out).mono ?_
  rintro e w1 ⟨rfl, hb1⟩
  have hx1 := hx0.next hb1
  have hy1 := hy0.next hb1
  have hz1 := hz0.next hb1
  have hbw1 := hb0.trans (hb1.mono hb0.size)
  have hs1 := hb1.size
  simp only [World.alloc, Array.size_push] at hs1
  clear x0 x1 x2 hx0 hy0 hz0 hb0 hb1
  have x0 := hx1.cell 0
  have x1 := hx1.cell 1
  have x2 := hx1.cell 2
  simp only [List.getElem?_cons_zero, List.getElem?_cons_succ] at x0 x1 x2
  have hy2 := hy1.alloc (.cells #[.string line] 9)
  have hz2 := hz1.alloc (.cells #[.string line] 9)
  have hbw2 := hbw1.alloc hbw1.size (.cells #[.string line] 9)
  have hrl : Reads (w1.alloc (.cells #[.string line] 9)) (w1.alloc (.cells #[.string line] 9)).heap.size (some ⟨w1.heap.size, 0, none⟩) 1 ([lst line].map sv) := by
    have ho := own_fresh w1 [.string line] 9 (show 1 ≤ maxLen by decide)
    have h9 := Reads.of_own ho
    simpa [sv_lst] using h9
  have HRL := hid hrl
  have hm2 := hm.below hbw2
  have hk2 := hk.below hbw2
  clear hrl
  go_wp2_with fail
  refine (scan_ok o ow t (some ⟨w1.heap.size, 0, none⟩) 1 _ hm2 hk2 [lst line] HRL.out (by simp) HSZ HST.out s' [r] HSC).mono ?_
  rintro e w3 ⟨o3, ow3, l3, FA, Fn, Fc, LA, Lc, os, rfl, hs3, hL3, hz3, hb3⟩
  obtain ⟨v, rfl⟩ : ∃ v, os = [v] := by
    match os, hz3 with
    | [v], _ => exact ⟨v, rfl⟩
  have hrv : r = v.z := by simpa using hz3.symm
  have HS3 := hid hs3
  have HRV := hid hrv
  clear hs3 hrv
  obtain ⟨g, cs, rfl, hbg, hgb, k0, k1, k2, k3, k4, k5⟩ := lst_one hL3
  have hown3 := hL3.2 v (by simp)
  have hs3' := hb3.size
  simp only [World.alloc, Array.size_push] at hs3'
  have hy4 := (hy2.next hb3).alloc (.cells #[.string o3, .int .i64 s'.ttl, .string ow3, .int .i64 l3, .slice FA Fn Fc, .slice (some ⟨g, 0, none⟩) 1 Lc] 87)
  have hz4 := (hz2.next hb3).alloc (.cells #[.string o3, .int .i64 s'.ttl, .string ow3, .int .i64 l3, .slice FA Fn Fc, .slice (some ⟨g, 0, none⟩) 1 Lc] 87)
  have hg4 := hgb.alloc (.cells #[.string o3, .int .i64 s'.ttl, .string ow3, .int .i64 l3, .slice FA Fn Fc, .slice (some ⟨g, 0, none⟩) 1 Lc] 87)
  have ho4 := hown3.alloc (.cells #[.string o3, .int .i64 s'.ttl, .string ow3, .int .i64 l3, .slice FA Fn Fc, .slice (some ⟨g, 0, none⟩) 1 Lc] 87)
  have hn4 : Blk (w3.alloc (.cells #[.string o3, .int .i64 s'.ttl, .string ow3, .int .i64 l3, .slice FA Fn Fc, .slice (some ⟨g, 0, none⟩) 1 Lc] 87)) w3.heap.size 87 [.string o3, .int .i64 s'.ttl, .string ow3, .int .i64 l3, .slice FA Fn Fc, .slice (some ⟨g, 0, none⟩) 1 Lc] := Blk.new w3 _ _
  have hbw4 := (hbw2.trans (hb3.mono hbw2.size)).alloc (by omega) (.cells #[.string o3, .int .i64 s'.ttl, .string ow3, .int .i64 l3, .slice FA Fn Fc, .slice (some ⟨g, 0, none⟩) 1 Lc] 87)
  have hg3 := hgb.lt
  clear x0 x1 x2 hx1 hy1 hz1 hy2 hz2 hbw2 hm2 hk2 hL3 hz3 hgb hown3 hb3
  obtain ⟨W4, hW4⟩ : ∃ W4, w3.alloc (.cells #[.string o3, .int .i64 s'.ttl, .string ow3, .int .i64 l3, .slice FA Fn Fc, .slice (some ⟨g, 0, none⟩) 1 Lc] 87) = W4 := ⟨_, rfl⟩
  rw [hW4] at hy4 hz4 hg4 ho4 hn4 hbw4
  have g0 := (hg4.cell 0).trans k0
  have g1 := (hg4.cell 1).trans k1
  have g2 := (hg4.cell 2).trans k2
  have g3 := (hg4.cell 3).trans k3
  have g4 := (hg4.cell 4).trans k4
  have g5 := (hg4.cell 5).trans k5
  obtain ⟨n0, n1, n2, n3, n4, n5⟩ := hn4.cells6
  obtain ⟨z0, z1, z2, z3, z4, z5⟩ := hz4.cells6
  obtain ⟨f0, f1, f2, f3, f4, f5⟩ := hz4.free6
  have y0 := hy4.cell 0
  have y1 := hy4.cell 1
  have y2 := hy4.cell 2
  have e0 := hy4.frozen 0
  have e1 := hy4.frozen 1
  have e2 := hy4.frozen 2
  simp only [List.getElem?_cons_zero, List.getElem?_cons_succ] at y0 y1 y2
  clear k0 k1 k2 k3 k4 k5
  simp only [World.alloc, Array.size_push] at hbg
  have v1 : ¬ g = w.heap.size + 1 := by omega
  have v2 : ¬ w.heap.size + 1 = g := by omega
  have v3 : ¬ g = w.heap.size + 1 + 1 := by omega
  have v4 : ¬ w.heap.size + 1 + 1 = g := by omega
  have v5 : ¬ w3.heap.size = w.heap.size + 1 := by omega
  have v6 : ¬ w.heap.size + 1 = w3.heap.size := by omega
  have v7 : ¬ w3.heap.size = w.heap.size + 1 + 1 := by omega
  have v8 : ¬ w.heap.size + 1 + 1 = w3.heap.size := by omega
  have y9 := six_apart ((((hy4.put 0 (.string o3)).put 1 (.int .i64 s'.ttl)).put 2 (.string ow3))) (g := w.heap.size + 1 + 1) (by omega) (.string v.N) (.int .i64 v.T) (.int .i64 v.K) (.slice v.A v.L v.C) (.string v.G) (.string v.X)
  have z9 := six_set (((hz4.far (p := ⟨w.heap.size + 1, 0, none⟩) (by show w.heap.size + 1 + 1 ≠ w.heap.size + 1; omega) (.string o3)).far (p := ⟨w.heap.size + 1, 1, none⟩) (by show w.heap.size + 1 + 1 ≠ w.heap.size + 1; omega) (.int .i64 s'.ttl)).far (p := ⟨w.heap.size + 1, 2, none⟩) (by show w.heap.size + 1 + 1 ≠ w.heap.size + 1; omega) (.string ow3)) (.string v.N) (.int .i64 v.T) (.int .i64 v.K) (.slice v.A v.L v.C) (.string v.G) (.string v.X)
  have o9 := six_own (ownsRow_setCell_below (ownsRow_setCell_below (ownsRow_setCell_below ho4 (a := ⟨w.heap.size + 1, 0, none⟩) (by show w.heap.size + 1 < _; simp; omega) (.string o3)) (a := ⟨w.heap.size + 1, 1, none⟩) (by show w.heap.size + 1 < _; simp; omega) (.int .i64 s'.ttl)) (a := ⟨w.heap.size + 1, 2, none⟩) (by show w.heap.size + 1 < _; simp; omega) (.string ow3)) (g := w.heap.size + 1 + 1) (by simp; omega) (.string v.N) (.int .i64 v.T) (.int .i64 v.K) (.slice v.A v.L v.C) (.string v.G) (.string v.X)
  have b9 := six_below (((hbw4.setCell (p := ⟨w.heap.size + 1, 0, none⟩) (by show w.heap.size ≤ w.heap.size + 1; omega) (.string o3)).setCell (p := ⟨w.heap.size + 1, 1, none⟩) (by show w.heap.size ≤ w.heap.size + 1; omega) (.int .i64 s'.ttl)).setCell (p := ⟨w.heap.size + 1, 2, none⟩) (by show w.heap.size ≤ w.heap.size + 1; omega) (.string ow3)) (g := w.heap.size + 1 + 1) (by omega) (.string v.N) (.int .i64 v.T) (.int .i64 v.K) (.slice v.A v.L v.C) (.string v.G) (.string v.X)
  have Y9 := hid y9.drew
  have Z9 := hid z9.drew
  have O9 := hid (own_mono (own_next o9 (below_drewN (Below.refl _ _) 1)) (show w.heap.size ≤ _ by simp; omega))
  have B9 := hid (below_drewN b9 1)
  clear y9 z9 o9 b9
  go_wp2_with fail
  go_region
  go_wp2
  refine ret_readLine (w.heap.size + 1) (w.heap.size + 1 + 1) rfl rfl rfl rfl rfl (Y9.out.cell 0) (Y9.out.cell 1) (Y9.out.cell 2) (Z9.out.cell 0) (Z9.out.cell 1) (Z9.out.cell 2) (Z9.out.cell 3) (Z9.out.cell 4) (Z9.out.cell 5) ?_
  exact ⟨o3, ow3, v.N, v.T, v.K, v.A, v.L, v.C, v.G, v.X, v.Z, rfl, HS3.out, HRV.out, O9.out, B9.out⟩
end Go.Proofs.YtpgeeeamcncpkaaGreatDoor

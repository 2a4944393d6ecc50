/- What ReadData of the model returns. -/
import Derived.Test.YtpgeeeamcncpkaaGreatDoorMl
import Derived.Test.YtpgeeeamcncpkaaGreatDoorSk
import Derived.Test.YtpgeeeamcncpkaaGreatDoorBk
import Derived.Test.YtpgeeeamcncpkaaGreatDoorPc
namespace Go.Proofs.YtpgeeeamcncpkaaGreatDoor
open Go.RowKit
set_option maxRecDepth 100000
set_option linter.unusedVariables false

/-! ### numbers -/

def l3n (fs : List Z.Str) : List Int × Bool := match (fs.take 6).mapM Z.num with | some m => (m, decide (fs.length < 6)) | none => ([], false)
theorem l3n_nums3 (fs : List Z.Str) : Z.nums3 fs = if (l3n fs).2 then some (l3n fs).1 else none := by
  unfold Z.nums3 l3n
  by_cases h : fs.length < 6
  · rw [if_pos h, List.take_of_length_le (by omega)]
    cases fs.mapM Z.num <;> simp [h]
  · rw [if_neg h]
    cases (fs.take 6).mapM Z.num <;> simp [h]
theorem l3n_length (fs : List Z.Str) : (l3n fs).1.length ≤ 6 := by
  unfold l3n
  cases h : (fs.take 6).mapM Z.num with
  | none => exact Nat.zero_le _
  | some m =>
    have := Z.mapM_num_length h
    show m.length ≤ 6
    rw [this, List.length_take]
    omega
def Six (ls : List Z.Str) (k : Nat) (ns : List Int) : Prop := ns.length = k ∧ (ls.take 6).mapM Z.num = (((ls.take 6).drop k).mapM Z.num).map (ns ++ ·)
theorem six_start (ls : List Z.Str) : Six ls 0 [] := ⟨rfl, by simp⟩
theorem six_split {ls : List Z.Str} {k : Nat} (hk : k < ls.length) (h7 : k < 6) : (ls.take 6).drop k = ls.getD k [] :: (ls.take 6).drop (k + 1) := by
  have hL : k < (ls.take 6).length := by rw [List.length_take]; omega
  rw [List.drop_eq_getElem_cons hL, List.getElem_take]
  simp [hk]
theorem six_next {ls : List Z.Str} {k : Nat} {ns : List Int} {n : Int} (h : Six ls k ns) (hk : k < ls.length) (h7 : k < 6) (hn : Z.num (ls.getD k []) = some n) : Six ls (k + 1) (ns ++ [n]) := by
  refine ⟨by rw [List.length_append, h.1]; rfl, ?_⟩
  rw [h.2, six_split hk h7, List.mapM_cons, hn]
  cases ((ls.take 6).drop (k + 1)).mapM Z.num with
  | none => rfl
  | some r => simp
theorem six_fail {ls : List Z.Str} {k : Nat} {ns : List Int} (h : Six ls k ns) (hk : k < ls.length) (h7 : k < 6) (hn : Z.num (ls.getD k []) = none) : l3n ls = ([], false) := by
  unfold l3n
  rw [h.2, six_split hk h7, List.mapM_cons, hn]
  rfl
theorem six_end {ls : List Z.Str} {k : Nat} {ns : List Int} (h : Six ls k ns) (hk : ¬ (k < ls.length ∧ k < 6)) : l3n ls = (ns, decide (ls.length < 6)) := by
  unfold l3n
  rw [h.2, List.drop_eq_nil_of_le (by rw [List.length_take]; omega)]
  simp

set_option maxHeartbeats 2000000 in
theorem l3Nums_eq (ls : List Z.Str) (B : Nat) (A : Option Addr) (n c : Nat) (w : World) (hr : Reads w B A n (ls.map sv)) (hB : B ≤ w.heap.size) (hn : n ≤ 67108865) (hsz : Hid (∀ l ∈ ls, l.length ≤ 67108864)) (xns : List Int) (xb : Bool) (hres : Hid (l3n ls = (xns, xb))) :
    Calls Tryz.prog 91 #[.slice A n c] w fun e w' => ∃ A q, e = .returned (.tuple #[.slice A xns.length q, .bool xb]) ∧ w'.ownsRow w.heap.size 3 1 (.slice A xns.length q) xns.length (xns.map iv) ∧ Below w.heap.size w w' := by
  have hlen : ls.length = n := by have := hr.1; simpa using this
  subst hlen
  obtain ⟨i0, hi0, hz0, hz1, hz2⟩ := info_parts infoIntz
  go_enter Tryz.func91, Tryz.ntmps91
  go_wp2
  go_loopw [4, 5] (fun v i wr => ∃ (k : Nat) (ns : List Int), k ≤ ls.length ∧ k ≤ 6 ∧ i = .int .i64 k ∧ Hid (Six ls k ns) ∧ wr.ownsRow w.heap.size 3 1 v k (ns.map iv) ∧ Below w.heap.size w wr) (fun _ i _ => 7 - (intOf i).toNat)
  case atStart => exact ⟨0, [], Nat.zero_le _, by omega, rfl, hid (six_start ls), World.ownsRow_made w #[] 0 (Nat.le_refl _) (by decide) (by simp), (Below.refl _ _).alloc (Nat.le_refl _) _⟩
  case round =>
    obtain ⟨k, ns, hk, hk6, rfl, hat, hown, hb⟩ := hrel
    have hbs := hb.size
    by_cases hlt2 : k < ls.length ∧ k < 6
    · obtain ⟨hlt, hlt6⟩ := hlt2
      obtain ⟨ad, x, rfl, hab, hx, hcell⟩ := reads_str (hr.below hb hB) hlt
      have hxs : x.size ≤ 67108864 := by
        have hm : ls.getD k [] ∈ ls := by simp [hlt]
        have := hsz.out _ hm
        rw [← hx, lst_length] at this
        exact this
      have Hx := hid hx
      clear hx
      cases hn : Z.num (lst x) with
      | none =>
        have HF := six_fail hat.out hlt hlt6 (by rw [← Hx.out]; exact hn)
        obtain ⟨rfl, rfl⟩ : xns = [] ∧ xb = false := by have := hres.out; rw [HF] at this; injection this with h1 h2; exact ⟨h1.symm, h2.symm⟩
        have HN := hid hn
        clear hn hres HF
        go_wp2_with (first | (go_at_call 111; refine (l13Num_none _ hxs HN _).mono ?_; rintro e w2 ⟨rfl, rfl⟩))
        all_goals go_ret2
        all_goals exact ⟨_, 0, rfl, World.ownsRow_made _ #[] 0 (by omega) (by decide) (by simp), hb.alloc (by omega) _⟩
      | some n =>
        have HF := hid (six_next hat.out hlt hlt6 (by rw [← Hx.out]; exact hn))
        have HN := hid hn
        clear hn
        go_wp2_with (first | (go_at_call 111; refine (l13Num_some _ hxs HN _).mono ?_; rintro e w2 ⟨rfl, rfl⟩) | (at_builtin; refine wpList_append1 wr (.int .i64 n) _ rfl _ _ _ rfl w.heap.size 3 i0 _ 8 Tryz.underlying23 hi0 hz0 hz1 hz2 rfl _ _ _ rfl hown rfl rfl (by unfold maxLen; omega) (by omega) hbs ?_; intro v1 w2 hown2 hb2))
        go_roundw
        case rel => exact ⟨k + 1, ns ++ [n], by omega, by omega, by go_num, HF, by rw [List.map_append]; exact hown2, hb.trans hb2⟩
        case measure => simp [intOf]; try omega
    · have HE := six_end hat.out hlt2
      obtain ⟨rfl, rfl⟩ : xns = ns ∧ xb = decide (ls.length < 6) := by have := hres.out; rw [HE] at this; injection this with h1 h2; exact ⟨h1.symm, h2.symm⟩
      obtain rfl := hat.out.1
      clear HE hres hat
      obtain ⟨A2, q2, rfl⟩ := own_slice hown
      have hdec : decide ((ls.length : Int) < 6) = decide (ls.length < 6) := by rw [decide_eq_decide]; omega
      go_wp2
      all_goals go_ret2
      all_goals (try rw [← hdec])
      all_goals exact ⟨A2, q2, rfl, hown, hb⟩

theorem l2Numbers_eq (s : ByteArray) (hs : s.size ≤ 67108864) (ns : List Int) (b : Bool) (hns : Hid ((Z.numbers 46 (lst s)).getD [] = ns)) (hb : Hid ((Z.numbers 46 (lst s)).isSome = b)) (w : World) :
    Calls Tryz.prog 90 #[.string s, .int .u8 46] w fun e w' => ∃ A q, e = .returned (.tuple #[.slice A ns.length q, .bool b]) ∧ w'.ownsRow w.heap.size 3 1 (.slice A ns.length q) ns.length (ns.map iv) ∧ Below w.heap.size w w' :=
  l2Numbers_ls s hs 46 46 (hid rfl) _ (hid rfl) (numbers_len s hs 46) ns b (hid ⟨hns.out, hb.out⟩) w
theorem ReadName_eq (t o : ByteArray) (ht : t.size ≤ 67108864) (ho : o.size ≤ 67108864) (x : ByteArray) (b : Bool) (hx : Hid (bs ((Z.readName (lst t) (lst o)).getD []) = x)) (hb : Hid ((Z.readName (lst t) (lst o)).isSome = b)) (w : World) :
    Calls Tryz.prog 65 #[.string t, .string o] w fun e w' => e = .returned (.tuple #[.string x, .bool b]) ∧ Below w.heap.size w w' := by
  have h := ReadName_any t o ht ho w
  unfold rOpt at h
  rw [hx.out, hb.out] at h
  exact h
theorem readName_size (t o : Z.Str) : (bs ((Z.readName t o).getD [])).size ≤ 60 := by
  rw [bs_size]
  cases h : Z.readName t o with
  | none => exact Nat.zero_le _
  | some n => exact (Z.valid_len (Z.readName_some h).2.2.2.2).2

/-! ### the data of a kind -/

/-- What the reader of data leaves. -/
def DataOut (N : ByteArray) (T K : Int) (o : Option (List Int × Z.Str × Z.Str)) (w : World) (e : Ending) (w' : World) : Prop :=
  ∃ (A : Option Addr) (L c : Nat) (x y : ByteArray) (ns : List Int), e = .returned (.tuple #[.agg #[.string N, .int .i64 T, .int .i64 K, .slice A L c, .string x, .string y], .bool o.isSome]) ∧ w'.ownsRow w.heap.size 3 1 (.slice A L c) L (ns.map iv) ∧ (∀ p, o = some p → p = (ns, lst x, lst y)) ∧ L ≤ 7 ∧ x.size ≤ 67108864 ∧ y.size ≤ 67108864 ∧ Below w.heap.size w w'
theorem ret_l3 {a : Act} {W : World} {post : Ending → World → Prop} (b : Nat) {c0 c1 c2 c3 c4 c5 ok : Value} (hp : a.tmps[6]?.getD undef = .pointer (some ⟨b, 0, none⟩)) (hk : a.tmps[7]?.getD undef = ok) (hd : a.defers = [])
    (h0 : W.cell? ⟨b, 0, none⟩ = some c0) (h1 : W.cell? ⟨b, 1, none⟩ = some c1) (h2 : W.cell? ⟨b, 2, none⟩ = some c2) (h3 : W.cell? ⟨b, 3, none⟩ = some c3) (h4 : W.cell? ⟨b, 4, none⟩ = some c4) (h5 : W.cell? ⟨b, 5, none⟩ = some c5)
    (h : post (.returned (.tuple #[.agg #[c0, c1, c2, c3, c4, c5], ok])) W) : bodyPost Tryz.prog Tryz.f51 post Exit.ret a W :=
  bodyPost_ret (by simp [results, Tryz.results51, go_sem, hp, hk, h0, h1, h2, h3, h4, h5]) hd h

set_option maxHeartbeats 4000000 in
theorem l3_1 (N : ByteArray) (T : Int) (fs : List Z.Str) (B : Nat) (A : Option Addr) (c : Nat) (or : ByteArray) (w : World) (hr : Reads w B A fs.length (fs.map sv)) (hB : B ≤ w.heap.size) (hne : fs ≠ []) (hcap : fs.length ≤ c) (hlen : fs.length ≤ 67108864) (hor : or.size ≤ 67108864) (hsz : Hid (∀ l ∈ fs, l.length ≤ 67108864)) :
    Calls Tryz.prog 51 #[.agg #[.string N, .int .i64 T, .int .i64 1, .slice none 0 0, .string ⟨#[]⟩, .string ⟨#[]⟩], .slice A fs.length c, .string or] w (DataOut N T 1 (Z.dataOf 1 fs (lst or)) w) := by
  have hlt : 0 < fs.length := List.length_pos_iff.2 hne
  have hr2 := (hr.alloc hB (.cells #[.string N, .int .i64 T, .int .i64 1, .slice none 0 0, .string ⟨#[]⟩, .string ⟨#[]⟩] 25)).alloc (by simp; omega) (.cells #[.string ⟨#[]⟩, .int .i64 0, .int .i64 0, .slice none 0 0, .string ⟨#[]⟩, .string ⟨#[]⟩] 25)
  obtain ⟨ad, x, rfl, hab, hx, hcell⟩ := reads_str hr2 hlt
  rw [show ad.add 0 = ad from rfl] at hcell
  have hxs : x.size ≤ 67108864 := by
    have h1 : fs.getD 0 [] ∈ fs := by simp [hlt]
    have h2 := hsz.out _ h1
    rw [← hx, lst_length] at h2
    exact h2
  obtain ⟨ns, hns⟩ : ∃ ns, (Z.numbers 46 (lst x)).getD [] = ns := ⟨_, rfl⟩
  obtain ⟨b, hb⟩ : ∃ b, (Z.numbers 46 (lst x)).isSome = b := ⟨_, rfl⟩
  obtain ⟨one, hone⟩ : ∃ one, decide (fs.length = 1) = one := ⟨_, rfl⟩
  have hnl : ns.length ≤ 7 := by
    rw [← hns]
    cases h : Z.numbers 46 (lst x) with
    | none => exact Nat.zero_le _
    | some m => exact numbers_length h
  have hout : Z.dataOf 1 fs (lst or) = if b && one then some (ns, [], []) else none := by
    unfold Z.dataOf
    rw [if_pos rfl, ← hb, ← hone]
    by_cases h1 : fs.length = 1
    · rw [if_pos h1, decide_eq_true h1, ← hns]
      have e : fs.headD [] = lst x := by rw [head_eq hne hx]; rfl
      rw [e]
      cases Z.numbers 46 (lst x) <;> rfl
    · rw [if_neg h1, decide_eq_false h1]
      simp
  have HO := hid hout
  have q1 := one_int hone
  have HNS := hid hns
  have HB := hid hb
  clear hns hb hone hout hx
  go_enter Tryz.func51, Tryz.ntmps51
  go_wp2_with fail
  refine (l2Numbers_eq x (by omega) ns b HNS HB _).mono ?_
  rintro e w3 ⟨A3, q3, rfl, hown, hb3⟩
  obtain ⟨hc3', hf3'⟩ := bcell hb3
  have hc3 : ∀ b o, b < w.heap.size + 1 + 1 → w3.cell? ⟨b, o, none⟩ = _ := fun b o h => hc3' b o (by simpa using h)
  have hf3 : ∀ b o, b < w.heap.size + 1 + 1 → w3.frozen? ⟨b, o, none⟩ = _ := fun b o h => hf3' b o (by simpa using h)
  have hs3 := hb3.size
  simp at hs3
  have hbw : Below w.heap.size w w3 := Below.trans (by go_grown) (hb3.mono (by simp; omega))
  have p0 : w3.cell? ⟨w.heap.size, 0, none⟩ = some (.string N) := (hc3 _ _ (by omega)).trans (by go_simp)
  have p1 : w3.cell? ⟨w.heap.size, 1, none⟩ = some (.int .i64 T) := (hc3 _ _ (by omega)).trans (by go_simp)
  have p2 : w3.cell? ⟨w.heap.size, 2, none⟩ = some (.int .i64 1) := (hc3 _ _ (by omega)).trans (by go_simp)
  have p3 : w3.cell? ⟨w.heap.size, 3, none⟩ = some (.slice none 0 0) := (hc3 _ _ (by omega)).trans (by go_simp)
  have p4 : w3.cell? ⟨w.heap.size, 4, none⟩ = some (.string ⟨#[]⟩) := (hc3 _ _ (by omega)).trans (by go_simp)
  have p5 : w3.cell? ⟨w.heap.size, 5, none⟩ = some (.string ⟨#[]⟩) := (hc3 _ _ (by omega)).trans (by go_simp)
  have r0 : w3.cell? ⟨w.heap.size + 1, 0, none⟩ = some (.string ⟨#[]⟩) := (hc3 _ _ (by omega)).trans (by go_simp)
  have r1 : w3.cell? ⟨w.heap.size + 1, 1, none⟩ = some (.int .i64 0) := (hc3 _ _ (by omega)).trans (by go_simp)
  have r2 : w3.cell? ⟨w.heap.size + 1, 2, none⟩ = some (.int .i64 0) := (hc3 _ _ (by omega)).trans (by go_simp)
  have r3 : w3.cell? ⟨w.heap.size + 1, 3, none⟩ = some (.slice none 0 0) := (hc3 _ _ (by omega)).trans (by go_simp)
  have r4 : w3.cell? ⟨w.heap.size + 1, 4, none⟩ = some (.string ⟨#[]⟩) := (hc3 _ _ (by omega)).trans (by go_simp)
  have r5 : w3.cell? ⟨w.heap.size + 1, 5, none⟩ = some (.string ⟨#[]⟩) := (hc3 _ _ (by omega)).trans (by go_simp)
  clear hb3 hc3' hf3' hr2 hcell
  cases b
  all_goals cases one
  · go_wp2
    rw [HO.out]
    refine ret_l3 (w.heap.size + 1) rfl rfl rfl (c0 := .string N) (c1 := .int .i64 T) (c2 := .int .i64 1) (c3 := .slice A3 ns.length q3) (c4 := .string ⟨#[]⟩) (c5 := .string ⟨#[]⟩) (by go_simp) (by go_simp) (by go_simp) (by go_simp) (by go_simp) (by go_simp) ⟨A3, ns.length, q3, ⟨#[]⟩, ⟨#[]⟩, ns, rfl, ?_, (fun p hp => by cases hp), hnl, Nat.zero_le _, Nat.zero_le _, ?_⟩
    · have o1 := ownsRow_setCell_below hown (a := ⟨w.heap.size, 3, none⟩) (by first | (simp; done) | (simp; omega)) (.slice A3 ns.length q3)
      have o2 := ownsRow_setCell_below o1 (a := ⟨w.heap.size + 1, 0, none⟩) (by first | (simp; done) | (simp; omega)) (.string N)
      have o3 := ownsRow_setCell_below o2 (a := ⟨w.heap.size + 1, 1, none⟩) (by first | (simp; done) | (simp; omega)) (.int .i64 T)
      have o4 := ownsRow_setCell_below o3 (a := ⟨w.heap.size + 1, 2, none⟩) (by first | (simp; done) | (simp; omega)) (.int .i64 1)
      have o5 := ownsRow_setCell_below o4 (a := ⟨w.heap.size + 1, 3, none⟩) (by first | (simp; done) | (simp; omega)) (.slice A3 ns.length q3)
      have o6 := ownsRow_setCell_below o5 (a := ⟨w.heap.size + 1, 4, none⟩) (by first | (simp; done) | (simp; omega)) (.string ⟨#[]⟩)
      have o7 := ownsRow_setCell_below o6 (a := ⟨w.heap.size + 1, 5, none⟩) (by first | (simp; done) | (simp; omega)) (.string ⟨#[]⟩)
      exact own_mono o7 (by first | omega | (simp; omega))
    · clear hc3 hf3
      go_grown
  · go_wp2
    rw [HO.out]
    refine ret_l3 (w.heap.size + 1) rfl rfl rfl (c0 := .string N) (c1 := .int .i64 T) (c2 := .int .i64 1) (c3 := .slice A3 ns.length q3) (c4 := .string ⟨#[]⟩) (c5 := .string ⟨#[]⟩) (by go_simp) (by go_simp) (by go_simp) (by go_simp) (by go_simp) (by go_simp) ⟨A3, ns.length, q3, ⟨#[]⟩, ⟨#[]⟩, ns, rfl, ?_, (fun p hp => by cases hp), hnl, Nat.zero_le _, Nat.zero_le _, ?_⟩
    · have o1 := ownsRow_setCell_below hown (a := ⟨w.heap.size, 3, none⟩) (by first | (simp; done) | (simp; omega)) (.slice A3 ns.length q3)
      have o2 := ownsRow_setCell_below o1 (a := ⟨w.heap.size + 1, 0, none⟩) (by first | (simp; done) | (simp; omega)) (.string N)
      have o3 := ownsRow_setCell_below o2 (a := ⟨w.heap.size + 1, 1, none⟩) (by first | (simp; done) | (simp; omega)) (.int .i64 T)
      have o4 := ownsRow_setCell_below o3 (a := ⟨w.heap.size + 1, 2, none⟩) (by first | (simp; done) | (simp; omega)) (.int .i64 1)
      have o5 := ownsRow_setCell_below o4 (a := ⟨w.heap.size + 1, 3, none⟩) (by first | (simp; done) | (simp; omega)) (.slice A3 ns.length q3)
      have o6 := ownsRow_setCell_below o5 (a := ⟨w.heap.size + 1, 4, none⟩) (by first | (simp; done) | (simp; omega)) (.string ⟨#[]⟩)
      have o7 := ownsRow_setCell_below o6 (a := ⟨w.heap.size + 1, 5, none⟩) (by first | (simp; done) | (simp; omega)) (.string ⟨#[]⟩)
      exact own_mono o7 (by first | omega | (simp; omega))
    · clear hc3 hf3
      go_grown
  · go_wp2
    rw [HO.out]
    refine ret_l3 (w.heap.size + 1) rfl rfl rfl (c0 := .string N) (c1 := .int .i64 T) (c2 := .int .i64 1) (c3 := .slice A3 ns.length q3) (c4 := .string ⟨#[]⟩) (c5 := .string ⟨#[]⟩) (by go_simp) (by go_simp) (by go_simp) (by go_simp) (by go_simp) (by go_simp) ⟨A3, ns.length, q3, ⟨#[]⟩, ⟨#[]⟩, ns, rfl, ?_, (fun p hp => by cases hp), hnl, Nat.zero_le _, Nat.zero_le _, ?_⟩
    · have o1 := ownsRow_setCell_below hown (a := ⟨w.heap.size, 3, none⟩) (by first | (simp; done) | (simp; omega)) (.slice A3 ns.length q3)
      have o2 := ownsRow_setCell_below o1 (a := ⟨w.heap.size + 1, 0, none⟩) (by first | (simp; done) | (simp; omega)) (.string N)
      have o3 := ownsRow_setCell_below o2 (a := ⟨w.heap.size + 1, 1, none⟩) (by first | (simp; done) | (simp; omega)) (.int .i64 T)
      have o4 := ownsRow_setCell_below o3 (a := ⟨w.heap.size + 1, 2, none⟩) (by first | (simp; done) | (simp; omega)) (.int .i64 1)
      have o5 := ownsRow_setCell_below o4 (a := ⟨w.heap.size + 1, 3, none⟩) (by first | (simp; done) | (simp; omega)) (.slice A3 ns.length q3)
      have o6 := ownsRow_setCell_below o5 (a := ⟨w.heap.size + 1, 4, none⟩) (by first | (simp; done) | (simp; omega)) (.string ⟨#[]⟩)
      have o7 := ownsRow_setCell_below o6 (a := ⟨w.heap.size + 1, 5, none⟩) (by first | (simp; done) | (simp; omega)) (.string ⟨#[]⟩)
      exact own_mono o7 (by first | omega | (simp; omega))
    · clear hc3 hf3
      go_grown
  · go_wp2
    rw [HO.out]
    refine ret_l3 (w.heap.size + 1) rfl rfl rfl (c0 := .string N) (c1 := .int .i64 T) (c2 := .int .i64 1) (c3 := .slice A3 ns.length q3) (c4 := .string ⟨#[]⟩) (c5 := .string ⟨#[]⟩) (by go_simp) (by go_simp) (by go_simp) (by go_simp) (by go_simp) (by go_simp) ⟨A3, ns.length, q3, ⟨#[]⟩, ⟨#[]⟩, ns, rfl, ?_, (fun p hp => (Option.some.inj hp).symm), hnl, Nat.zero_le _, Nat.zero_le _, ?_⟩
    · have o1 := ownsRow_setCell_below hown (a := ⟨w.heap.size, 3, none⟩) (by first | (simp; done) | (simp; omega)) (.slice A3 ns.length q3)
      have o2 := ownsRow_setCell_below o1 (a := ⟨w.heap.size + 1, 0, none⟩) (by first | (simp; done) | (simp; omega)) (.string N)
      have o3 := ownsRow_setCell_below o2 (a := ⟨w.heap.size + 1, 1, none⟩) (by first | (simp; done) | (simp; omega)) (.int .i64 T)
      have o4 := ownsRow_setCell_below o3 (a := ⟨w.heap.size + 1, 2, none⟩) (by first | (simp; done) | (simp; omega)) (.int .i64 1)
      have o5 := ownsRow_setCell_below o4 (a := ⟨w.heap.size + 1, 3, none⟩) (by first | (simp; done) | (simp; omega)) (.slice A3 ns.length q3)
      have o6 := ownsRow_setCell_below o5 (a := ⟨w.heap.size + 1, 4, none⟩) (by first | (simp; done) | (simp; omega)) (.string ⟨#[]⟩)
      have o7 := ownsRow_setCell_below o6 (a := ⟨w.heap.size + 1, 5, none⟩) (by first | (simp; done) | (simp; omega)) (.string ⟨#[]⟩)
      exact own_mono o7 (by first | omega | (simp; omega))
    · clear hc3 hf3
      go_grown

theorem data_16 {fs : List Z.Str} {o : Z.Str} {x : ByteArray} (hne : fs ≠ []) (hx : lst x = fs.getD 0 []) : Z.dataOf 16 fs o = if fs.length = 1 then (Z.unq (lst x)).map (fun y => ([], [], y)) else none := by
  unfold Z.dataOf
  rw [if_neg (by decide), if_pos rfl]
  have e : fs.headD [] = lst x := by rw [head_eq hne hx]; rfl
  rw [e, Z.unquote_unq]
theorem first_same {x y : ByteArray} {s : Z.Str} (h : lst x = s) (h2 : lst y = s) : x = y := lst_inj (h.trans h2.symm)

set_option maxHeartbeats 4000000 in
theorem l3_16_short (N : ByteArray) (T : Int) (fs : List Z.Str) (B : Nat) (A : Option Addr) (c : Nat) (or : ByteArray) (w : World) (hr : Reads w B A fs.length (fs.map sv)) (hB : B ≤ w.heap.size) (hne : fs ≠ []) (hcap : fs.length ≤ c) (hlen : fs.length ≤ 67108864) (hor : or.size ≤ 67108864) (hsz : Hid (∀ l ∈ fs, l.length ≤ 67108864)) (ex : ByteArray) (hex : lst ex = fs.getD 0 []) (hx2 : ex.size < 2) :
    Calls Tryz.prog 51 #[.agg #[.string N, .int .i64 T, .int .i64 16, .slice none 0 0, .string ⟨#[]⟩, .string ⟨#[]⟩], .slice A fs.length c, .string or] w (DataOut N T 16 (Z.dataOf 16 fs (lst or)) w) := by
  have hlt : 0 < fs.length := List.length_pos_iff.2 hne
  have hr2 := (hr.alloc hB (.cells #[.string N, .int .i64 T, .int .i64 16, .slice none 0 0, .string ⟨#[]⟩, .string ⟨#[]⟩] 25)).alloc (by simp; omega) (.cells #[.string ⟨#[]⟩, .int .i64 0, .int .i64 0, .slice none 0 0, .string ⟨#[]⟩, .string ⟨#[]⟩] 25)
  obtain ⟨ad, x, rfl, hab, hx, hcell⟩ := reads_str hr2 hlt
  rw [show ad.add 0 = ad from rfl] at hcell
  have hxs : x.size ≤ 67108864 := by
    have h1 : fs.getD 0 [] ∈ fs := by simp [hlt]
    have h2 := hsz.out _ h1
    rw [← hx, lst_length] at h2
    exact h2
  obtain rfl := first_same hx hex
  have HO : Hid (Z.dataOf 16 fs (lst or) = none) := hid (by rw [data_16 hne hx, unq_short hx2]; simp)
  clear hx
  go_enter Tryz.func51, Tryz.ntmps51
  go_wp2
  all_goals first | (rw [HO.out]; refine ret_l3 _ rfl rfl rfl (by go_simp) (by go_simp) (by go_simp) (by go_simp) (by go_simp) (by go_simp) ⟨none, 0, 0, ⟨#[]⟩, ⟨#[]⟩, [], rfl, World.ownsRow_nil _ _ _ _, (fun p hp => by cases hp), Nat.zero_le _, Nat.zero_le _, Nat.zero_le _, ?_⟩; go_grown) | (exfalso; simp_all; done)

set_option maxHeartbeats 4000000 in
theorem l3_16_head (N : ByteArray) (T : Int) (fs : List Z.Str) (B : Nat) (A : Option Addr) (c : Nat) (or : ByteArray) (w : World) (hr : Reads w B A fs.length (fs.map sv)) (hB : B ≤ w.heap.size) (hne : fs ≠ []) (hcap : fs.length ≤ c) (hlen : fs.length ≤ 67108864) (hor : or.size ≤ 67108864) (hsz : Hid (∀ l ∈ fs, l.length ≤ 67108864)) (ex : ByteArray) (hex : lst ex = fs.getD 0 []) (hx2 : 2 ≤ ex.size) (h0 : ¬ (ex[0].toNat : Int) = 34) :
    Calls Tryz.prog 51 #[.agg #[.string N, .int .i64 T, .int .i64 16, .slice none 0 0, .string ⟨#[]⟩, .string ⟨#[]⟩], .slice A fs.length c, .string or] w (DataOut N T 16 (Z.dataOf 16 fs (lst or)) w) := by
  have hlt : 0 < fs.length := List.length_pos_iff.2 hne
  have hr2 := (hr.alloc hB (.cells #[.string N, .int .i64 T, .int .i64 16, .slice none 0 0, .string ⟨#[]⟩, .string ⟨#[]⟩] 25)).alloc (by simp; omega) (.cells #[.string ⟨#[]⟩, .int .i64 0, .int .i64 0, .slice none 0 0, .string ⟨#[]⟩, .string ⟨#[]⟩] 25)
  obtain ⟨ad, x, rfl, hab, hx, hcell⟩ := reads_str hr2 hlt
  rw [show ad.add 0 = ad from rfl] at hcell
  have hxs : x.size ≤ 67108864 := by
    have h1 : fs.getD 0 [] ∈ fs := by simp [hlt]
    have h2 := hsz.out _ h1
    rw [← hx, lst_length] at h2
    exact h2
  obtain rfl := first_same hx hex
  have HO : Hid (Z.dataOf 16 fs (lst or) = none) := hid (by rw [data_16 hne hx, unq_head hx2 h0]; simp)
  clear hx
  go_enter Tryz.func51, Tryz.ntmps51
  go_wp2
  all_goals first | (rw [HO.out]; refine ret_l3 _ rfl rfl rfl (by go_simp) (by go_simp) (by go_simp) (by go_simp) (by go_simp) (by go_simp) ⟨none, 0, 0, ⟨#[]⟩, ⟨#[]⟩, [], rfl, World.ownsRow_nil _ _ _ _, (fun p hp => by cases hp), Nat.zero_le _, Nat.zero_le _, Nat.zero_le _, ?_⟩; go_grown) | (exfalso; simp_all; done)

set_option maxHeartbeats 4000000 in
theorem l3_16_last (N : ByteArray) (T : Int) (fs : List Z.Str) (B : Nat) (A : Option Addr) (c : Nat) (or : ByteArray) (w : World) (hr : Reads w B A fs.length (fs.map sv)) (hB : B ≤ w.heap.size) (hne : fs ≠ []) (hcap : fs.length ≤ c) (hlen : fs.length ≤ 67108864) (hor : or.size ≤ 67108864) (hsz : Hid (∀ l ∈ fs, l.length ≤ 67108864)) (ex : ByteArray) (hex : lst ex = fs.getD 0 []) (m : Nat) (hm : ex.size = m + 2) (h0 : (ex[0].toNat : Int) = 34) (h1 : ¬ (ex[m + 1].toNat : Int) = 34) :
    Calls Tryz.prog 51 #[.agg #[.string N, .int .i64 T, .int .i64 16, .slice none 0 0, .string ⟨#[]⟩, .string ⟨#[]⟩], .slice A fs.length c, .string or] w (DataOut N T 16 (Z.dataOf 16 fs (lst or)) w) := by
  have hlt : 0 < fs.length := List.length_pos_iff.2 hne
  have hr2 := (hr.alloc hB (.cells #[.string N, .int .i64 T, .int .i64 16, .slice none 0 0, .string ⟨#[]⟩, .string ⟨#[]⟩] 25)).alloc (by simp; omega) (.cells #[.string ⟨#[]⟩, .int .i64 0, .int .i64 0, .slice none 0 0, .string ⟨#[]⟩, .string ⟨#[]⟩] 25)
  obtain ⟨ad, x, rfl, hab, hx, hcell⟩ := reads_str hr2 hlt
  rw [show ad.add 0 = ad from rfl] at hcell
  have hxs : x.size ≤ 67108864 := by
    have h1 : fs.getD 0 [] ∈ fs := by simp [hlt]
    have h2 := hsz.out _ h1
    rw [← hx, lst_length] at h2
    exact h2
  obtain rfl := first_same hx hex
  have HO : Hid (Z.dataOf 16 fs (lst or) = none) := hid (by rw [data_16 hne hx, unq_last hm h1]; simp)
  have q1 : ((x[m + 1].toNat : Int) == 34) = false := by simpa using h1
  have q2 : ((x[m + 1].toNat : Int) != 34) = true := by simpa using h1
  clear hx
  go_enter Tryz.func51, Tryz.ntmps51
  go_wp2
  all_goals first | (rw [HO.out]; refine ret_l3 _ rfl rfl rfl (by go_simp) (by go_simp) (by go_simp) (by go_simp) (by go_simp) (by go_simp) ⟨none, 0, 0, ⟨#[]⟩, ⟨#[]⟩, [], rfl, World.ownsRow_nil _ _ _ _, (fun p hp => by cases hp), Nat.zero_le _, Nat.zero_le _, Nat.zero_le _, ?_⟩; go_grown) | (exfalso; simp_all; done)

set_option maxHeartbeats 4000000 in
theorem l3_16_many (N : ByteArray) (T : Int) (fs : List Z.Str) (B : Nat) (A : Option Addr) (c : Nat) (or : ByteArray) (w : World) (hr : Reads w B A fs.length (fs.map sv)) (hB : B ≤ w.heap.size) (hne : fs ≠ []) (hcap : fs.length ≤ c) (hlen : fs.length ≤ 67108864) (hor : or.size ≤ 67108864) (hsz : Hid (∀ l ∈ fs, l.length ≤ 67108864)) (ex : ByteArray) (hex : lst ex = fs.getD 0 []) (m : Nat) (hm : ex.size = m + 2) (h0 : (ex[0].toNat : Int) = 34) (h1 : (ex[m + 1].toNat : Int) = 34) (hone : fs.length ≠ 1) :
    Calls Tryz.prog 51 #[.agg #[.string N, .int .i64 T, .int .i64 16, .slice none 0 0, .string ⟨#[]⟩, .string ⟨#[]⟩], .slice A fs.length c, .string or] w (DataOut N T 16 (Z.dataOf 16 fs (lst or)) w) := by
  have hlt : 0 < fs.length := List.length_pos_iff.2 hne
  have hr2 := (hr.alloc hB (.cells #[.string N, .int .i64 T, .int .i64 16, .slice none 0 0, .string ⟨#[]⟩, .string ⟨#[]⟩] 25)).alloc (by simp; omega) (.cells #[.string ⟨#[]⟩, .int .i64 0, .int .i64 0, .slice none 0 0, .string ⟨#[]⟩, .string ⟨#[]⟩] 25)
  obtain ⟨ad, x, rfl, hab, hx, hcell⟩ := reads_str hr2 hlt
  rw [show ad.add 0 = ad from rfl] at hcell
  have hxs : x.size ≤ 67108864 := by
    have h1 : fs.getD 0 [] ∈ fs := by simp [hlt]
    have h2 := hsz.out _ h1
    rw [← hx, lst_length] at h2
    exact h2
  obtain rfl := first_same hx hex
  have HO : Hid (Z.dataOf 16 fs (lst or) = none) := hid (by rw [data_16 hne hx, if_neg hone])
  have q3 : ((fs.length : Int) == 1) = false := by simp; omega
  have q4 : ((fs.length : Int) != 1) = true := by simp; omega
  clear hx
  go_enter Tryz.func51, Tryz.ntmps51
  go_wp2
  all_goals first | (rw [HO.out]; refine ret_l3 _ rfl rfl rfl (by go_simp) (by go_simp) (by go_simp) (by go_simp) (by go_simp) (by go_simp) ⟨none, 0, 0, ⟨#[]⟩, ⟨#[]⟩, [], rfl, World.ownsRow_nil _ _ _ _, (fun p hp => by cases hp), Nat.zero_le _, Nat.zero_le _, Nat.zero_le _, ?_⟩; go_grown) | (exfalso; simp_all; done)

set_option maxHeartbeats 4000000 in
theorem l3_16_good (N : ByteArray) (T : Int) (fs : List Z.Str) (B : Nat) (A : Option Addr) (c : Nat) (or : ByteArray) (w : World) (hr : Reads w B A fs.length (fs.map sv)) (hB : B ≤ w.heap.size) (hne : fs ≠ []) (hcap : fs.length ≤ c) (hlen : fs.length ≤ 67108864) (hor : or.size ≤ 67108864) (hsz : Hid (∀ l ∈ fs, l.length ≤ 67108864)) (ex : ByteArray) (hex : lst ex = fs.getD 0 []) (m : Nat) (hm : ex.size = m + 2) (h0 : (ex[0].toNat : Int) = 34) (h1 : (ex[m + 1].toNat : Int) = 34) (hone : fs.length = 1) :
    Calls Tryz.prog 51 #[.agg #[.string N, .int .i64 T, .int .i64 16, .slice none 0 0, .string ⟨#[]⟩, .string ⟨#[]⟩], .slice A fs.length c, .string or] w (DataOut N T 16 (Z.dataOf 16 fs (lst or)) w) := by
  have hlt : 0 < fs.length := List.length_pos_iff.2 hne
  have hr2 := (hr.alloc hB (.cells #[.string N, .int .i64 T, .int .i64 16, .slice none 0 0, .string ⟨#[]⟩, .string ⟨#[]⟩] 25)).alloc (by simp; omega) (.cells #[.string ⟨#[]⟩, .int .i64 0, .int .i64 0, .slice none 0 0, .string ⟨#[]⟩, .string ⟨#[]⟩] 25)
  obtain ⟨ad, x, rfl, hab, hx, hcell⟩ := reads_str hr2 hlt
  rw [show ad.add 0 = ad from rfl] at hcell
  have hxs : x.size ≤ 67108864 := by
    have h1 : fs.getD 0 [] ∈ fs := by simp [hlt]
    have h2 := hsz.out _ h1
    rw [← hx, lst_length] at h2
    exact h2
  obtain rfl := first_same hx hex
  have HO : Hid (Z.dataOf 16 fs (lst or) = some ([], [], lst (x.extract 1 (m + 1)))) := hid (by rw [data_16 hne hx, if_pos hone, unq_good hm h0 h1]; rfl)
  have q3 : ((fs.length : Int) == 1) = true := by simp; omega
  have q4 : ((fs.length : Int) != 1) = false := by simp; omega
  clear hx
  go_enter Tryz.func51, Tryz.ntmps51
  go_wp2
  all_goals first | (rw [HO.out]; refine ret_l3 _ rfl rfl rfl (by go_simp) (by go_simp) (by go_simp) (by go_simp) (by go_simp) (by go_simp) ⟨none, 0, 0, ⟨#[]⟩, x.extract 1 (m + 1), [], rfl, World.ownsRow_nil _ _ _ _, (fun p hp => (Option.some.inj hp).symm), Nat.zero_le _, Nat.zero_le _, by rw [ByteArray.size_extract]; omega, ?_⟩; go_grown) | (exfalso; simp_all; done)

theorem l3_16 (N : ByteArray) (T : Int) (fs : List Z.Str) (B : Nat) (A : Option Addr) (c : Nat) (or : ByteArray) (w : World) (hr : Reads w B A fs.length (fs.map sv)) (hB : B ≤ w.heap.size) (hne : fs ≠ []) (hcap : fs.length ≤ c) (hlen : fs.length ≤ 67108864) (hor : or.size ≤ 67108864) (hsz : Hid (∀ l ∈ fs, l.length ≤ 67108864)) :
    Calls Tryz.prog 51 #[.agg #[.string N, .int .i64 T, .int .i64 16, .slice none 0 0, .string ⟨#[]⟩, .string ⟨#[]⟩], .slice A fs.length c, .string or] w (DataOut N T 16 (Z.dataOf 16 fs (lst or)) w) := by
  have hlt : 0 < fs.length := List.length_pos_iff.2 hne
  obtain ⟨ad, x, rfl, hab, hx, hcell⟩ := reads_str hr hlt
  by_cases h2 : 2 ≤ x.size
  · obtain ⟨m, hm⟩ : ∃ m, x.size = m + 2 := ⟨x.size - 2, by omega⟩
    by_cases h0 : (x[0].toNat : Int) = 34
    · by_cases h1 : (x[m + 1].toNat : Int) = 34
      · by_cases hone : fs.length = 1
        · exact l3_16_good N T fs B _ c or w hr hB hne hcap hlen hor hsz x hx m hm h0 h1 hone
        · exact l3_16_many N T fs B _ c or w hr hB hne hcap hlen hor hsz x hx m hm h0 h1 hone
      · exact l3_16_last N T fs B _ c or w hr hB hne hcap hlen hor hsz x hx m hm h0 h1
    · exact l3_16_head N T fs B _ c or w hr hB hne hcap hlen hor hsz x hx h2 h0
  · exact l3_16_short N T fs B _ c or w hr hB hne hcap hlen hor hsz x hx (by omega)

set_option maxHeartbeats 4000000 in
theorem l3_15_not (N : ByteArray) (T : Int) (fs : List Z.Str) (B : Nat) (A : Option Addr) (c : Nat) (or : ByteArray) (w : World) (hr : Reads w B A fs.length (fs.map sv)) (hB : B ≤ w.heap.size) (hne : fs ≠ []) (hcap : fs.length ≤ c) (hlen : fs.length ≤ 67108864) (hor : or.size ≤ 67108864) (hsz : Hid (∀ l ∈ fs, l.length ≤ 67108864)) (h2 : fs.length ≠ 2) :
    Calls Tryz.prog 51 #[.agg #[.string N, .int .i64 T, .int .i64 15, .slice none 0 0, .string ⟨#[]⟩, .string ⟨#[]⟩], .slice A fs.length c, .string or] w (DataOut N T 15 (Z.dataOf 15 fs (lst or)) w) := by
  have hlt : 0 < fs.length := List.length_pos_iff.2 hne
  have q1 : ((fs.length : Int) == 2) = false := by simp; omega
  have q2 : ((fs.length : Int) != 2) = true := by simp; omega
  have HO : Hid (Z.dataOf 15 fs (lst or) = none) := hid (by
    match fs, h2 with
    | [], _ => simp [Z.dataOf]
    | [a], _ => simp [Z.dataOf]
    | a :: b :: c :: r, _ => simp [Z.dataOf])
  go_enter Tryz.func51, Tryz.ntmps51
  go_wp2
  rw [HO.out]
  refine ret_l3 _ rfl rfl rfl (by go_simp) (by go_simp) (by go_simp) (by go_simp) (by go_simp) (by go_simp) ⟨none, 0, 0, ⟨#[]⟩, ⟨#[]⟩, [], rfl, World.ownsRow_nil _ _ _ _, (fun p hp => by cases hp), Nat.zero_le _, Nat.zero_le _, Nat.zero_le _, ?_⟩
  go_grown

set_option maxHeartbeats 4000000 in
theorem l3_15_two (N : ByteArray) (T : Int) (fs : List Z.Str) (B : Nat) (A : Option Addr) (c : Nat) (or : ByteArray) (w : World) (hr : Reads w B A fs.length (fs.map sv)) (hB : B ≤ w.heap.size) (hne : fs ≠ []) (hcap : fs.length ≤ c) (hlen : fs.length ≤ 67108864) (hor : or.size ≤ 67108864) (hsz : Hid (∀ l ∈ fs, l.length ≤ 67108864)) (h2 : fs.length = 2) :
    Calls Tryz.prog 51 #[.agg #[.string N, .int .i64 T, .int .i64 15, .slice none 0 0, .string ⟨#[]⟩, .string ⟨#[]⟩], .slice A fs.length c, .string or] w (DataOut N T 15 (Z.dataOf 15 fs (lst or)) w) := by
  have hlt : 0 < fs.length := List.length_pos_iff.2 hne
  have hr2 := (hr.alloc hB (.cells #[.string N, .int .i64 T, .int .i64 15, .slice none 0 0, .string ⟨#[]⟩, .string ⟨#[]⟩] 25)).alloc (by simp; omega) (.cells #[.string ⟨#[]⟩, .int .i64 0, .int .i64 0, .slice none 0 0, .string ⟨#[]⟩, .string ⟨#[]⟩] 25)
  obtain ⟨ad, x, rfl, hab, hx, hcell⟩ := reads_str hr2 hlt
  rw [show ad.add 0 = ad from rfl] at hcell
  have hxs : x.size ≤ 67108864 := by
    have h1 : fs.getD 0 [] ∈ fs := by simp [hlt]
    have h2 := hsz.out _ h1
    rw [← hx, lst_length] at h2
    exact h2
  have hlast : 1 < fs.length := by omega
  obtain ⟨ad', z, hae, hab', hz, hcellz⟩ := reads_str hr hlast
  obtain rfl : ad = ad' := Option.some.inj hae
  have hzs : z.size ≤ 67108864 := by
    have h1 : fs.getD 1 [] ∈ fs := by simp [hlast]
    have h2 := hsz.out _ h1
    rw [← hz, lst_length] at h2
    exact h2
  obtain ⟨y, hy⟩ : ∃ y, bs ((Z.readName (lst z) (lst or)).getD []) = y := ⟨_, rfl⟩
  obtain ⟨bt, hbt⟩ : ∃ bt, (Z.readName (lst z) (lst or)).isSome = bt := ⟨_, rfl⟩
  have hys : y.size ≤ 67108864 := by rw [← hy]; exact Nat.le_trans (readName_size _ _) (by decide)
  obtain ⟨ns, hns⟩ : ∃ ns, (l3n [lst x]).1 = ns := ⟨_, rfl⟩
  obtain ⟨b, hb⟩ : ∃ b, (l3n [lst x]).2 = b := ⟨_, rfl⟩
  have hnl : ns.length ≤ 7 := by rw [← hns]; exact Nat.le_trans (l3n_length _) (by decide)
  have hfs : fs = [lst x, lst z] := by
    match fs, h2, hx, hz with
    | [p, q], _, hx, hz => rw [hx, hz]; rfl
  have hout : Z.dataOf 15 fs (lst or) = if b && bt then some (ns, lst y, []) else none := by
    have e1 : Z.dataOf 15 [lst x, lst z] (lst or) = (Z.nums3 [lst x]).bind fun n => (Z.readName (lst z) (lst or)).map fun t => (n, t, []) := by simp [Z.dataOf]
    rw [hfs, e1, l3n_nums3, hns, hb, ← hbt, ← hy]
    cases b
    · rfl
    · cases Z.readName (lst z) (lst or) with
      | none => rfl
      | some n => show some (ns, n, ([] : Z.Str)) = some (ns, lst (bs n), []); rw [lst_bs]
  have hr3 : ∀ W, Below w.heap.size w W → Reads W B (some ad) 1 ([lst x].map sv) := fun W h => by
    have h9 := (hr.take (k := 1) (by omega)).below h hB
    rw [← List.map_take] at h9
    have e2 : fs.take 1 = [lst x] := by rw [hfs]; rfl
    rwa [e2] at h9
  have HCZ : ∀ W, Below w.heap.size w W → W.cell? ⟨ad.block, ad.off + 1, none⟩ = some (.string z) := fun W h => (h.cell (p := ad.add 1) (by rw [block_of_add]; omega)).trans hcellz
  have q2 : ((fs.length : Int) == 2) = true := by simp; omega
  have q3 : ((fs.length : Int) != 2) = false := by simp; omega
  have HSZ : Hid (∀ l ∈ [lst x], l.length ≤ 67108864) := hid (fun l hl => by
    simp only [List.mem_singleton] at hl
    rw [hl, lst_length]
    omega)
  have HO := hid hout
  have HNB : Hid (l3n [lst x] = (ns, b)) := hid (by rw [← hns, ← hb])
  have HY := hid hy
  have HBT := hid hbt
  have HFS := hid hfs
  clear hout hns hb hy hbt hx hz hae hcellz hfs h2
  go_enter Tryz.func51, Tryz.ntmps51
  go_wp2_with fail
  refine (l3Nums_eq [lst x] B _ _ _ _ (hr3 _ (by go_grown)) (by simp; omega) (by omega) HSZ ns b HNB).mono ?_
  rintro e w3 ⟨A3, q3, rfl, hown, hb3⟩
  obtain ⟨hc3', hf3'⟩ := bcell hb3
  have hc3 : ∀ b o, b < w.heap.size + 1 + 1 → w3.cell? ⟨b, o, none⟩ = _ := fun b o h => hc3' b o (by simpa using h)
  have hf3 : ∀ b o, b < w.heap.size + 1 + 1 → w3.frozen? ⟨b, o, none⟩ = _ := fun b o h => hf3' b o (by simpa using h)
  have hs3 := hb3.size
  simp at hs3
  have hbw : Below w.heap.size w w3 := Below.trans (by go_grown) (hb3.mono (by simp; omega))
  have p0 : w3.cell? ⟨w.heap.size, 0, none⟩ = some (.string N) := (hc3 _ _ (by omega)).trans (by go_simp)
  have p1 : w3.cell? ⟨w.heap.size, 1, none⟩ = some (.int .i64 T) := (hc3 _ _ (by omega)).trans (by go_simp)
  have p2 : w3.cell? ⟨w.heap.size, 2, none⟩ = some (.int .i64 15) := (hc3 _ _ (by omega)).trans (by go_simp)
  have p3 : w3.cell? ⟨w.heap.size, 3, none⟩ = some (.slice none 0 0) := (hc3 _ _ (by omega)).trans (by go_simp)
  have p4 : w3.cell? ⟨w.heap.size, 4, none⟩ = some (.string ⟨#[]⟩) := (hc3 _ _ (by omega)).trans (by go_simp)
  have p5 : w3.cell? ⟨w.heap.size, 5, none⟩ = some (.string ⟨#[]⟩) := (hc3 _ _ (by omega)).trans (by go_simp)
  have r0 : w3.cell? ⟨w.heap.size + 1, 0, none⟩ = some (.string ⟨#[]⟩) := (hc3 _ _ (by omega)).trans (by go_simp)
  have r1 : w3.cell? ⟨w.heap.size + 1, 1, none⟩ = some (.int .i64 0) := (hc3 _ _ (by omega)).trans (by go_simp)
  have r2 : w3.cell? ⟨w.heap.size + 1, 2, none⟩ = some (.int .i64 0) := (hc3 _ _ (by omega)).trans (by go_simp)
  have r3 : w3.cell? ⟨w.heap.size + 1, 3, none⟩ = some (.slice none 0 0) := (hc3 _ _ (by omega)).trans (by go_simp)
  have r4 : w3.cell? ⟨w.heap.size + 1, 4, none⟩ = some (.string ⟨#[]⟩) := (hc3 _ _ (by omega)).trans (by go_simp)
  have r5 : w3.cell? ⟨w.heap.size + 1, 5, none⟩ = some (.string ⟨#[]⟩) := (hc3 _ _ (by omega)).trans (by go_simp)
  have hcz := HCZ w3 hbw
  clear hb3 hc3' hr3 hr2 hcell HCZ
  go_wp2_with fail
  refine (ReadName_eq z or hzs hor y bt HY HBT _).mono ?_
  rintro e w4 ⟨rfl, hb4⟩
  obtain ⟨hcx, hfx⟩ := bcell hb4
  replace p0 : w4.cell? ⟨w.heap.size, 0, none⟩ = some (.string N) := (hcx _ _ (by omega)).trans p0
  replace p1 : w4.cell? ⟨w.heap.size, 1, none⟩ = some (.int .i64 T) := (hcx _ _ (by omega)).trans p1
  replace p2 : w4.cell? ⟨w.heap.size, 2, none⟩ = some (.int .i64 15) := (hcx _ _ (by omega)).trans p2
  replace p3 : w4.cell? ⟨w.heap.size, 3, none⟩ = some (.slice none 0 0) := (hcx _ _ (by omega)).trans p3
  replace p4 : w4.cell? ⟨w.heap.size, 4, none⟩ = some (.string ⟨#[]⟩) := (hcx _ _ (by omega)).trans p4
  replace p5 : w4.cell? ⟨w.heap.size, 5, none⟩ = some (.string ⟨#[]⟩) := (hcx _ _ (by omega)).trans p5
  replace r0 : w4.cell? ⟨w.heap.size + 1, 0, none⟩ = some (.string ⟨#[]⟩) := (hcx _ _ (by omega)).trans r0
  replace r1 : w4.cell? ⟨w.heap.size + 1, 1, none⟩ = some (.int .i64 0) := (hcx _ _ (by omega)).trans r1
  replace r2 : w4.cell? ⟨w.heap.size + 1, 2, none⟩ = some (.int .i64 0) := (hcx _ _ (by omega)).trans r2
  replace r3 : w4.cell? ⟨w.heap.size + 1, 3, none⟩ = some (.slice none 0 0) := (hcx _ _ (by omega)).trans r3
  replace r4 : w4.cell? ⟨w.heap.size + 1, 4, none⟩ = some (.string ⟨#[]⟩) := (hcx _ _ (by omega)).trans r4
  replace r5 : w4.cell? ⟨w.heap.size + 1, 5, none⟩ = some (.string ⟨#[]⟩) := (hcx _ _ (by omega)).trans r5
  have f0 : w4.frozen? ⟨w.heap.size, 0, none⟩ = _ := (hfx _ _ (by omega)).trans (hf3 _ _ (by omega))
  have f1 : w4.frozen? ⟨w.heap.size, 1, none⟩ = _ := (hfx _ _ (by omega)).trans (hf3 _ _ (by omega))
  have f2 : w4.frozen? ⟨w.heap.size, 2, none⟩ = _ := (hfx _ _ (by omega)).trans (hf3 _ _ (by omega))
  have f3 : w4.frozen? ⟨w.heap.size, 3, none⟩ = _ := (hfx _ _ (by omega)).trans (hf3 _ _ (by omega))
  have f4 : w4.frozen? ⟨w.heap.size, 4, none⟩ = _ := (hfx _ _ (by omega)).trans (hf3 _ _ (by omega))
  have f5 : w4.frozen? ⟨w.heap.size, 5, none⟩ = _ := (hfx _ _ (by omega)).trans (hf3 _ _ (by omega))
  have g0 : w4.frozen? ⟨w.heap.size + 1, 0, none⟩ = _ := (hfx _ _ (by omega)).trans (hf3 _ _ (by omega))
  have g1 : w4.frozen? ⟨w.heap.size + 1, 1, none⟩ = _ := (hfx _ _ (by omega)).trans (hf3 _ _ (by omega))
  have g2 : w4.frozen? ⟨w.heap.size + 1, 2, none⟩ = _ := (hfx _ _ (by omega)).trans (hf3 _ _ (by omega))
  have g3 : w4.frozen? ⟨w.heap.size + 1, 3, none⟩ = _ := (hfx _ _ (by omega)).trans (hf3 _ _ (by omega))
  have g4 : w4.frozen? ⟨w.heap.size + 1, 4, none⟩ = _ := (hfx _ _ (by omega)).trans (hf3 _ _ (by omega))
  have g5 : w4.frozen? ⟨w.heap.size + 1, 5, none⟩ = _ := (hfx _ _ (by omega)).trans (hf3 _ _ (by omega))
  have hown4 := own_next hown hb4
  have hs4 := hb4.size
  have hbw4 : Below w.heap.size w w4 := hbw.trans (hb4.mono (by omega))
  clear hb4 hbw hown hc3 hf3 hf3' hcx hfx hcz
  cases b
  all_goals cases bt
  · go_wp2
    rw [HO.out]
    refine ret_l3 (w.heap.size + 1) rfl rfl rfl (c0 := .string N) (c1 := .int .i64 T) (c2 := .int .i64 15) (c3 := .slice A3 ns.length q3) (c4 := .string y) (c5 := .string ⟨#[]⟩) (by go_simp) (by go_simp) (by go_simp) (by go_simp) (by go_simp) (by go_simp) ⟨A3, ns.length, q3, y, ⟨#[]⟩, ns, rfl, ?_, (fun p hp => by cases hp), hnl, hys, Nat.zero_le _, ?_⟩
    · have o1 := ownsRow_setCell_below hown4 (a := ⟨w.heap.size, 3, none⟩) (by first | (simp; done) | (simp; omega)) (.slice A3 ns.length q3)
      have o2 := ownsRow_setCell_below o1 (a := ⟨w.heap.size, 4, none⟩) (by first | (simp; done) | (simp; omega)) (.string y)
      have o3 := ownsRow_setCell_below o2 (a := ⟨w.heap.size + 1, 0, none⟩) (by first | (simp; done) | (simp; omega)) (.string N)
      have o4 := ownsRow_setCell_below o3 (a := ⟨w.heap.size + 1, 1, none⟩) (by first | (simp; done) | (simp; omega)) (.int .i64 T)
      have o5 := ownsRow_setCell_below o4 (a := ⟨w.heap.size + 1, 2, none⟩) (by first | (simp; done) | (simp; omega)) (.int .i64 15)
      have o6 := ownsRow_setCell_below o5 (a := ⟨w.heap.size + 1, 3, none⟩) (by first | (simp; done) | (simp; omega)) (.slice A3 ns.length q3)
      have o7 := ownsRow_setCell_below o6 (a := ⟨w.heap.size + 1, 4, none⟩) (by first | (simp; done) | (simp; omega)) (.string y)
      have o8 := ownsRow_setCell_below o7 (a := ⟨w.heap.size + 1, 5, none⟩) (by first | (simp; done) | (simp; omega)) (.string ⟨#[]⟩)
      exact own_mono o8 (by first | omega | (simp; omega))
    · go_grown
  · go_wp2
    rw [HO.out]
    refine ret_l3 (w.heap.size + 1) rfl rfl rfl (c0 := .string N) (c1 := .int .i64 T) (c2 := .int .i64 15) (c3 := .slice A3 ns.length q3) (c4 := .string y) (c5 := .string ⟨#[]⟩) (by go_simp) (by go_simp) (by go_simp) (by go_simp) (by go_simp) (by go_simp) ⟨A3, ns.length, q3, y, ⟨#[]⟩, ns, rfl, ?_, (fun p hp => by cases hp), hnl, hys, Nat.zero_le _, ?_⟩
    · have o1 := ownsRow_setCell_below hown4 (a := ⟨w.heap.size, 3, none⟩) (by first | (simp; done) | (simp; omega)) (.slice A3 ns.length q3)
      have o2 := ownsRow_setCell_below o1 (a := ⟨w.heap.size, 4, none⟩) (by first | (simp; done) | (simp; omega)) (.string y)
      have o3 := ownsRow_setCell_below o2 (a := ⟨w.heap.size + 1, 0, none⟩) (by first | (simp; done) | (simp; omega)) (.string N)
      have o4 := ownsRow_setCell_below o3 (a := ⟨w.heap.size + 1, 1, none⟩) (by first | (simp; done) | (simp; omega)) (.int .i64 T)
      have o5 := ownsRow_setCell_below o4 (a := ⟨w.heap.size + 1, 2, none⟩) (by first | (simp; done) | (simp; omega)) (.int .i64 15)
      have o6 := ownsRow_setCell_below o5 (a := ⟨w.heap.size + 1, 3, none⟩) (by first | (simp; done) | (simp; omega)) (.slice A3 ns.length q3)
      have o7 := ownsRow_setCell_below o6 (a := ⟨w.heap.size + 1, 4, none⟩) (by first | (simp; done) | (simp; omega)) (.string y)
      have o8 := ownsRow_setCell_below o7 (a := ⟨w.heap.size + 1, 5, none⟩) (by first | (simp; done) | (simp; omega)) (.string ⟨#[]⟩)
      exact own_mono o8 (by first | omega | (simp; omega))
    · go_grown
  · go_wp2
    rw [HO.out]
    refine ret_l3 (w.heap.size + 1) rfl rfl rfl (c0 := .string N) (c1 := .int .i64 T) (c2 := .int .i64 15) (c3 := .slice A3 ns.length q3) (c4 := .string y) (c5 := .string ⟨#[]⟩) (by go_simp) (by go_simp) (by go_simp) (by go_simp) (by go_simp) (by go_simp) ⟨A3, ns.length, q3, y, ⟨#[]⟩, ns, rfl, ?_, (fun p hp => by cases hp), hnl, hys, Nat.zero_le _, ?_⟩
    · have o1 := ownsRow_setCell_below hown4 (a := ⟨w.heap.size, 3, none⟩) (by first | (simp; done) | (simp; omega)) (.slice A3 ns.length q3)
      have o2 := ownsRow_setCell_below o1 (a := ⟨w.heap.size, 4, none⟩) (by first | (simp; done) | (simp; omega)) (.string y)
      have o3 := ownsRow_setCell_below o2 (a := ⟨w.heap.size + 1, 0, none⟩) (by first | (simp; done) | (simp; omega)) (.string N)
      have o4 := ownsRow_setCell_below o3 (a := ⟨w.heap.size + 1, 1, none⟩) (by first | (simp; done) | (simp; omega)) (.int .i64 T)
      have o5 := ownsRow_setCell_below o4 (a := ⟨w.heap.size + 1, 2, none⟩) (by first | (simp; done) | (simp; omega)) (.int .i64 15)
      have o6 := ownsRow_setCell_below o5 (a := ⟨w.heap.size + 1, 3, none⟩) (by first | (simp; done) | (simp; omega)) (.slice A3 ns.length q3)
      have o7 := ownsRow_setCell_below o6 (a := ⟨w.heap.size + 1, 4, none⟩) (by first | (simp; done) | (simp; omega)) (.string y)
      have o8 := ownsRow_setCell_below o7 (a := ⟨w.heap.size + 1, 5, none⟩) (by first | (simp; done) | (simp; omega)) (.string ⟨#[]⟩)
      exact own_mono o8 (by first | omega | (simp; omega))
    · go_grown
  · go_wp2
    rw [HO.out]
    refine ret_l3 (w.heap.size + 1) rfl rfl rfl (c0 := .string N) (c1 := .int .i64 T) (c2 := .int .i64 15) (c3 := .slice A3 ns.length q3) (c4 := .string y) (c5 := .string ⟨#[]⟩) (by go_simp) (by go_simp) (by go_simp) (by go_simp) (by go_simp) (by go_simp) ⟨A3, ns.length, q3, y, ⟨#[]⟩, ns, rfl, ?_, (fun p hp => (Option.some.inj hp).symm), hnl, hys, Nat.zero_le _, ?_⟩
    · have o1 := ownsRow_setCell_below hown4 (a := ⟨w.heap.size, 3, none⟩) (by first | (simp; done) | (simp; omega)) (.slice A3 ns.length q3)
      have o2 := ownsRow_setCell_below o1 (a := ⟨w.heap.size, 4, none⟩) (by first | (simp; done) | (simp; omega)) (.string y)
      have o3 := ownsRow_setCell_below o2 (a := ⟨w.heap.size + 1, 0, none⟩) (by first | (simp; done) | (simp; omega)) (.string N)
      have o4 := ownsRow_setCell_below o3 (a := ⟨w.heap.size + 1, 1, none⟩) (by first | (simp; done) | (simp; omega)) (.int .i64 T)
      have o5 := ownsRow_setCell_below o4 (a := ⟨w.heap.size + 1, 2, none⟩) (by first | (simp; done) | (simp; omega)) (.int .i64 15)
      have o6 := ownsRow_setCell_below o5 (a := ⟨w.heap.size + 1, 3, none⟩) (by first | (simp; done) | (simp; omega)) (.slice A3 ns.length q3)
      have o7 := ownsRow_setCell_below o6 (a := ⟨w.heap.size + 1, 4, none⟩) (by first | (simp; done) | (simp; omega)) (.string y)
      have o8 := ownsRow_setCell_below o7 (a := ⟨w.heap.size + 1, 5, none⟩) (by first | (simp; done) | (simp; omega)) (.string ⟨#[]⟩)
      exact own_mono o8 (by first | omega | (simp; omega))
    · go_grown

set_option maxHeartbeats 4000000 in
theorem l3_else (N : ByteArray) (T K : Int) (k1 : K ≠ 1) (k15 : K ≠ 15) (k16 : K ≠ 16) (fs : List Z.Str) (B : Nat) (A : Option Addr) (c : Nat) (or : ByteArray) (w : World) (hr : Reads w B A fs.length (fs.map sv)) (hB : B ≤ w.heap.size) (hne : fs ≠ []) (hcap : fs.length ≤ c) (hlen : fs.length ≤ 67108864) (hor : or.size ≤ 67108864) (hsz : Hid (∀ l ∈ fs, l.length ≤ 67108864)) :
    Calls Tryz.prog 51 #[.agg #[.string N, .int .i64 T, .int .i64 K, .slice none 0 0, .string ⟨#[]⟩, .string ⟨#[]⟩], .slice A fs.length c, .string or] w (DataOut N T K (Z.dataOf K fs (lst or)) w) := by
  have hlt : 0 < fs.length := List.length_pos_iff.2 hne
  have hr2 := (hr.alloc hB (.cells #[.string N, .int .i64 T, .int .i64 K, .slice none 0 0, .string ⟨#[]⟩, .string ⟨#[]⟩] 25)).alloc (by simp; omega) (.cells #[.string ⟨#[]⟩, .int .i64 0, .int .i64 0, .slice none 0 0, .string ⟨#[]⟩, .string ⟨#[]⟩] 25)
  obtain ⟨ad, x, rfl, hab, hx, hcell⟩ := reads_str hr2 hlt
  rw [show ad.add 0 = ad from rfl] at hcell
  have hxs : x.size ≤ 67108864 := by
    have h1 : fs.getD 0 [] ∈ fs := by simp [hlt]
    have h2 := hsz.out _ h1
    rw [← hx, lst_length] at h2
    exact h2
  obtain ⟨y, hy⟩ : ∃ y, bs ((Z.readName (lst x) (lst or)).getD []) = y := ⟨_, rfl⟩
  obtain ⟨bt, hbt⟩ : ∃ bt, (Z.readName (lst x) (lst or)).isSome = bt := ⟨_, rfl⟩
  have hys : y.size ≤ 67108864 := by rw [← hy]; exact Nat.le_trans (readName_size _ _) (by decide)
  obtain ⟨ns, hns⟩ : ∃ ns, (l3n (fs.drop 1)).1 = ns := ⟨_, rfl⟩
  obtain ⟨b, hb⟩ : ∃ b, (l3n (fs.drop 1)).2 = b := ⟨_, rfl⟩
  have hnl : ns.length ≤ 7 := by rw [← hns]; exact Nat.le_trans (l3n_length _) (by decide)
  have hout : Z.dataOf K fs (lst or) = if b && bt then some (ns, lst y, []) else none := by
    have e1 : Z.dataOf K (lst x :: fs.drop 1) (lst or) = (Z.readName (lst x) (lst or)).bind fun t => (Z.nums3 (fs.drop 1)).map fun n => (n, t, []) := by simp [Z.dataOf, k1, k15, k16]
    rw [← head_eq hne hx] at e1
    rw [e1, l3n_nums3, hns, hb, ← hbt, ← hy]
    cases Z.readName (lst x) (lst or) with
    | none => simp
    | some n =>
      cases b
      · rfl
      · show some (ns, n, ([] : Z.Str)) = some (ns, lst (bs n), []); rw [lst_bs]
  have hr3 : ∀ W, Below w.heap.size w W → Reads W B (if c = 1 then some ad else (some ad).map (·.add 1)) (fs.length - 1) ((fs.drop 1).map sv) := fun W h => by
    have h9 := (hr.cut (k := 1) hcap).below h hB
    rwa [← List.map_drop] at h9
  have HSZ : Hid (∀ l ∈ fs.drop 1, l.length ≤ 67108864) := hid (fun l hl => hsz.out l (List.mem_of_mem_drop hl))
  have b1 : (K == 1) = false := by simpa using k1
  have b15 : (K == 15) = false := by simpa using k15
  have b16 : (K == 16) = false := by simpa using k16
  have HO := hid hout
  have HNB : Hid (l3n (fs.drop 1) = (ns, b)) := hid (by rw [← hns, ← hb])
  have HY := hid hy
  have HBT := hid hbt
  clear hout hns hb hy hbt hx k1 k15 k16
  by_cases hcap1 : c = 1
  · subst hcap1
    simp only [if_true, show fs.length - 1 = 0 by omega] at hr3
    go_enter Tryz.func51, Tryz.ntmps51
    go_wp2_with fail
    refine (ReadName_eq x or hxs hor y bt HY HBT _).mono ?_
    rintro e w3 ⟨rfl, hb3⟩
    obtain ⟨hc3', hf3'⟩ := bcell hb3
    have hc3 : ∀ b o, b < w.heap.size + 1 + 1 → w3.cell? ⟨b, o, none⟩ = _ := fun b o h => hc3' b o (by simpa using h)
    have hf3 : ∀ b o, b < w.heap.size + 1 + 1 → w3.frozen? ⟨b, o, none⟩ = _ := fun b o h => hf3' b o (by simpa using h)
    have hs3 := hb3.size
    simp at hs3
    have hbw : Below w.heap.size w w3 := Below.trans (by go_grown) (hb3.mono (by simp; omega))
    have p0 : w3.cell? ⟨w.heap.size, 0, none⟩ = some (.string N) := (hc3 _ _ (by omega)).trans (by go_simp)
    have p1 : w3.cell? ⟨w.heap.size, 1, none⟩ = some (.int .i64 T) := (hc3 _ _ (by omega)).trans (by go_simp)
    have p2 : w3.cell? ⟨w.heap.size, 2, none⟩ = some (.int .i64 K) := (hc3 _ _ (by omega)).trans (by go_simp)
    have p3 : w3.cell? ⟨w.heap.size, 3, none⟩ = some (.slice none 0 0) := (hc3 _ _ (by omega)).trans (by go_simp)
    have p4 : w3.cell? ⟨w.heap.size, 4, none⟩ = some (.string ⟨#[]⟩) := (hc3 _ _ (by omega)).trans (by go_simp)
    have p5 : w3.cell? ⟨w.heap.size, 5, none⟩ = some (.string ⟨#[]⟩) := (hc3 _ _ (by omega)).trans (by go_simp)
    have r0 : w3.cell? ⟨w.heap.size + 1, 0, none⟩ = some (.string ⟨#[]⟩) := (hc3 _ _ (by omega)).trans (by go_simp)
    have r1 : w3.cell? ⟨w.heap.size + 1, 1, none⟩ = some (.int .i64 0) := (hc3 _ _ (by omega)).trans (by go_simp)
    have r2 : w3.cell? ⟨w.heap.size + 1, 2, none⟩ = some (.int .i64 0) := (hc3 _ _ (by omega)).trans (by go_simp)
    have r3 : w3.cell? ⟨w.heap.size + 1, 3, none⟩ = some (.slice none 0 0) := (hc3 _ _ (by omega)).trans (by go_simp)
    have r4 : w3.cell? ⟨w.heap.size + 1, 4, none⟩ = some (.string ⟨#[]⟩) := (hc3 _ _ (by omega)).trans (by go_simp)
    have r5 : w3.cell? ⟨w.heap.size + 1, 5, none⟩ = some (.string ⟨#[]⟩) := (hc3 _ _ (by omega)).trans (by go_simp)
    clear hb3 hc3' hr2 hcell
    go_wp2_with fail
    refine (l3Nums_eq (fs.drop 1) B _ _ _ _ (hr3 _ hbw) (by omega) (by omega) HSZ ns b HNB).mono ?_
    rintro e w4 ⟨A3, q3, rfl, hown, hb4⟩
    obtain ⟨hcx, hfx⟩ := bcell hb4
    replace p0 : w4.cell? ⟨w.heap.size, 0, none⟩ = some (.string N) := (hcx _ _ (by omega)).trans p0
    replace p1 : w4.cell? ⟨w.heap.size, 1, none⟩ = some (.int .i64 T) := (hcx _ _ (by omega)).trans p1
    replace p2 : w4.cell? ⟨w.heap.size, 2, none⟩ = some (.int .i64 K) := (hcx _ _ (by omega)).trans p2
    replace p3 : w4.cell? ⟨w.heap.size, 3, none⟩ = some (.slice none 0 0) := (hcx _ _ (by omega)).trans p3
    replace p4 : w4.cell? ⟨w.heap.size, 4, none⟩ = some (.string ⟨#[]⟩) := (hcx _ _ (by omega)).trans p4
    replace p5 : w4.cell? ⟨w.heap.size, 5, none⟩ = some (.string ⟨#[]⟩) := (hcx _ _ (by omega)).trans p5
    replace r0 : w4.cell? ⟨w.heap.size + 1, 0, none⟩ = some (.string ⟨#[]⟩) := (hcx _ _ (by omega)).trans r0
    replace r1 : w4.cell? ⟨w.heap.size + 1, 1, none⟩ = some (.int .i64 0) := (hcx _ _ (by omega)).trans r1
    replace r2 : w4.cell? ⟨w.heap.size + 1, 2, none⟩ = some (.int .i64 0) := (hcx _ _ (by omega)).trans r2
    replace r3 : w4.cell? ⟨w.heap.size + 1, 3, none⟩ = some (.slice none 0 0) := (hcx _ _ (by omega)).trans r3
    replace r4 : w4.cell? ⟨w.heap.size + 1, 4, none⟩ = some (.string ⟨#[]⟩) := (hcx _ _ (by omega)).trans r4
    replace r5 : w4.cell? ⟨w.heap.size + 1, 5, none⟩ = some (.string ⟨#[]⟩) := (hcx _ _ (by omega)).trans r5
    have f0 : w4.frozen? ⟨w.heap.size, 0, none⟩ = _ := (hfx _ _ (by omega)).trans (hf3 _ _ (by omega))
    have f1 : w4.frozen? ⟨w.heap.size, 1, none⟩ = _ := (hfx _ _ (by omega)).trans (hf3 _ _ (by omega))
    have f2 : w4.frozen? ⟨w.heap.size, 2, none⟩ = _ := (hfx _ _ (by omega)).trans (hf3 _ _ (by omega))
    have f3 : w4.frozen? ⟨w.heap.size, 3, none⟩ = _ := (hfx _ _ (by omega)).trans (hf3 _ _ (by omega))
    have f4 : w4.frozen? ⟨w.heap.size, 4, none⟩ = _ := (hfx _ _ (by omega)).trans (hf3 _ _ (by omega))
    have f5 : w4.frozen? ⟨w.heap.size, 5, none⟩ = _ := (hfx _ _ (by omega)).trans (hf3 _ _ (by omega))
    have g0 : w4.frozen? ⟨w.heap.size + 1, 0, none⟩ = _ := (hfx _ _ (by omega)).trans (hf3 _ _ (by omega))
    have g1 : w4.frozen? ⟨w.heap.size + 1, 1, none⟩ = _ := (hfx _ _ (by omega)).trans (hf3 _ _ (by omega))
    have g2 : w4.frozen? ⟨w.heap.size + 1, 2, none⟩ = _ := (hfx _ _ (by omega)).trans (hf3 _ _ (by omega))
    have g3 : w4.frozen? ⟨w.heap.size + 1, 3, none⟩ = _ := (hfx _ _ (by omega)).trans (hf3 _ _ (by omega))
    have g4 : w4.frozen? ⟨w.heap.size + 1, 4, none⟩ = _ := (hfx _ _ (by omega)).trans (hf3 _ _ (by omega))
    have g5 : w4.frozen? ⟨w.heap.size + 1, 5, none⟩ = _ := (hfx _ _ (by omega)).trans (hf3 _ _ (by omega))
    have hs4 := hb4.size
    have hbw4 : Below w.heap.size w w4 := hbw.trans (hb4.mono (by omega))
    clear hb4 hbw hc3 hf3 hf3' hcx hfx hr3
    cases b
    all_goals cases bt
    · go_wp2
      rw [HO.out]
      refine ret_l3 (w.heap.size + 1) rfl rfl rfl (c0 := .string N) (c1 := .int .i64 T) (c2 := .int .i64 K) (c3 := .slice A3 ns.length q3) (c4 := .string y) (c5 := .string ⟨#[]⟩) (by go_simp) (by go_simp) (by go_simp) (by go_simp) (by go_simp) (by go_simp) ⟨A3, ns.length, q3, y, ⟨#[]⟩, ns, rfl, ?_, (fun p hp => by cases hp), hnl, hys, Nat.zero_le _, ?_⟩
      · have o1 := ownsRow_setCell_below hown (a := ⟨w.heap.size, 4, none⟩) (by first | (simp; done) | (simp; omega)) (.string y)
        have o2 := ownsRow_setCell_below o1 (a := ⟨w.heap.size, 3, none⟩) (by first | (simp; done) | (simp; omega)) (.slice A3 ns.length q3)
        have o3 := ownsRow_setCell_below o2 (a := ⟨w.heap.size + 1, 0, none⟩) (by first | (simp; done) | (simp; omega)) (.string N)
        have o4 := ownsRow_setCell_below o3 (a := ⟨w.heap.size + 1, 1, none⟩) (by first | (simp; done) | (simp; omega)) (.int .i64 T)
        have o5 := ownsRow_setCell_below o4 (a := ⟨w.heap.size + 1, 2, none⟩) (by first | (simp; done) | (simp; omega)) (.int .i64 K)
        have o6 := ownsRow_setCell_below o5 (a := ⟨w.heap.size + 1, 3, none⟩) (by first | (simp; done) | (simp; omega)) (.slice A3 ns.length q3)
        have o7 := ownsRow_setCell_below o6 (a := ⟨w.heap.size + 1, 4, none⟩) (by first | (simp; done) | (simp; omega)) (.string y)
        have o8 := ownsRow_setCell_below o7 (a := ⟨w.heap.size + 1, 5, none⟩) (by first | (simp; done) | (simp; omega)) (.string ⟨#[]⟩)
        exact own_mono o8 (by first | omega | (simp; omega))
      · go_grown
    · go_wp2
      rw [HO.out]
      refine ret_l3 (w.heap.size + 1) rfl rfl rfl (c0 := .string N) (c1 := .int .i64 T) (c2 := .int .i64 K) (c3 := .slice A3 ns.length q3) (c4 := .string y) (c5 := .string ⟨#[]⟩) (by go_simp) (by go_simp) (by go_simp) (by go_simp) (by go_simp) (by go_simp) ⟨A3, ns.length, q3, y, ⟨#[]⟩, ns, rfl, ?_, (fun p hp => by cases hp), hnl, hys, Nat.zero_le _, ?_⟩
      · have o1 := ownsRow_setCell_below hown (a := ⟨w.heap.size, 4, none⟩) (by first | (simp; done) | (simp; omega)) (.string y)
        have o2 := ownsRow_setCell_below o1 (a := ⟨w.heap.size, 3, none⟩) (by first | (simp; done) | (simp; omega)) (.slice A3 ns.length q3)
        have o3 := ownsRow_setCell_below o2 (a := ⟨w.heap.size + 1, 0, none⟩) (by first | (simp; done) | (simp; omega)) (.string N)
        have o4 := ownsRow_setCell_below o3 (a := ⟨w.heap.size + 1, 1, none⟩) (by first | (simp; done) | (simp; omega)) (.int .i64 T)
        have o5 := ownsRow_setCell_below o4 (a := ⟨w.heap.size + 1, 2, none⟩) (by first | (simp; done) | (simp; omega)) (.int .i64 K)
        have o6 := ownsRow_setCell_below o5 (a := ⟨w.heap.size + 1, 3, none⟩) (by first | (simp; done) | (simp; omega)) (.slice A3 ns.length q3)
        have o7 := ownsRow_setCell_below o6 (a := ⟨w.heap.size + 1, 4, none⟩) (by first | (simp; done) | (simp; omega)) (.string y)
        have o8 := ownsRow_setCell_below o7 (a := ⟨w.heap.size + 1, 5, none⟩) (by first | (simp; done) | (simp; omega)) (.string ⟨#[]⟩)
        exact own_mono o8 (by first | omega | (simp; omega))
      · go_grown
    · go_wp2
      rw [HO.out]
      refine ret_l3 (w.heap.size + 1) rfl rfl rfl (c0 := .string N) (c1 := .int .i64 T) (c2 := .int .i64 K) (c3 := .slice A3 ns.length q3) (c4 := .string y) (c5 := .string ⟨#[]⟩) (by go_simp) (by go_simp) (by go_simp) (by go_simp) (by go_simp) (by go_simp) ⟨A3, ns.length, q3, y, ⟨#[]⟩, ns, rfl, ?_, (fun p hp => by cases hp), hnl, hys, Nat.zero_le _, ?_⟩
      · have o1 := ownsRow_setCell_below hown (a := ⟨w.heap.size, 4, none⟩) (by first | (simp; done) | (simp; omega)) (.string y)
        have o2 := ownsRow_setCell_below o1 (a := ⟨w.heap.size, 3, none⟩) (by first | (simp; done) | (simp; omega)) (.slice A3 ns.length q3)
        have o3 := ownsRow_setCell_below o2 (a := ⟨w.heap.size + 1, 0, none⟩) (by first | (simp; done) | (simp; omega)) (.string N)
        have o4 := ownsRow_setCell_below o3 (a := ⟨w.heap.size + 1, 1, none⟩) (by first | (simp; done) | (simp; omega)) (.int .i64 T)
        have o5 := ownsRow_setCell_below o4 (a := ⟨w.heap.size + 1, 2, none⟩) (by first | (simp; done) | (simp; omega)) (.int .i64 K)
        have o6 := ownsRow_setCell_below o5 (a := ⟨w.heap.size + 1, 3, none⟩) (by first | (simp; done) | (simp; omega)) (.slice A3 ns.length q3)
        have o7 := ownsRow_setCell_below o6 (a := ⟨w.heap.size + 1, 4, none⟩) (by first | (simp; done) | (simp; omega)) (.string y)
        have o8 := ownsRow_setCell_below o7 (a := ⟨w.heap.size + 1, 5, none⟩) (by first | (simp; done) | (simp; omega)) (.string ⟨#[]⟩)
        exact own_mono o8 (by first | omega | (simp; omega))
      · go_grown
    · go_wp2
      rw [HO.out]
      refine ret_l3 (w.heap.size + 1) rfl rfl rfl (c0 := .string N) (c1 := .int .i64 T) (c2 := .int .i64 K) (c3 := .slice A3 ns.length q3) (c4 := .string y) (c5 := .string ⟨#[]⟩) (by go_simp) (by go_simp) (by go_simp) (by go_simp) (by go_simp) (by go_simp) ⟨A3, ns.length, q3, y, ⟨#[]⟩, ns, rfl, ?_, (fun p hp => (Option.some.inj hp).symm), hnl, hys, Nat.zero_le _, ?_⟩
      · have o1 := ownsRow_setCell_below hown (a := ⟨w.heap.size, 4, none⟩) (by first | (simp; done) | (simp; omega)) (.string y)
        have o2 := ownsRow_setCell_below o1 (a := ⟨w.heap.size, 3, none⟩) (by first | (simp; done) | (simp; omega)) (.slice A3 ns.length q3)
        have o3 := ownsRow_setCell_below o2 (a := ⟨w.heap.size + 1, 0, none⟩) (by first | (simp; done) | (simp; omega)) (.string N)
        have o4 := ownsRow_setCell_below o3 (a := ⟨w.heap.size + 1, 1, none⟩) (by first | (simp; done) | (simp; omega)) (.int .i64 T)
        have o5 := ownsRow_setCell_below o4 (a := ⟨w.heap.size + 1, 2, none⟩) (by first | (simp; done) | (simp; omega)) (.int .i64 K)
        have o6 := ownsRow_setCell_below o5 (a := ⟨w.heap.size + 1, 3, none⟩) (by first | (simp; done) | (simp; omega)) (.slice A3 ns.length q3)
        have o7 := ownsRow_setCell_below o6 (a := ⟨w.heap.size + 1, 4, none⟩) (by first | (simp; done) | (simp; omega)) (.string y)
        have o8 := ownsRow_setCell_below o7 (a := ⟨w.heap.size + 1, 5, none⟩) (by first | (simp; done) | (simp; omega)) (.string ⟨#[]⟩)
        exact own_mono o8 (by first | omega | (simp; omega))
      · go_grown
  · simp only [if_neg hcap1, Option.map_some] at hr3
    go_enter Tryz.func51, Tryz.ntmps51
    go_wp2_with fail
    refine (ReadName_eq x or hxs hor y bt HY HBT _).mono ?_
    rintro e w3 ⟨rfl, hb3⟩
    obtain ⟨hc3', hf3'⟩ := bcell hb3
    have hc3 : ∀ b o, b < w.heap.size + 1 + 1 → w3.cell? ⟨b, o, none⟩ = _ := fun b o h => hc3' b o (by simpa using h)
    have hf3 : ∀ b o, b < w.heap.size + 1 + 1 → w3.frozen? ⟨b, o, none⟩ = _ := fun b o h => hf3' b o (by simpa using h)
    have hs3 := hb3.size
    simp at hs3
    have hbw : Below w.heap.size w w3 := Below.trans (by go_grown) (hb3.mono (by simp; omega))
    have p0 : w3.cell? ⟨w.heap.size, 0, none⟩ = some (.string N) := (hc3 _ _ (by omega)).trans (by go_simp)
    have p1 : w3.cell? ⟨w.heap.size, 1, none⟩ = some (.int .i64 T) := (hc3 _ _ (by omega)).trans (by go_simp)
    have p2 : w3.cell? ⟨w.heap.size, 2, none⟩ = some (.int .i64 K) := (hc3 _ _ (by omega)).trans (by go_simp)
    have p3 : w3.cell? ⟨w.heap.size, 3, none⟩ = some (.slice none 0 0) := (hc3 _ _ (by omega)).trans (by go_simp)
    have p4 : w3.cell? ⟨w.heap.size, 4, none⟩ = some (.string ⟨#[]⟩) := (hc3 _ _ (by omega)).trans (by go_simp)
    have p5 : w3.cell? ⟨w.heap.size, 5, none⟩ = some (.string ⟨#[]⟩) := (hc3 _ _ (by omega)).trans (by go_simp)
    have r0 : w3.cell? ⟨w.heap.size + 1, 0, none⟩ = some (.string ⟨#[]⟩) := (hc3 _ _ (by omega)).trans (by go_simp)
    have r1 : w3.cell? ⟨w.heap.size + 1, 1, none⟩ = some (.int .i64 0) := (hc3 _ _ (by omega)).trans (by go_simp)
    have r2 : w3.cell? ⟨w.heap.size + 1, 2, none⟩ = some (.int .i64 0) := (hc3 _ _ (by omega)).trans (by go_simp)
    have r3 : w3.cell? ⟨w.heap.size + 1, 3, none⟩ = some (.slice none 0 0) := (hc3 _ _ (by omega)).trans (by go_simp)
    have r4 : w3.cell? ⟨w.heap.size + 1, 4, none⟩ = some (.string ⟨#[]⟩) := (hc3 _ _ (by omega)).trans (by go_simp)
    have r5 : w3.cell? ⟨w.heap.size + 1, 5, none⟩ = some (.string ⟨#[]⟩) := (hc3 _ _ (by omega)).trans (by go_simp)
    clear hb3 hc3' hr2 hcell
    go_wp2_with fail
    refine (l3Nums_eq (fs.drop 1) B _ _ _ _ (hr3 _ hbw) (by omega) (by omega) HSZ ns b HNB).mono ?_
    rintro e w4 ⟨A3, q3, rfl, hown, hb4⟩
    obtain ⟨hcx, hfx⟩ := bcell hb4
    replace p0 : w4.cell? ⟨w.heap.size, 0, none⟩ = some (.string N) := (hcx _ _ (by omega)).trans p0
    replace p1 : w4.cell? ⟨w.heap.size, 1, none⟩ = some (.int .i64 T) := (hcx _ _ (by omega)).trans p1
    replace p2 : w4.cell? ⟨w.heap.size, 2, none⟩ = some (.int .i64 K) := (hcx _ _ (by omega)).trans p2
    replace p3 : w4.cell? ⟨w.heap.size, 3, none⟩ = some (.slice none 0 0) := (hcx _ _ (by omega)).trans p3
    replace p4 : w4.cell? ⟨w.heap.size, 4, none⟩ = some (.string ⟨#[]⟩) := (hcx _ _ (by omega)).trans p4
    replace p5 : w4.cell? ⟨w.heap.size, 5, none⟩ = some (.string ⟨#[]⟩) := (hcx _ _ (by omega)).trans p5
    replace r0 : w4.cell? ⟨w.heap.size + 1, 0, none⟩ = some (.string ⟨#[]⟩) := (hcx _ _ (by omega)).trans r0
    replace r1 : w4.cell? ⟨w.heap.size + 1, 1, none⟩ = some (.int .i64 0) := (hcx _ _ (by omega)).trans r1
    replace r2 : w4.cell? ⟨w.heap.size + 1, 2, none⟩ = some (.int .i64 0) := (hcx _ _ (by omega)).trans r2
    replace r3 : w4.cell? ⟨w.heap.size + 1, 3, none⟩ = some (.slice none 0 0) := (hcx _ _ (by omega)).trans r3
    replace r4 : w4.cell? ⟨w.heap.size + 1, 4, none⟩ = some (.string ⟨#[]⟩) := (hcx _ _ (by omega)).trans r4
    replace r5 : w4.cell? ⟨w.heap.size + 1, 5, none⟩ = some (.string ⟨#[]⟩) := (hcx _ _ (by omega)).trans r5
    have f0 : w4.frozen? ⟨w.heap.size, 0, none⟩ = _ := (hfx _ _ (by omega)).trans (hf3 _ _ (by omega))
    have f1 : w4.frozen? ⟨w.heap.size, 1, none⟩ = _ := (hfx _ _ (by omega)).trans (hf3 _ _ (by omega))
    have f2 : w4.frozen? ⟨w.heap.size, 2, none⟩ = _ := (hfx _ _ (by omega)).trans (hf3 _ _ (by omega))
    have f3 : w4.frozen? ⟨w.heap.size, 3, none⟩ = _ := (hfx _ _ (by omega)).trans (hf3 _ _ (by omega))
    have f4 : w4.frozen? ⟨w.heap.size, 4, none⟩ = _ := (hfx _ _ (by omega)).trans (hf3 _ _ (by omega))
    have f5 : w4.frozen? ⟨w.heap.size, 5, none⟩ = _ := (hfx _ _ (by omega)).trans (hf3 _ _ (by omega))
    have g0 : w4.frozen? ⟨w.heap.size + 1, 0, none⟩ = _ := (hfx _ _ (by omega)).trans (hf3 _ _ (by omega))
    have g1 : w4.frozen? ⟨w.heap.size + 1, 1, none⟩ = _ := (hfx _ _ (by omega)).trans (hf3 _ _ (by omega))
    have g2 : w4.frozen? ⟨w.heap.size + 1, 2, none⟩ = _ := (hfx _ _ (by omega)).trans (hf3 _ _ (by omega))
    have g3 : w4.frozen? ⟨w.heap.size + 1, 3, none⟩ = _ := (hfx _ _ (by omega)).trans (hf3 _ _ (by omega))
    have g4 : w4.frozen? ⟨w.heap.size + 1, 4, none⟩ = _ := (hfx _ _ (by omega)).trans (hf3 _ _ (by omega))
    have g5 : w4.frozen? ⟨w.heap.size + 1, 5, none⟩ = _ := (hfx _ _ (by omega)).trans (hf3 _ _ (by omega))
    have hs4 := hb4.size
    have hbw4 : Below w.heap.size w w4 := hbw.trans (hb4.mono (by omega))
    clear hb4 hbw hc3 hf3 hf3' hcx hfx hr3
    cases b
    all_goals cases bt
    · go_wp2
      rw [HO.out]
      refine ret_l3 (w.heap.size + 1) rfl rfl rfl (c0 := .string N) (c1 := .int .i64 T) (c2 := .int .i64 K) (c3 := .slice A3 ns.length q3) (c4 := .string y) (c5 := .string ⟨#[]⟩) (by go_simp) (by go_simp) (by go_simp) (by go_simp) (by go_simp) (by go_simp) ⟨A3, ns.length, q3, y, ⟨#[]⟩, ns, rfl, ?_, (fun p hp => by cases hp), hnl, hys, Nat.zero_le _, ?_⟩
      · have o1 := ownsRow_setCell_below hown (a := ⟨w.heap.size, 4, none⟩) (by first | (simp; done) | (simp; omega)) (.string y)
        have o2 := ownsRow_setCell_below o1 (a := ⟨w.heap.size, 3, none⟩) (by first | (simp; done) | (simp; omega)) (.slice A3 ns.length q3)
        have o3 := ownsRow_setCell_below o2 (a := ⟨w.heap.size + 1, 0, none⟩) (by first | (simp; done) | (simp; omega)) (.string N)
        have o4 := ownsRow_setCell_below o3 (a := ⟨w.heap.size + 1, 1, none⟩) (by first | (simp; done) | (simp; omega)) (.int .i64 T)
        have o5 := ownsRow_setCell_below o4 (a := ⟨w.heap.size + 1, 2, none⟩) (by first | (simp; done) | (simp; omega)) (.int .i64 K)
        have o6 := ownsRow_setCell_below o5 (a := ⟨w.heap.size + 1, 3, none⟩) (by first | (simp; done) | (simp; omega)) (.slice A3 ns.length q3)
        have o7 := ownsRow_setCell_below o6 (a := ⟨w.heap.size + 1, 4, none⟩) (by first | (simp; done) | (simp; omega)) (.string y)
        have o8 := ownsRow_setCell_below o7 (a := ⟨w.heap.size + 1, 5, none⟩) (by first | (simp; done) | (simp; omega)) (.string ⟨#[]⟩)
        exact own_mono o8 (by first | omega | (simp; omega))
      · go_grown
    · go_wp2
      rw [HO.out]
      refine ret_l3 (w.heap.size + 1) rfl rfl rfl (c0 := .string N) (c1 := .int .i64 T) (c2 := .int .i64 K) (c3 := .slice A3 ns.length q3) (c4 := .string y) (c5 := .string ⟨#[]⟩) (by go_simp) (by go_simp) (by go_simp) (by go_simp) (by go_simp) (by go_simp) ⟨A3, ns.length, q3, y, ⟨#[]⟩, ns, rfl, ?_, (fun p hp => by cases hp), hnl, hys, Nat.zero_le _, ?_⟩
      · have o1 := ownsRow_setCell_below hown (a := ⟨w.heap.size, 4, none⟩) (by first | (simp; done) | (simp; omega)) (.string y)
        have o2 := ownsRow_setCell_below o1 (a := ⟨w.heap.size, 3, none⟩) (by first | (simp; done) | (simp; omega)) (.slice A3 ns.length q3)
        have o3 := ownsRow_setCell_below o2 (a := ⟨w.heap.size + 1, 0, none⟩) (by first | (simp; done) | (simp; omega)) (.string N)
        have o4 := ownsRow_setCell_below o3 (a := ⟨w.heap.size + 1, 1, none⟩) (by first | (simp; done) | (simp; omega)) (.int .i64 T)
        have o5 := ownsRow_setCell_below o4 (a := ⟨w.heap.size + 1, 2, none⟩) (by first | (simp; done) | (simp; omega)) (.int .i64 K)
        have o6 := ownsRow_setCell_below o5 (a := ⟨w.heap.size + 1, 3, none⟩) (by first | (simp; done) | (simp; omega)) (.slice A3 ns.length q3)
        have o7 := ownsRow_setCell_below o6 (a := ⟨w.heap.size + 1, 4, none⟩) (by first | (simp; done) | (simp; omega)) (.string y)
        have o8 := ownsRow_setCell_below o7 (a := ⟨w.heap.size + 1, 5, none⟩) (by first | (simp; done) | (simp; omega)) (.string ⟨#[]⟩)
        exact own_mono o8 (by first | omega | (simp; omega))
      · go_grown
    · go_wp2
      rw [HO.out]
      refine ret_l3 (w.heap.size + 1) rfl rfl rfl (c0 := .string N) (c1 := .int .i64 T) (c2 := .int .i64 K) (c3 := .slice A3 ns.length q3) (c4 := .string y) (c5 := .string ⟨#[]⟩) (by go_simp) (by go_simp) (by go_simp) (by go_simp) (by go_simp) (by go_simp) ⟨A3, ns.length, q3, y, ⟨#[]⟩, ns, rfl, ?_, (fun p hp => by cases hp), hnl, hys, Nat.zero_le _, ?_⟩
      · have o1 := ownsRow_setCell_below hown (a := ⟨w.heap.size, 4, none⟩) (by first | (simp; done) | (simp; omega)) (.string y)
        have o2 := ownsRow_setCell_below o1 (a := ⟨w.heap.size, 3, none⟩) (by first | (simp; done) | (simp; omega)) (.slice A3 ns.length q3)
        have o3 := ownsRow_setCell_below o2 (a := ⟨w.heap.size + 1, 0, none⟩) (by first | (simp; done) | (simp; omega)) (.string N)
        have o4 := ownsRow_setCell_below o3 (a := ⟨w.heap.size + 1, 1, none⟩) (by first | (simp; done) | (simp; omega)) (.int .i64 T)
        have o5 := ownsRow_setCell_below o4 (a := ⟨w.heap.size + 1, 2, none⟩) (by first | (simp; done) | (simp; omega)) (.int .i64 K)
        have o6 := ownsRow_setCell_below o5 (a := ⟨w.heap.size + 1, 3, none⟩) (by first | (simp; done) | (simp; omega)) (.slice A3 ns.length q3)
        have o7 := ownsRow_setCell_below o6 (a := ⟨w.heap.size + 1, 4, none⟩) (by first | (simp; done) | (simp; omega)) (.string y)
        have o8 := ownsRow_setCell_below o7 (a := ⟨w.heap.size + 1, 5, none⟩) (by first | (simp; done) | (simp; omega)) (.string ⟨#[]⟩)
        exact own_mono o8 (by first | omega | (simp; omega))
      · go_grown
    · go_wp2
      rw [HO.out]
      refine ret_l3 (w.heap.size + 1) rfl rfl rfl (c0 := .string N) (c1 := .int .i64 T) (c2 := .int .i64 K) (c3 := .slice A3 ns.length q3) (c4 := .string y) (c5 := .string ⟨#[]⟩) (by go_simp) (by go_simp) (by go_simp) (by go_simp) (by go_simp) (by go_simp) ⟨A3, ns.length, q3, y, ⟨#[]⟩, ns, rfl, ?_, (fun p hp => (Option.some.inj hp).symm), hnl, hys, Nat.zero_le _, ?_⟩
      · have o1 := ownsRow_setCell_below hown (a := ⟨w.heap.size, 4, none⟩) (by first | (simp; done) | (simp; omega)) (.string y)
        have o2 := ownsRow_setCell_below o1 (a := ⟨w.heap.size, 3, none⟩) (by first | (simp; done) | (simp; omega)) (.slice A3 ns.length q3)
        have o3 := ownsRow_setCell_below o2 (a := ⟨w.heap.size + 1, 0, none⟩) (by first | (simp; done) | (simp; omega)) (.string N)
        have o4 := ownsRow_setCell_below o3 (a := ⟨w.heap.size + 1, 1, none⟩) (by first | (simp; done) | (simp; omega)) (.int .i64 T)
        have o5 := ownsRow_setCell_below o4 (a := ⟨w.heap.size + 1, 2, none⟩) (by first | (simp; done) | (simp; omega)) (.int .i64 K)
        have o6 := ownsRow_setCell_below o5 (a := ⟨w.heap.size + 1, 3, none⟩) (by first | (simp; done) | (simp; omega)) (.slice A3 ns.length q3)
        have o7 := ownsRow_setCell_below o6 (a := ⟨w.heap.size + 1, 4, none⟩) (by first | (simp; done) | (simp; omega)) (.string y)
        have o8 := ownsRow_setCell_below o7 (a := ⟨w.heap.size + 1, 5, none⟩) (by first | (simp; done) | (simp; omega)) (.string ⟨#[]⟩)
        exact own_mono o8 (by first | omega | (simp; omega))
      · go_grown

theorem l3Data_any (N : ByteArray) (T K : Int) (fs : List Z.Str) (B : Nat) (A : Option Addr) (c : Nat) (or : ByteArray) (w : World) (hr : Reads w B A fs.length (fs.map sv)) (hB : B ≤ w.heap.size) (hne : fs ≠ []) (hcap : fs.length ≤ c) (hlen : fs.length ≤ 67108864) (hor : or.size ≤ 67108864) (hsz : Hid (∀ l ∈ fs, l.length ≤ 67108864)) :
    Calls Tryz.prog 51 #[.agg #[.string N, .int .i64 T, .int .i64 K, .slice none 0 0, .string ⟨#[]⟩, .string ⟨#[]⟩], .slice A fs.length c, .string or] w (DataOut N T K (Z.dataOf K fs (lst or)) w) := by
  by_cases k1 : K = 1
  · subst k1; exact l3_1 N T fs B A c or w hr hB hne hcap hlen hor hsz
  · by_cases k15 : K = 15
    · subst k15
      by_cases h2 : fs.length = 2
      · exact l3_15_two N T fs B A c or w hr hB hne hcap hlen hor hsz h2
      · exact l3_15_not N T fs B A c or w hr hB hne hcap hlen hor hsz h2
    · by_cases k16 : K = 16
      · subst k16; exact l3_16 N T fs B A c or w hr hB hne hcap hlen hor hsz
      · exact l3_else N T K k1 k15 k16 fs B A c or w hr hB hne hcap hlen hor hsz
end Go.Proofs.YtpgeeeamcncpkaaGreatDoor

/- The scanner of master files: what readDirective does. -/
import Derived.Test.YtpgeeeamcncpkaaGreatDoorSr
import Derived.Test.YtpgeeeamcncpkaaGreatDoorRi
namespace Go.Proofs.YtpgeeeamcncpkaaGreatDoor
open Go.RowKit
set_option maxRecDepth 100000
set_option linter.unusedVariables false
set_option linter.unusedSimpArgs false

/-- A line that cannot be read. -/
def Fails (b : Nat) (l : Int) (LV : Value) (w : World) (e : Ending) (w' : World) : Prop :=
  e = .panicked [{ v := lineErr l, recovered := false }] ∧ FarB b w w' ∧ ∃ (o ow : ByteArray) (t : Int) (A : Option Addr) (n c : Nat), Blk w' b TS [.string o, .int .i64 t, .string ow, .int .i64 l, .slice A n c, LV]
/-- A directive that sets the state. -/
def Directs (b : Nat) (l : Int) (LV : Value) (s : Z.St) (w : World) (e : Ending) (w' : World) : Prop :=
  e = .returned (.tuple #[]) ∧ FarB b w w' ∧ ∃ (o ow : ByteArray) (A : Option Addr) (c : Nat), s = ⟨lst o, s.ttl, lst ow⟩ ∧ Blk w' b TS [.string o, .int .i64 s.ttl, .string ow, .int .i64 l, .slice A 0 c, LV]
def DirOut (b : Nat) (l : Int) (LV : Value) (w : World) (res : Option Z.St) (e : Ending) (w' : World) : Prop :=
  match res with
  | none => Fails b l LV w e w'
  | some s => Directs b l LV s w e w'
theorem dirOut_none {b : Nat} {l : Int} {LV : Value} {w w' : World} {res : Option Z.St} {e : Ending} (h : res = none) (k : Fails b l LV w e w') : DirOut b l LV w res e w' := by subst h; exact k
theorem dirOut_some {b : Nat} {l : Int} {LV : Value} {w w' : World} {res : Option Z.St} {e : Ending} {s : Z.St} (h : res = some s) (k : Directs b l LV s w e w') : DirOut b l LV w res e w' := by subst h; exact k
theorem word_true {y : ByteArray} {l : Z.Str} (h : lst y = l) : (y.toList == l) = true := by rw [toList_lst, h]; simp
theorem word_false {y : ByteArray} {l : Z.Str} (h : lst y ≠ l) : (y.toList == l) = false := by rw [toList_lst]; simpa using h
theorem directs_origin {b : Nat} {l : Int} {LV : Value} {w w' : World} {o x ow : ByteArray} {t : Int} {A : Option Addr} {c : Nat} {s : Z.St} (hs : s = ⟨lst x, t, lst ow⟩) (hf : FarB b w w') (hb : Blk w' b TS [.string x, .int .i64 t, .string ow, .int .i64 l, .slice A 0 c, LV]) : Directs b l LV s w (.returned (.tuple #[])) w' := by
  subst hs
  exact ⟨rfl, hf, _, _, _, _, rfl, hb⟩

theorem readNumber_v (s : ByteArray) (hs : s.size ≤ 67108864) (m : Int) (hm0 : 0 ≤ m) (hm : m ≤ 4294967295) (n : Int) (b : Bool) (hn : Hid ((Z.readNum (lst s) m).getD 0 = n)) (hb : Hid ((Z.readNum (lst s) m).isSome = b)) (w : World) :
    Calls Tryz.prog 125 #[.string s, .int .i64 m] w fun e w' => e = .returned (.tuple #[.int .i64 n, .bool b]) ∧ w = w' := by
  have h := readNumber_any s hs m hm0 hm w
  unfold numTup at h
  rw [hn.out, hb.out] at h
  exact h
set_option maxHeartbeats 4000000 in
theorem dir_one (b : Nat) (o ow : ByteArray) (t l : Int) (A : Option Addr) (c : Nat) (LV : Value) (w : World) (f : Z.Str) (hs : Blk w b TS [.string o, .int .i64 t, .string ow, .int .i64 l, .slice A 1 c, LV]) (hf : Flds b w A c [f]) :
    Calls Tryz.prog 147 #[.pointer (some ⟨b, 0, none⟩)] w (Fails b l LV w) := by
  go_enter Tryz.func147, Tryz.ntmps147
  go_wp2_with fail
  refine (next_some b o ow t l A c LV w f [] hs hf).mono ?_
  rintro e w2 ⟨y, A2, c2, rfl, hy, hs2, hf2, hr2⟩
  go_wp2_with fail
  refine (next_none b o ow t l A2 c2 LV w2 hs2).mono ?_
  rintro e w3 ⟨rfl, rfl⟩
  go_wp2
  exact ⟨rfl, rfl, hr2, _, _, _, _, _, _, hs2⟩

set_option maxHeartbeats 8000000 in
theorem dir_more (b : Nat) (hbl : True) (o ow : ByteArray) (t l : Int) (A : Option Addr) (c : Nat) (LV : Value) (w : World) (f g : Z.Str) (fs : List Z.Str) (hs : Blk w b TS [.string o, .int .i64 t, .string ow, .int .i64 l, .slice A (f :: g :: fs).length c, LV]) (hf : Flds b w A c (f :: g :: fs)) (ho : o.size ≤ 67108860) (hg : g.length ≤ 67108860) :
    Calls Tryz.prog 147 #[.pointer (some ⟨b, 0, none⟩)] w (DirOut b l LV w (Z.dollar ⟨lst o, t, lst ow⟩ (f :: g :: fs))) := by
  by_cases h1 : f = Z.originWord
  · subst h1
    obtain ⟨x, hx⟩ : ∃ x, bs ((Z.readName g (lst o)).getD []) = x := ⟨_, rfl⟩
    obtain ⟨ok, hok⟩ : ∃ ok, (Z.readName g (lst o)).isSome = ok := ⟨_, rfl⟩
    have hd : Z.dollar ⟨lst o, t, lst ow⟩ (Z.originWord :: g :: fs) = if ok = true ∧ fs = [] then some ⟨lst x, t, lst ow⟩ else none := by
      unfold Z.dollar
      cases fs with
      | cons _ _ => simp
      | nil =>
        simp only [if_true]
        cases hr : Z.readName g (lst o) with
        | none => rw [hr] at hok; simp at hok; simp [← hok]
        | some n => rw [hr] at hok hx; simp at hok; simp [← hok, ← hx, lst_bs]
    have HRES := hid hd
    have HX := hid hx
    have HOK := hid hok
    clear hd hx hok
    go_enter Tryz.func147, Tryz.ntmps147
    go_wp2_with fail
    refine (next_some b o ow t l A c LV w _ _ hs hf).mono ?_
    rintro e w2 ⟨y, A2, c2, rfl, hy, hs2, hf2, hr2⟩
    go_wp2_with fail
    refine (next_some b o ow t l A2 c2 LV w2 _ _ hs2 hf2).mono ?_
    rintro e w3 ⟨z, A3, c3, rfl, rfl, hs3, hf3, hr3⟩
    rw [lst_length] at hg
    have q1 : (y.toList == [36, 79, 82, 73, 71, 73, 78]) = true := word_true hy
    have hlt := hs3.lt
    have HR := hid (hr2.trans hr3)
    clear hs hf hs2 hf2 hr2 hr3 hy
    obtain ⟨d0, d1, d2, d3, d4, d5⟩ := hs3.cells6
    go_wp2_with fail
    refine (iReadName_v z o (by omega) (by omega) x ok HX HOK _).mono ?_
    rintro e w4 ⟨rfl, hb4⟩
    have hs4 := hs3.next hb4
    have hf4 := hf3.far (FarB.of hb4 (Nat.le_of_lt hlt))
    have hr4 := HR.out.trans (FarB.of hb4 (Nat.le_of_lt hlt))
    have hs5 := hs4.put 0 (.string x)
    have hr5 := hr4.trans (FarB.put b w4 0 (.string x))
    clear hs3 d0 d1 d2 d3 d4 d5 hb4
    obtain ⟨d0, d1, d2, d3, d4, d5⟩ := hs4.cells6
    obtain ⟨f0, f1, f2, f3, f4, f5⟩ := hs4.free6
    cases ok with
    | false =>
      go_wp2_with fail
      refine (need_no b l _ (hs5.cells6.2.2.2.1)).mono ?_
      rintro e w6 ⟨rfl, rfl⟩
      go_wp2
      exact ⟨rfl, dirOut_none (HRES.out.trans (by simp)) ⟨rfl, hr5, _, _, _, _, _, _, hs5⟩⟩
    | true =>
      cases fs with
      | nil =>
        go_wp2_with fail
        refine (need_yes ⟨b, 0, none⟩ _).mono ?_
        rintro e w6 ⟨rfl, rfl⟩
        go_wp2
        go_end0
        exact dirOut_some (HRES.out.trans (by simp)) (directs_origin (o := o) rfl hr5 hs5)
      | cons a r =>
        have p1 : ((((a :: r).length : Nat) : Int) == 0) = false := by simp; omega
        go_wp2_with fail
        refine (need_no b l _ (hs5.cells6.2.2.2.1)).mono ?_
        rintro e w6 ⟨rfl, rfl⟩
        go_wp2
        exact ⟨rfl, dirOut_none (HRES.out.trans (by simp)) ⟨rfl, hr5, _, _, _, _, _, _, hs5⟩⟩
  · by_cases h2 : f = Z.ttlWord
    · subst h2
      obtain ⟨n, hn⟩ : ∃ n, (Z.readNum g 100000).getD 0 = n := ⟨_, rfl⟩
      obtain ⟨ok, hok⟩ : ∃ ok, (Z.readNum g 100000).isSome = ok := ⟨_, rfl⟩
      have hd : Z.dollar ⟨lst o, t, lst ow⟩ (Z.ttlWord :: g :: fs) = if ok = true ∧ fs = [] then some ⟨lst o, n, lst ow⟩ else none := by
        unfold Z.dollar
        cases fs with
        | cons _ _ => simp
        | nil =>
          simp only [if_neg h1, if_true]
          cases hr : Z.readNum g 100000 with
          | none =>
            rw [hr] at hok
            simp at hok
            subst hok
            cases hm : Z.num g with
            | none => simp
            | some m =>
              have : ¬ (0 ≤ m ∧ m ≤ 100000) := fun h => by
                have h9 := (Z.readNum_iff (by decide)).2 ⟨hm, h⟩
                rw [hr] at h9; cases h9
              simp [this]
          | some m =>
            have h9 := (Z.readNum_iff (by decide)).1 hr
            rw [hr] at hok hn
            simp at hok hn
            subst hok hn
            simp [h9.1, h9.2]
      have HRES := hid hd
      have HX := hid hn
      have HOK := hid hok
      clear hd hn hok
      go_enter Tryz.func147, Tryz.ntmps147
      go_wp2_with fail
      refine (next_some b o ow t l A c LV w _ _ hs hf).mono ?_
      rintro e w2 ⟨y, A2, c2, rfl, hy, hs2, hf2, hr2⟩
      go_wp2_with fail
      refine (next_some b o ow t l A2 c2 LV w2 _ _ hs2 hf2).mono ?_
      rintro e w3 ⟨z, A3, c3, rfl, rfl, hs3, hf3, hr3⟩
      rw [lst_length] at hg
      have q1 : (y.toList == [36, 79, 82, 73, 71, 73, 78]) = false := word_false (by rw [hy]; exact h1)
      have q2 : (y.toList == [36, 84, 84, 76]) = true := word_true hy
      have HR := hid (hr2.trans hr3)
      clear hs hf hs2 hf2 hr2 hr3 hy h1
      obtain ⟨d0, d1, d2, d3, d4, d5⟩ := hs3.cells6
      obtain ⟨f0, f1, f2, f3, f4, f5⟩ := hs3.free6
      go_wp2_with fail
      refine (readNumber_v z (by omega) 100000 (by omega) (by omega) n ok HX HOK _).mono ?_
      rintro e w4 ⟨rfl, rfl⟩
      have hs5 := hs3.put 1 (.int .i64 n)
      have hr5 := HR.out.trans (FarB.put b w3 1 (.int .i64 n))
      cases ok with
      | false =>
        go_wp2_with fail
        refine (need_no b l _ (hs5.cells6.2.2.2.1)).mono ?_
        rintro e w6 ⟨rfl, rfl⟩
        go_wp2
        exact ⟨rfl, dirOut_none (HRES.out.trans (by simp)) ⟨rfl, hr5, _, _, _, _, _, _, hs5⟩⟩
      | true =>
        cases fs with
        | nil =>
          go_wp2_with fail
          refine (need_yes ⟨b, 0, none⟩ _).mono ?_
          rintro e w6 ⟨rfl, rfl⟩
          go_wp2
          go_end0
          exact dirOut_some (HRES.out.trans (by simp)) (directs_origin (o := o) rfl hr5 hs5)
        | cons a r =>
          have p1 : ((((a :: r).length : Nat) : Int) == 0) = false := by simp; omega
          go_wp2_with fail
          refine (need_no b l _ (hs5.cells6.2.2.2.1)).mono ?_
          rintro e w6 ⟨rfl, rfl⟩
          go_wp2
          exact ⟨rfl, dirOut_none (HRES.out.trans (by simp)) ⟨rfl, hr5, _, _, _, _, _, _, hs5⟩⟩
    · have hd : Z.dollar ⟨lst o, t, lst ow⟩ (f :: g :: fs) = none := by
        unfold Z.dollar
        cases fs with
        | cons _ _ => rfl
        | nil => simp only [if_neg h1, if_neg h2]
      have HRES := hid hd
      clear hd
      go_enter Tryz.func147, Tryz.ntmps147
      go_wp2_with fail
      refine (next_some b o ow t l A c LV w _ _ hs hf).mono ?_
      rintro e w2 ⟨y, A2, c2, rfl, hy, hs2, hf2, hr2⟩
      go_wp2_with fail
      refine (next_some b o ow t l A2 c2 LV w2 _ _ hs2 hf2).mono ?_
      rintro e w3 ⟨z, A3, c3, rfl, rfl, hs3, hf3, hr3⟩
      have q1 : (y.toList == [36, 79, 82, 73, 71, 73, 78]) = false := word_false (by rw [hy]; exact h1)
      have q2 : (y.toList == [36, 84, 84, 76]) = false := word_false (by rw [hy]; exact h2)
      have hr5 := hr2.trans hr3
      clear hs hf hs2 hf2 hr2 hr3 hy h1 h2
      obtain ⟨d0, d1, d2, d3, d4, d5⟩ := hs3.cells6
      go_wp2_with fail
      refine (need_no b l _ d3).mono ?_
      rintro e w6 ⟨rfl, rfl⟩
      go_wp2
      exact ⟨rfl, dirOut_none HRES.out ⟨rfl, hr5, _, _, _, _, _, _, hs3⟩⟩
end Go.Proofs.YtpgeeeamcncpkaaGreatDoor

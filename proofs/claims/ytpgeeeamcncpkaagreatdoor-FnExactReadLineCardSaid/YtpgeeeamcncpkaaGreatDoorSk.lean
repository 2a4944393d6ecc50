/- What l2Put of the model returns. What l2Put of the model returns for a text, and for every kind. -/
import Derived.Test.YtpgeeeamcncpkaaGreatDoorSf
import Derived.Test.YtpgeeeamcncpkaaGreatDoorSc
import Derived.ChangeOld
import Derived.Handy
namespace Go.Proofs.YtpgeeeamcncpkaaGreatDoor
open Go.RowKit
set_option maxRecDepth 100000
set_option linter.unusedVariables false

theorem ret_put {a : Act} {W : World} {post : Ending → World → Prop} (b : Nat) {c0 c1 c2 c3 c4 c5 ok : Value} (hp : a.tmps[4]?.getD undef = .pointer (some ⟨b, 0, none⟩)) (hk : a.tmps[5]?.getD undef = ok) (hd : a.defers = [])
    (h0 : W.cell? ⟨b, 0, none⟩ = some c0) (h1 : W.cell? ⟨b, 1, none⟩ = some c1) (h2 : W.cell? ⟨b, 2, none⟩ = some c2) (h3 : W.cell? ⟨b, 3, none⟩ = some c3) (h4 : W.cell? ⟨b, 4, none⟩ = some c4) (h5 : W.cell? ⟨b, 5, none⟩ = some c5)
    (h : post (.returned (.tuple #[.agg #[c0, c1, c2, c3, c4, c5], ok])) W) : bodyPost Tryz.prog Tryz.f157 post Exit.ret a W :=
  bodyPost_ret (by simp [results, Tryz.results157, go_sem, hp, hk, h0, h1, h2, h3, h4, h5]) hd h

/-- What l2Put leaves. -/
def PutOut (d N : ByteArray) (T K : Int) (o : Option (List Int × Z.Str × Z.Str)) (w : World) (e : Ending) (w' : World) : Prop :=
  ∃ (A : Option Addr) (L c : Nat) (x y : ByteArray) (ns : List Int), e = .returned (.tuple #[.agg #[.string N, .int .i64 T, .int .i64 K, .slice A L c, .string x, .string y], .bool o.isSome]) ∧ w'.ownsRow w.heap.size 3 1 (.slice A L c) L (ns.map iv) ∧ (∀ p, o = some p → p = (ns, lst x, lst y)) ∧ L ≤ 7 ∧ x.size ≤ d.size ∧ y.size ≤ d.size ∧ Below w.heap.size w w'
theorem numbers_length {c : UInt8} {s : Z.Str} {ns : List Int} (h : Z.numbers c s = some ns) : ns.length ≤ 7 := by
  have key : ∀ (l : List Z.Str) (ns : List Int), l.mapM Z.num = some ns → ns.length = l.length := by
    intro l
    induction l with
    | nil => intro ns h; simp at h; subst h; rfl
    | cons x r ih =>
      intro ns h
      rw [List.mapM_cons] at h
      cases h1 : Z.num x with
      | none => rw [h1] at h; cases h
      | some n =>
        rw [h1] at h
        cases h2 : r.mapM Z.num with
        | none => rw [h2] at h; cases h
        | some q =>
          rw [h2] at h
          injection h with h
          subst h
          simp [ih q h2]
  have := key _ _ h
  rw [this, List.length_take]
  omega




set_option maxHeartbeats 4000000 in
theorem put_1_some (N d : ByteArray) (T : Int) (hd : d.size ≤ 67108864) (ns : List Int) (hn : Z.numbers 46 (lst d) = some ns) (w : World) :
    Calls Tryz.prog 157 #[.agg #[.string N, .int .i64 T, .int .i64 1, .slice none 0 0, .string ⟨#[]⟩, .string ⟨#[]⟩], .string d] w (PutOut d N T 1 (some (ns, [], [])) w) := by
  have h7 := numbers_length hn
  have HN := hid hn
  clear hn
  go_enter Tryz.func157, Tryz.ntmps157
  go_wp2_with fail
  refine (l2Numbers_some d hd 46 46 rfl HN.out _).mono ?_
  rintro e w3 ⟨A, q, rfl, hown, hb3⟩
  obtain ⟨hc3, hf3⟩ := bcell hb3
  have p0 : w3.cell? ⟨w.heap.size, 0, none⟩ = some (.string N) := (hc3 _ _ (by simp; try omega)).trans (by go_simp)
  have p1 : w3.cell? ⟨w.heap.size, 1, none⟩ = some (.int .i64 T) := (hc3 _ _ (by simp; try omega)).trans (by go_simp)
  have p2 : w3.cell? ⟨w.heap.size, 2, none⟩ = some (.int .i64 1) := (hc3 _ _ (by simp; try omega)).trans (by go_simp)
  have p3 : w3.cell? ⟨w.heap.size, 3, none⟩ = some (.slice none 0 0) := (hc3 _ _ (by simp; try omega)).trans (by go_simp)
  have p4 : w3.cell? ⟨w.heap.size, 4, none⟩ = some (.string ⟨#[]⟩) := (hc3 _ _ (by simp; try omega)).trans (by go_simp)
  have p5 : w3.cell? ⟨w.heap.size, 5, none⟩ = some (.string ⟨#[]⟩) := (hc3 _ _ (by simp; try omega)).trans (by go_simp)
  have r0 : w3.cell? ⟨w.heap.size + 1, 0, none⟩ = some (.string ⟨#[]⟩) := (hc3 _ _ (by simp; try omega)).trans (by go_simp)
  have r1 : w3.cell? ⟨w.heap.size + 1, 1, none⟩ = some (.int .i64 0) := (hc3 _ _ (by simp; try omega)).trans (by go_simp)
  have r2 : w3.cell? ⟨w.heap.size + 1, 2, none⟩ = some (.int .i64 0) := (hc3 _ _ (by simp; try omega)).trans (by go_simp)
  have r3 : w3.cell? ⟨w.heap.size + 1, 3, none⟩ = some (.slice none 0 0) := (hc3 _ _ (by simp; try omega)).trans (by go_simp)
  have r4 : w3.cell? ⟨w.heap.size + 1, 4, none⟩ = some (.string ⟨#[]⟩) := (hc3 _ _ (by simp; try omega)).trans (by go_simp)
  have r5 : w3.cell? ⟨w.heap.size + 1, 5, none⟩ = some (.string ⟨#[]⟩) := (hc3 _ _ (by simp; try omega)).trans (by go_simp)
  go_wp2
  refine ret_put (w.heap.size + 1) rfl rfl rfl (c0 := .string N) (c1 := .int .i64 T) (c2 := .int .i64 1) (c3 := .slice A ns.length q) (c4 := .string ⟨#[]⟩) (c5 := .string ⟨#[]⟩) (by go_simp) (by go_simp) (by go_simp) (by go_simp) (by go_simp) (by go_simp) ⟨A, ns.length, q, ⟨#[]⟩, ⟨#[]⟩, ns, rfl, ?_, fun p hp => (Option.some.inj hp).symm, h7, Nat.zero_le _, Nat.zero_le _, ?_⟩
  · have o1 := ownsRow_setCell_below hown (a := ⟨w.heap.size, 3, none⟩) (by first | (simp; done) | (simp; omega)) (.slice A ns.length q)
    have o2 := ownsRow_setCell_below o1 (a := ⟨w.heap.size + 1, 0, none⟩) (by first | (simp; done) | (simp; omega)) (.string N)
    have o3 := ownsRow_setCell_below o2 (a := ⟨w.heap.size + 1, 1, none⟩) (by first | (simp; done) | (simp; omega)) (.int .i64 T)
    have o4 := ownsRow_setCell_below o3 (a := ⟨w.heap.size + 1, 2, none⟩) (by first | (simp; done) | (simp; omega)) (.int .i64 1)
    have o5 := ownsRow_setCell_below o4 (a := ⟨w.heap.size + 1, 3, none⟩) (by first | (simp; done) | (simp; omega)) (.slice A ns.length q)
    have o6 := ownsRow_setCell_below o5 (a := ⟨w.heap.size + 1, 4, none⟩) (by first | (simp; done) | (simp; omega)) (.string ⟨#[]⟩)
    have o7 := ownsRow_setCell_below o6 (a := ⟨w.heap.size + 1, 5, none⟩) (by first | (simp; done) | (simp; omega)) (.string ⟨#[]⟩)
    exact own_mono o7 (by simp; try omega)
  · have hbw : Below w.heap.size w w3 := Below.trans (by go_grown) (hb3.mono (by simp; omega))
    clear hb3 hc3 hf3
    go_grown

set_option maxHeartbeats 4000000 in
theorem put_1_none (N d : ByteArray) (T : Int) (hd : d.size ≤ 67108864) (hn : Z.numbers 46 (lst d) = none) (w : World) :
    Calls Tryz.prog 157 #[.agg #[.string N, .int .i64 T, .int .i64 1, .slice none 0 0, .string ⟨#[]⟩, .string ⟨#[]⟩], .string d] w (PutOut d N T 1 (none) w) := by
  have HN := hid hn
  clear hn
  go_enter Tryz.func157, Tryz.ntmps157
  go_wp2_with fail
  refine (l2Numbers_none d hd 46 46 rfl HN.out _).mono ?_
  rintro e w3 ⟨A, q, rfl, hown, hb3⟩
  obtain ⟨hc3, hf3⟩ := bcell hb3
  have p0 : w3.cell? ⟨w.heap.size, 0, none⟩ = some (.string N) := (hc3 _ _ (by simp; try omega)).trans (by go_simp)
  have p1 : w3.cell? ⟨w.heap.size, 1, none⟩ = some (.int .i64 T) := (hc3 _ _ (by simp; try omega)).trans (by go_simp)
  have p2 : w3.cell? ⟨w.heap.size, 2, none⟩ = some (.int .i64 1) := (hc3 _ _ (by simp; try omega)).trans (by go_simp)
  have p3 : w3.cell? ⟨w.heap.size, 3, none⟩ = some (.slice none 0 0) := (hc3 _ _ (by simp; try omega)).trans (by go_simp)
  have p4 : w3.cell? ⟨w.heap.size, 4, none⟩ = some (.string ⟨#[]⟩) := (hc3 _ _ (by simp; try omega)).trans (by go_simp)
  have p5 : w3.cell? ⟨w.heap.size, 5, none⟩ = some (.string ⟨#[]⟩) := (hc3 _ _ (by simp; try omega)).trans (by go_simp)
  have r0 : w3.cell? ⟨w.heap.size + 1, 0, none⟩ = some (.string ⟨#[]⟩) := (hc3 _ _ (by simp; try omega)).trans (by go_simp)
  have r1 : w3.cell? ⟨w.heap.size + 1, 1, none⟩ = some (.int .i64 0) := (hc3 _ _ (by simp; try omega)).trans (by go_simp)
  have r2 : w3.cell? ⟨w.heap.size + 1, 2, none⟩ = some (.int .i64 0) := (hc3 _ _ (by simp; try omega)).trans (by go_simp)
  have r3 : w3.cell? ⟨w.heap.size + 1, 3, none⟩ = some (.slice none 0 0) := (hc3 _ _ (by simp; try omega)).trans (by go_simp)
  have r4 : w3.cell? ⟨w.heap.size + 1, 4, none⟩ = some (.string ⟨#[]⟩) := (hc3 _ _ (by simp; try omega)).trans (by go_simp)
  have r5 : w3.cell? ⟨w.heap.size + 1, 5, none⟩ = some (.string ⟨#[]⟩) := (hc3 _ _ (by simp; try omega)).trans (by go_simp)
  go_wp2
  refine ret_put (w.heap.size + 1) rfl rfl rfl (c0 := .string N) (c1 := .int .i64 T) (c2 := .int .i64 1) (c3 := .slice A 0 q) (c4 := .string ⟨#[]⟩) (c5 := .string ⟨#[]⟩) (by go_simp) (by go_simp) (by go_simp) (by go_simp) (by go_simp) (by go_simp) ⟨A, 0, q, ⟨#[]⟩, ⟨#[]⟩, [], rfl, ?_, (fun p hp => by cases hp), Nat.zero_le _, Nat.zero_le _, Nat.zero_le _, ?_⟩
  · have o1 := ownsRow_setCell_below hown (a := ⟨w.heap.size, 3, none⟩) (by first | (simp; done) | (simp; omega)) (.slice A 0 q)
    have o2 := ownsRow_setCell_below o1 (a := ⟨w.heap.size + 1, 0, none⟩) (by first | (simp; done) | (simp; omega)) (.string N)
    have o3 := ownsRow_setCell_below o2 (a := ⟨w.heap.size + 1, 1, none⟩) (by first | (simp; done) | (simp; omega)) (.int .i64 T)
    have o4 := ownsRow_setCell_below o3 (a := ⟨w.heap.size + 1, 2, none⟩) (by first | (simp; done) | (simp; omega)) (.int .i64 1)
    have o5 := ownsRow_setCell_below o4 (a := ⟨w.heap.size + 1, 3, none⟩) (by first | (simp; done) | (simp; omega)) (.slice A 0 q)
    have o6 := ownsRow_setCell_below o5 (a := ⟨w.heap.size + 1, 4, none⟩) (by first | (simp; done) | (simp; omega)) (.string ⟨#[]⟩)
    have o7 := ownsRow_setCell_below o6 (a := ⟨w.heap.size + 1, 5, none⟩) (by first | (simp; done) | (simp; omega)) (.string ⟨#[]⟩)
    exact own_mono o7 (by simp; try omega)
  · have hbw : Below w.heap.size w w3 := Below.trans (by go_grown) (hb3.mono (by simp; omega))
    clear hb3 hc3 hf3
    go_grown

theorem fld_le (s : Z.Str) : (Z.fld s).length ≤ s.length := by unfold Z.fld; exact (List.takeWhile_sublist _).length_le
theorem tail_lst (d : ByteArray) (at_ : Nat) : lst (d.extract at_ d.size) = (lst d).drop at_ := by
  rw [lst_extract, List.take_of_length_le (by rw [List.length_drop, lst_length]; omega)]
theorem tail_size (d : ByteArray) (at_ : Nat) : (d.extract at_ d.size).size ≤ d.size := by rw [ByteArray.size_extract]; omega

set_option maxHeartbeats 4000000 in
theorem put_15_some (N d : ByteArray) (T : Int) (hd : d.size ≤ 67108864) (ns : List Int) (hn : Z.numbers 32 (Z.fld (lst d)) = some ns) (w : World) :
    Calls Tryz.prog 157 #[.agg #[.string N, .int .i64 T, .int .i64 15, .slice none 0 0, .string ⟨#[]⟩, .string ⟨#[]⟩], .string d] w (PutOut d N T 15 (some (ns, Z.rst (lst d), [])) w) := by
  have h7 := numbers_length hn
  have HN := hid hn
  clear hn
  go_enter Tryz.func157, Tryz.ntmps157
  go_wp2_with fail
  refine (l2Field_any d 0 (Nat.zero_le _) hd _).mono ?_
  rintro e w1 ⟨x, at_, rfl, hat, hx1, hx2, rfl⟩
  rw [List.drop_zero] at hx1 hx2
  have hxs : x.size ≤ d.size := by
    have h9 := congrArg List.length hx1
    rw [lst_length] at h9
    have h8 := fld_le (lst d)
    rw [lst_length] at h8
    omega
  have HX2 := hid hx2
  have HN2 := hid (show Z.numbers 32 (lst x) = some ns by rw [hx1]; exact HN.out)
  clear hx1 hx2 HN
  go_wp2_with fail
  refine (l2Numbers_some x (by omega) 32 32 rfl HN2.out _).mono ?_
  rintro e w3 ⟨A, q, rfl, hown, hb3⟩
  obtain ⟨hc3, hf3⟩ := bcell hb3
  have p0 : w3.cell? ⟨w.heap.size, 0, none⟩ = some (.string N) := (hc3 _ _ (by simp; try omega)).trans (by go_simp)
  have p1 : w3.cell? ⟨w.heap.size, 1, none⟩ = some (.int .i64 T) := (hc3 _ _ (by simp; try omega)).trans (by go_simp)
  have p2 : w3.cell? ⟨w.heap.size, 2, none⟩ = some (.int .i64 15) := (hc3 _ _ (by simp; try omega)).trans (by go_simp)
  have p3 : w3.cell? ⟨w.heap.size, 3, none⟩ = some (.slice none 0 0) := (hc3 _ _ (by simp; try omega)).trans (by go_simp)
  have p4 : w3.cell? ⟨w.heap.size, 4, none⟩ = some (.string ⟨#[]⟩) := (hc3 _ _ (by simp; try omega)).trans (by go_simp)
  have p5 : w3.cell? ⟨w.heap.size, 5, none⟩ = some (.string ⟨#[]⟩) := (hc3 _ _ (by simp; try omega)).trans (by go_simp)
  have r0 : w3.cell? ⟨w.heap.size + 1, 0, none⟩ = some (.string ⟨#[]⟩) := (hc3 _ _ (by simp; try omega)).trans (by go_simp)
  have r1 : w3.cell? ⟨w.heap.size + 1, 1, none⟩ = some (.int .i64 0) := (hc3 _ _ (by simp; try omega)).trans (by go_simp)
  have r2 : w3.cell? ⟨w.heap.size + 1, 2, none⟩ = some (.int .i64 0) := (hc3 _ _ (by simp; try omega)).trans (by go_simp)
  have r3 : w3.cell? ⟨w.heap.size + 1, 3, none⟩ = some (.slice none 0 0) := (hc3 _ _ (by simp; try omega)).trans (by go_simp)
  have r4 : w3.cell? ⟨w.heap.size + 1, 4, none⟩ = some (.string ⟨#[]⟩) := (hc3 _ _ (by simp; try omega)).trans (by go_simp)
  have r5 : w3.cell? ⟨w.heap.size + 1, 5, none⟩ = some (.string ⟨#[]⟩) := (hc3 _ _ (by simp; try omega)).trans (by go_simp)
  go_wp2
  refine ret_put (w.heap.size + 1) rfl rfl rfl (c0 := .string N) (c1 := .int .i64 T) (c2 := .int .i64 15) (c3 := .slice A ns.length q) (c4 := .string (d.extract at_ d.size)) (c5 := .string ⟨#[]⟩) (by go_simp) (by go_simp) (by go_simp) (by go_simp) (by go_simp) (by go_simp) ⟨A, ns.length, q, (d.extract at_ d.size), ⟨#[]⟩, ns, rfl, ?_, fun p hp => by rw [tail_lst, HX2.out]; exact (Option.some.inj hp).symm, h7, tail_size d at_, Nat.zero_le _, ?_⟩
  · have o1 := ownsRow_setCell_below hown (a := ⟨w.heap.size, 3, none⟩) (by first | (simp; done) | (simp; omega)) (.slice A ns.length q)
    have o2 := ownsRow_setCell_below o1 (a := ⟨w.heap.size, 4, none⟩) (by first | (simp; done) | (simp; omega)) (.string (d.extract at_ d.size))
    have o3 := ownsRow_setCell_below o2 (a := ⟨w.heap.size + 1, 0, none⟩) (by first | (simp; done) | (simp; omega)) (.string N)
    have o4 := ownsRow_setCell_below o3 (a := ⟨w.heap.size + 1, 1, none⟩) (by first | (simp; done) | (simp; omega)) (.int .i64 T)
    have o5 := ownsRow_setCell_below o4 (a := ⟨w.heap.size + 1, 2, none⟩) (by first | (simp; done) | (simp; omega)) (.int .i64 15)
    have o6 := ownsRow_setCell_below o5 (a := ⟨w.heap.size + 1, 3, none⟩) (by first | (simp; done) | (simp; omega)) (.slice A ns.length q)
    have o7 := ownsRow_setCell_below o6 (a := ⟨w.heap.size + 1, 4, none⟩) (by first | (simp; done) | (simp; omega)) (.string (d.extract at_ d.size))
    have o8 := ownsRow_setCell_below o7 (a := ⟨w.heap.size + 1, 5, none⟩) (by first | (simp; done) | (simp; omega)) (.string ⟨#[]⟩)
    exact own_mono o8 (by simp; try omega)
  · have hbw : Below w.heap.size w w3 := Below.trans (by go_grown) (hb3.mono (by simp; omega))
    clear hb3 hc3 hf3
    go_grown

set_option maxHeartbeats 4000000 in
theorem put_15_none (N d : ByteArray) (T : Int) (hd : d.size ≤ 67108864) (hn : Z.numbers 32 (Z.fld (lst d)) = none) (w : World) :
    Calls Tryz.prog 157 #[.agg #[.string N, .int .i64 T, .int .i64 15, .slice none 0 0, .string ⟨#[]⟩, .string ⟨#[]⟩], .string d] w (PutOut d N T 15 (none) w) := by
  have HN := hid hn
  clear hn
  go_enter Tryz.func157, Tryz.ntmps157
  go_wp2_with fail
  refine (l2Field_any d 0 (Nat.zero_le _) hd _).mono ?_
  rintro e w1 ⟨x, at_, rfl, hat, hx1, hx2, rfl⟩
  rw [List.drop_zero] at hx1 hx2
  have hxs : x.size ≤ d.size := by
    have h9 := congrArg List.length hx1
    rw [lst_length] at h9
    have h8 := fld_le (lst d)
    rw [lst_length] at h8
    omega
  have HX2 := hid hx2
  have HN2 := hid (show Z.numbers 32 (lst x) = none by rw [hx1]; exact HN.out)
  clear hx1 hx2 HN
  go_wp2_with fail
  refine (l2Numbers_none x (by omega) 32 32 rfl HN2.out _).mono ?_
  rintro e w3 ⟨A, q, rfl, hown, hb3⟩
  obtain ⟨hc3, hf3⟩ := bcell hb3
  have p0 : w3.cell? ⟨w.heap.size, 0, none⟩ = some (.string N) := (hc3 _ _ (by simp; try omega)).trans (by go_simp)
  have p1 : w3.cell? ⟨w.heap.size, 1, none⟩ = some (.int .i64 T) := (hc3 _ _ (by simp; try omega)).trans (by go_simp)
  have p2 : w3.cell? ⟨w.heap.size, 2, none⟩ = some (.int .i64 15) := (hc3 _ _ (by simp; try omega)).trans (by go_simp)
  have p3 : w3.cell? ⟨w.heap.size, 3, none⟩ = some (.slice none 0 0) := (hc3 _ _ (by simp; try omega)).trans (by go_simp)
  have p4 : w3.cell? ⟨w.heap.size, 4, none⟩ = some (.string ⟨#[]⟩) := (hc3 _ _ (by simp; try omega)).trans (by go_simp)
  have p5 : w3.cell? ⟨w.heap.size, 5, none⟩ = some (.string ⟨#[]⟩) := (hc3 _ _ (by simp; try omega)).trans (by go_simp)
  have r0 : w3.cell? ⟨w.heap.size + 1, 0, none⟩ = some (.string ⟨#[]⟩) := (hc3 _ _ (by simp; try omega)).trans (by go_simp)
  have r1 : w3.cell? ⟨w.heap.size + 1, 1, none⟩ = some (.int .i64 0) := (hc3 _ _ (by simp; try omega)).trans (by go_simp)
  have r2 : w3.cell? ⟨w.heap.size + 1, 2, none⟩ = some (.int .i64 0) := (hc3 _ _ (by simp; try omega)).trans (by go_simp)
  have r3 : w3.cell? ⟨w.heap.size + 1, 3, none⟩ = some (.slice none 0 0) := (hc3 _ _ (by simp; try omega)).trans (by go_simp)
  have r4 : w3.cell? ⟨w.heap.size + 1, 4, none⟩ = some (.string ⟨#[]⟩) := (hc3 _ _ (by simp; try omega)).trans (by go_simp)
  have r5 : w3.cell? ⟨w.heap.size + 1, 5, none⟩ = some (.string ⟨#[]⟩) := (hc3 _ _ (by simp; try omega)).trans (by go_simp)
  go_wp2
  refine ret_put (w.heap.size + 1) rfl rfl rfl (c0 := .string N) (c1 := .int .i64 T) (c2 := .int .i64 15) (c3 := .slice A 0 q) (c4 := .string (d.extract at_ d.size)) (c5 := .string ⟨#[]⟩) (by go_simp) (by go_simp) (by go_simp) (by go_simp) (by go_simp) (by go_simp) ⟨A, 0, q, (d.extract at_ d.size), ⟨#[]⟩, [], rfl, ?_, (fun p hp => by cases hp), Nat.zero_le _, tail_size d at_, Nat.zero_le _, ?_⟩
  · have o1 := ownsRow_setCell_below hown (a := ⟨w.heap.size, 3, none⟩) (by first | (simp; done) | (simp; omega)) (.slice A 0 q)
    have o2 := ownsRow_setCell_below o1 (a := ⟨w.heap.size, 4, none⟩) (by first | (simp; done) | (simp; omega)) (.string (d.extract at_ d.size))
    have o3 := ownsRow_setCell_below o2 (a := ⟨w.heap.size + 1, 0, none⟩) (by first | (simp; done) | (simp; omega)) (.string N)
    have o4 := ownsRow_setCell_below o3 (a := ⟨w.heap.size + 1, 1, none⟩) (by first | (simp; done) | (simp; omega)) (.int .i64 T)
    have o5 := ownsRow_setCell_below o4 (a := ⟨w.heap.size + 1, 2, none⟩) (by first | (simp; done) | (simp; omega)) (.int .i64 15)
    have o6 := ownsRow_setCell_below o5 (a := ⟨w.heap.size + 1, 3, none⟩) (by first | (simp; done) | (simp; omega)) (.slice A 0 q)
    have o7 := ownsRow_setCell_below o6 (a := ⟨w.heap.size + 1, 4, none⟩) (by first | (simp; done) | (simp; omega)) (.string (d.extract at_ d.size))
    have o8 := ownsRow_setCell_below o7 (a := ⟨w.heap.size + 1, 5, none⟩) (by first | (simp; done) | (simp; omega)) (.string ⟨#[]⟩)
    exact own_mono o8 (by simp; try omega)
  · have hbw : Below w.heap.size w w3 := Below.trans (by go_grown) (hb3.mono (by simp; omega))
    clear hb3 hc3 hf3
    go_grown

set_option maxHeartbeats 4000000 in
theorem put_else_some (N d : ByteArray) (T : Int) (K : Int) (b1 : (K == 1) = false) (b2 : (K == 16) = false) (b3 : (K == 15) = false) (hd : d.size ≤ 67108864) (ns : List Int) (hne : Z.rst (lst d) ≠ []) (hn : Z.numbers 32 (Z.rst (lst d)) = some ns) (w : World) :
    Calls Tryz.prog 157 #[.agg #[.string N, .int .i64 T, .int .i64 K, .slice none 0 0, .string ⟨#[]⟩, .string ⟨#[]⟩], .string d] w (PutOut d N T K (some (ns, Z.fld (lst d), [])) w) := by
  have h7 := numbers_length hn
  have HN := hid hn
  clear hn
  go_enter Tryz.func157, Tryz.ntmps157
  go_wp2_with fail
  refine (l2Field_any d 0 (Nat.zero_le _) hd _).mono ?_
  rintro e w1 ⟨x, at_, rfl, hat, hx1, hx2, rfl⟩
  rw [List.drop_zero] at hx1 hx2
  have hxs : x.size ≤ d.size := by
    have h9 := congrArg List.length hx1
    rw [lst_length] at h9
    have h8 := fld_le (lst d)
    rw [lst_length] at h8
    omega
  have hlt : at_ < d.size := by
    rcases Nat.lt_or_ge at_ d.size with h9 | h9
    · exact h9
    · exact absurd (by rw [← hx2, List.drop_eq_nil_of_le (by rw [lst_length]; exact h9)]) hne
  have HX1 := hid hx1
  have HN2 := hid (show Z.numbers 32 (lst (d.extract at_ d.size)) = some ns by rw [tail_lst, hx2]; exact HN.out)
  have htl := tail_size d at_
  clear hx1 hx2 HN hne
  go_wp2_with fail
  refine (l2Numbers_some _ (by omega) 32 32 rfl HN2.out _).mono ?_
  rintro e w3 ⟨A, q, rfl, hown, hb3⟩
  obtain ⟨hc3, hf3⟩ := bcell hb3
  have p0 : w3.cell? ⟨w.heap.size, 0, none⟩ = some (.string N) := (hc3 _ _ (by simp; try omega)).trans (by go_simp)
  have p1 : w3.cell? ⟨w.heap.size, 1, none⟩ = some (.int .i64 T) := (hc3 _ _ (by simp; try omega)).trans (by go_simp)
  have p2 : w3.cell? ⟨w.heap.size, 2, none⟩ = some (.int .i64 K) := (hc3 _ _ (by simp; try omega)).trans (by go_simp)
  have p3 : w3.cell? ⟨w.heap.size, 3, none⟩ = some (.slice none 0 0) := (hc3 _ _ (by simp; try omega)).trans (by go_simp)
  have p4 : w3.cell? ⟨w.heap.size, 4, none⟩ = some (.string x) := (hc3 _ _ (by simp; try omega)).trans (by go_simp)
  have p5 : w3.cell? ⟨w.heap.size, 5, none⟩ = some (.string ⟨#[]⟩) := (hc3 _ _ (by simp; try omega)).trans (by go_simp)
  have r0 : w3.cell? ⟨w.heap.size + 1, 0, none⟩ = some (.string ⟨#[]⟩) := (hc3 _ _ (by simp; try omega)).trans (by go_simp)
  have r1 : w3.cell? ⟨w.heap.size + 1, 1, none⟩ = some (.int .i64 0) := (hc3 _ _ (by simp; try omega)).trans (by go_simp)
  have r2 : w3.cell? ⟨w.heap.size + 1, 2, none⟩ = some (.int .i64 0) := (hc3 _ _ (by simp; try omega)).trans (by go_simp)
  have r3 : w3.cell? ⟨w.heap.size + 1, 3, none⟩ = some (.slice none 0 0) := (hc3 _ _ (by simp; try omega)).trans (by go_simp)
  have r4 : w3.cell? ⟨w.heap.size + 1, 4, none⟩ = some (.string ⟨#[]⟩) := (hc3 _ _ (by simp; try omega)).trans (by go_simp)
  have r5 : w3.cell? ⟨w.heap.size + 1, 5, none⟩ = some (.string ⟨#[]⟩) := (hc3 _ _ (by simp; try omega)).trans (by go_simp)
  go_wp2
  refine ret_put (w.heap.size + 1) rfl rfl rfl (c0 := .string N) (c1 := .int .i64 T) (c2 := .int .i64 K) (c3 := .slice A ns.length q) (c4 := .string x) (c5 := .string ⟨#[]⟩) (by go_simp) (by go_simp) (by go_simp) (by go_simp) (by go_simp) (by go_simp) ⟨A, ns.length, q, x, ⟨#[]⟩, ns, rfl, ?_, fun p hp => by rw [HX1.out]; exact (Option.some.inj hp).symm, h7, hxs, Nat.zero_le _, ?_⟩
  · have o1 := ownsRow_setCell_below hown (a := ⟨w.heap.size, 3, none⟩) (by first | (simp; done) | (simp; omega)) (.slice A ns.length q)
    have o2 := ownsRow_setCell_below o1 (a := ⟨w.heap.size + 1, 0, none⟩) (by first | (simp; done) | (simp; omega)) (.string N)
    have o3 := ownsRow_setCell_below o2 (a := ⟨w.heap.size + 1, 1, none⟩) (by first | (simp; done) | (simp; omega)) (.int .i64 T)
    have o4 := ownsRow_setCell_below o3 (a := ⟨w.heap.size + 1, 2, none⟩) (by first | (simp; done) | (simp; omega)) (.int .i64 K)
    have o5 := ownsRow_setCell_below o4 (a := ⟨w.heap.size + 1, 3, none⟩) (by first | (simp; done) | (simp; omega)) (.slice A ns.length q)
    have o6 := ownsRow_setCell_below o5 (a := ⟨w.heap.size + 1, 4, none⟩) (by first | (simp; done) | (simp; omega)) (.string x)
    have o7 := ownsRow_setCell_below o6 (a := ⟨w.heap.size + 1, 5, none⟩) (by first | (simp; done) | (simp; omega)) (.string ⟨#[]⟩)
    exact own_mono o7 (by simp; try omega)
  · have hbw : Below w.heap.size w w3 := Below.trans (by go_grown) (hb3.mono (by simp; omega))
    clear hb3 hc3 hf3
    go_grown

set_option maxHeartbeats 4000000 in
theorem put_else_none (N d : ByteArray) (T : Int) (K : Int) (b1 : (K == 1) = false) (b2 : (K == 16) = false) (b3 : (K == 15) = false) (hd : d.size ≤ 67108864) (hne : Z.rst (lst d) ≠ []) (hn : Z.numbers 32 (Z.rst (lst d)) = none) (w : World) :
    Calls Tryz.prog 157 #[.agg #[.string N, .int .i64 T, .int .i64 K, .slice none 0 0, .string ⟨#[]⟩, .string ⟨#[]⟩], .string d] w (PutOut d N T K (none) w) := by
  have HN := hid hn
  clear hn
  go_enter Tryz.func157, Tryz.ntmps157
  go_wp2_with fail
  refine (l2Field_any d 0 (Nat.zero_le _) hd _).mono ?_
  rintro e w1 ⟨x, at_, rfl, hat, hx1, hx2, rfl⟩
  rw [List.drop_zero] at hx1 hx2
  have hxs : x.size ≤ d.size := by
    have h9 := congrArg List.length hx1
    rw [lst_length] at h9
    have h8 := fld_le (lst d)
    rw [lst_length] at h8
    omega
  have hlt : at_ < d.size := by
    rcases Nat.lt_or_ge at_ d.size with h9 | h9
    · exact h9
    · exact absurd (by rw [← hx2, List.drop_eq_nil_of_le (by rw [lst_length]; exact h9)]) hne
  have HX1 := hid hx1
  have HN2 := hid (show Z.numbers 32 (lst (d.extract at_ d.size)) = none by rw [tail_lst, hx2]; exact HN.out)
  have htl := tail_size d at_
  clear hx1 hx2 HN hne
  go_wp2_with fail
  refine (l2Numbers_none _ (by omega) 32 32 rfl HN2.out _).mono ?_
  rintro e w3 ⟨A, q, rfl, hown, hb3⟩
  obtain ⟨hc3, hf3⟩ := bcell hb3
  have p0 : w3.cell? ⟨w.heap.size, 0, none⟩ = some (.string N) := (hc3 _ _ (by simp; try omega)).trans (by go_simp)
  have p1 : w3.cell? ⟨w.heap.size, 1, none⟩ = some (.int .i64 T) := (hc3 _ _ (by simp; try omega)).trans (by go_simp)
  have p2 : w3.cell? ⟨w.heap.size, 2, none⟩ = some (.int .i64 K) := (hc3 _ _ (by simp; try omega)).trans (by go_simp)
  have p3 : w3.cell? ⟨w.heap.size, 3, none⟩ = some (.slice none 0 0) := (hc3 _ _ (by simp; try omega)).trans (by go_simp)
  have p4 : w3.cell? ⟨w.heap.size, 4, none⟩ = some (.string x) := (hc3 _ _ (by simp; try omega)).trans (by go_simp)
  have p5 : w3.cell? ⟨w.heap.size, 5, none⟩ = some (.string ⟨#[]⟩) := (hc3 _ _ (by simp; try omega)).trans (by go_simp)
  have r0 : w3.cell? ⟨w.heap.size + 1, 0, none⟩ = some (.string ⟨#[]⟩) := (hc3 _ _ (by simp; try omega)).trans (by go_simp)
  have r1 : w3.cell? ⟨w.heap.size + 1, 1, none⟩ = some (.int .i64 0) := (hc3 _ _ (by simp; try omega)).trans (by go_simp)
  have r2 : w3.cell? ⟨w.heap.size + 1, 2, none⟩ = some (.int .i64 0) := (hc3 _ _ (by simp; try omega)).trans (by go_simp)
  have r3 : w3.cell? ⟨w.heap.size + 1, 3, none⟩ = some (.slice none 0 0) := (hc3 _ _ (by simp; try omega)).trans (by go_simp)
  have r4 : w3.cell? ⟨w.heap.size + 1, 4, none⟩ = some (.string ⟨#[]⟩) := (hc3 _ _ (by simp; try omega)).trans (by go_simp)
  have r5 : w3.cell? ⟨w.heap.size + 1, 5, none⟩ = some (.string ⟨#[]⟩) := (hc3 _ _ (by simp; try omega)).trans (by go_simp)
  go_wp2
  refine ret_put (w.heap.size + 1) rfl rfl rfl (c0 := .string N) (c1 := .int .i64 T) (c2 := .int .i64 K) (c3 := .slice A 0 q) (c4 := .string x) (c5 := .string ⟨#[]⟩) (by go_simp) (by go_simp) (by go_simp) (by go_simp) (by go_simp) (by go_simp) ⟨A, 0, q, x, ⟨#[]⟩, [], rfl, ?_, (fun p hp => by cases hp), Nat.zero_le _, hxs, Nat.zero_le _, ?_⟩
  · have o1 := ownsRow_setCell_below hown (a := ⟨w.heap.size, 3, none⟩) (by first | (simp; done) | (simp; omega)) (.slice A 0 q)
    have o2 := ownsRow_setCell_below o1 (a := ⟨w.heap.size + 1, 0, none⟩) (by first | (simp; done) | (simp; omega)) (.string N)
    have o3 := ownsRow_setCell_below o2 (a := ⟨w.heap.size + 1, 1, none⟩) (by first | (simp; done) | (simp; omega)) (.int .i64 T)
    have o4 := ownsRow_setCell_below o3 (a := ⟨w.heap.size + 1, 2, none⟩) (by first | (simp; done) | (simp; omega)) (.int .i64 K)
    have o5 := ownsRow_setCell_below o4 (a := ⟨w.heap.size + 1, 3, none⟩) (by first | (simp; done) | (simp; omega)) (.slice A 0 q)
    have o6 := ownsRow_setCell_below o5 (a := ⟨w.heap.size + 1, 4, none⟩) (by first | (simp; done) | (simp; omega)) (.string x)
    have o7 := ownsRow_setCell_below o6 (a := ⟨w.heap.size + 1, 5, none⟩) (by first | (simp; done) | (simp; omega)) (.string ⟨#[]⟩)
    exact own_mono o7 (by simp; try omega)
  · have hbw : Below w.heap.size w w3 := Below.trans (by go_grown) (hb3.mono (by simp; omega))
    clear hb3 hc3 hf3
    go_grown

set_option maxHeartbeats 4000000 in
theorem put_else_bare (N d : ByteArray) (T : Int) (K : Int) (b1 : (K == 1) = false) (b2 : (K == 16) = false) (b3 : (K == 15) = false) (hd : d.size ≤ 67108864) (hne : Z.rst (lst d) = []) (w : World) :
    Calls Tryz.prog 157 #[.agg #[.string N, .int .i64 T, .int .i64 K, .slice none 0 0, .string ⟨#[]⟩, .string ⟨#[]⟩], .string d] w (PutOut d N T K (some ([], Z.fld (lst d), [])) w) := by
  go_enter Tryz.func157, Tryz.ntmps157
  go_wp2_with fail
  refine (l2Field_any d 0 (Nat.zero_le _) hd _).mono ?_
  rintro e w1 ⟨x, at_, rfl, hat, hx1, hx2, rfl⟩
  rw [List.drop_zero] at hx1 hx2
  have hxs : x.size ≤ d.size := by
    have h9 := congrArg List.length hx1
    rw [lst_length] at h9
    have h8 := fld_le (lst d)
    rw [lst_length] at h8
    omega
  have hlt : d.size ≤ at_ := by
    have h9 := congrArg List.length (hx2.trans hne)
    rw [List.length_drop, lst_length, List.length_nil] at h9
    omega
  have HX1 := hid hx1
  clear hx1 hx2 hne
  go_wp2
  refine ret_put (w.heap.size + 1) rfl rfl rfl (c0 := .string N) (c1 := .int .i64 T) (c2 := .int .i64 K) (c3 := .slice none 0 0) (c4 := .string x) (c5 := .string ⟨#[]⟩) (by go_simp) (by go_simp) (by go_simp) (by go_simp) (by go_simp) (by go_simp) ⟨none, 0, 0, x, ⟨#[]⟩, [], rfl, World.ownsRow_nil _ _ _ _, (fun p hp => by rw [HX1.out]; exact (Option.some.inj hp).symm), Nat.zero_le _, hxs, Nat.zero_le _, ?_⟩
  go_grown
end Go.Proofs.YtpgeeeamcncpkaaGreatDoor

namespace Go.Proofs.YtpgeeeamcncpkaaGreatDoor
open Go.RowKit
set_option maxRecDepth 100000
set_option linter.unusedVariables false

set_option maxHeartbeats 4000000 in
theorem put_16_short (N d : ByteArray) (T : Int) (hd : d.size < 2) (w : World) :
    Calls Tryz.prog 157 #[.agg #[.string N, .int .i64 T, .int .i64 16, .slice none 0 0, .string ⟨#[]⟩, .string ⟨#[]⟩], .string d] w (PutOut d N T 16 none w) := by
  go_enter Tryz.func157, Tryz.ntmps157
  go_wp2
  refine ret_put _ rfl rfl rfl (by go_simp) (by go_simp) (by go_simp) (by go_simp) (by go_simp) (by go_simp) ⟨none, 0, 0, ⟨#[]⟩, ⟨#[]⟩, [], rfl, World.ownsRow_nil _ _ _ _, (fun p hp => by cases hp), Nat.zero_le _, Nat.zero_le _, Nat.zero_le _, ?_⟩
  go_grown
set_option maxHeartbeats 4000000 in
theorem put_16_head (N d : ByteArray) (T : Int) (hd : d.size ≤ 67108864) (h2 : 2 ≤ d.size) (h0 : ¬ (d[0].toNat : Int) = 34) (w : World) :
    Calls Tryz.prog 157 #[.agg #[.string N, .int .i64 T, .int .i64 16, .slice none 0 0, .string ⟨#[]⟩, .string ⟨#[]⟩], .string d] w (PutOut d N T 16 none w) := by
  go_enter Tryz.func157, Tryz.ntmps157
  go_wp2
  refine ret_put _ rfl rfl rfl (by go_simp) (by go_simp) (by go_simp) (by go_simp) (by go_simp) (by go_simp) ⟨none, 0, 0, ⟨#[]⟩, ⟨#[]⟩, [], rfl, World.ownsRow_nil _ _ _ _, (fun p hp => by cases hp), Nat.zero_le _, Nat.zero_le _, Nat.zero_le _, ?_⟩
  go_grown
set_option maxHeartbeats 4000000 in
theorem put_16_last (N d : ByteArray) (T : Int) (m : Nat) (hm : d.size = m + 2) (hd : d.size ≤ 67108864) (h0 : (d[0].toNat : Int) = 34) (h1 : ¬ (d[m + 1].toNat : Int) = 34) (w : World) :
    Calls Tryz.prog 157 #[.agg #[.string N, .int .i64 T, .int .i64 16, .slice none 0 0, .string ⟨#[]⟩, .string ⟨#[]⟩], .string d] w (PutOut d N T 16 none w) := by
  have q1 : ((d[m + 1].toNat : Int) == 34) = false := by simpa using h1
  have q2 : ((d[m + 1].toNat : Int) != 34) = true := by simpa using h1
  go_enter Tryz.func157, Tryz.ntmps157
  go_wp2
  all_goals first | (refine ret_put _ rfl rfl rfl (by go_simp) (by go_simp) (by go_simp) (by go_simp) (by go_simp) (by go_simp) ⟨none, 0, 0, ⟨#[]⟩, ⟨#[]⟩, [], rfl, World.ownsRow_nil _ _ _ _, (fun p hp => by cases hp), Nat.zero_le _, Nat.zero_le _, Nat.zero_le _, ?_⟩; go_grown) | (exfalso; simp_all; done)
set_option maxHeartbeats 4000000 in
theorem put_16_good (N d : ByteArray) (T : Int) (m : Nat) (hm : d.size = m + 2) (hd : d.size ≤ 67108864) (h0 : (d[0].toNat : Int) = 34) (h1 : (d[m + 1].toNat : Int) = 34) (w : World) :
    Calls Tryz.prog 157 #[.agg #[.string N, .int .i64 T, .int .i64 16, .slice none 0 0, .string ⟨#[]⟩, .string ⟨#[]⟩], .string d] w (PutOut d N T 16 (some ([], [], lst (d.extract 1 (m + 1)))) w) := by
  go_enter Tryz.func157, Tryz.ntmps157
  go_wp2
  refine ret_put _ rfl rfl rfl (by go_simp) (by go_simp) (by go_simp) (by go_simp) (by go_simp) (by go_simp) ⟨none, 0, 0, ⟨#[]⟩, d.extract 1 (m + 1), [], rfl, World.ownsRow_nil _ _ _ _, (fun p hp => (Option.some.inj hp).symm), Nat.zero_le _, Nat.zero_le _, by rw [ByteArray.size_extract]; omega, ?_⟩
  go_grown

theorem l2Put_any (N d : ByteArray) (T K : Int) (hd : d.size ≤ 67108864) (w : World) :
    Calls Tryz.prog 157 #[.agg #[.string N, .int .i64 T, .int .i64 K, .slice none 0 0, .string ⟨#[]⟩, .string ⟨#[]⟩], .string d] w (PutOut d N T K (Z.put K (lst d)) w) := by
  unfold Z.put
  by_cases h1 : K = 1
  · subst h1
    rw [if_pos rfl]
    cases hn : Z.numbers 46 (lst d) with
    | none => exact put_1_none N d T hd hn w
    | some ns => exact put_1_some N d T hd ns hn w
  · rw [if_neg h1]
    by_cases h16 : K = 16
    · subst h16
      rw [if_pos rfl]
      by_cases h2 : 2 ≤ d.size
      · obtain ⟨m, hm⟩ : ∃ m, d.size = m + 2 := ⟨d.size - 2, by omega⟩
        have hh := head_lst (s := d) (by omega)
        have hl : (lst d).getLast? = some d[m + 1] := by
          rw [List.getLast?_eq_getElem?, lst_length, show d.size - 1 = m + 1 by omega, List.getElem?_eq_getElem (by rw [lst_length]; omega), lst_get d (m + 1) (by omega)]
        have key : ∀ c : UInt8, ((c.toNat : Int) = 34) ↔ c = 34 := fun c => by
          rw [← UInt8.toNat_inj]; simp; omega
        by_cases h0 : (d[0].toNat : Int) = 34
        · by_cases hx : (d[m + 1].toNat : Int) = 34
          · rw [if_pos ⟨by rw [lst_length]; exact h2, by rw [hh, (key _).1 h0], by rw [hl, (key _).1 hx]⟩]
            have e : ((lst d).drop 1).take ((lst d).length - 2) = lst (d.extract 1 (m + 1)) := by
              rw [lst_extract, lst_length, hm]
              congr 1
            rw [e]
            exact put_16_good N d T m hm hd h0 hx w
          · rw [if_neg (fun h => hx ((key _).2 (by have := h.2.2; rw [hl] at this; injection this)))]
            exact put_16_last N d T m hm hd h0 hx w
        · rw [if_neg (fun h => h0 ((key _).2 (by have := h.2.1; rw [hh] at this; injection this)))]
          exact put_16_head N d T hd h2 h0 w
      · rw [if_neg (fun h => h2 (by have := h.1; rwa [lst_length] at this))]
        exact put_16_short N d T (by omega) w
    · rw [if_neg h16]
      by_cases h15 : K = 15
      · subst h15
        rw [if_pos rfl]
        cases hn : Z.numbers 32 (Z.fld (lst d)) with
        | none => exact put_15_none N d T hd hn w
        | some ns => exact put_15_some N d T hd ns hn w
      · rw [if_neg h15]
        have b1 : (K == 1) = false := by simpa using h1
        have b2 : (K == 16) = false := by simpa using h16
        have b3 : (K == 15) = false := by simpa using h15
        by_cases hr : Z.rst (lst d) = []
        · rw [if_pos hr]
          exact put_else_bare N d T K b1 b2 b3 hd hr w
        · rw [if_neg hr]
          cases hn : Z.numbers 32 (Z.rst (lst d)) with
          | none => exact put_else_none N d T K b1 b2 b3 hd hr hn w
          | some ns => exact put_else_some N d T K b1 b2 b3 hd ns hr hn w
end Go.Proofs.YtpgeeeamcncpkaaGreatDoor

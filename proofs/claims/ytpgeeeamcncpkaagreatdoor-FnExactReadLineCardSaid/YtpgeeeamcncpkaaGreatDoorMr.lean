/- What the model's ReadLine returns. -/
import Derived.Test.YtpgeeeamcncpkaaGreatDoorMp
import Derived.Test.YtpgeeeamcncpkaaGreatDoorMq
import Derived.Test.YtpgeeeamcncpkaaGreatDoorTa
import Derived.Test.YtpgeeeamcncpkaaGreatDoorTb

namespace Go.Proofs.YtpgeeeamcncpkaaGreatDoor
open Go.RowKit
set_option maxRecDepth 100000
set_option linter.unusedVariables false
set_option linter.unusedSimpArgs false

/-- What ReadLine leaves, as a state, a record and two answers. -/
def stOf (res : Option (Z.St × Option Z.Rec)) : Z.St := match res with | some p => p.1 | none => ⟨[], 0, []⟩
def rcOf (res : Option (Z.St × Option Z.Rec)) : Z.Rec := match res with | some p => p.2.getD noRec | none => noRec
def rcIs (res : Option (Z.St × Option Z.Rec)) : Bool := match res with | some p => p.2.isSome | none => false
def RLOut (res : Option (Z.St × Option Z.Rec)) (w : World) (e : Ending) (w' : World) : Prop :=
  ∃ (o ow : ByteArray) (t : Int) (N : ByteArray) (T K : Int) (A : Option Addr) (L c : Nat) (x y : ByteArray) (ns : List Int), e = .returned (.tuple #[.agg #[.string o, .int .i64 t, .string ow], .agg #[.string N, .int .i64 T, .int .i64 K, .slice A L c, .string x, .string y], .bool (rcIs res), .bool res.isSome]) ∧
    w'.ownsRow w.heap.size 3 1 (.slice A L c) L (ns.map iv) ∧ stOf res = ⟨lst o, t, lst ow⟩ ∧ rcOf res = ⟨lst N, T, K, ns, lst x, lst y⟩ ∧ L ≤ 7 ∧ Below w.heap.size w w'
theorem rl_bad {w w' : World} {res : Option (Z.St × Option Z.Rec)} {v6 v7 : Value} (h : res = none) (h6 : v6 = .bool false) (h7 : v7 = .bool false) (hb : Below w.heap.size w w') : RLOut res w (.returned (.tuple #[.agg #[.string ⟨#[]⟩, .int .i64 0, .string ⟨#[]⟩], .agg #[.string ⟨#[]⟩, .int .i64 0, .int .i64 0, .slice none 0 0, .string ⟨#[]⟩, .string ⟨#[]⟩], v6, v7])) w' := by
  subst h h6 h7
  exact ⟨⟨#[]⟩, ⟨#[]⟩, 0, ⟨#[]⟩, 0, 0, none, 0, 0, ⟨#[]⟩, ⟨#[]⟩, [], rfl, World.ownsRow_nil _ _ _ _, rfl, rfl, Nat.zero_le _, hb⟩
theorem rl_none {w w' : World} {res : Option (Z.St × Option Z.Rec)} {o ow : ByteArray} {t : Int} {v6 v7 : Value} (h : res = some (⟨lst o, t, lst ow⟩, none)) (h6 : v6 = .bool false) (h7 : v7 = .bool true) (hb : Below w.heap.size w w') : RLOut res w (.returned (.tuple #[.agg #[.string o, .int .i64 t, .string ow], .agg #[.string ⟨#[]⟩, .int .i64 0, .int .i64 0, .slice none 0 0, .string ⟨#[]⟩, .string ⟨#[]⟩], v6, v7])) w' := by
  subst h h6 h7
  exact ⟨o, ow, t, ⟨#[]⟩, 0, 0, none, 0, 0, ⟨#[]⟩, ⟨#[]⟩, [], rfl, World.ownsRow_nil _ _ _ _, rfl, rfl, Nat.zero_le _, hb⟩
theorem rl_some {w w' : World} {res : Option (Z.St × Option Z.Rec)} {rr : Option Z.Rec} {o ow N x y : ByteArray} {t T K : Int} {A : Option Addr} {L c : Nat} {ns : List Int} {v6 v7 : Value} {s : Z.St} (h : res = rr.map fun r => (s, some r)) (hs : s = ⟨lst o, t, lst ow⟩) (hr : rr.isSome = true) (hq : rr.getD noRec = ⟨lst N, T, K, ns, lst x, lst y⟩) (h6 : v6 = .bool true) (h7 : v7 = .bool true) (ho : w'.ownsRow w.heap.size 3 1 (.slice A L c) L (ns.map iv)) (hL : L ≤ 7) (hb : Below w.heap.size w w') : RLOut res w (.returned (.tuple #[.agg #[.string o, .int .i64 t, .string ow], .agg #[.string N, .int .i64 T, .int .i64 K, .slice A L c, .string x, .string y], v6, v7])) w' := by
  subst h h6 h7 hs
  cases rr with
  | none => cases hr
  | some r => exact ⟨o, ow, t, N, T, K, A, L, c, x, y, ns, rfl, ho, rfl, hq, hL, hb⟩
/-- The five blocks of the call. -/
structure RL (w wc : World) (o ow : ByteArray) (t : Int) : Prop where
  below : Below w.heap.size w wc
  state : Blk wc w.heap.size 41 [.string o, .int .i64 t, .string ow]
  outS : Blk wc (w.heap.size + 1) 41 [.string ⟨#[]⟩, .int .i64 0, .string ⟨#[]⟩]
  outR : Blk wc (w.heap.size + 1 + 1) 25 [.string ⟨#[]⟩, .int .i64 0, .int .i64 0, .slice none 0 0, .string ⟨#[]⟩, .string ⟨#[]⟩]
  bad : Blk wc (w.heap.size + 1 + 1 + 1) 41 [.string ⟨#[]⟩, .int .i64 0, .string ⟨#[]⟩]
  nil : Blk wc (w.heap.size + 1 + 1 + 1 + 1) 25 [.string ⟨#[]⟩, .int .i64 0, .int .i64 0, .slice none 0 0, .string ⟨#[]⟩, .string ⟨#[]⟩]
theorem RL.next {w wc wd : World} {o ow : ByteArray} {t : Int} (h : RL w wc o ow t) (hb : Below wc.heap.size wc wd) : RL w wd o ow t :=
  ⟨h.below.trans (hb.mono h.below.size), h.state.next hb, h.outS.next hb, h.outR.next hb, h.bad.next hb, h.nil.next hb⟩
theorem RL.drew {w wc : World} {o ow : ByteArray} {t : Int} (h : RL w wc o ow t) : RL w wc.drew o ow t :=
  ⟨below_drewN h.below 1, h.state.drew, h.outS.drew, h.outR.drew, h.bad.drew, h.nil.drew⟩
theorem RL.alloc {w wc : World} {o ow : ByteArray} {t : Int} (h : RL w wc o ow t) (ob : Obj) : RL w (wc.alloc ob) o ow t :=
  ⟨h.below.alloc h.below.size ob, h.state.alloc ob, h.outS.alloc ob, h.outR.alloc ob, h.bad.alloc ob, h.nil.alloc ob⟩
theorem RL.owner {w wc : World} {o ow : ByteArray} {t : Int} (h : RL w wc o ow t) (x : ByteArray) : RL w (wc.setCell ⟨w.heap.size, 2, none⟩ (.string x)) o x t :=
  ⟨h.below.setCell (p := ⟨w.heap.size, 2, none⟩) (Nat.le_refl _) _, h.state.put 2 _, h.outS.far (p := ⟨w.heap.size, 2, none⟩) (by show w.heap.size + 1 ≠ w.heap.size; omega) _, h.outR.far (p := ⟨w.heap.size, 2, none⟩) (by show w.heap.size + 1 + 1 ≠ w.heap.size; omega) _, h.bad.far (p := ⟨w.heap.size, 2, none⟩) (by show w.heap.size + 1 + 1 + 1 ≠ w.heap.size; omega) _, h.nil.far (p := ⟨w.heap.size, 2, none⟩) (by show w.heap.size + 1 + 1 + 1 + 1 ≠ w.heap.size; omega) _⟩
theorem rl_new (w : World) (o ow : ByteArray) (t : Int) : RL w (((((w.alloc (.cells #[.string o, .int .i64 t, .string ow] 41)).alloc (.cells #[.string ⟨#[]⟩, .int .i64 0, .string ⟨#[]⟩] 41)).alloc (.cells #[.string ⟨#[]⟩, .int .i64 0, .int .i64 0, .slice none 0 0, .string ⟨#[]⟩, .string ⟨#[]⟩] 25)).alloc (.cells #[.string ⟨#[]⟩, .int .i64 0, .string ⟨#[]⟩] 41)).alloc (.cells #[.string ⟨#[]⟩, .int .i64 0, .int .i64 0, .slice none 0 0, .string ⟨#[]⟩, .string ⟨#[]⟩] 25)) o ow t := by
  refine ⟨(((((Below.refl _ _).alloc (Nat.le_refl _) _).alloc (by simp) _).alloc (by simp; omega) _).alloc (by simp; omega) _).alloc (by simp; omega) _, ?_, ?_, ?_, ?_, ?_⟩
  · exact (((((Blk.new w 41 [.string o, .int .i64 t, .string ow]).alloc _).alloc _).alloc _).alloc _)
  · have h := Blk.new (w.alloc (.cells #[.string o, .int .i64 t, .string ow] 41)) 41 [.string ⟨#[]⟩, .int .i64 0, .string ⟨#[]⟩]
    rw [show (w.alloc (.cells #[.string o, .int .i64 t, .string ow] 41)).heap.size = w.heap.size + 1 by simp] at h
    exact (((h.alloc _).alloc _).alloc _)
  · have h := Blk.new ((w.alloc (.cells #[.string o, .int .i64 t, .string ow] 41)).alloc (.cells #[.string ⟨#[]⟩, .int .i64 0, .string ⟨#[]⟩] 41)) 25 [.string ⟨#[]⟩, .int .i64 0, .int .i64 0, .slice none 0 0, .string ⟨#[]⟩, .string ⟨#[]⟩]
    rw [show ((w.alloc (.cells #[.string o, .int .i64 t, .string ow] 41)).alloc (.cells #[.string ⟨#[]⟩, .int .i64 0, .string ⟨#[]⟩] 41)).heap.size = w.heap.size + 1 + 1 by simp] at h
    exact ((h.alloc _).alloc _)
  · have h := Blk.new (((w.alloc (.cells #[.string o, .int .i64 t, .string ow] 41)).alloc (.cells #[.string ⟨#[]⟩, .int .i64 0, .string ⟨#[]⟩] 41)).alloc (.cells #[.string ⟨#[]⟩, .int .i64 0, .int .i64 0, .slice none 0 0, .string ⟨#[]⟩, .string ⟨#[]⟩] 25)) 41 [.string ⟨#[]⟩, .int .i64 0, .string ⟨#[]⟩]
    rw [show (((w.alloc (.cells #[.string o, .int .i64 t, .string ow] 41)).alloc (.cells #[.string ⟨#[]⟩, .int .i64 0, .string ⟨#[]⟩] 41)).alloc (.cells #[.string ⟨#[]⟩, .int .i64 0, .int .i64 0, .slice none 0 0, .string ⟨#[]⟩, .string ⟨#[]⟩] 25)).heap.size = w.heap.size + 1 + 1 + 1 by simp] at h
    exact (h.alloc _)
  · have h := Blk.new ((((w.alloc (.cells #[.string o, .int .i64 t, .string ow] 41)).alloc (.cells #[.string ⟨#[]⟩, .int .i64 0, .string ⟨#[]⟩] 41)).alloc (.cells #[.string ⟨#[]⟩, .int .i64 0, .int .i64 0, .slice none 0 0, .string ⟨#[]⟩, .string ⟨#[]⟩] 25)).alloc (.cells #[.string ⟨#[]⟩, .int .i64 0, .string ⟨#[]⟩] 41)) 25 [.string ⟨#[]⟩, .int .i64 0, .int .i64 0, .slice none 0 0, .string ⟨#[]⟩, .string ⟨#[]⟩]
    rw [show ((((w.alloc (.cells #[.string o, .int .i64 t, .string ow] 41)).alloc (.cells #[.string ⟨#[]⟩, .int .i64 0, .string ⟨#[]⟩] 41)).alloc (.cells #[.string ⟨#[]⟩, .int .i64 0, .int .i64 0, .slice none 0 0, .string ⟨#[]⟩, .string ⟨#[]⟩] 25)).alloc (.cells #[.string ⟨#[]⟩, .int .i64 0, .string ⟨#[]⟩] 41)).heap.size = w.heap.size + 1 + 1 + 1 + 1 by simp] at h
    exact h
def Ends (W : World) (b1 b2 : Nat) (c0 c1 c2 d0 d1 d2 d3 d4 d5 : Value) : Prop :=
  (W.cell? ⟨b1, 0, none⟩ = some c0 ∧ W.cell? ⟨b1, 1, none⟩ = some c1 ∧ W.cell? ⟨b1, 2, none⟩ = some c2) ∧ W.cell? ⟨b2, 0, none⟩ = some d0 ∧ W.cell? ⟨b2, 1, none⟩ = some d1 ∧ W.cell? ⟨b2, 2, none⟩ = some d2 ∧ W.cell? ⟨b2, 3, none⟩ = some d3 ∧ W.cell? ⟨b2, 4, none⟩ = some d4 ∧ W.cell? ⟨b2, 5, none⟩ = some d5
theorem Ends.drew {W : World} {b1 b2 : Nat} {c0 c1 c2 d0 d1 d2 d3 d4 d5 : Value} (h : Ends W b1 b2 c0 c1 c2 d0 d1 d2 d3 d4 d5) : Ends W.drew b1 b2 c0 c1 c2 d0 d1 d2 d3 d4 d5 := h
theorem own_drew {w : World} {base : Nat} {e : TypeId} {size : Nat} {v : Value} {n : Nat} {xs : List Value} (h : w.ownsRow base e size v n xs) : (w.drew).ownsRow base e size v n xs := h
theorem three_apart {w : World} {g g' : Nat} {t : TypeId} {cs : List Value} (h : Blk w g' t cs) (hne : g' ≠ g) (d0 d1 d2 : Value) :
    Blk (((w.setCell ⟨g, 0, none⟩ d0).setCell ⟨g, 1, none⟩ d1).setCell ⟨g, 2, none⟩ d2) g' t cs :=
  ((h.far (p := ⟨g, 0, none⟩) hne d0).far (p := ⟨g, 1, none⟩) hne d1).far (p := ⟨g, 2, none⟩) hne d2
theorem six_away {w : World} {g g' : Nat} {t : TypeId} {cs : List Value} (h : Blk w g' t cs) (hne : g' ≠ g) (d0 d1 d2 d3 d4 d5 : Value) :
    Blk ((((((w.setCell ⟨g, 0, none⟩ d0).setCell ⟨g, 1, none⟩ d1).setCell ⟨g, 2, none⟩ d2).setCell ⟨g, 3, none⟩ d3).setCell ⟨g, 4, none⟩ d4).setCell ⟨g, 5, none⟩ d5) g' t cs :=
  (((((h.far (p := ⟨g, 0, none⟩) hne d0).far (p := ⟨g, 1, none⟩) hne d1).far (p := ⟨g, 2, none⟩) hne d2).far (p := ⟨g, 3, none⟩) hne d3).far (p := ⟨g, 4, none⟩) hne d4).far (p := ⟨g, 5, none⟩) hne d5
theorem three_own {w : World} {base : Nat} {e : TypeId} {size : Nat} {v : Value} {n : Nat} {xs : List Value} (h : w.ownsRow base e size v n xs) {g : Nat} (hg : g < base) (d0 d1 d2 : Value) :
    (((w.setCell ⟨g, 0, none⟩ d0).setCell ⟨g, 1, none⟩ d1).setCell ⟨g, 2, none⟩ d2).ownsRow base e size v n xs :=
  ownsRow_setCell_below (ownsRow_setCell_below (ownsRow_setCell_below h (a := ⟨g, 0, none⟩) hg d0) (a := ⟨g, 1, none⟩) hg d1) (a := ⟨g, 2, none⟩) hg d2
theorem RL.end1 {w wc : World} {o ow : ByteArray} {t : Int} (h : RL w wc o ow t) (c0 c1 c2 d0 d1 d2 d3 d4 d5 : Value) :
    Ends ((((((((((wc.setCell ⟨w.heap.size + 1, 0, none⟩ c0).setCell ⟨w.heap.size + 1, 1, none⟩ c1).setCell ⟨w.heap.size + 1, 2, none⟩ c2).setCell ⟨w.heap.size + 1 + 1, 0, none⟩ d0).setCell ⟨w.heap.size + 1 + 1, 1, none⟩ d1).setCell ⟨w.heap.size + 1 + 1, 2, none⟩ d2).setCell ⟨w.heap.size + 1 + 1, 3, none⟩ d3).setCell ⟨w.heap.size + 1 + 1, 4, none⟩ d4).setCell ⟨w.heap.size + 1 + 1, 5, none⟩ d5)) (w.heap.size + 1) (w.heap.size + 1 + 1) c0 c1 c2 d0 d1 d2 d3 d4 d5 :=
  ⟨(six_away (three_set h.outS c0 c1 c2) (by omega) d0 d1 d2 d3 d4 d5).cells3, (six_set (three_apart h.outR (by omega) c0 c1 c2) d0 d1 d2 d3 d4 d5).cells6⟩
theorem RL.end2 {w wc : World} {o ow : ByteArray} {t : Int} (h : RL w wc o ow t) (c0 c1 c2 d0 d1 d2 d3 d4 d5 : Value) :
    Ends ((((((((((wc.setCell ⟨w.heap.size + 1 + 1, 0, none⟩ d0).setCell ⟨w.heap.size + 1 + 1, 1, none⟩ d1).setCell ⟨w.heap.size + 1 + 1, 2, none⟩ d2).setCell ⟨w.heap.size + 1 + 1, 3, none⟩ d3).setCell ⟨w.heap.size + 1 + 1, 4, none⟩ d4).setCell ⟨w.heap.size + 1 + 1, 5, none⟩ d5).setCell ⟨w.heap.size + 1, 0, none⟩ c0).setCell ⟨w.heap.size + 1, 1, none⟩ c1).setCell ⟨w.heap.size + 1, 2, none⟩ c2)) (w.heap.size + 1) (w.heap.size + 1 + 1) c0 c1 c2 d0 d1 d2 d3 d4 d5 :=
  ⟨(three_set (six_away h.outS (by omega) d0 d1 d2 d3 d4 d5) c0 c1 c2).cells3, (three_apart (six_set h.outR d0 d1 d2 d3 d4 d5) (by omega) c0 c1 c2).cells6⟩
theorem RL.low1 {w wc : World} {o ow : ByteArray} {t : Int} (h : RL w wc o ow t) (c0 c1 c2 d0 d1 d2 d3 d4 d5 : Value) :
    Below w.heap.size w ((((((((((wc.setCell ⟨w.heap.size + 1, 0, none⟩ c0).setCell ⟨w.heap.size + 1, 1, none⟩ c1).setCell ⟨w.heap.size + 1, 2, none⟩ c2).setCell ⟨w.heap.size + 1 + 1, 0, none⟩ d0).setCell ⟨w.heap.size + 1 + 1, 1, none⟩ d1).setCell ⟨w.heap.size + 1 + 1, 2, none⟩ d2).setCell ⟨w.heap.size + 1 + 1, 3, none⟩ d3).setCell ⟨w.heap.size + 1 + 1, 4, none⟩ d4).setCell ⟨w.heap.size + 1 + 1, 5, none⟩ d5)) :=
  six_below (three_below h.below (Nat.le_add_right _ 1) c0 c1 c2) (Nat.le_add_right _ 2) d0 d1 d2 d3 d4 d5
theorem RL.low2 {w wc : World} {o ow : ByteArray} {t : Int} (h : RL w wc o ow t) (c0 c1 c2 d0 d1 d2 d3 d4 d5 : Value) :
    Below w.heap.size w ((((((((((wc.setCell ⟨w.heap.size + 1 + 1, 0, none⟩ d0).setCell ⟨w.heap.size + 1 + 1, 1, none⟩ d1).setCell ⟨w.heap.size + 1 + 1, 2, none⟩ d2).setCell ⟨w.heap.size + 1 + 1, 3, none⟩ d3).setCell ⟨w.heap.size + 1 + 1, 4, none⟩ d4).setCell ⟨w.heap.size + 1 + 1, 5, none⟩ d5).setCell ⟨w.heap.size + 1, 0, none⟩ c0).setCell ⟨w.heap.size + 1, 1, none⟩ c1).setCell ⟨w.heap.size + 1, 2, none⟩ c2)) :=
  three_below (six_below h.below (Nat.le_add_right _ 2) d0 d1 d2 d3 d4 d5) (Nat.le_add_right _ 1) c0 c1 c2
theorem ret_rl {a : Act} {W : World} {post : Ending → World → Prop} (b g : Nat) {c0 c1 c2 d0 d1 d2 d3 d4 d5 h6 h7 : Value} (hp : a.tmps[4]?.getD undef = .pointer (some ⟨b, 0, none⟩)) (hq : a.tmps[5]?.getD undef = .pointer (some ⟨g, 0, none⟩)) (k6 : a.tmps[6]?.getD undef = h6) (k7 : a.tmps[7]?.getD undef = h7) (hd : a.defers = [])
    (hE : Ends W b g c0 c1 c2 d0 d1 d2 d3 d4 d5)
    (h : post (.returned (.tuple #[.agg #[c0, c1, c2], .agg #[d0, d1, d2, d3, d4, d5], h6, h7])) W) : bodyPost Tryz.prog Tryz.f22 post Exit.ret a W := by
  obtain ⟨⟨e0, e1, e2⟩, f0, f1, f2, f3, f4, f5⟩ := hE
  exact bodyPost_ret (by simp [results, Tryz.results22, go_sem, hp, hq, k6, k7, e0, e1, e2, f0, f1, f2, f3, f4, f5]) hd h

theorem mStrip_v (s : ByteArray) (hs : s.size ≤ 67108864) (x : ByteArray) (hx : Hid (bs (Z.strip false (lst s)) = x)) (w : World) :
    Calls Tryz.prog 62 #[.string s] w fun e w' => e = .returned (.string x) ∧ w = w' := by
  have h := StripComment_any s hs w
  rw [hx.out] at h
  exact h
theorem mFields_v (s : ByteArray) (hs : s.size ≤ 67108860) (fs : List Z.Str) (b : Bool) (hfs : Hid ((Z.fields (lst s)).getD [] = fs)) (hb : Hid ((Z.fields (lst s)).isSome = b)) (w : World) :
    Calls Tryz.prog 43 #[.string s] w fun e w' => ∃ A q, e = .returned (.tuple #[.slice A fs.length q, .bool b]) ∧ w'.ownsRow w.heap.size 9 1 (.slice A fs.length q) fs.length (fs.map sv) ∧ Below w.heap.size w w' := by
  refine (FieldsOf_any s (by omega) w).mono ?_
  rintro e w' ⟨A, n, q, h1, h2, h3, h4⟩
  rw [hb.out] at h1
  rw [hfs.out] at h2 h3
  subst h2
  exact ⟨A, q, h1, h3, h4⟩
theorem mState_v (o ow : ByteArray) (t : Int) (w : World) (ho : o.size ≤ 67108864) (how : ow.size ≤ 67108864) (v : Bool) (hv : Hid (Z.stOk ⟨lst o, t, lst ow⟩ = v)) :
    Calls Tryz.prog 63 #[.agg #[.string o, .int .i64 t, .string ow]] w fun e w' => e = .returned (.bool v) ∧ Below w.heap.size w w' := by
  have h := l3State_any o ow t w ho how
  rw [hv.out] at h
  exact h
theorem mDollar_v (o ow : ByteArray) (t : Int) (fs : List Z.Str) (B : Nat) (A : Option Addr) (c : Nat) (w : World) (hr : Reads w B A fs.length (fs.map sv)) (hB : B ≤ w.heap.size) (hlen : fs.length ≤ 67108864) (ho : o.size ≤ 67108864) (how : ow.size ≤ 67108864) (hsz : Hid (∀ l ∈ fs, l.length ≤ 67108864)) (res : Option Z.St) (hres : Hid (Z.dollar ⟨lst o, t, lst ow⟩ fs = res)) (ok : Bool) (hok : Hid (res.isSome = ok)) :
    Calls Tryz.prog 64 #[.agg #[.string o, .int .i64 t, .string ow], .slice A fs.length c] w fun e w' => ∃ (o' : ByteArray) (t' : Int) (ow' : ByteArray), e = .returned (.tuple #[.agg #[.string o', .int .i64 t', .string ow'], .bool ok]) ∧ Hid (∀ s, res = some s → s = ⟨lst o', t', lst ow'⟩) ∧ Below w.heap.size w w' := by
  have h := l3Dollar_any o ow t fs B A c w hr hB hlen ho how hsz
  unfold DollarOut at h
  rw [hres.out, hok.out] at h
  exact h
theorem mRecord_v (o ow : ByteArray) (t : Int) (fs : List Z.Str) (B : Nat) (A : Option Addr) (n c : Nat) (w : World) (hr : Reads w B A n (fs.map sv)) (hB : B ≤ w.heap.size) (hcap : n ≤ c) (hlen : n ≤ 67108864) (ho : o.size ≤ 67108864) (how : ow.size ≤ 67108864) (hsz : Hid (∀ l ∈ fs, l.length ≤ 67108864)) (res : Option Z.Rec) (hres : Hid (Z.record ⟨lst o, t, lst ow⟩ fs = res)) (ok : Bool) (hok : Hid (res.isSome = ok)) :
    Calls Tryz.prog 66 #[.agg #[.string o, .int .i64 t, .string ow], .slice A n c] w fun e w' => ∃ (N : ByteArray) (T K : Int) (A : Option Addr) (L c : Nat) (x y : ByteArray) (ns : List Int), e = .returned (.tuple #[.agg #[.string N, .int .i64 T, .int .i64 K, .slice A L c, .string x, .string y], .bool ok]) ∧ w'.ownsRow w.heap.size 3 1 (.slice A L c) L (ns.map iv) ∧ Hid (res.getD noRec = ⟨lst N, T, K, ns, lst x, lst y⟩) ∧ L ≤ 7 ∧ Below w.heap.size w w' := by
  have hn : n = fs.length := by have := hr.1; simpa using this.symm
  subst hn
  have h := l3Record_any o ow t fs B A c w hr hB hcap hlen ho how hsz
  unfold ParseOut at h
  rw [hres.out, hok.out] at h
  refine h.mono ?_
  rintro e w' ⟨N, T, K, A, L, c, x, y, ns, h1, h2, h3, h4, h5⟩
  exact ⟨N, T, K, A, L, c, x, y, ns, h1, h2, hid h3, h4, h5⟩
set_option maxHeartbeats 4000000 in
theorem rl_wrong (o ow line : ByteArray) (t : Int) (w : World) (ho : o.size ≤ 67108864) (how : ow.size ≤ 67108864) (hline : line.size ≤ 67108860) (x : ByteArray) (HX : Hid (bs (Z.strip false (lst line)) = x)) (hxs : x.size ≤ 67108860) (fs : List Z.Str) (b v : Bool) (HF : Hid ((Z.fields (lst x)).getD [] = fs)) (HB : Hid ((Z.fields (lst x)).isSome = b)) (HV : Hid (Z.stOk ⟨lst o, t, lst ow⟩ = v)) (hfn : fs.length ≤ 67108860) (HSZ : Hid (∀ l ∈ fs, l.length ≤ 67108864)) (res : Option (Z.St × Option Z.Rec)) (hbv : (v && b) = false) (hres : Hid (res = none)) :
    Calls Tryz.prog 22 #[.agg #[.string o, .int .i64 t, .string ow], .string line] w (RLOut res w) := by
  have hx0 := rl_new w o ow t
  go_enter Tryz.func22, Tryz.ntmps22
  go_upto_region 3 with fail
  obtain ⟨W, hW⟩ : ∃ W, (((((w.alloc (.cells #[.string o, .int .i64 t, .string ow] 41)).alloc (.cells #[.string ⟨#[]⟩, .int .i64 0, .string ⟨#[]⟩] 41)).alloc (.cells #[.string ⟨#[]⟩, .int .i64 0, .int .i64 0, .slice none 0 0, .string ⟨#[]⟩, .string ⟨#[]⟩] 25)).alloc (.cells #[.string ⟨#[]⟩, .int .i64 0, .string ⟨#[]⟩] 41)).alloc (.cells #[.string ⟨#[]⟩, .int .i64 0, .int .i64 0, .slice none 0 0, .string ⟨#[]⟩, .string ⟨#[]⟩] 25)) = W := ⟨_, rfl⟩
  rw [hW] at hx0 ⊢
  clear hW
  have hWs := hx0.state.lt
  go_wp2_with fail
  refine (mStrip_v line (by omega) x HX _).mono ?_
  rintro e w1 ⟨rfl, rfl⟩
  go_wp2_with fail
  refine (mFields_v x hxs fs b HF HB _).mono ?_
  rintro e w2 ⟨A, q, rfl, hown, hb2⟩
  have hx2 := hx0.next hb2
  obtain ⟨s0, s1, s2⟩ := hx2.state.cells3
  go_wp2_with fail
  refine (mState_v o ow t _ ho how v HV).mono ?_
  rintro e w3 ⟨rfl, hb3⟩
  have hx3 := hx2.next hb3
  have hr3 := (Reads.of_own hown).below hb3 (Nat.le_refl _)
  have hbs3 := hb3.size
  have hcap := (own_cap hown).1
  have hown3 := own_next hown hb3
  clear hx0 hx2 hb2 hb3 hown s0 s1 s2
  have hxD := hx3
  obtain ⟨b0, b1, b2⟩ := hx3.bad.cells3
  obtain ⟨n0, n1, n2, n3, n4, n5⟩ := hx3.nil.cells6
  obtain ⟨r0, r1, r2⟩ := hx3.outS.cells3
  obtain ⟨rf0, rf1, rf2⟩ := hx3.outS.free3
  obtain ⟨z0, z1, z2, z3, z4, z5⟩ := hx3.outR.cells6
  obtain ⟨zf0, zf1, zf2, zf3, zf4, zf5⟩ := hx3.outR.free6
  cases v with
  | false =>
    have kE1 := hxD.end1 (.string ⟨#[]⟩) (.int .i64 0) (.string ⟨#[]⟩) (.string ⟨#[]⟩) (.int .i64 0) (.int .i64 0) (.slice none 0 0) (.string ⟨#[]⟩) (.string ⟨#[]⟩)
    have bE1 := hxD.low1 (.string ⟨#[]⟩) (.int .i64 0) (.string ⟨#[]⟩) (.string ⟨#[]⟩) (.int .i64 0) (.int .i64 0) (.slice none 0 0) (.string ⟨#[]⟩) (.string ⟨#[]⟩)
    obtain ⟨E1, hE1⟩ : ∃ E, (((((((((w3.setCell ⟨w.heap.size + 1, 0, none⟩ (.string ⟨#[]⟩)).setCell ⟨w.heap.size + 1, 1, none⟩ (.int .i64 0)).setCell ⟨w.heap.size + 1, 2, none⟩ (.string ⟨#[]⟩)).setCell ⟨w.heap.size + 1 + 1, 0, none⟩ (.string ⟨#[]⟩)).setCell ⟨w.heap.size + 1 + 1, 1, none⟩ (.int .i64 0)).setCell ⟨w.heap.size + 1 + 1, 2, none⟩ (.int .i64 0)).setCell ⟨w.heap.size + 1 + 1, 3, none⟩ (.slice none 0 0)).setCell ⟨w.heap.size + 1 + 1, 4, none⟩ (.string ⟨#[]⟩)).setCell ⟨w.heap.size + 1 + 1, 5, none⟩ (.string ⟨#[]⟩)) = E := ⟨_, rfl⟩
    rw [hE1] at kE1 bE1
    have HE1 := hid hE1
    clear hE1
    replace kE1 := kE1.drew
    replace bE1 := below_drewN bE1 1
    have kE2 := hxD.end2 (.string ⟨#[]⟩) (.int .i64 0) (.string ⟨#[]⟩) (.string ⟨#[]⟩) (.int .i64 0) (.int .i64 0) (.slice none 0 0) (.string ⟨#[]⟩) (.string ⟨#[]⟩)
    have bE2 := hxD.low2 (.string ⟨#[]⟩) (.int .i64 0) (.string ⟨#[]⟩) (.string ⟨#[]⟩) (.int .i64 0) (.int .i64 0) (.slice none 0 0) (.string ⟨#[]⟩) (.string ⟨#[]⟩)
    obtain ⟨E2, hE2⟩ : ∃ E, (((((((((w3.setCell ⟨w.heap.size + 1 + 1, 0, none⟩ (.string ⟨#[]⟩)).setCell ⟨w.heap.size + 1 + 1, 1, none⟩ (.int .i64 0)).setCell ⟨w.heap.size + 1 + 1, 2, none⟩ (.int .i64 0)).setCell ⟨w.heap.size + 1 + 1, 3, none⟩ (.slice none 0 0)).setCell ⟨w.heap.size + 1 + 1, 4, none⟩ (.string ⟨#[]⟩)).setCell ⟨w.heap.size + 1 + 1, 5, none⟩ (.string ⟨#[]⟩)).setCell ⟨w.heap.size + 1, 0, none⟩ (.string ⟨#[]⟩)).setCell ⟨w.heap.size + 1, 1, none⟩ (.int .i64 0)).setCell ⟨w.heap.size + 1, 2, none⟩ (.string ⟨#[]⟩)) = E := ⟨_, rfl⟩
    rw [hE2] at kE2 bE2
    have HE2 := hid hE2
    clear hE2
    replace kE2 := kE2.drew
    replace bE2 := below_drewN bE2 1
    go_wp2_with fail
    go_region
    all_goals go_wp2
    all_goals first
      | (rw [HE1.out]; exact ret_rl (w.heap.size + 1) (w.heap.size + 1 + 1) rfl rfl rfl rfl rfl kE1 (rl_bad hres.out rfl rfl bE1))
      | (rw [HE2.out]; exact ret_rl (w.heap.size + 1) (w.heap.size + 1 + 1) rfl rfl rfl rfl rfl kE2 (rl_bad hres.out rfl rfl bE2))
  | true =>
    obtain rfl : b = false := by simpa using hbv
    have kE1 := hxD.end1 (.string ⟨#[]⟩) (.int .i64 0) (.string ⟨#[]⟩) (.string ⟨#[]⟩) (.int .i64 0) (.int .i64 0) (.slice none 0 0) (.string ⟨#[]⟩) (.string ⟨#[]⟩)
    have bE1 := hxD.low1 (.string ⟨#[]⟩) (.int .i64 0) (.string ⟨#[]⟩) (.string ⟨#[]⟩) (.int .i64 0) (.int .i64 0) (.slice none 0 0) (.string ⟨#[]⟩) (.string ⟨#[]⟩)
    obtain ⟨E1, hE1⟩ : ∃ E, (((((((((w3.setCell ⟨w.heap.size + 1, 0, none⟩ (.string ⟨#[]⟩)).setCell ⟨w.heap.size + 1, 1, none⟩ (.int .i64 0)).setCell ⟨w.heap.size + 1, 2, none⟩ (.string ⟨#[]⟩)).setCell ⟨w.heap.size + 1 + 1, 0, none⟩ (.string ⟨#[]⟩)).setCell ⟨w.heap.size + 1 + 1, 1, none⟩ (.int .i64 0)).setCell ⟨w.heap.size + 1 + 1, 2, none⟩ (.int .i64 0)).setCell ⟨w.heap.size + 1 + 1, 3, none⟩ (.slice none 0 0)).setCell ⟨w.heap.size + 1 + 1, 4, none⟩ (.string ⟨#[]⟩)).setCell ⟨w.heap.size + 1 + 1, 5, none⟩ (.string ⟨#[]⟩)) = E := ⟨_, rfl⟩
    rw [hE1] at kE1 bE1
    have HE1 := hid hE1
    clear hE1
    replace kE1 := kE1.drew
    replace bE1 := below_drewN bE1 1
    have kE2 := hxD.end2 (.string ⟨#[]⟩) (.int .i64 0) (.string ⟨#[]⟩) (.string ⟨#[]⟩) (.int .i64 0) (.int .i64 0) (.slice none 0 0) (.string ⟨#[]⟩) (.string ⟨#[]⟩)
    have bE2 := hxD.low2 (.string ⟨#[]⟩) (.int .i64 0) (.string ⟨#[]⟩) (.string ⟨#[]⟩) (.int .i64 0) (.int .i64 0) (.slice none 0 0) (.string ⟨#[]⟩) (.string ⟨#[]⟩)
    obtain ⟨E2, hE2⟩ : ∃ E, (((((((((w3.setCell ⟨w.heap.size + 1 + 1, 0, none⟩ (.string ⟨#[]⟩)).setCell ⟨w.heap.size + 1 + 1, 1, none⟩ (.int .i64 0)).setCell ⟨w.heap.size + 1 + 1, 2, none⟩ (.int .i64 0)).setCell ⟨w.heap.size + 1 + 1, 3, none⟩ (.slice none 0 0)).setCell ⟨w.heap.size + 1 + 1, 4, none⟩ (.string ⟨#[]⟩)).setCell ⟨w.heap.size + 1 + 1, 5, none⟩ (.string ⟨#[]⟩)).setCell ⟨w.heap.size + 1, 0, none⟩ (.string ⟨#[]⟩)).setCell ⟨w.heap.size + 1, 1, none⟩ (.int .i64 0)).setCell ⟨w.heap.size + 1, 2, none⟩ (.string ⟨#[]⟩)) = E := ⟨_, rfl⟩
    rw [hE2] at kE2 bE2
    have HE2 := hid hE2
    clear hE2
    replace kE2 := kE2.drew
    replace bE2 := below_drewN bE2 1
    go_wp2_with fail
    go_region
    all_goals go_wp2
    all_goals first
      | (rw [HE1.out]; exact ret_rl (w.heap.size + 1) (w.heap.size + 1 + 1) rfl rfl rfl rfl rfl kE1 (rl_bad hres.out rfl rfl bE1))
      | (rw [HE2.out]; exact ret_rl (w.heap.size + 1) (w.heap.size + 1 + 1) rfl rfl rfl rfl rfl kE2 (rl_bad hres.out rfl rfl bE2))
set_option maxHeartbeats 4000000 in
theorem rl_empty (o ow line : ByteArray) (t : Int) (w : World) (ho : o.size ≤ 67108864) (how : ow.size ≤ 67108864) (hline : line.size ≤ 67108860) (x : ByteArray) (HX : Hid (bs (Z.strip false (lst line)) = x)) (hxs : x.size ≤ 67108860) (fs : List Z.Str) (b v : Bool) (HF : Hid ((Z.fields (lst x)).getD [] = fs)) (HB : Hid ((Z.fields (lst x)).isSome = b)) (HV : Hid (Z.stOk ⟨lst o, t, lst ow⟩ = v)) (hfn : fs.length ≤ 67108860) (HSZ : Hid (∀ l ∈ fs, l.length ≤ 67108864)) (res : Option (Z.St × Option Z.Rec)) (hv : v = true) (hb : b = true) (he : fs = []) (hres : Hid (res = some (⟨lst o, t, lst ow⟩, none))) :
    Calls Tryz.prog 22 #[.agg #[.string o, .int .i64 t, .string ow], .string line] w (RLOut res w) := by
  have hx0 := rl_new w o ow t
  go_enter Tryz.func22, Tryz.ntmps22
  go_upto_region 3 with fail
  obtain ⟨W, hW⟩ : ∃ W, (((((w.alloc (.cells #[.string o, .int .i64 t, .string ow] 41)).alloc (.cells #[.string ⟨#[]⟩, .int .i64 0, .string ⟨#[]⟩] 41)).alloc (.cells #[.string ⟨#[]⟩, .int .i64 0, .int .i64 0, .slice none 0 0, .string ⟨#[]⟩, .string ⟨#[]⟩] 25)).alloc (.cells #[.string ⟨#[]⟩, .int .i64 0, .string ⟨#[]⟩] 41)).alloc (.cells #[.string ⟨#[]⟩, .int .i64 0, .int .i64 0, .slice none 0 0, .string ⟨#[]⟩, .string ⟨#[]⟩] 25)) = W := ⟨_, rfl⟩
  rw [hW] at hx0 ⊢
  clear hW
  have hWs := hx0.state.lt
  go_wp2_with fail
  refine (mStrip_v line (by omega) x HX _).mono ?_
  rintro e w1 ⟨rfl, rfl⟩
  go_wp2_with fail
  refine (mFields_v x hxs fs b HF HB _).mono ?_
  rintro e w2 ⟨A, q, rfl, hown, hb2⟩
  have hx2 := hx0.next hb2
  obtain ⟨s0, s1, s2⟩ := hx2.state.cells3
  go_wp2_with fail
  refine (mState_v o ow t _ ho how v HV).mono ?_
  rintro e w3 ⟨rfl, hb3⟩
  have hx3 := hx2.next hb3
  have hr3 := (Reads.of_own hown).below hb3 (Nat.le_refl _)
  have hbs3 := hb3.size
  have hcap := (own_cap hown).1
  have hown3 := own_next hown hb3
  clear hx0 hx2 hb2 hb3 hown s0 s1 s2
  subst hv hb he
  have hxD := hx3
  obtain ⟨s0, s1, s2⟩ := hx3.state.cells3
  obtain ⟨n0, n1, n2, n3, n4, n5⟩ := hx3.nil.cells6
  obtain ⟨r0, r1, r2⟩ := hx3.outS.cells3
  obtain ⟨rf0, rf1, rf2⟩ := hx3.outS.free3
  obtain ⟨z0, z1, z2, z3, z4, z5⟩ := hx3.outR.cells6
  obtain ⟨zf0, zf1, zf2, zf3, zf4, zf5⟩ := hx3.outR.free6
  have kE1 := hxD.end1 (.string o) (.int .i64 t) (.string ow) (.string ⟨#[]⟩) (.int .i64 0) (.int .i64 0) (.slice none 0 0) (.string ⟨#[]⟩) (.string ⟨#[]⟩)
  have bE1 := hxD.low1 (.string o) (.int .i64 t) (.string ow) (.string ⟨#[]⟩) (.int .i64 0) (.int .i64 0) (.slice none 0 0) (.string ⟨#[]⟩) (.string ⟨#[]⟩)
  obtain ⟨E1, hE1⟩ : ∃ E, (((((((((w3.setCell ⟨w.heap.size + 1, 0, none⟩ (.string o)).setCell ⟨w.heap.size + 1, 1, none⟩ (.int .i64 t)).setCell ⟨w.heap.size + 1, 2, none⟩ (.string ow)).setCell ⟨w.heap.size + 1 + 1, 0, none⟩ (.string ⟨#[]⟩)).setCell ⟨w.heap.size + 1 + 1, 1, none⟩ (.int .i64 0)).setCell ⟨w.heap.size + 1 + 1, 2, none⟩ (.int .i64 0)).setCell ⟨w.heap.size + 1 + 1, 3, none⟩ (.slice none 0 0)).setCell ⟨w.heap.size + 1 + 1, 4, none⟩ (.string ⟨#[]⟩)).setCell ⟨w.heap.size + 1 + 1, 5, none⟩ (.string ⟨#[]⟩)) = E := ⟨_, rfl⟩
  rw [hE1] at kE1 bE1
  have HE1 := hid hE1
  clear hE1
  replace kE1 := kE1.drew
  replace bE1 := below_drewN bE1 1
  have kE2 := hxD.end2 (.string o) (.int .i64 t) (.string ow) (.string ⟨#[]⟩) (.int .i64 0) (.int .i64 0) (.slice none 0 0) (.string ⟨#[]⟩) (.string ⟨#[]⟩)
  have bE2 := hxD.low2 (.string o) (.int .i64 t) (.string ow) (.string ⟨#[]⟩) (.int .i64 0) (.int .i64 0) (.slice none 0 0) (.string ⟨#[]⟩) (.string ⟨#[]⟩)
  obtain ⟨E2, hE2⟩ : ∃ E, (((((((((w3.setCell ⟨w.heap.size + 1 + 1, 0, none⟩ (.string ⟨#[]⟩)).setCell ⟨w.heap.size + 1 + 1, 1, none⟩ (.int .i64 0)).setCell ⟨w.heap.size + 1 + 1, 2, none⟩ (.int .i64 0)).setCell ⟨w.heap.size + 1 + 1, 3, none⟩ (.slice none 0 0)).setCell ⟨w.heap.size + 1 + 1, 4, none⟩ (.string ⟨#[]⟩)).setCell ⟨w.heap.size + 1 + 1, 5, none⟩ (.string ⟨#[]⟩)).setCell ⟨w.heap.size + 1, 0, none⟩ (.string o)).setCell ⟨w.heap.size + 1, 1, none⟩ (.int .i64 t)).setCell ⟨w.heap.size + 1, 2, none⟩ (.string ow)) = E := ⟨_, rfl⟩
  rw [hE2] at kE2 bE2
  have HE2 := hid hE2
  clear hE2
  replace kE2 := kE2.drew
  replace bE2 := below_drewN bE2 1
  go_wp2_with fail
  go_region
  all_goals go_wp2
  all_goals first
    | (rw [HE1.out]; exact ret_rl (w.heap.size + 1) (w.heap.size + 1 + 1) rfl rfl rfl rfl rfl kE1 (rl_none hres.out rfl rfl bE1))
    | (rw [HE2.out]; exact ret_rl (w.heap.size + 1) (w.heap.size + 1 + 1) rfl rfl rfl rfl rfl kE2 (rl_none hres.out rfl rfl bE2))
set_option maxHeartbeats 4000000 in
theorem rl_dollar (o ow line : ByteArray) (t : Int) (w : World) (ho : o.size ≤ 67108864) (how : ow.size ≤ 67108864) (hline : line.size ≤ 67108860) (x : ByteArray) (HX : Hid (bs (Z.strip false (lst line)) = x)) (hxs : x.size ≤ 67108860) (fs : List Z.Str) (b v : Bool) (HF : Hid ((Z.fields (lst x)).getD [] = fs)) (HB : Hid ((Z.fields (lst x)).isSome = b)) (HV : Hid (Z.stOk ⟨lst o, t, lst ow⟩ = v)) (hfn : fs.length ≤ 67108860) (HSZ : Hid (∀ l ∈ fs, l.length ≤ 67108864)) (res : Option (Z.St × Option Z.Rec)) (f : Z.Str) (r : List Z.Str) (hfs : fs = f :: r) (h0 : 0 < x.size) (hv : v = true) (hb : b = true) (h36 : (x[0].toNat : Int) = 36) (rs : Option Z.St) (HRS : Hid (Z.dollar ⟨lst o, t, lst ow⟩ fs = rs)) (hres : Hid (res = rs.map fun s => (s, none))) :
    Calls Tryz.prog 22 #[.agg #[.string o, .int .i64 t, .string ow], .string line] w (RLOut res w) := by
  obtain ⟨ok, hok⟩ : ∃ ok, rs.isSome = ok := ⟨_, rfl⟩
  have HOK := hid hok
  clear hok
  have q0 : ((fs.length : Int) == 0) = false := by rw [hfs]; simp; omega
  have HFS := hid hfs
  clear hfs
  have q1 : ((x[0].toNat : Int) == 36) = true := by simpa using h36
  have hx0 := rl_new w o ow t
  go_enter Tryz.func22, Tryz.ntmps22
  go_upto_region 3 with fail
  obtain ⟨W, hW⟩ : ∃ W, (((((w.alloc (.cells #[.string o, .int .i64 t, .string ow] 41)).alloc (.cells #[.string ⟨#[]⟩, .int .i64 0, .string ⟨#[]⟩] 41)).alloc (.cells #[.string ⟨#[]⟩, .int .i64 0, .int .i64 0, .slice none 0 0, .string ⟨#[]⟩, .string ⟨#[]⟩] 25)).alloc (.cells #[.string ⟨#[]⟩, .int .i64 0, .string ⟨#[]⟩] 41)).alloc (.cells #[.string ⟨#[]⟩, .int .i64 0, .int .i64 0, .slice none 0 0, .string ⟨#[]⟩, .string ⟨#[]⟩] 25)) = W := ⟨_, rfl⟩
  rw [hW] at hx0 ⊢
  clear hW
  have hWs := hx0.state.lt
  go_wp2_with fail
  refine (mStrip_v line (by omega) x HX _).mono ?_
  rintro e w1 ⟨rfl, rfl⟩
  go_wp2_with fail
  refine (mFields_v x hxs fs b HF HB _).mono ?_
  rintro e w2 ⟨A, q, rfl, hown, hb2⟩
  have hx2 := hx0.next hb2
  obtain ⟨s0, s1, s2⟩ := hx2.state.cells3
  go_wp2_with fail
  refine (mState_v o ow t _ ho how v HV).mono ?_
  rintro e w3 ⟨rfl, hb3⟩
  have hx3 := hx2.next hb3
  have hr3 := (Reads.of_own hown).below hb3 (Nat.le_refl _)
  have hbs3 := hb3.size
  have hcap := (own_cap hown).1
  have hown3 := own_next hown hb3
  clear hx0 hx2 hb2 hb3 hown s0 s1 s2
  subst hv hb
  obtain ⟨s0, s1, s2⟩ := hx3.state.cells3
  go_wp2_with fail
  refine (mDollar_v o ow t fs _ A q _ hr3 hbs3 (by omega) ho how HSZ rs HRS ok HOK).mono ?_
  rintro e w4 ⟨o', t', ow', rfl, hs', hb4⟩
  have hx4 := (hx3.next hb4).alloc (.cells #[.string o', .int .i64 t', .string ow'] 41)
  have hn4 := Blk.new w4 41 [.string o', .int .i64 t', .string ow']
  have hxD := hx4
  clear s0 s1 s2 hx3 hr3 hb4
  obtain ⟨b0, b1, b2⟩ := hx4.bad.cells3
  obtain ⟨n0, n1, n2, n3, n4, n5⟩ := hx4.nil.cells6
  obtain ⟨r0, r1, r2⟩ := hx4.outS.cells3
  obtain ⟨rf0, rf1, rf2⟩ := hx4.outS.free3
  obtain ⟨z0, z1, z2, z3, z4, z5⟩ := hx4.outR.cells6
  obtain ⟨zf0, zf1, zf2, zf3, zf4, zf5⟩ := hx4.outR.free6
  obtain ⟨m0, m1, m2⟩ := hn4.cells3
  cases ok with
  | false =>
    have HN := hid (show res = none by
      rw [hres.out]
      cases rs with
      | none => rfl
      | some s => cases HOK.out)
    have kE1 := hxD.end1 (.string ⟨#[]⟩) (.int .i64 0) (.string ⟨#[]⟩) (.string ⟨#[]⟩) (.int .i64 0) (.int .i64 0) (.slice none 0 0) (.string ⟨#[]⟩) (.string ⟨#[]⟩)
    have bE1 := hxD.low1 (.string ⟨#[]⟩) (.int .i64 0) (.string ⟨#[]⟩) (.string ⟨#[]⟩) (.int .i64 0) (.int .i64 0) (.slice none 0 0) (.string ⟨#[]⟩) (.string ⟨#[]⟩)
    obtain ⟨E1, hE1⟩ : ∃ E, ((((((((((w4.alloc (.cells #[.string o', .int .i64 t', .string ow'] 41)).setCell ⟨w.heap.size + 1, 0, none⟩ (.string ⟨#[]⟩)).setCell ⟨w.heap.size + 1, 1, none⟩ (.int .i64 0)).setCell ⟨w.heap.size + 1, 2, none⟩ (.string ⟨#[]⟩)).setCell ⟨w.heap.size + 1 + 1, 0, none⟩ (.string ⟨#[]⟩)).setCell ⟨w.heap.size + 1 + 1, 1, none⟩ (.int .i64 0)).setCell ⟨w.heap.size + 1 + 1, 2, none⟩ (.int .i64 0)).setCell ⟨w.heap.size + 1 + 1, 3, none⟩ (.slice none 0 0)).setCell ⟨w.heap.size + 1 + 1, 4, none⟩ (.string ⟨#[]⟩)).setCell ⟨w.heap.size + 1 + 1, 5, none⟩ (.string ⟨#[]⟩)) = E := ⟨_, rfl⟩
    rw [hE1] at kE1 bE1
    have HE1 := hid hE1
    clear hE1
    replace kE1 := kE1.drew
    replace bE1 := below_drewN bE1 1
    have kE2 := hxD.end2 (.string ⟨#[]⟩) (.int .i64 0) (.string ⟨#[]⟩) (.string ⟨#[]⟩) (.int .i64 0) (.int .i64 0) (.slice none 0 0) (.string ⟨#[]⟩) (.string ⟨#[]⟩)
    have bE2 := hxD.low2 (.string ⟨#[]⟩) (.int .i64 0) (.string ⟨#[]⟩) (.string ⟨#[]⟩) (.int .i64 0) (.int .i64 0) (.slice none 0 0) (.string ⟨#[]⟩) (.string ⟨#[]⟩)
    obtain ⟨E2, hE2⟩ : ∃ E, ((((((((((w4.alloc (.cells #[.string o', .int .i64 t', .string ow'] 41)).setCell ⟨w.heap.size + 1 + 1, 0, none⟩ (.string ⟨#[]⟩)).setCell ⟨w.heap.size + 1 + 1, 1, none⟩ (.int .i64 0)).setCell ⟨w.heap.size + 1 + 1, 2, none⟩ (.int .i64 0)).setCell ⟨w.heap.size + 1 + 1, 3, none⟩ (.slice none 0 0)).setCell ⟨w.heap.size + 1 + 1, 4, none⟩ (.string ⟨#[]⟩)).setCell ⟨w.heap.size + 1 + 1, 5, none⟩ (.string ⟨#[]⟩)).setCell ⟨w.heap.size + 1, 0, none⟩ (.string ⟨#[]⟩)).setCell ⟨w.heap.size + 1, 1, none⟩ (.int .i64 0)).setCell ⟨w.heap.size + 1, 2, none⟩ (.string ⟨#[]⟩)) = E := ⟨_, rfl⟩
    rw [hE2] at kE2 bE2
    have HE2 := hid hE2
    clear hE2
    replace kE2 := kE2.drew
    replace bE2 := below_drewN bE2 1
    go_wp2_with fail
    go_region
    all_goals go_wp2
    all_goals first
      | (rw [HE1.out]; exact ret_rl (w.heap.size + 1) (w.heap.size + 1 + 1) rfl rfl rfl rfl rfl kE1 (rl_bad HN.out rfl rfl bE1))
      | (rw [HE2.out]; exact ret_rl (w.heap.size + 1) (w.heap.size + 1 + 1) rfl rfl rfl rfl rfl kE2 (rl_bad HN.out rfl rfl bE2))
  | true =>
    have HN := hid (show res = some (⟨lst o', t', lst ow'⟩, none) by
      rw [hres.out]
      cases rs with
      | none => cases HOK.out
      | some s => rw [hs'.out s rfl]; rfl)
    have kE1 := hxD.end1 (.string o') (.int .i64 t') (.string ow') (.string ⟨#[]⟩) (.int .i64 0) (.int .i64 0) (.slice none 0 0) (.string ⟨#[]⟩) (.string ⟨#[]⟩)
    have bE1 := hxD.low1 (.string o') (.int .i64 t') (.string ow') (.string ⟨#[]⟩) (.int .i64 0) (.int .i64 0) (.slice none 0 0) (.string ⟨#[]⟩) (.string ⟨#[]⟩)
    obtain ⟨E1, hE1⟩ : ∃ E, ((((((((((w4.alloc (.cells #[.string o', .int .i64 t', .string ow'] 41)).setCell ⟨w.heap.size + 1, 0, none⟩ (.string o')).setCell ⟨w.heap.size + 1, 1, none⟩ (.int .i64 t')).setCell ⟨w.heap.size + 1, 2, none⟩ (.string ow')).setCell ⟨w.heap.size + 1 + 1, 0, none⟩ (.string ⟨#[]⟩)).setCell ⟨w.heap.size + 1 + 1, 1, none⟩ (.int .i64 0)).setCell ⟨w.heap.size + 1 + 1, 2, none⟩ (.int .i64 0)).setCell ⟨w.heap.size + 1 + 1, 3, none⟩ (.slice none 0 0)).setCell ⟨w.heap.size + 1 + 1, 4, none⟩ (.string ⟨#[]⟩)).setCell ⟨w.heap.size + 1 + 1, 5, none⟩ (.string ⟨#[]⟩)) = E := ⟨_, rfl⟩
    rw [hE1] at kE1 bE1
    have HE1 := hid hE1
    clear hE1
    replace kE1 := kE1.drew
    replace bE1 := below_drewN bE1 1
    have kE2 := hxD.end2 (.string o') (.int .i64 t') (.string ow') (.string ⟨#[]⟩) (.int .i64 0) (.int .i64 0) (.slice none 0 0) (.string ⟨#[]⟩) (.string ⟨#[]⟩)
    have bE2 := hxD.low2 (.string o') (.int .i64 t') (.string ow') (.string ⟨#[]⟩) (.int .i64 0) (.int .i64 0) (.slice none 0 0) (.string ⟨#[]⟩) (.string ⟨#[]⟩)
    obtain ⟨E2, hE2⟩ : ∃ E, ((((((((((w4.alloc (.cells #[.string o', .int .i64 t', .string ow'] 41)).setCell ⟨w.heap.size + 1 + 1, 0, none⟩ (.string ⟨#[]⟩)).setCell ⟨w.heap.size + 1 + 1, 1, none⟩ (.int .i64 0)).setCell ⟨w.heap.size + 1 + 1, 2, none⟩ (.int .i64 0)).setCell ⟨w.heap.size + 1 + 1, 3, none⟩ (.slice none 0 0)).setCell ⟨w.heap.size + 1 + 1, 4, none⟩ (.string ⟨#[]⟩)).setCell ⟨w.heap.size + 1 + 1, 5, none⟩ (.string ⟨#[]⟩)).setCell ⟨w.heap.size + 1, 0, none⟩ (.string o')).setCell ⟨w.heap.size + 1, 1, none⟩ (.int .i64 t')).setCell ⟨w.heap.size + 1, 2, none⟩ (.string ow')) = E := ⟨_, rfl⟩
    rw [hE2] at kE2 bE2
    have HE2 := hid hE2
    clear hE2
    replace kE2 := kE2.drew
    replace bE2 := below_drewN bE2 1
    go_wp2_with fail
    go_region
    all_goals go_wp2
    all_goals first
      | (rw [HE1.out]; exact ret_rl (w.heap.size + 1) (w.heap.size + 1 + 1) rfl rfl rfl rfl rfl kE1 (rl_none HN.out rfl rfl bE1))
      | (rw [HE2.out]; exact ret_rl (w.heap.size + 1) (w.heap.size + 1 + 1) rfl rfl rfl rfl rfl kE2 (rl_none HN.out rfl rfl bE2))
set_option maxHeartbeats 8000000 in
theorem rl_space (o ow line : ByteArray) (t : Int) (w : World) (ho : o.size ≤ 67108864) (how : ow.size ≤ 67108864) (hline : line.size ≤ 67108860) (x : ByteArray) (HX : Hid (bs (Z.strip false (lst line)) = x)) (hxs : x.size ≤ 67108860) (fs : List Z.Str) (b v : Bool) (HF : Hid ((Z.fields (lst x)).getD [] = fs)) (HB : Hid ((Z.fields (lst x)).isSome = b)) (HV : Hid (Z.stOk ⟨lst o, t, lst ow⟩ = v)) (hfn : fs.length ≤ 67108860) (HSZ : Hid (∀ l ∈ fs, l.length ≤ 67108864)) (res : Option (Z.St × Option Z.Rec)) (f : Z.Str) (r : List Z.Str) (hfs : fs = f :: r) (h0 : 0 < x.size) (hv : v = true) (hb : b = true) (h32 : (x[0].toNat : Int) = 32) (rr : Option Z.Rec) (HRR : Hid (Z.record ⟨lst o, t, lst ow⟩ fs = rr)) (hres : Hid (res = rr.map fun r => (⟨lst o, t, lst ow⟩, some r))) :
    Calls Tryz.prog 22 #[.agg #[.string o, .int .i64 t, .string ow], .string line] w (RLOut res w) := by
  obtain ⟨ok, hok⟩ : ∃ ok, rr.isSome = ok := ⟨_, rfl⟩
  have HOK := hid hok
  clear hok
  have q0 : ((fs.length : Int) == 0) = false := by rw [hfs]; simp; omega
  have HFS := hid hfs
  clear hfs
  have q1 : ((x[0].toNat : Int) == 36) = false := by rw [h32]; rfl
  have q2 : ((x[0].toNat : Int) != 32) = false := by rw [h32]; rfl
  have hx0 := rl_new w o ow t
  go_enter Tryz.func22, Tryz.ntmps22
  go_upto_region 3 with fail
  obtain ⟨W, hW⟩ : ∃ W, (((((w.alloc (.cells #[.string o, .int .i64 t, .string ow] 41)).alloc (.cells #[.string ⟨#[]⟩, .int .i64 0, .string ⟨#[]⟩] 41)).alloc (.cells #[.string ⟨#[]⟩, .int .i64 0, .int .i64 0, .slice none 0 0, .string ⟨#[]⟩, .string ⟨#[]⟩] 25)).alloc (.cells #[.string ⟨#[]⟩, .int .i64 0, .string ⟨#[]⟩] 41)).alloc (.cells #[.string ⟨#[]⟩, .int .i64 0, .int .i64 0, .slice none 0 0, .string ⟨#[]⟩, .string ⟨#[]⟩] 25)) = W := ⟨_, rfl⟩
  rw [hW] at hx0 ⊢
  clear hW
  have hWs := hx0.state.lt
  go_wp2_with fail
  refine (mStrip_v line (by omega) x HX _).mono ?_
  rintro e w1 ⟨rfl, rfl⟩
  go_wp2_with fail
  refine (mFields_v x hxs fs b HF HB _).mono ?_
  rintro e w2 ⟨A, q, rfl, hown, hb2⟩
  have hx2 := hx0.next hb2
  obtain ⟨s0, s1, s2⟩ := hx2.state.cells3
  go_wp2_with fail
  refine (mState_v o ow t _ ho how v HV).mono ?_
  rintro e w3 ⟨rfl, hb3⟩
  have hx3 := hx2.next hb3
  have hr3 := (Reads.of_own hown).below hb3 (Nat.le_refl _)
  have hbs3 := hb3.size
  have hcap := (own_cap hown).1
  have hown3 := own_next hown hb3
  clear hx0 hx2 hb2 hb3 hown s0 s1 s2
  subst hv hb
  obtain ⟨s0, s1, s2⟩ := hx3.state.cells3
  go_wp2_with fail
  refine (mRecord_v o ow t fs _ A _ q _ hr3 hbs3 hcap (by omega) ho how HSZ rr HRR ok HOK).mono ?_
  rintro e w5 ⟨N, T, K, A5, L5, c5, x5, y5, ns, rfl, hown5, hq5, hl5, hb5⟩
  clear s0 s1 s2
  have hx5 := (hx3.next hb5).alloc (.cells #[.string N, .int .i64 T, .int .i64 K, .slice A5 L5 c5, .string x5, .string y5] 25)
  have hn5 := Blk.new w5 25 [.string N, .int .i64 T, .int .i64 K, .slice A5 L5 c5, .string x5, .string y5]
  have hxD := hx5
  have howD : (w5.alloc (.cells #[.string N, .int .i64 T, .int .i64 K, .slice A5 L5 c5, .string x5, .string y5] 25)).ownsRow _ _ _ _ _ _ := hown5.alloc (.cells #[.string N, .int .i64 T, .int .i64 K, .slice A5 L5 c5, .string x5, .string y5] 25)
  have k1 := hx3.outS.lt
  have k2 := hx3.outR.lt
  have k3 : w5.heap.size ≠ w.heap.size + 1 := by have := (hx3.next hb5).outS.lt; omega
  clear hb5 hown5
  obtain ⟨s0, s1, s2⟩ := hx5.state.cells3
  obtain ⟨b0, b1, b2⟩ := hx5.bad.cells3
  obtain ⟨n0, n1, n2, n3, n4, n5⟩ := hx5.nil.cells6
  obtain ⟨r0, r1, r2⟩ := hx5.outS.cells3
  obtain ⟨rf0, rf1, rf2⟩ := hx5.outS.free3
  obtain ⟨z0, z1, z2, z3, z4, z5⟩ := hx5.outR.cells6
  obtain ⟨zf0, zf1, zf2, zf3, zf4, zf5⟩ := hx5.outR.free6
  obtain ⟨m0, m1, m2, m3, m4, m5⟩ := hn5.cells6
  cases ok with
  | false =>
    have HN := hid (show res = none by
      rw [hres.out]
      cases rr with
      | none => rfl
      | some s => cases HOK.out)
    have kE1 := hxD.end1 (.string ⟨#[]⟩) (.int .i64 0) (.string ⟨#[]⟩) (.string ⟨#[]⟩) (.int .i64 0) (.int .i64 0) (.slice none 0 0) (.string ⟨#[]⟩) (.string ⟨#[]⟩)
    have bE1 := hxD.low1 (.string ⟨#[]⟩) (.int .i64 0) (.string ⟨#[]⟩) (.string ⟨#[]⟩) (.int .i64 0) (.int .i64 0) (.slice none 0 0) (.string ⟨#[]⟩) (.string ⟨#[]⟩)
    obtain ⟨E1, hE1⟩ : ∃ E, ((((((((((w5.alloc (.cells #[.string N, .int .i64 T, .int .i64 K, .slice A5 L5 c5, .string x5, .string y5] 25)).setCell ⟨w.heap.size + 1, 0, none⟩ (.string ⟨#[]⟩)).setCell ⟨w.heap.size + 1, 1, none⟩ (.int .i64 0)).setCell ⟨w.heap.size + 1, 2, none⟩ (.string ⟨#[]⟩)).setCell ⟨w.heap.size + 1 + 1, 0, none⟩ (.string ⟨#[]⟩)).setCell ⟨w.heap.size + 1 + 1, 1, none⟩ (.int .i64 0)).setCell ⟨w.heap.size + 1 + 1, 2, none⟩ (.int .i64 0)).setCell ⟨w.heap.size + 1 + 1, 3, none⟩ (.slice none 0 0)).setCell ⟨w.heap.size + 1 + 1, 4, none⟩ (.string ⟨#[]⟩)).setCell ⟨w.heap.size + 1 + 1, 5, none⟩ (.string ⟨#[]⟩)) = E := ⟨_, rfl⟩
    rw [hE1] at kE1 bE1
    have HE1 := hid hE1
    clear hE1
    replace kE1 := kE1.drew
    replace bE1 := below_drewN bE1 1
    have kE2 := hxD.end2 (.string ⟨#[]⟩) (.int .i64 0) (.string ⟨#[]⟩) (.string ⟨#[]⟩) (.int .i64 0) (.int .i64 0) (.slice none 0 0) (.string ⟨#[]⟩) (.string ⟨#[]⟩)
    have bE2 := hxD.low2 (.string ⟨#[]⟩) (.int .i64 0) (.string ⟨#[]⟩) (.string ⟨#[]⟩) (.int .i64 0) (.int .i64 0) (.slice none 0 0) (.string ⟨#[]⟩) (.string ⟨#[]⟩)
    obtain ⟨E2, hE2⟩ : ∃ E, ((((((((((w5.alloc (.cells #[.string N, .int .i64 T, .int .i64 K, .slice A5 L5 c5, .string x5, .string y5] 25)).setCell ⟨w.heap.size + 1 + 1, 0, none⟩ (.string ⟨#[]⟩)).setCell ⟨w.heap.size + 1 + 1, 1, none⟩ (.int .i64 0)).setCell ⟨w.heap.size + 1 + 1, 2, none⟩ (.int .i64 0)).setCell ⟨w.heap.size + 1 + 1, 3, none⟩ (.slice none 0 0)).setCell ⟨w.heap.size + 1 + 1, 4, none⟩ (.string ⟨#[]⟩)).setCell ⟨w.heap.size + 1 + 1, 5, none⟩ (.string ⟨#[]⟩)).setCell ⟨w.heap.size + 1, 0, none⟩ (.string ⟨#[]⟩)).setCell ⟨w.heap.size + 1, 1, none⟩ (.int .i64 0)).setCell ⟨w.heap.size + 1, 2, none⟩ (.string ⟨#[]⟩)) = E := ⟨_, rfl⟩
    rw [hE2] at kE2 bE2
    have HE2 := hid hE2
    clear hE2
    replace kE2 := kE2.drew
    replace bE2 := below_drewN bE2 1
    go_wp2_with fail
    go_region
    all_goals go_wp2
    all_goals first
      | (rw [HE1.out]; exact ret_rl (w.heap.size + 1) (w.heap.size + 1 + 1) rfl rfl rfl rfl rfl kE1 (rl_bad HN.out rfl rfl bE1))
      | (rw [HE2.out]; exact ret_rl (w.heap.size + 1) (w.heap.size + 1 + 1) rfl rfl rfl rfl rfl kE2 (rl_bad HN.out rfl rfl bE2))
  | true =>
    have hn6 := three_apart hn5 k3 (.string o) (.int .i64 t) (.string ow)
    obtain ⟨y0, y1, y2, y3, y4, y5'⟩ := hn6.cells6
    have kE1 := hxD.end1 (.string o) (.int .i64 t) (.string ow) (.string N) (.int .i64 T) (.int .i64 K) (.slice A5 L5 c5) (.string x5) (.string y5)
    have bE1 := hxD.low1 (.string o) (.int .i64 t) (.string ow) (.string N) (.int .i64 T) (.int .i64 K) (.slice A5 L5 c5) (.string x5) (.string y5)
    have oE1 := own_mono (six_own (three_own howD k1 (.string o) (.int .i64 t) (.string ow)) k2 (.string N) (.int .i64 T) (.int .i64 K) (.slice A5 L5 c5) (.string x5) (.string y5)) hx3.below.size
    obtain ⟨E1, hE1⟩ : ∃ E, ((((((((((w5.alloc (.cells #[.string N, .int .i64 T, .int .i64 K, .slice A5 L5 c5, .string x5, .string y5] 25)).setCell ⟨w.heap.size + 1, 0, none⟩ (.string o)).setCell ⟨w.heap.size + 1, 1, none⟩ (.int .i64 t)).setCell ⟨w.heap.size + 1, 2, none⟩ (.string ow)).setCell ⟨w.heap.size + 1 + 1, 0, none⟩ (.string N)).setCell ⟨w.heap.size + 1 + 1, 1, none⟩ (.int .i64 T)).setCell ⟨w.heap.size + 1 + 1, 2, none⟩ (.int .i64 K)).setCell ⟨w.heap.size + 1 + 1, 3, none⟩ (.slice A5 L5 c5)).setCell ⟨w.heap.size + 1 + 1, 4, none⟩ (.string x5)).setCell ⟨w.heap.size + 1 + 1, 5, none⟩ (.string y5)) = E := ⟨_, rfl⟩
    rw [hE1] at kE1 bE1 oE1
    have HE1 := hid hE1
    clear hE1
    replace kE1 := kE1.drew
    replace bE1 := below_drewN bE1 1
    replace oE1 := own_drew oE1
    have kE2 := hxD.end2 (.string o) (.int .i64 t) (.string ow) (.string N) (.int .i64 T) (.int .i64 K) (.slice A5 L5 c5) (.string x5) (.string y5)
    have bE2 := hxD.low2 (.string o) (.int .i64 t) (.string ow) (.string N) (.int .i64 T) (.int .i64 K) (.slice A5 L5 c5) (.string x5) (.string y5)
    have oE2 := own_mono (three_own (six_own howD k2 (.string N) (.int .i64 T) (.int .i64 K) (.slice A5 L5 c5) (.string x5) (.string y5)) k1 (.string o) (.int .i64 t) (.string ow)) hx3.below.size
    obtain ⟨E2, hE2⟩ : ∃ E, ((((((((((w5.alloc (.cells #[.string N, .int .i64 T, .int .i64 K, .slice A5 L5 c5, .string x5, .string y5] 25)).setCell ⟨w.heap.size + 1 + 1, 0, none⟩ (.string N)).setCell ⟨w.heap.size + 1 + 1, 1, none⟩ (.int .i64 T)).setCell ⟨w.heap.size + 1 + 1, 2, none⟩ (.int .i64 K)).setCell ⟨w.heap.size + 1 + 1, 3, none⟩ (.slice A5 L5 c5)).setCell ⟨w.heap.size + 1 + 1, 4, none⟩ (.string x5)).setCell ⟨w.heap.size + 1 + 1, 5, none⟩ (.string y5)).setCell ⟨w.heap.size + 1, 0, none⟩ (.string o)).setCell ⟨w.heap.size + 1, 1, none⟩ (.int .i64 t)).setCell ⟨w.heap.size + 1, 2, none⟩ (.string ow)) = E := ⟨_, rfl⟩
    rw [hE2] at kE2 bE2 oE2
    have HE2 := hid hE2
    clear hE2
    replace kE2 := kE2.drew
    replace bE2 := below_drewN bE2 1
    replace oE2 := own_drew oE2
    go_wp2_with fail
    go_region
    all_goals go_wp2
    all_goals first
      | (rw [HE1.out]; exact ret_rl (w.heap.size + 1) (w.heap.size + 1 + 1) rfl rfl rfl rfl rfl kE1 (rl_some hres.out rfl HOK.out hq5.out rfl rfl oE1 hl5 bE1))
      | (rw [HE2.out]; exact ret_rl (w.heap.size + 1) (w.heap.size + 1 + 1) rfl rfl rfl rfl rfl kE2 (rl_some hres.out rfl HOK.out hq5.out rfl rfl oE2 hl5 bE2))
set_option maxHeartbeats 8000000 in
theorem rl_owner_bad (o ow line : ByteArray) (t : Int) (w : World) (ho : o.size ≤ 67108864) (how : ow.size ≤ 67108864) (hline : line.size ≤ 67108860) (x : ByteArray) (HX : Hid (bs (Z.strip false (lst line)) = x)) (hxs : x.size ≤ 67108860) (fs : List Z.Str) (b v : Bool) (HF : Hid ((Z.fields (lst x)).getD [] = fs)) (HB : Hid ((Z.fields (lst x)).isSome = b)) (HV : Hid (Z.stOk ⟨lst o, t, lst ow⟩ = v)) (hfn : fs.length ≤ 67108860) (HSZ : Hid (∀ l ∈ fs, l.length ≤ 67108864)) (res : Option (Z.St × Option Z.Rec)) (f : Z.Str) (r : List Z.Str) (hfs : fs = f :: r) (h0 : 0 < x.size) (hv : v = true) (hb : b = true) (h36 : ¬ (x[0].toNat : Int) = 36) (h32 : ¬ (x[0].toNat : Int) = 32) (y : ByteArray) (HY : Hid (bs ((Z.readName f (lst o)).getD []) = y)) (HOK : Hid ((Z.readName f (lst o)).isSome = false)) (hres : Hid (res = none)) :
    Calls Tryz.prog 22 #[.agg #[.string o, .int .i64 t, .string ow], .string line] w (RLOut res w) := by
  have q0 : ((fs.length : Int) == 0) = false := by rw [hfs]; simp; omega
  have HFS := hid hfs
  clear hfs
  have q1 : ((x[0].toNat : Int) == 36) = false := by simpa using h36
  have q2 : ((x[0].toNat : Int) != 32) = true := by simpa using h32
  have hx0 := rl_new w o ow t
  go_enter Tryz.func22, Tryz.ntmps22
  go_upto_region 3 with fail
  obtain ⟨W, hW⟩ : ∃ W, (((((w.alloc (.cells #[.string o, .int .i64 t, .string ow] 41)).alloc (.cells #[.string ⟨#[]⟩, .int .i64 0, .string ⟨#[]⟩] 41)).alloc (.cells #[.string ⟨#[]⟩, .int .i64 0, .int .i64 0, .slice none 0 0, .string ⟨#[]⟩, .string ⟨#[]⟩] 25)).alloc (.cells #[.string ⟨#[]⟩, .int .i64 0, .string ⟨#[]⟩] 41)).alloc (.cells #[.string ⟨#[]⟩, .int .i64 0, .int .i64 0, .slice none 0 0, .string ⟨#[]⟩, .string ⟨#[]⟩] 25)) = W := ⟨_, rfl⟩
  rw [hW] at hx0 ⊢
  clear hW
  have hWs := hx0.state.lt
  go_wp2_with fail
  refine (mStrip_v line (by omega) x HX _).mono ?_
  rintro e w1 ⟨rfl, rfl⟩
  go_wp2_with fail
  refine (mFields_v x hxs fs b HF HB _).mono ?_
  rintro e w2 ⟨A, q, rfl, hown, hb2⟩
  have hx2 := hx0.next hb2
  obtain ⟨s0, s1, s2⟩ := hx2.state.cells3
  go_wp2_with fail
  refine (mState_v o ow t _ ho how v HV).mono ?_
  rintro e w3 ⟨rfl, hb3⟩
  have hx3 := hx2.next hb3
  have hr3 := (Reads.of_own hown).below hb3 (Nat.le_refl _)
  have hbs3 := hb3.size
  have hcap := (own_cap hown).1
  have hown3 := own_next hown hb3
  clear hx0 hx2 hb2 hb3 hown s0 s1 s2
  subst hv hb
  obtain ⟨ad, z, rfl, hab, hz, hzs, hcell⟩ := fld_at hr3 (k := 0) (by rw [HFS.out]; simp) HSZ.out
  have hz1 : lst z = f := by rw [hz, HFS.out]; rfl
  rw [← hz1] at HY HOK
  rw [show ad.add 0 = ad from rfl] at hcell
  have qi : (0 : Int) < ((fs.length : Nat) : Int) := by rw [HFS.out]; simp
  clear hz hz1
  obtain ⟨s0, s1, s2⟩ := hx3.state.cells3
  have hxd := hx3.drew
  go_upto_region 15 with fail
  go_cut [15, 16] from 60 (fun v15 v16 wc => v15 = .string y ∧ v16 = .bool false ∧ Below w3.heap.size w3 wc)
  case first =>
    go_region_with (first
      | (go_at_call 65; refine (ReadName_eq z o hzs ho y false HY HOK _).mono ?_; rintro e w5 ⟨rfl, hb5⟩; have hb6 := (below_drewN (Below.refl w3.heap.size w3) 1).trans hb5))
    all_goals go_wp2
    all_goals go_meet
    all_goals exact ⟨rfl, rfl, hb6⟩
  case rest =>
  obtain ⟨rfl, rfl, hb6⟩ := hcut
  rename World => w4
  have hx4 := hx3.next hb6
  have hxD := hx4
  clear hxd s0 s1 s2 hcell
  obtain ⟨b0, b1, b2⟩ := hx4.bad.cells3
  obtain ⟨n0, n1, n2, n3, n4, n5⟩ := hx4.nil.cells6
  obtain ⟨r0, r1, r2⟩ := hx4.outS.cells3
  obtain ⟨rf0, rf1, rf2⟩ := hx4.outS.free3
  obtain ⟨z0, z1, z2, z3, z4, z5⟩ := hx4.outR.cells6
  obtain ⟨zf0, zf1, zf2, zf3, zf4, zf5⟩ := hx4.outR.free6
  have kE1 := hxD.end1 (.string ⟨#[]⟩) (.int .i64 0) (.string ⟨#[]⟩) (.string ⟨#[]⟩) (.int .i64 0) (.int .i64 0) (.slice none 0 0) (.string ⟨#[]⟩) (.string ⟨#[]⟩)
  have bE1 := hxD.low1 (.string ⟨#[]⟩) (.int .i64 0) (.string ⟨#[]⟩) (.string ⟨#[]⟩) (.int .i64 0) (.int .i64 0) (.slice none 0 0) (.string ⟨#[]⟩) (.string ⟨#[]⟩)
  obtain ⟨E1, hE1⟩ : ∃ E, (((((((((w4.setCell ⟨w.heap.size + 1, 0, none⟩ (.string ⟨#[]⟩)).setCell ⟨w.heap.size + 1, 1, none⟩ (.int .i64 0)).setCell ⟨w.heap.size + 1, 2, none⟩ (.string ⟨#[]⟩)).setCell ⟨w.heap.size + 1 + 1, 0, none⟩ (.string ⟨#[]⟩)).setCell ⟨w.heap.size + 1 + 1, 1, none⟩ (.int .i64 0)).setCell ⟨w.heap.size + 1 + 1, 2, none⟩ (.int .i64 0)).setCell ⟨w.heap.size + 1 + 1, 3, none⟩ (.slice none 0 0)).setCell ⟨w.heap.size + 1 + 1, 4, none⟩ (.string ⟨#[]⟩)).setCell ⟨w.heap.size + 1 + 1, 5, none⟩ (.string ⟨#[]⟩)) = E := ⟨_, rfl⟩
  rw [hE1] at kE1 bE1
  have HE1 := hid hE1
  clear hE1
  replace kE1 := kE1.drew
  replace bE1 := below_drewN bE1 1
  have kE2 := hxD.end2 (.string ⟨#[]⟩) (.int .i64 0) (.string ⟨#[]⟩) (.string ⟨#[]⟩) (.int .i64 0) (.int .i64 0) (.slice none 0 0) (.string ⟨#[]⟩) (.string ⟨#[]⟩)
  have bE2 := hxD.low2 (.string ⟨#[]⟩) (.int .i64 0) (.string ⟨#[]⟩) (.string ⟨#[]⟩) (.int .i64 0) (.int .i64 0) (.slice none 0 0) (.string ⟨#[]⟩) (.string ⟨#[]⟩)
  obtain ⟨E2, hE2⟩ : ∃ E, (((((((((w4.setCell ⟨w.heap.size + 1 + 1, 0, none⟩ (.string ⟨#[]⟩)).setCell ⟨w.heap.size + 1 + 1, 1, none⟩ (.int .i64 0)).setCell ⟨w.heap.size + 1 + 1, 2, none⟩ (.int .i64 0)).setCell ⟨w.heap.size + 1 + 1, 3, none⟩ (.slice none 0 0)).setCell ⟨w.heap.size + 1 + 1, 4, none⟩ (.string ⟨#[]⟩)).setCell ⟨w.heap.size + 1 + 1, 5, none⟩ (.string ⟨#[]⟩)).setCell ⟨w.heap.size + 1, 0, none⟩ (.string ⟨#[]⟩)).setCell ⟨w.heap.size + 1, 1, none⟩ (.int .i64 0)).setCell ⟨w.heap.size + 1, 2, none⟩ (.string ⟨#[]⟩)) = E := ⟨_, rfl⟩
  rw [hE2] at kE2 bE2
  have HE2 := hid hE2
  clear hE2
  replace kE2 := kE2.drew
  replace bE2 := below_drewN bE2 1
  go_wp2_with fail
  go_region
  all_goals go_wp2
  all_goals first
    | (rw [HE1.out]; exact ret_rl (w.heap.size + 1) (w.heap.size + 1 + 1) rfl rfl rfl rfl rfl kE1 (rl_bad hres.out rfl rfl bE1))
    | (rw [HE2.out]; exact ret_rl (w.heap.size + 1) (w.heap.size + 1 + 1) rfl rfl rfl rfl rfl kE2 (rl_bad hres.out rfl rfl bE2))
set_option maxHeartbeats 8000000 in
theorem rl_owner (o ow line : ByteArray) (t : Int) (w : World) (ho : o.size ≤ 67108864) (how : ow.size ≤ 67108864) (hline : line.size ≤ 67108860) (x : ByteArray) (HX : Hid (bs (Z.strip false (lst line)) = x)) (hxs : x.size ≤ 67108860) (fs : List Z.Str) (b v : Bool) (HF : Hid ((Z.fields (lst x)).getD [] = fs)) (HB : Hid ((Z.fields (lst x)).isSome = b)) (HV : Hid (Z.stOk ⟨lst o, t, lst ow⟩ = v)) (hfn : fs.length ≤ 67108860) (HSZ : Hid (∀ l ∈ fs, l.length ≤ 67108864)) (res : Option (Z.St × Option Z.Rec)) (f : Z.Str) (r : List Z.Str) (hfs : fs = f :: r) (h0 : 0 < x.size) (hv : v = true) (hb : b = true) (h36 : ¬ (x[0].toNat : Int) = 36) (h32 : ¬ (x[0].toNat : Int) = 32) (y : ByteArray) (HY : Hid (bs ((Z.readName f (lst o)).getD []) = y)) (HYK : Hid ((Z.readName f (lst o)).isSome = true)) (rr : Option Z.Rec) (HRR : Hid (Z.record ⟨lst o, t, lst y⟩ r = rr)) (hres : Hid (res = rr.map fun r => (⟨lst o, t, lst y⟩, some r))) :
    Calls Tryz.prog 22 #[.agg #[.string o, .int .i64 t, .string ow], .string line] w (RLOut res w) := by
  obtain ⟨ok, hok⟩ : ∃ ok, rr.isSome = ok := ⟨_, rfl⟩
  have HOK := hid hok
  clear hok
  have hys : y.size ≤ 67108864 := by rw [← HY.out]; exact Nat.le_trans (readName_size _ _) (by decide)
  have q0 : ((fs.length : Int) == 0) = false := by rw [hfs]; simp; omega
  have HFS := hid hfs
  clear hfs
  have q1 : ((x[0].toNat : Int) == 36) = false := by simpa using h36
  have q2 : ((x[0].toNat : Int) != 32) = true := by simpa using h32
  have hx0 := rl_new w o ow t
  go_enter Tryz.func22, Tryz.ntmps22
  go_upto_region 3 with fail
  obtain ⟨W, hW⟩ : ∃ W, (((((w.alloc (.cells #[.string o, .int .i64 t, .string ow] 41)).alloc (.cells #[.string ⟨#[]⟩, .int .i64 0, .string ⟨#[]⟩] 41)).alloc (.cells #[.string ⟨#[]⟩, .int .i64 0, .int .i64 0, .slice none 0 0, .string ⟨#[]⟩, .string ⟨#[]⟩] 25)).alloc (.cells #[.string ⟨#[]⟩, .int .i64 0, .string ⟨#[]⟩] 41)).alloc (.cells #[.string ⟨#[]⟩, .int .i64 0, .int .i64 0, .slice none 0 0, .string ⟨#[]⟩, .string ⟨#[]⟩] 25)) = W := ⟨_, rfl⟩
  rw [hW] at hx0 ⊢
  clear hW
  have hWs := hx0.state.lt
  go_wp2_with fail
  refine (mStrip_v line (by omega) x HX _).mono ?_
  rintro e w1 ⟨rfl, rfl⟩
  go_wp2_with fail
  refine (mFields_v x hxs fs b HF HB _).mono ?_
  rintro e w2 ⟨A, q, rfl, hown, hb2⟩
  have hx2 := hx0.next hb2
  obtain ⟨s0, s1, s2⟩ := hx2.state.cells3
  go_wp2_with fail
  refine (mState_v o ow t _ ho how v HV).mono ?_
  rintro e w3 ⟨rfl, hb3⟩
  have hx3 := hx2.next hb3
  have hr3 := (Reads.of_own hown).below hb3 (Nat.le_refl _)
  have hbs3 := hb3.size
  have hcap := (own_cap hown).1
  have hown3 := own_next hown hb3
  clear hx0 hx2 hb2 hb3 hown s0 s1 s2
  subst hv hb
  obtain ⟨ad, z, rfl, hab, hz, hzs, hcell⟩ := fld_at hr3 (k := 0) (by rw [HFS.out]; simp) HSZ.out
  have hz1 : lst z = f := by rw [hz, HFS.out]; rfl
  rw [← hz1] at HY HYK
  rw [show ad.add 0 = ad from rfl] at hcell
  have qi : (0 : Int) < ((fs.length : Nat) : Int) := by rw [HFS.out]; simp
  have hlr : fs.length - 1 = r.length := by rw [HFS.out]; rfl
  have hrc := hr3.cut (k := 1) hcap
  rw [show (fs.map sv).drop 1 = r.map sv by rw [HFS.out]; rfl] at hrc
  have HSR : Hid (∀ l ∈ r, l.length ≤ 67108864) := hid (fun l hl => HSZ.out l (by rw [HFS.out]; exact List.mem_cons_of_mem _ hl))
  clear hz hz1
  obtain ⟨s0, s1, s2⟩ := hx3.state.cells3
  have hxd := hx3.drew
  go_upto_region 15 with fail
  go_cut [15, 16] from 60 (fun v15 v16 wc => v15 = .string y ∧ v16 = .bool true ∧ Below w3.heap.size w3 wc)
  case first =>
    go_region_with (first
      | (go_at_call 65; refine (ReadName_eq z o hzs ho y true HY HYK _).mono ?_; rintro e w5 ⟨rfl, hb5⟩; have hb6 := (below_drewN (Below.refl w3.heap.size w3) 1).trans hb5))
    all_goals go_wp2
    all_goals go_meet
    all_goals exact ⟨rfl, rfl, hb6⟩
  case rest =>
  obtain ⟨rfl, rfl, hb6⟩ := hcut
  rename World => w4
  have hx4 := hx3.next hb6
  have hx6 := hx4.owner y
  have hown4 := own_next hown3 hb6
  have hown6 := ownsRow_setCell_below hown4 (a := ⟨w.heap.size, 2, none⟩) hWs (.string y)
  have hr6 := (Reads.of_own hown6).cut (k := 1) hcap
  rw [show (fs.map sv).drop 1 = r.map sv by rw [HFS.out]; rfl] at hr6
  obtain ⟨g0, g1, g2⟩ := hx4.state.free3
  clear hxd s0 s1 s2 hcell hrc hr3 hx3 hown4 hown6 hown3
  obtain ⟨s0, s1, s2⟩ := hx4.state.cells3
  have p1 : (1 : Int) ≤ ((fs.length : Nat) : Int) := by omega
  have p2 : ((fs.length : Nat) : Int) ≤ (q : Int) := by omega
  have u1 : fs.length - 1 ≤ q - 1 := by omega
  have u2 : fs.length - 1 ≤ 67108864 := by omega
  obtain ⟨V, hV⟩ : ∃ V, w4.setCell ⟨w.heap.size, 2, none⟩ (.string y) = V := ⟨_, rfl⟩
  rw [hV] at hx6 hr6
  have HV6 := hid hV
  clear hV
  by_cases hq1 : q = 1
  · rw [if_pos hq1, show fs.length - 1 = 0 by omega] at hr6
    have hf1 : fs.length = 1 := by omega
    subst hq1
    go_upto_region 20 with fail
    rw [HV6.out]
    clear s0 s1 s2 g0 g1 g2 hx4
    obtain ⟨s0, s1, s2⟩ := hx6.state.cells3
    go_wp2_with fail
    refine (mRecord_v o y t r _ _ 0 _ _ hr6 (Nat.le_refl _) (Nat.le_refl _) (Nat.zero_le _) ho hys HSR rr HRR ok HOK).mono ?_
    rintro e w5 ⟨N, T, K, A5, L5, c5, x5, y5, ns, rfl, hown5, hq5, hl5, hb5⟩
    clear s0 s1 s2
    have hx5 := (hx6.next hb5).alloc (.cells #[.string N, .int .i64 T, .int .i64 K, .slice A5 L5 c5, .string x5, .string y5] 25)
    have hn5 := Blk.new w5 25 [.string N, .int .i64 T, .int .i64 K, .slice A5 L5 c5, .string x5, .string y5]
    have hxD := hx5
    have howD : (w5.alloc (.cells #[.string N, .int .i64 T, .int .i64 K, .slice A5 L5 c5, .string x5, .string y5] 25)).ownsRow _ _ _ _ _ _ := hown5.alloc (.cells #[.string N, .int .i64 T, .int .i64 K, .slice A5 L5 c5, .string x5, .string y5] 25)
    have k1 := hx6.outS.lt
    have k2 := hx6.outR.lt
    have k3 : w5.heap.size ≠ w.heap.size + 1 := by have := (hx6.next hb5).outS.lt; omega
    clear hb5 hown5
    obtain ⟨s0, s1, s2⟩ := hx5.state.cells3
    obtain ⟨b0, b1, b2⟩ := hx5.bad.cells3
    obtain ⟨n0, n1, n2, n3, n4, n5⟩ := hx5.nil.cells6
    obtain ⟨r0, r1, r2⟩ := hx5.outS.cells3
    obtain ⟨rf0, rf1, rf2⟩ := hx5.outS.free3
    obtain ⟨z0, z1, z2, z3, z4, z5⟩ := hx5.outR.cells6
    obtain ⟨zf0, zf1, zf2, zf3, zf4, zf5⟩ := hx5.outR.free6
    obtain ⟨m0, m1, m2, m3, m4, m5⟩ := hn5.cells6
    cases ok with
    | false =>
      have HN := hid (show res = none by
        rw [hres.out]
        cases rr with
        | none => rfl
        | some s => cases HOK.out)
      have kE1 := hxD.end1 (.string ⟨#[]⟩) (.int .i64 0) (.string ⟨#[]⟩) (.string ⟨#[]⟩) (.int .i64 0) (.int .i64 0) (.slice none 0 0) (.string ⟨#[]⟩) (.string ⟨#[]⟩)
      have bE1 := hxD.low1 (.string ⟨#[]⟩) (.int .i64 0) (.string ⟨#[]⟩) (.string ⟨#[]⟩) (.int .i64 0) (.int .i64 0) (.slice none 0 0) (.string ⟨#[]⟩) (.string ⟨#[]⟩)
      obtain ⟨E1, hE1⟩ : ∃ E, ((((((((((w5.alloc (.cells #[.string N, .int .i64 T, .int .i64 K, .slice A5 L5 c5, .string x5, .string y5] 25)).setCell ⟨w.heap.size + 1, 0, none⟩ (.string ⟨#[]⟩)).setCell ⟨w.heap.size + 1, 1, none⟩ (.int .i64 0)).setCell ⟨w.heap.size + 1, 2, none⟩ (.string ⟨#[]⟩)).setCell ⟨w.heap.size + 1 + 1, 0, none⟩ (.string ⟨#[]⟩)).setCell ⟨w.heap.size + 1 + 1, 1, none⟩ (.int .i64 0)).setCell ⟨w.heap.size + 1 + 1, 2, none⟩ (.int .i64 0)).setCell ⟨w.heap.size + 1 + 1, 3, none⟩ (.slice none 0 0)).setCell ⟨w.heap.size + 1 + 1, 4, none⟩ (.string ⟨#[]⟩)).setCell ⟨w.heap.size + 1 + 1, 5, none⟩ (.string ⟨#[]⟩)) = E := ⟨_, rfl⟩
      rw [hE1] at kE1 bE1
      have HE1 := hid hE1
      clear hE1
      replace kE1 := kE1.drew
      replace bE1 := below_drewN bE1 1
      have kE2 := hxD.end2 (.string ⟨#[]⟩) (.int .i64 0) (.string ⟨#[]⟩) (.string ⟨#[]⟩) (.int .i64 0) (.int .i64 0) (.slice none 0 0) (.string ⟨#[]⟩) (.string ⟨#[]⟩)
      have bE2 := hxD.low2 (.string ⟨#[]⟩) (.int .i64 0) (.string ⟨#[]⟩) (.string ⟨#[]⟩) (.int .i64 0) (.int .i64 0) (.slice none 0 0) (.string ⟨#[]⟩) (.string ⟨#[]⟩)
      obtain ⟨E2, hE2⟩ : ∃ E, ((((((((((w5.alloc (.cells #[.string N, .int .i64 T, .int .i64 K, .slice A5 L5 c5, .string x5, .string y5] 25)).setCell ⟨w.heap.size + 1 + 1, 0, none⟩ (.string ⟨#[]⟩)).setCell ⟨w.heap.size + 1 + 1, 1, none⟩ (.int .i64 0)).setCell ⟨w.heap.size + 1 + 1, 2, none⟩ (.int .i64 0)).setCell ⟨w.heap.size + 1 + 1, 3, none⟩ (.slice none 0 0)).setCell ⟨w.heap.size + 1 + 1, 4, none⟩ (.string ⟨#[]⟩)).setCell ⟨w.heap.size + 1 + 1, 5, none⟩ (.string ⟨#[]⟩)).setCell ⟨w.heap.size + 1, 0, none⟩ (.string ⟨#[]⟩)).setCell ⟨w.heap.size + 1, 1, none⟩ (.int .i64 0)).setCell ⟨w.heap.size + 1, 2, none⟩ (.string ⟨#[]⟩)) = E := ⟨_, rfl⟩
      rw [hE2] at kE2 bE2
      have HE2 := hid hE2
      clear hE2
      replace kE2 := kE2.drew
      replace bE2 := below_drewN bE2 1
      go_wp2_with fail
      go_region
      all_goals go_wp2
      all_goals first
        | (rw [HE1.out]; exact ret_rl (w.heap.size + 1) (w.heap.size + 1 + 1) rfl rfl rfl rfl rfl kE1 (rl_bad HN.out rfl rfl bE1))
        | (rw [HE2.out]; exact ret_rl (w.heap.size + 1) (w.heap.size + 1 + 1) rfl rfl rfl rfl rfl kE2 (rl_bad HN.out rfl rfl bE2))
    | true =>
      have hn6 := three_apart hn5 k3 (.string o) (.int .i64 t) (.string y)
      obtain ⟨y0, y1, y2, y3, y4, y5'⟩ := hn6.cells6
      have kE1 := hxD.end1 (.string o) (.int .i64 t) (.string y) (.string N) (.int .i64 T) (.int .i64 K) (.slice A5 L5 c5) (.string x5) (.string y5)
      have bE1 := hxD.low1 (.string o) (.int .i64 t) (.string y) (.string N) (.int .i64 T) (.int .i64 K) (.slice A5 L5 c5) (.string x5) (.string y5)
      have oE1 := own_mono (six_own (three_own howD k1 (.string o) (.int .i64 t) (.string y)) k2 (.string N) (.int .i64 T) (.int .i64 K) (.slice A5 L5 c5) (.string x5) (.string y5)) hx6.below.size
      obtain ⟨E1, hE1⟩ : ∃ E, ((((((((((w5.alloc (.cells #[.string N, .int .i64 T, .int .i64 K, .slice A5 L5 c5, .string x5, .string y5] 25)).setCell ⟨w.heap.size + 1, 0, none⟩ (.string o)).setCell ⟨w.heap.size + 1, 1, none⟩ (.int .i64 t)).setCell ⟨w.heap.size + 1, 2, none⟩ (.string y)).setCell ⟨w.heap.size + 1 + 1, 0, none⟩ (.string N)).setCell ⟨w.heap.size + 1 + 1, 1, none⟩ (.int .i64 T)).setCell ⟨w.heap.size + 1 + 1, 2, none⟩ (.int .i64 K)).setCell ⟨w.heap.size + 1 + 1, 3, none⟩ (.slice A5 L5 c5)).setCell ⟨w.heap.size + 1 + 1, 4, none⟩ (.string x5)).setCell ⟨w.heap.size + 1 + 1, 5, none⟩ (.string y5)) = E := ⟨_, rfl⟩
      rw [hE1] at kE1 bE1 oE1
      have HE1 := hid hE1
      clear hE1
      replace kE1 := kE1.drew
      replace bE1 := below_drewN bE1 1
      replace oE1 := own_drew oE1
      have kE2 := hxD.end2 (.string o) (.int .i64 t) (.string y) (.string N) (.int .i64 T) (.int .i64 K) (.slice A5 L5 c5) (.string x5) (.string y5)
      have bE2 := hxD.low2 (.string o) (.int .i64 t) (.string y) (.string N) (.int .i64 T) (.int .i64 K) (.slice A5 L5 c5) (.string x5) (.string y5)
      have oE2 := own_mono (three_own (six_own howD k2 (.string N) (.int .i64 T) (.int .i64 K) (.slice A5 L5 c5) (.string x5) (.string y5)) k1 (.string o) (.int .i64 t) (.string y)) hx6.below.size
      obtain ⟨E2, hE2⟩ : ∃ E, ((((((((((w5.alloc (.cells #[.string N, .int .i64 T, .int .i64 K, .slice A5 L5 c5, .string x5, .string y5] 25)).setCell ⟨w.heap.size + 1 + 1, 0, none⟩ (.string N)).setCell ⟨w.heap.size + 1 + 1, 1, none⟩ (.int .i64 T)).setCell ⟨w.heap.size + 1 + 1, 2, none⟩ (.int .i64 K)).setCell ⟨w.heap.size + 1 + 1, 3, none⟩ (.slice A5 L5 c5)).setCell ⟨w.heap.size + 1 + 1, 4, none⟩ (.string x5)).setCell ⟨w.heap.size + 1 + 1, 5, none⟩ (.string y5)).setCell ⟨w.heap.size + 1, 0, none⟩ (.string o)).setCell ⟨w.heap.size + 1, 1, none⟩ (.int .i64 t)).setCell ⟨w.heap.size + 1, 2, none⟩ (.string y)) = E := ⟨_, rfl⟩
      rw [hE2] at kE2 bE2 oE2
      have HE2 := hid hE2
      clear hE2
      replace kE2 := kE2.drew
      replace bE2 := below_drewN bE2 1
      replace oE2 := own_drew oE2
      go_wp2_with fail
      go_region
      all_goals go_wp2
      all_goals first
        | (rw [HE1.out]; exact ret_rl (w.heap.size + 1) (w.heap.size + 1 + 1) rfl rfl rfl rfl rfl kE1 (rl_some hres.out rfl HOK.out hq5.out rfl rfl oE1 hl5 bE1))
        | (rw [HE2.out]; exact ret_rl (w.heap.size + 1) (w.heap.size + 1 + 1) rfl rfl rfl rfl rfl kE2 (rl_some hres.out rfl HOK.out hq5.out rfl rfl oE2 hl5 bE2))
  · rw [if_neg hq1, hlr] at hr6
    have hr6n : Reads V V.heap.size (some ⟨ad.block, ad.off + 1, none⟩) r.length (r.map sv) := hr6
    rw [hlr] at u1 u2
    go_upto_region 20 with fail
    rw [HV6.out]
    clear s0 s1 s2 g0 g1 g2 hx4
    obtain ⟨s0, s1, s2⟩ := hx6.state.cells3
    go_wp2_with fail
    refine (mRecord_v o y t r _ _ r.length _ _ hr6n (Nat.le_refl _) u1 u2 ho hys HSR rr HRR ok HOK).mono ?_
    rintro e w5 ⟨N, T, K, A5, L5, c5, x5, y5, ns, rfl, hown5, hq5, hl5, hb5⟩
    clear s0 s1 s2
    have hx5 := (hx6.next hb5).alloc (.cells #[.string N, .int .i64 T, .int .i64 K, .slice A5 L5 c5, .string x5, .string y5] 25)
    have hn5 := Blk.new w5 25 [.string N, .int .i64 T, .int .i64 K, .slice A5 L5 c5, .string x5, .string y5]
    have hxD := hx5
    have howD : (w5.alloc (.cells #[.string N, .int .i64 T, .int .i64 K, .slice A5 L5 c5, .string x5, .string y5] 25)).ownsRow _ _ _ _ _ _ := hown5.alloc (.cells #[.string N, .int .i64 T, .int .i64 K, .slice A5 L5 c5, .string x5, .string y5] 25)
    have k1 := hx6.outS.lt
    have k2 := hx6.outR.lt
    have k3 : w5.heap.size ≠ w.heap.size + 1 := by have := (hx6.next hb5).outS.lt; omega
    clear hb5 hown5
    obtain ⟨s0, s1, s2⟩ := hx5.state.cells3
    obtain ⟨b0, b1, b2⟩ := hx5.bad.cells3
    obtain ⟨n0, n1, n2, n3, n4, n5⟩ := hx5.nil.cells6
    obtain ⟨r0, r1, r2⟩ := hx5.outS.cells3
    obtain ⟨rf0, rf1, rf2⟩ := hx5.outS.free3
    obtain ⟨z0, z1, z2, z3, z4, z5⟩ := hx5.outR.cells6
    obtain ⟨zf0, zf1, zf2, zf3, zf4, zf5⟩ := hx5.outR.free6
    obtain ⟨m0, m1, m2, m3, m4, m5⟩ := hn5.cells6
    cases ok with
    | false =>
      have HN := hid (show res = none by
        rw [hres.out]
        cases rr with
        | none => rfl
        | some s => cases HOK.out)
      have kE1 := hxD.end1 (.string ⟨#[]⟩) (.int .i64 0) (.string ⟨#[]⟩) (.string ⟨#[]⟩) (.int .i64 0) (.int .i64 0) (.slice none 0 0) (.string ⟨#[]⟩) (.string ⟨#[]⟩)
      have bE1 := hxD.low1 (.string ⟨#[]⟩) (.int .i64 0) (.string ⟨#[]⟩) (.string ⟨#[]⟩) (.int .i64 0) (.int .i64 0) (.slice none 0 0) (.string ⟨#[]⟩) (.string ⟨#[]⟩)
      obtain ⟨E1, hE1⟩ : ∃ E, ((((((((((w5.alloc (.cells #[.string N, .int .i64 T, .int .i64 K, .slice A5 L5 c5, .string x5, .string y5] 25)).setCell ⟨w.heap.size + 1, 0, none⟩ (.string ⟨#[]⟩)).setCell ⟨w.heap.size + 1, 1, none⟩ (.int .i64 0)).setCell ⟨w.heap.size + 1, 2, none⟩ (.string ⟨#[]⟩)).setCell ⟨w.heap.size + 1 + 1, 0, none⟩ (.string ⟨#[]⟩)).setCell ⟨w.heap.size + 1 + 1, 1, none⟩ (.int .i64 0)).setCell ⟨w.heap.size + 1 + 1, 2, none⟩ (.int .i64 0)).setCell ⟨w.heap.size + 1 + 1, 3, none⟩ (.slice none 0 0)).setCell ⟨w.heap.size + 1 + 1, 4, none⟩ (.string ⟨#[]⟩)).setCell ⟨w.heap.size + 1 + 1, 5, none⟩ (.string ⟨#[]⟩)) = E := ⟨_, rfl⟩
      rw [hE1] at kE1 bE1
      have HE1 := hid hE1
      clear hE1
      replace kE1 := kE1.drew
      replace bE1 := below_drewN bE1 1
      have kE2 := hxD.end2 (.string ⟨#[]⟩) (.int .i64 0) (.string ⟨#[]⟩) (.string ⟨#[]⟩) (.int .i64 0) (.int .i64 0) (.slice none 0 0) (.string ⟨#[]⟩) (.string ⟨#[]⟩)
      have bE2 := hxD.low2 (.string ⟨#[]⟩) (.int .i64 0) (.string ⟨#[]⟩) (.string ⟨#[]⟩) (.int .i64 0) (.int .i64 0) (.slice none 0 0) (.string ⟨#[]⟩) (.string ⟨#[]⟩)
      obtain ⟨E2, hE2⟩ : ∃ E, ((((((((((w5.alloc (.cells #[.string N, .int .i64 T, .int .i64 K, .slice A5 L5 c5, .string x5, .string y5] 25)).setCell ⟨w.heap.size + 1 + 1, 0, none⟩ (.string ⟨#[]⟩)).setCell ⟨w.heap.size + 1 + 1, 1, none⟩ (.int .i64 0)).setCell ⟨w.heap.size + 1 + 1, 2, none⟩ (.int .i64 0)).setCell ⟨w.heap.size + 1 + 1, 3, none⟩ (.slice none 0 0)).setCell ⟨w.heap.size + 1 + 1, 4, none⟩ (.string ⟨#[]⟩)).setCell ⟨w.heap.size + 1 + 1, 5, none⟩ (.string ⟨#[]⟩)).setCell ⟨w.heap.size + 1, 0, none⟩ (.string ⟨#[]⟩)).setCell ⟨w.heap.size + 1, 1, none⟩ (.int .i64 0)).setCell ⟨w.heap.size + 1, 2, none⟩ (.string ⟨#[]⟩)) = E := ⟨_, rfl⟩
      rw [hE2] at kE2 bE2
      have HE2 := hid hE2
      clear hE2
      replace kE2 := kE2.drew
      replace bE2 := below_drewN bE2 1
      go_wp2_with fail
      go_region
      all_goals go_wp2
      all_goals first
        | (rw [HE1.out]; exact ret_rl (w.heap.size + 1) (w.heap.size + 1 + 1) rfl rfl rfl rfl rfl kE1 (rl_bad HN.out rfl rfl bE1))
        | (rw [HE2.out]; exact ret_rl (w.heap.size + 1) (w.heap.size + 1 + 1) rfl rfl rfl rfl rfl kE2 (rl_bad HN.out rfl rfl bE2))
    | true =>
      have hn6 := three_apart hn5 k3 (.string o) (.int .i64 t) (.string y)
      obtain ⟨y0, y1, y2, y3, y4, y5'⟩ := hn6.cells6
      have kE1 := hxD.end1 (.string o) (.int .i64 t) (.string y) (.string N) (.int .i64 T) (.int .i64 K) (.slice A5 L5 c5) (.string x5) (.string y5)
      have bE1 := hxD.low1 (.string o) (.int .i64 t) (.string y) (.string N) (.int .i64 T) (.int .i64 K) (.slice A5 L5 c5) (.string x5) (.string y5)
      have oE1 := own_mono (six_own (three_own howD k1 (.string o) (.int .i64 t) (.string y)) k2 (.string N) (.int .i64 T) (.int .i64 K) (.slice A5 L5 c5) (.string x5) (.string y5)) hx6.below.size
      obtain ⟨E1, hE1⟩ : ∃ E, ((((((((((w5.alloc (.cells #[.string N, .int .i64 T, .int .i64 K, .slice A5 L5 c5, .string x5, .string y5] 25)).setCell ⟨w.heap.size + 1, 0, none⟩ (.string o)).setCell ⟨w.heap.size + 1, 1, none⟩ (.int .i64 t)).setCell ⟨w.heap.size + 1, 2, none⟩ (.string y)).setCell ⟨w.heap.size + 1 + 1, 0, none⟩ (.string N)).setCell ⟨w.heap.size + 1 + 1, 1, none⟩ (.int .i64 T)).setCell ⟨w.heap.size + 1 + 1, 2, none⟩ (.int .i64 K)).setCell ⟨w.heap.size + 1 + 1, 3, none⟩ (.slice A5 L5 c5)).setCell ⟨w.heap.size + 1 + 1, 4, none⟩ (.string x5)).setCell ⟨w.heap.size + 1 + 1, 5, none⟩ (.string y5)) = E := ⟨_, rfl⟩
      rw [hE1] at kE1 bE1 oE1
      have HE1 := hid hE1
      clear hE1
      replace kE1 := kE1.drew
      replace bE1 := below_drewN bE1 1
      replace oE1 := own_drew oE1
      have kE2 := hxD.end2 (.string o) (.int .i64 t) (.string y) (.string N) (.int .i64 T) (.int .i64 K) (.slice A5 L5 c5) (.string x5) (.string y5)
      have bE2 := hxD.low2 (.string o) (.int .i64 t) (.string y) (.string N) (.int .i64 T) (.int .i64 K) (.slice A5 L5 c5) (.string x5) (.string y5)
      have oE2 := own_mono (three_own (six_own howD k2 (.string N) (.int .i64 T) (.int .i64 K) (.slice A5 L5 c5) (.string x5) (.string y5)) k1 (.string o) (.int .i64 t) (.string y)) hx6.below.size
      obtain ⟨E2, hE2⟩ : ∃ E, ((((((((((w5.alloc (.cells #[.string N, .int .i64 T, .int .i64 K, .slice A5 L5 c5, .string x5, .string y5] 25)).setCell ⟨w.heap.size + 1 + 1, 0, none⟩ (.string N)).setCell ⟨w.heap.size + 1 + 1, 1, none⟩ (.int .i64 T)).setCell ⟨w.heap.size + 1 + 1, 2, none⟩ (.int .i64 K)).setCell ⟨w.heap.size + 1 + 1, 3, none⟩ (.slice A5 L5 c5)).setCell ⟨w.heap.size + 1 + 1, 4, none⟩ (.string x5)).setCell ⟨w.heap.size + 1 + 1, 5, none⟩ (.string y5)).setCell ⟨w.heap.size + 1, 0, none⟩ (.string o)).setCell ⟨w.heap.size + 1, 1, none⟩ (.int .i64 t)).setCell ⟨w.heap.size + 1, 2, none⟩ (.string y)) = E := ⟨_, rfl⟩
      rw [hE2] at kE2 bE2 oE2
      have HE2 := hid hE2
      clear hE2
      replace kE2 := kE2.drew
      replace bE2 := below_drewN bE2 1
      replace oE2 := own_drew oE2
      go_wp2_with fail
      go_region
      all_goals go_wp2
      all_goals first
        | (rw [HE1.out]; exact ret_rl (w.heap.size + 1) (w.heap.size + 1 + 1) rfl rfl rfl rfl rfl kE1 (rl_some hres.out rfl HOK.out hq5.out rfl rfl oE1 hl5 bE1))
        | (rw [HE2.out]; exact ret_rl (w.heap.size + 1) (w.heap.size + 1 + 1) rfl rfl rfl rfl rfl kE2 (rl_some hres.out rfl HOK.out hq5.out rfl rfl oE2 hl5 bE2))
theorem fieldsN_sz : ∀ (n : Nat) (s : Z.Str) (fs : List Z.Str), Z.fieldsN n s = some fs → ∀ f ∈ fs, f.length ≤ s.length := by
  intro n
  induction n with
  | zero =>
    intro s fs h
    match s with
    | [] => simp [Z.fieldsN] at h; subst h; intro f hf; cases hf
    | _ :: _ => simp [Z.fieldsN] at h
  | succ n ih =>
    intro s fs h
    match s with
    | [] => simp [Z.fieldsN] at h; subst h; intro f hf; cases hf
    | c :: r =>
      simp only [Z.fieldsN] at h
      split at h
      · intro f hf
        have := ih _ _ h f hf
        simp; omega
      · split at h
        · split at h
          · cases h
          · split at h
            · rename_i x t hd _
              have hl : (r.takeWhile (· != 34)).length + (t.length + 1) = r.length := by
                have := congrArg List.length (List.takeWhile_append_dropWhile (p := (· != 34)) (l := r))
                rw [hd] at this
                simpa using this
              cases e : Z.fieldsN n t with
              | none => rw [e] at h; cases h
              | some gs =>
                rw [e] at h
                simp at h
                subst h
                intro f hf
                rcases List.mem_cons.1 hf with rfl | hf
                · simp; omega
                · have := ih _ _ e f hf
                  simp; omega
            · cases h
        · split at h
          · cases h
          · have hl : (r.takeWhile (fun x => !Z.isSep x)).length + (r.dropWhile (fun x => !Z.isSep x)).length = r.length := by
              have := congrArg List.length (List.takeWhile_append_dropWhile (p := fun x => !Z.isSep x) (l := r))
              rw [List.length_append] at this
              exact this
            cases e : Z.fieldsN n (r.dropWhile (fun x => !Z.isSep x)) with
            | none => rw [e] at h; cases h
            | some gs =>
              rw [e] at h
              simp at h
              subst h
              intro f hf
              rcases List.mem_cons.1 hf with rfl | hf
              · simp; omega
              · have := ih _ _ e f hf
                simp; omega
theorem fields_ne {x : ByteArray} {f : Z.Str} {r : List Z.Str} (h : Z.fields (lst x) = some (f :: r)) : 0 < x.size := by
  rcases Nat.eq_zero_or_pos x.size with h0 | h0
  · have : lst x = [] := List.length_eq_zero_iff.1 (by rw [lst_length]; exact h0)
    rw [this] at h
    simp [Z.fields, Z.fieldsN] at h
  · exact h0
theorem head_is {x : ByteArray} (h0 : 0 < x.size) (n : Nat) (hn : n < 256) : ((lst x).head? = some (UInt8.ofNat n)) ↔ (x[0].toNat : Int) = n := by
  rw [List.head?_eq_getElem?, List.getElem?_eq_getElem (by rw [lst_length]; exact h0), lst_get x 0 h0, Option.some.injEq]
  exact (byte_is hn).symm
theorem strip_len : ∀ (s : Z.Str) (q : Bool), (Z.strip q s).length ≤ s.length := by
  intro s
  induction s with
  | nil => intro q; simp [Z.strip]
  | cons c s ih =>
    intro q
    unfold Z.strip
    have h1 := ih q
    have h2 := ih (!q)
    split <;> (try split) <;> simp <;> omega
theorem ReadLine_any (o ow line : ByteArray) (t : Int) (w : World) (ho : o.size ≤ 67108864) (how : ow.size ≤ 67108864) (hline : line.size ≤ 67108860) :
    Calls Tryz.prog 22 #[.agg #[.string o, .int .i64 t, .string ow], .string line] w (RLOut (Z.readLine ⟨lst o, t, lst ow⟩ (lst line)) w) := by
  obtain ⟨x, hx⟩ : ∃ x, bs (Z.strip false (lst line)) = x := ⟨_, rfl⟩
  have hlx : Z.strip false (lst line) = lst x := by rw [← hx, lst_bs]
  have hxs : x.size ≤ 67108860 := by
    have h9 := strip_len (lst line) false
    rw [hlx, lst_length, lst_length] at h9
    omega
  have hres : Z.readLine ⟨lst o, t, lst ow⟩ (lst line) = if Z.stOk ⟨lst o, t, lst ow⟩ then (Z.fields (lst x)).bind (Z.readFields ⟨lst o, t, lst ow⟩ (lst x)) else none := by
    unfold Z.readLine
    rw [hlx]
  rw [hres]
  clear hres
  cases hv : Z.stOk ⟨lst o, t, lst ow⟩ with
  | false => exact rl_wrong o ow line t w ho how hline x (hid hx) hxs _ _ false (hid rfl) (hid rfl) (hid hv) (by
      cases hf : Z.fields (lst x) with
      | none => simp
      | some fs => have := fieldsN_length _ _ _ hf; rw [lst_length] at this; simp; omega) (hid (by
      cases hf : Z.fields (lst x) with
      | none => simp
      | some fs => exact fun f h => by have := fieldsN_sz _ _ _ hf f h; rw [lst_length] at this; omega)) _ rfl (hid rfl)
  | true =>
    cases hf : Z.fields (lst x) with
    | none => exact rl_wrong o ow line t w ho how hline x (hid hx) hxs [] false true (hid (by rw [hf]; rfl)) (hid (by rw [hf]; rfl)) (hid hv) (by simp) (hid (by simp)) _ rfl (hid rfl)
    | some fs =>
      have hfn : fs.length ≤ 67108860 := by have := fieldsN_length _ _ _ hf; rw [lst_length] at this; omega
      have HSZ : Hid (∀ l ∈ fs, l.length ≤ 67108864) := hid (fun f h => by have := fieldsN_sz _ _ _ hf f h; rw [lst_length] at this; omega)
      have H1 : Hid ((Z.fields (lst x)).getD [] = fs) := hid (by rw [hf]; rfl)
      have H2 : Hid ((Z.fields (lst x)).isSome = true) := hid (by rw [hf]; rfl)
      cases fs with
      | nil => exact rl_empty o ow line t w ho how hline x (hid hx) hxs [] true true H1 H2 (hid hv) hfn HSZ _ rfl rfl rfl (hid rfl)
      | cons f r =>
        have h0 := fields_ne hf
        have e36 := head_is h0 36 (by omega)
        have e32 := head_is h0 32 (by omega)
        by_cases h36 : (x[0].toNat : Int) = 36
        · refine rl_dollar o ow line t w ho how hline x (hid hx) hxs _ true true H1 H2 (hid hv) hfn HSZ _ f r rfl h0 rfl rfl h36 _ (hid rfl) (hid ?_)
          rw [if_pos rfl, Option.bind_some]
          unfold Z.readFields
          simp only [e36.2 h36]
          rfl
        · have n36 : ¬ (lst x).head? = some 36 := fun h => h36 (e36.1 h)
          by_cases h32 : (x[0].toNat : Int) = 32
          · refine rl_space o ow line t w ho how hline x (hid hx) hxs _ true true H1 H2 (hid hv) hfn HSZ _ f r rfl h0 rfl rfl h32 _ (hid rfl) (hid ?_)
            rw [if_pos rfl, Option.bind_some]
            unfold Z.readFields
            simp only [if_neg n36, e32.2 h32]
            rfl
          · have n32 : ¬ (lst x).head? = some 32 := fun h => h32 (e32.1 h)
            have hrf : Z.readFields ⟨lst o, t, lst ow⟩ (lst x) (f :: r) = (Z.readName f (lst o)).bind fun o' => (Z.record ⟨lst o, t, o'⟩ r).map (fun x => (⟨lst o, t, o'⟩, some x)) := by
              unfold Z.readFields
              simp only [if_neg n36, if_neg n32]
            cases hn : Z.readName f (lst o) with
            | none => exact rl_owner_bad o ow line t w ho how hline x (hid hx) hxs _ true true H1 H2 (hid hv) hfn HSZ _ f r rfl h0 rfl rfl h36 h32 _ (hid rfl) (hid (by rw [hn]; rfl)) (hid (by rw [if_pos rfl, Option.bind_some, hrf, hn]; rfl))
            | some n =>
              refine rl_owner o ow line t w ho how hline x (hid hx) hxs _ true true H1 H2 (hid hv) hfn HSZ _ f r rfl h0 rfl rfl h36 h32 (bs n) (hid (by rw [hn]; rfl)) (hid (by rw [hn]; rfl)) (Z.record ⟨lst o, t, n⟩ r) (hid (by rw [lst_bs])) (hid ?_)
              rw [if_pos rfl, Option.bind_some]
              rw [hrf, hn, lst_bs]
              rfl
end Go.Proofs.YtpgeeeamcncpkaaGreatDoor

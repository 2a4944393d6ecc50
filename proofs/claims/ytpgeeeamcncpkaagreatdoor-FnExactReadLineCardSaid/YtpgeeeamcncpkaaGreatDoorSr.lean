/- The scanner of master files in memory; what next and need do. -/
import Derived.Test.YtpgeeeamcncpkaaGreatDoorBk
import Derived.Test.YtpgeeeamcncpkaaGreatDoorMc
import Derived.Test.YtpgeeeamcncpkaaGreatDoorPc
import Derived.Outline
import Derived.WalkLawsBesides
namespace Go.Proofs.YtpgeeeamcncpkaaGreatDoor
open Go.RowKit
set_option maxRecDepth 100000
set_option linter.unusedVariables false
set_option linter.unusedSimpArgs false

/-- What a line that cannot be read panics with. -/
def lineErr (l : Int) : Value := .iface 140 (.agg #[.int .i64 l])
/-- All is as it was but the block b and what is new. -/
structure FarB (b : Nat) (w w' : World) : Prop where
  below : Below b w w'
  keep : ∀ k t cs, k ≠ b → Blk w k t cs → Blk w' k t cs
theorem FarB.refl (b : Nat) (w : World) : FarB b w w := ⟨Below.refl _ _, fun _ _ _ _ h => h⟩
theorem FarB.trans {b : Nat} {w w' w'' : World} (h : FarB b w w') (k : FarB b w' w'') : FarB b w w'' := ⟨h.below.trans k.below, fun i t cs hi hb => k.keep i t cs hi (h.keep i t cs hi hb)⟩
theorem FarB.of {b : Nat} {w w' : World} (hb : Below w.heap.size w w') (hlt : b ≤ w.heap.size) : FarB b w w' := ⟨hb.mono hlt, fun _ _ _ _ h => h.next hb⟩
theorem FarB.put (b : Nat) (w : World) (i : Nat) (v : Value) : FarB b w (w.setCell ⟨b, i, none⟩ v) := ⟨(Below.refl b w).setCell (p := ⟨b, i, none⟩) (Nat.le_refl _) v, fun _ _ _ hk h => h.far (p := ⟨b, i, none⟩) hk v⟩
theorem FarB.size {b : Nat} {w w' : World} (h : FarB b w w') : w.heap.size ≤ w'.heap.size := h.below.size
/-- A slice of strings that lies in a block behind b. -/
def Flds (b : Nat) (w : World) (A : Option Addr) (c : Nat) (fs : List Z.Str) : Prop :=
  fs.length ≤ c ∧ (0 < fs.length → ∃ g off cs, A = some ⟨g, off, none⟩ ∧ b < g ∧ Blk w g 9 cs ∧ ∀ j u, (fs.map sv)[j]? = some u → cs[off + j]? = some u)
theorem Flds.far {b : Nat} {w w' : World} {A : Option Addr} {c : Nat} {fs : List Z.Str} (h : Flds b w A c fs) (k : FarB b w w') : Flds b w' A c fs :=
  ⟨h.1, fun hn => by
    obtain ⟨g, off, cs, e, hg, hb, hc⟩ := h.2 hn
    exact ⟨g, off, cs, e, hg, k.keep _ _ _ (by omega) hb, hc⟩⟩
theorem Flds.reads {b : Nat} {w : World} {A : Option Addr} {c : Nat} {fs : List Z.Str} (h : Flds b w A c fs) : Reads w w.heap.size A fs.length (fs.map sv) :=
  ⟨by simp, fun hn => by
    obtain ⟨g, off, cs, e, hg, hb, hc⟩ := h.2 hn
    refine ⟨_, e, hb.lt, fun j u hu => ?_⟩
    rw [Addr.add_lit, hb.cell]
    exact hc j u hu⟩
theorem Flds.of_own {b base : Nat} {w : World} {A : Option Addr} {c : Nat} {fs : List Z.Str} (h : w.ownsRow base 9 1 (.slice A fs.length c) fs.length (fs.map sv)) (hb : b < base) : Flds b w A c fs := by
  refine ⟨(own_cap h).1, fun hn => ?_⟩
  rcases h.2 with ⟨h1, h2⟩ | ⟨g, cap, cur, hv, hg, hh, h3, h4, h5, h6⟩
  · exact absurd h2 (by omega)
  · injection hv with hA
    refine ⟨g, 0, cur.toList, hA, by omega, by unfold Blk; exact hh, fun j u hu => ?_⟩
    have hj := (List.getElem?_eq_some_iff.1 hu).1
    rw [List.length_map] at hj
    rw [← h6] at hu
    rw [List.getElem?_take, if_pos (by omega)] at hu
    rw [Nat.zero_add]
    exact hu
theorem Flds.tail {b : Nat} {w : World} {A : Option Addr} {c : Nat} {f : Z.Str} {fs : List Z.Str} (h : Flds b w A c (f :: fs)) : Flds b w (if c = 1 then A else A.map (·.add 1)) (c - 1) fs := by
  have hc := h.1
  simp only [List.length_cons] at hc
  refine ⟨by omega, fun hn => ?_⟩
  obtain ⟨g, off, cs, e, hg, hb, hx⟩ := h.2 (by simp)
  rw [if_neg (by omega), e]
  refine ⟨g, off + 1, cs, by simp [Addr.add_lit], hg, hb, fun j u hu => ?_⟩
  rw [Nat.add_assoc, Nat.add_comm 1 j]
  exact hx (j + 1) u (by simpa using hu)
theorem Flds.head {b : Nat} {w : World} {A : Option Addr} {c : Nat} {f : Z.Str} {fs : List Z.Str} (h : Flds b w A c (f :: fs)) : ∃ ad y, A = some ad ∧ lst y = f ∧ w.cell? ad = some (.string y) := by
  obtain ⟨ad, s, e, hb, hx, hc⟩ := reads_str h.reads (k := 0) (by simp)
  have e0 : ad.add 0 = ad := by unfold Addr.add; simp
  rw [e0] at hc
  exact ⟨ad, s, e, by simpa using hx, hc⟩

theorem need_yes (p : Addr) (w : World) :
    Calls Tryz.prog 146 #[.pointer (some p), .bool true] w fun e w' => e = .returned (.tuple #[]) ∧ w = w' := by
  go_enter Tryz.func146, Tryz.ntmps146
  go_wp2
  go_end0
  exact ⟨rfl, rfl⟩
theorem need_no (b : Nat) (l : Int) (w : World) (h3 : w.cell? ⟨b, 3, none⟩ = some (.int .i64 l)) :
    Calls Tryz.prog 146 #[.pointer (some ⟨b, 0, none⟩), .bool false] w fun e w' => e = .panicked [{ v := lineErr l, recovered := false }] ∧ w = w' := by
  go_enter Tryz.func146, Tryz.ntmps146
  go_wp2
  exact ⟨rfl, rfl, rfl⟩
def TS : TypeId := 87
theorem next_none (b : Nat) (o ow : ByteArray) (t l : Int) (A : Option Addr) (c : Nat) (LV : Value) (w : World) (hs : Blk w b TS [.string o, .int .i64 t, .string ow, .int .i64 l, .slice A 0 c, LV]) :
    Calls Tryz.prog 171 #[.pointer (some ⟨b, 0, none⟩)] w fun e w' => e = .panicked [{ v := lineErr l, recovered := false }] ∧ w = w' := by
  obtain ⟨c0, c1, c2, c3, c4, c5⟩ := hs.cells6
  go_enter Tryz.func171, Tryz.ntmps171
  go_wp2_with fail
  refine (need_no b l w c3).mono ?_
  rintro e w2 ⟨rfl, rfl⟩
  go_wp2
  exact ⟨rfl, rfl, rfl⟩
theorem next_some (b : Nat) (o ow : ByteArray) (t l : Int) (A : Option Addr) (c : Nat) (LV : Value) (w : World) (f : Z.Str) (fs : List Z.Str) (hs : Blk w b TS [.string o, .int .i64 t, .string ow, .int .i64 l, .slice A (f :: fs).length c, LV]) (hf : Flds b w A c (f :: fs)) :
    Calls Tryz.prog 171 #[.pointer (some ⟨b, 0, none⟩)] w fun e w' => ∃ y A' c', e = .returned (.string y) ∧ lst y = f ∧ Blk w' b TS [.string o, .int .i64 t, .string ow, .int .i64 l, .slice A' fs.length c', LV] ∧ Flds b w' A' c' fs ∧ FarB b w w' := by
  obtain ⟨ad, y, rfl, hy, hcell⟩ := hf.head
  have htl := hf.tail
  have hcap := hf.1
  obtain ⟨c0, c1, c2, c3, c4, c5⟩ := hs.cells6
  obtain ⟨f0, f1, f2, f3, f4, f5⟩ := hs.free6
  simp only [List.length_cons] at c4 hcap
  have p1 : 0 < ((fs.length + 1 : Nat) : Int) := by omega
  have hput := hs.put 4 (.slice (if c = 1 then some ad else (some ad).map (·.add 1)) fs.length (c - 1))
  have hfar := FarB.put b w 4 (.slice (if c = 1 then some ad else (some ad).map (·.add 1)) fs.length (c - 1))
  have HT := hid (htl.far hfar)
  have HP := hid hput
  have HF := hid hfar
  clear htl hput hfar hf hs
  by_cases hc : c = 1
  · subst hc
    obtain rfl : fs = [] := List.eq_nil_of_length_eq_zero (by omega)
    simp only [if_true] at HT HP HF
    go_enter Tryz.func171, Tryz.ntmps171
    go_wp2_with fail
    refine (need_yes ⟨b, 0, none⟩ w).mono ?_
    rintro e w2 ⟨rfl, rfl⟩
    go_wp2
    go_ret
    exact ⟨y, _, _, rfl, hy, HP.out, HT.out, HF.out⟩
  · simp only [if_neg hc] at HT HP HF
    go_enter Tryz.func171, Tryz.ntmps171
    go_wp2_with fail
    refine (need_yes ⟨b, 0, none⟩ w).mono ?_
    rintro e w2 ⟨rfl, rfl⟩
    go_wp2
    go_ret
    exact ⟨y, _, _, rfl, hy, HP.out, HT.out, HF.out⟩
end Go.Proofs.YtpgeeeamcncpkaaGreatDoor

/- What ParseRecord of the model returns. What ParseRecord of the model returns. -/
import Derived.Test.YtpgeeeamcncpkaaGreatDoorSk
import Derived.Test.YtpgeeeamcncpkaaGreatDoorSi
import Derived.Test.YtpgeeeamcncpkaaGreatDoorBk
import Derived.Outline
namespace Go.Proofs.YtpgeeeamcncpkaaGreatDoor
open Go.RowKit
set_option maxRecDepth 100000
set_option linter.unusedVariables false

theorem ret_parse {a : Act} {W : World} {post : Ending → World → Prop} (b : Nat) {c0 c1 c2 c3 c4 c5 ok : Value} (hp : a.tmps[2]?.getD undef = .pointer (some ⟨b, 0, none⟩)) (hk : a.tmps[3]?.getD undef = ok) (hd : a.defers = [])
    (h0 : W.cell? ⟨b, 0, none⟩ = some c0) (h1 : W.cell? ⟨b, 1, none⟩ = some c1) (h2 : W.cell? ⟨b, 2, none⟩ = some c2) (h3 : W.cell? ⟨b, 3, none⟩ = some c3) (h4 : W.cell? ⟨b, 4, none⟩ = some c4) (h5 : W.cell? ⟨b, 5, none⟩ = some c5)
    (h : post (.returned (.tuple #[.agg #[c0, c1, c2, c3, c4, c5], ok])) W) : bodyPost Tryz.prog Tryz.f123 post Exit.ret a W :=
  bodyPost_ret (by simp [results, Tryz.results123, go_sem, hp, hk, h0, h1, h2, h3, h4, h5]) hd h

/-- The record that is no record. -/
def noRec : Z.Rec := ⟨[], 0, 0, [], [], []⟩
/-- What ParseRecord leaves. -/
def ParseOut (o : Option Z.Rec) (w : World) (e : Ending) (w' : World) : Prop :=
  ∃ (N : ByteArray) (T K : Int) (A : Option Addr) (L c : Nat) (x y : ByteArray) (ns : List Int), e = .returned (.tuple #[.agg #[.string N, .int .i64 T, .int .i64 K, .slice A L c, .string x, .string y], .bool o.isSome]) ∧ w'.ownsRow w.heap.size 3 1 (.slice A L c) L (ns.map iv) ∧ o.getD noRec = ⟨lst N, T, K, ns, lst x, lst y⟩ ∧ L ≤ 7 ∧ Below w.heap.size w w'

theorem KindOf_some (s : ByteArray) {k : Int} (hk : Hid (Z.kindOf (lst s) = some k)) (w : World) :
    Calls Tryz.prog 114 #[.string s] w fun e w' => e = .returned (.tuple #[.int .i64 k, .bool true]) ∧ Below w.heap.size w w' := by
  have h := KindOf_any s w
  rw [hk.out] at h
  exact h
theorem KindOf_none (s : ByteArray) (hk : Hid (Z.kindOf (lst s) = none)) (w : World) :
    Calls Tryz.prog 114 #[.string s] w fun e w' => e = .returned (.tuple #[.int .i64 0, .bool false]) ∧ Below w.heap.size w w' := by
  have h := KindOf_any s w
  rw [hk.out] at h
  exact h

theorem size_alloc' (w : World) (o : Obj) : (w.alloc o).heap.size = w.heap.size + 1 := by simp
set_option maxHeartbeats 4000000 in
theorem parse_num (s : ByteArray) (hs : s.size ≤ 67108864) (w : World) (h : Z.num (Z.fld (Z.rst (lst s))) = none) :
    Calls Tryz.prog 123 #[.string s] w (ParseOut none w) := by
  go_enter Tryz.func123, Tryz.ntmps123
  go_wp2_with fail
  refine (l2Field_any s 0 (Nat.zero_le _) hs _).mono ?_
  rintro e w1 ⟨x1, q1, rfl, hq1, h1, g1, rfl⟩
  rw [List.drop_zero] at h1 g1
  have H1 := hid h1
  have G1 := hid g1
  clear h1 g1
  go_wp2_with fail
  refine (l2Field_any s q1 hq1 hs _).mono ?_
  rintro e w1 ⟨x2, q2, rfl, hq2, h2, g2, rfl⟩
  rw [G1.out] at h2 g2
  have hx2 : x2.size ≤ s.size := by
    have h9 := congrArg List.length h2
    have h8 := fld_le (Z.rst (lst s))
    have h7 : (Z.rst (lst s)).length ≤ (lst s).length := by rw [← G1.out, List.length_drop]; omega
    rw [lst_length] at h9 h7
    omega
  have H2 := hid h2
  have G2 := hid g2
  clear h2 g2
  go_wp2_with fail
  refine (l2Field_any s q2 hq2 hs _).mono ?_
  rintro e w1 ⟨x3, q3, rfl, hq3, h3, g3, rfl⟩
  rw [G2.out] at h3 g3
  have H3 := hid h3
  have G3 := hid g3
  clear h3 g3
  go_wp2_with fail
  have HN := hid (show Z.num (lst x2) = none by rw [H2.out]; exact h)
  clear h
  refine (l13Num_none x2 (by omega) HN _).mono ?_
  rintro e w1 ⟨rfl, rfl⟩
  go_wp2_with fail
  cases hk : Z.kindOf (lst x3) with
  | none =>
    have HK := hid hk
    clear hk
    refine (KindOf_none x3 HK _).mono ?_
    rintro e w3 ⟨rfl, hb3⟩
    obtain ⟨hc3, hf3⟩ := bcell hb3
    have r0 : w3.cell? ⟨w.heap.size, 0, none⟩ = some (.string ⟨#[]⟩) := (hc3 _ _ (by simp; try omega)).trans (by go_simp)
    have r1 : w3.cell? ⟨w.heap.size, 1, none⟩ = some (.int .i64 0) := (hc3 _ _ (by simp; try omega)).trans (by go_simp)
    have r2 : w3.cell? ⟨w.heap.size, 2, none⟩ = some (.int .i64 0) := (hc3 _ _ (by simp; try omega)).trans (by go_simp)
    have r3 : w3.cell? ⟨w.heap.size, 3, none⟩ = some (.slice none 0 0) := (hc3 _ _ (by simp; try omega)).trans (by go_simp)
    have r4 : w3.cell? ⟨w.heap.size, 4, none⟩ = some (.string ⟨#[]⟩) := (hc3 _ _ (by simp; try omega)).trans (by go_simp)
    have r5 : w3.cell? ⟨w.heap.size, 5, none⟩ = some (.string ⟨#[]⟩) := (hc3 _ _ (by simp; try omega)).trans (by go_simp)
    go_wp2
    refine ret_parse w.heap.size rfl rfl rfl (c0 := .string ⟨#[]⟩) (c1 := .int .i64 0) (c2 := .int .i64 0) (c3 := .slice none 0 0) (c4 := .string ⟨#[]⟩) (c5 := .string ⟨#[]⟩) (by go_simp) (by go_simp) (by go_simp) (by go_simp) (by go_simp) (by go_simp) ⟨⟨#[]⟩, 0, 0, none, 0, 0, ⟨#[]⟩, ⟨#[]⟩, [], rfl, World.ownsRow_nil _ _ _ _, rfl, Nat.zero_le _, ?_⟩
    have hbw : Below w.heap.size w w3 := Below.trans (by go_grown) (hb3.mono (by simp; try omega))
    clear hc3 hf3 hb3
    go_grown
  | some k =>
    have HK := hid hk
    clear hk
    refine (KindOf_some x3 HK _).mono ?_
    rintro e w3 ⟨rfl, hb3⟩
    obtain ⟨hc3, hf3⟩ := bcell hb3
    have r0 : w3.cell? ⟨w.heap.size, 0, none⟩ = some (.string ⟨#[]⟩) := (hc3 _ _ (by simp; try omega)).trans (by go_simp)
    have r1 : w3.cell? ⟨w.heap.size, 1, none⟩ = some (.int .i64 0) := (hc3 _ _ (by simp; try omega)).trans (by go_simp)
    have r2 : w3.cell? ⟨w.heap.size, 2, none⟩ = some (.int .i64 0) := (hc3 _ _ (by simp; try omega)).trans (by go_simp)
    have r3 : w3.cell? ⟨w.heap.size, 3, none⟩ = some (.slice none 0 0) := (hc3 _ _ (by simp; try omega)).trans (by go_simp)
    have r4 : w3.cell? ⟨w.heap.size, 4, none⟩ = some (.string ⟨#[]⟩) := (hc3 _ _ (by simp; try omega)).trans (by go_simp)
    have r5 : w3.cell? ⟨w.heap.size, 5, none⟩ = some (.string ⟨#[]⟩) := (hc3 _ _ (by simp; try omega)).trans (by go_simp)
    go_wp2
    refine ret_parse w.heap.size rfl rfl rfl (c0 := .string ⟨#[]⟩) (c1 := .int .i64 0) (c2 := .int .i64 0) (c3 := .slice none 0 0) (c4 := .string ⟨#[]⟩) (c5 := .string ⟨#[]⟩) (by go_simp) (by go_simp) (by go_simp) (by go_simp) (by go_simp) (by go_simp) ⟨⟨#[]⟩, 0, 0, none, 0, 0, ⟨#[]⟩, ⟨#[]⟩, [], rfl, World.ownsRow_nil _ _ _ _, rfl, Nat.zero_le _, ?_⟩
    have hbw : Below w.heap.size w w3 := Below.trans (by go_grown) (hb3.mono (by simp; try omega))
    clear hc3 hf3 hb3
    go_grown

set_option maxHeartbeats 4000000 in
theorem parse_kind (s : ByteArray) (hs : s.size ≤ 67108864) (w : World) (n : Int) (hn : Z.num (Z.fld (Z.rst (lst s))) = some n) (h : Z.kindOf (Z.fld (Z.rst (Z.rst (lst s)))) = none) :
    Calls Tryz.prog 123 #[.string s] w (ParseOut none w) := by
  go_enter Tryz.func123, Tryz.ntmps123
  go_wp2_with fail
  refine (l2Field_any s 0 (Nat.zero_le _) hs _).mono ?_
  rintro e w1 ⟨x1, q1, rfl, hq1, h1, g1, rfl⟩
  rw [List.drop_zero] at h1 g1
  have H1 := hid h1
  have G1 := hid g1
  clear h1 g1
  go_wp2_with fail
  refine (l2Field_any s q1 hq1 hs _).mono ?_
  rintro e w1 ⟨x2, q2, rfl, hq2, h2, g2, rfl⟩
  rw [G1.out] at h2 g2
  have hx2 : x2.size ≤ s.size := by
    have h9 := congrArg List.length h2
    have h8 := fld_le (Z.rst (lst s))
    have h7 : (Z.rst (lst s)).length ≤ (lst s).length := by rw [← G1.out, List.length_drop]; omega
    rw [lst_length] at h9 h7
    omega
  have H2 := hid h2
  have G2 := hid g2
  clear h2 g2
  go_wp2_with fail
  refine (l2Field_any s q2 hq2 hs _).mono ?_
  rintro e w1 ⟨x3, q3, rfl, hq3, h3, g3, rfl⟩
  rw [G2.out] at h3 g3
  have H3 := hid h3
  have G3 := hid g3
  clear h3 g3
  go_wp2_with fail
  have HN := hid (show Z.num (lst x2) = some n by rw [H2.out]; exact hn)
  have HK := hid (show Z.kindOf (lst x3) = none by rw [H3.out]; exact h)
  clear h hn
  refine (l13Num_some x2 (by omega) HN _).mono ?_
  rintro e w1 ⟨rfl, rfl⟩
  go_wp2_with fail
  refine (KindOf_none x3 HK _).mono ?_
  rintro e w3 ⟨rfl, hb3⟩
  obtain ⟨hc3, hf3⟩ := bcell hb3
  have r0 : w3.cell? ⟨w.heap.size, 0, none⟩ = some (.string ⟨#[]⟩) := (hc3 _ _ (by simp; try omega)).trans (by go_simp)
  have r1 : w3.cell? ⟨w.heap.size, 1, none⟩ = some (.int .i64 0) := (hc3 _ _ (by simp; try omega)).trans (by go_simp)
  have r2 : w3.cell? ⟨w.heap.size, 2, none⟩ = some (.int .i64 0) := (hc3 _ _ (by simp; try omega)).trans (by go_simp)
  have r3 : w3.cell? ⟨w.heap.size, 3, none⟩ = some (.slice none 0 0) := (hc3 _ _ (by simp; try omega)).trans (by go_simp)
  have r4 : w3.cell? ⟨w.heap.size, 4, none⟩ = some (.string ⟨#[]⟩) := (hc3 _ _ (by simp; try omega)).trans (by go_simp)
  have r5 : w3.cell? ⟨w.heap.size, 5, none⟩ = some (.string ⟨#[]⟩) := (hc3 _ _ (by simp; try omega)).trans (by go_simp)
  go_wp2
  refine ret_parse w.heap.size rfl rfl rfl (c0 := .string ⟨#[]⟩) (c1 := .int .i64 0) (c2 := .int .i64 0) (c3 := .slice none 0 0) (c4 := .string ⟨#[]⟩) (c5 := .string ⟨#[]⟩) (by go_simp) (by go_simp) (by go_simp) (by go_simp) (by go_simp) (by go_simp) ⟨⟨#[]⟩, 0, 0, none, 0, 0, ⟨#[]⟩, ⟨#[]⟩, [], rfl, World.ownsRow_nil _ _ _ _, rfl, Nat.zero_le _, ?_⟩
  have hbw : Below w.heap.size w w3 := Below.trans (by go_grown) (hb3.mono (by simp; try omega))
  clear hc3 hf3 hb3
  go_grown
end Go.Proofs.YtpgeeeamcncpkaaGreatDoor

namespace Go.Proofs.YtpgeeeamcncpkaaGreatDoor
open Go.RowKit
set_option maxRecDepth 100000
set_option linter.unusedVariables false

set_option maxHeartbeats 4000000 in
theorem parse_put (s : ByteArray) (hs : s.size ≤ 67108864) (w : World) (n k : Int) (hn : Z.num (Z.fld (Z.rst (lst s))) = some n) (hk : Z.kindOf (Z.fld (Z.rst (Z.rst (lst s)))) = some k) (hp : Z.put k (Z.rst (Z.rst (Z.rst (lst s)))) = none) :
    Calls Tryz.prog 123 #[.string s] w (ParseOut (none) w) := by
  go_enter Tryz.func123, Tryz.ntmps123
  go_wp2_with fail
  refine (l2Field_any s 0 (Nat.zero_le _) hs _).mono ?_
  rintro e w1 ⟨x1, q1, rfl, hq1, h1, g1, rfl⟩
  rw [List.drop_zero] at h1 g1
  have hx1 : x1.size ≤ s.size := by
    have h9 := congrArg List.length h1
    have h8 := fld_le (lst s)
    rw [lst_length] at h9 h8
    omega
  have H1 := hid h1
  have G1 := hid g1
  clear h1 g1
  go_wp2_with fail
  refine (l2Field_any s q1 hq1 hs _).mono ?_
  rintro e w1 ⟨x2, q2, rfl, hq2, h2, g2, rfl⟩
  rw [G1.out] at h2 g2
  have hx2 : x2.size ≤ s.size := by
    have h9 := congrArg List.length h2
    have h8 := fld_le (Z.rst (lst s))
    have h7 : (Z.rst (lst s)).length ≤ (lst s).length := by rw [← G1.out, List.length_drop]; omega
    rw [lst_length] at h9 h7
    omega
  have H2 := hid h2
  have G2 := hid g2
  clear h2 g2
  go_wp2_with fail
  refine (l2Field_any s q2 hq2 hs _).mono ?_
  rintro e w1 ⟨x3, q3, rfl, hq3, h3, g3, rfl⟩
  rw [G2.out] at h3 g3
  have H3 := hid h3
  have G3 := hid g3
  clear h3 g3
  go_wp2_with fail
  have HN := hid (show Z.num (lst x2) = some n by rw [H2.out]; exact hn)
  have HK := hid (show Z.kindOf (lst x3) = some k by rw [H3.out]; exact hk)
  clear hk hn
  refine (l13Num_some x2 (by omega) HN _).mono ?_
  rintro e w1 ⟨rfl, rfl⟩
  go_wp2_with fail
  refine (KindOf_some x3 HK _).mono ?_
  rintro e w3 ⟨rfl, hb3⟩
  go_wp2_with fail
  have htl := tail_size s q3
  have hput := l2Put_any x1 (s.extract q3 s.size) n k (by omega) w3
  rw [tail_lst, G3.out, hp] at hput
  refine hput.mono ?_
  clear hput
  rintro e w4 ⟨A, L, c, x, y, ns, rfl, hown, hpo, hL, hxs, hys, hb4⟩
  have hz4 : Blk (w4.alloc (.cells #[.string x1, .int .i64 n, .int .i64 k, .slice A L c, .string x, .string y] 25)) w.heap.size 25 [.string ⟨#[]⟩, .int .i64 0, .int .i64 0, .slice none 0 0, .string ⟨#[]⟩, .string ⟨#[]⟩] := (((Blk.new w 25 [.string ⟨#[]⟩, .int .i64 0, .int .i64 0, .slice none 0 0, .string ⟨#[]⟩, .string ⟨#[]⟩]).next hb3).next hb4).alloc _
  have hr4 : Blk (w4.alloc (.cells #[.string x1, .int .i64 n, .int .i64 k, .slice A L c, .string x, .string y] 25)) w4.heap.size 25 [.string x1, .int .i64 n, .int .i64 k, .slice A L c, .string x, .string y] := Blk.new w4 25 [.string x1, .int .i64 n, .int .i64 k, .slice A L c, .string x, .string y]
  have hlt4 : w.heap.size < w4.heap.size := by have := hb3.size; have := hb4.size; simp at *; omega
  have h3g : w.heap.size < w3.heap.size := by have := hb3.size; simp at this; omega
  have hbw : Below w.heap.size w (w4.alloc (.cells #[.string x1, .int .i64 n, .int .i64 k, .slice A L c, .string x, .string y] 25)) := ((((Below.refl _ _).alloc (Nat.le_refl _) _).trans (hb3.mono (by simp))).trans (hb4.mono (by omega))).alloc (by omega) _
  have hbs := hbw.size
  have hown5 := hown.alloc (.cells #[.string x1, .int .i64 n, .int .i64 k, .slice A L c, .string x, .string y] 25)
  obtain ⟨r0, r1, r2, r3, r4, r5⟩ := hz4.cells6
  obtain ⟨f0, f1, f2, f3, f4, f5⟩ := hz4.free6
  obtain ⟨p0, p1, p2, p3, p4, p5⟩ := hr4.cells6
  clear hown hb3 hb4
  have HXS := hid hxs
  have HYS := hid hys
  have HLT := hid hlt4
  have HBS := hid hbs
  have H3G := hid h3g
  have HPO := hid hpo
  have HP := hid hp
  clear hxs hys hpo hp
  clear hlt4 hbs h3g hr4 p0 p1 p2 p3 p4 p5
  have HBW := hid hbw
  clear hbw
  go_wp2
  refine ret_parse w.heap.size rfl rfl rfl (c0 := .string ⟨#[]⟩) (c1 := .int .i64 0) (c2 := .int .i64 0) (c3 := .slice none 0 0) (c4 := .string ⟨#[]⟩) (c5 := .string ⟨#[]⟩) (by go_simp) (by go_simp) (by go_simp) (by go_simp) (by go_simp) (by go_simp) ⟨⟨#[]⟩, 0, 0, none, 0, 0, ⟨#[]⟩, ⟨#[]⟩, [], rfl, World.ownsRow_nil _ _ _ _, rfl, Nat.zero_le _, six_below HBW.out (Nat.le_refl _) _ _ _ _ _ _⟩

set_option maxHeartbeats 4000000 in
theorem parse_bad (s : ByteArray) (hs : s.size ≤ 67108864) (w : World) (n k : Int) (hn : Z.num (Z.fld (Z.rst (lst s))) = some n) (hk : Z.kindOf (Z.fld (Z.rst (Z.rst (lst s)))) = some k) (ns' : List Int) (t' x' : Z.Str) (hp : Z.put k (Z.rst (Z.rst (Z.rst (lst s)))) = some (ns', t', x')) (hv : Z.recValid (⟨Z.fld (lst s), n, k, ns', t', x'⟩ : Z.Rec) = false) :
    Calls Tryz.prog 123 #[.string s] w (ParseOut (none) w) := by
  go_enter Tryz.func123, Tryz.ntmps123
  go_wp2_with fail
  refine (l2Field_any s 0 (Nat.zero_le _) hs _).mono ?_
  rintro e w1 ⟨x1, q1, rfl, hq1, h1, g1, rfl⟩
  rw [List.drop_zero] at h1 g1
  have hx1 : x1.size ≤ s.size := by
    have h9 := congrArg List.length h1
    have h8 := fld_le (lst s)
    rw [lst_length] at h9 h8
    omega
  have H1 := hid h1
  have G1 := hid g1
  clear h1 g1
  go_wp2_with fail
  refine (l2Field_any s q1 hq1 hs _).mono ?_
  rintro e w1 ⟨x2, q2, rfl, hq2, h2, g2, rfl⟩
  rw [G1.out] at h2 g2
  have hx2 : x2.size ≤ s.size := by
    have h9 := congrArg List.length h2
    have h8 := fld_le (Z.rst (lst s))
    have h7 : (Z.rst (lst s)).length ≤ (lst s).length := by rw [← G1.out, List.length_drop]; omega
    rw [lst_length] at h9 h7
    omega
  have H2 := hid h2
  have G2 := hid g2
  clear h2 g2
  go_wp2_with fail
  refine (l2Field_any s q2 hq2 hs _).mono ?_
  rintro e w1 ⟨x3, q3, rfl, hq3, h3, g3, rfl⟩
  rw [G2.out] at h3 g3
  have H3 := hid h3
  have G3 := hid g3
  clear h3 g3
  go_wp2_with fail
  have HN := hid (show Z.num (lst x2) = some n by rw [H2.out]; exact hn)
  have HK := hid (show Z.kindOf (lst x3) = some k by rw [H3.out]; exact hk)
  clear hk hn
  refine (l13Num_some x2 (by omega) HN _).mono ?_
  rintro e w1 ⟨rfl, rfl⟩
  go_wp2_with fail
  refine (KindOf_some x3 HK _).mono ?_
  rintro e w3 ⟨rfl, hb3⟩
  go_wp2_with fail
  have htl := tail_size s q3
  have hput := l2Put_any x1 (s.extract q3 s.size) n k (by omega) w3
  rw [tail_lst, G3.out, hp] at hput
  refine hput.mono ?_
  clear hput
  rintro e w4 ⟨A, L, c, x, y, ns, rfl, hown, hpo, hL, hxs, hys, hb4⟩
  have hz4 : Blk (w4.alloc (.cells #[.string x1, .int .i64 n, .int .i64 k, .slice A L c, .string x, .string y] 25)) w.heap.size 25 [.string ⟨#[]⟩, .int .i64 0, .int .i64 0, .slice none 0 0, .string ⟨#[]⟩, .string ⟨#[]⟩] := (((Blk.new w 25 [.string ⟨#[]⟩, .int .i64 0, .int .i64 0, .slice none 0 0, .string ⟨#[]⟩, .string ⟨#[]⟩]).next hb3).next hb4).alloc _
  have hr4 : Blk (w4.alloc (.cells #[.string x1, .int .i64 n, .int .i64 k, .slice A L c, .string x, .string y] 25)) w4.heap.size 25 [.string x1, .int .i64 n, .int .i64 k, .slice A L c, .string x, .string y] := Blk.new w4 25 [.string x1, .int .i64 n, .int .i64 k, .slice A L c, .string x, .string y]
  have hlt4 : w.heap.size < w4.heap.size := by have := hb3.size; have := hb4.size; simp at *; omega
  have h3g : w.heap.size < w3.heap.size := by have := hb3.size; simp at this; omega
  have hbw : Below w.heap.size w (w4.alloc (.cells #[.string x1, .int .i64 n, .int .i64 k, .slice A L c, .string x, .string y] 25)) := ((((Below.refl _ _).alloc (Nat.le_refl _) _).trans (hb3.mono (by simp))).trans (hb4.mono (by omega))).alloc (by omega) _
  have hbs := hbw.size
  have hown5 := hown.alloc (.cells #[.string x1, .int .i64 n, .int .i64 k, .slice A L c, .string x, .string y] 25)
  obtain ⟨r0, r1, r2, r3, r4, r5⟩ := hz4.cells6
  obtain ⟨f0, f1, f2, f3, f4, f5⟩ := hz4.free6
  obtain ⟨p0, p1, p2, p3, p4, p5⟩ := hr4.cells6
  clear hown hb3 hb4
  have HXS := hid hxs
  have HYS := hid hys
  have HLT := hid hlt4
  have HBS := hid hbs
  have H3G := hid h3g
  have HPO := hid hpo
  have HP := hid hp
  clear hxs hys hpo hp
  have he := HPO.out _ rfl
  simp only [Prod.mk.injEq] at he
  obtain ⟨rfl, rfl, rfl⟩ := he
  have hsx : x.size ≤ 67108864 := by have := HXS.out; omega
  have hsy : y.size ≤ 67108864 := by have := HYS.out; omega
  have hsn : x1.size ≤ 67108864 := by omega
  have hL6 : L ≤ 67108864 := by omega
  have hrd5 := Reads.of_own hown5
  have HV := hid (show Z.recValid (⟨lst x1, n, k, ns', lst x, lst y⟩ : Z.Rec) = false by rw [H1.out]; exact hv)
  clear hv
  go_wp2_with fail
  refine (RecordValid_eq x1 n k A L c x y ns' _ _ hrd5 (Nat.le_refl _) hL6 hsn hsx hsy false HV).mono ?_
  rintro e w6 ⟨rfl, hb6⟩
  have hz6 := hz4.next hb6
  have hr6 := hr4.next hb6
  have hown6 := own_next hown5 hb6
  have hbw6 := hbw.trans (hb6.mono HBS.out)
  have hs6 := hb6.size
  clear hz4 hr4 hown5 hrd5 hb6 r0 r1 r2 r3 r4 r5 f0 f1 f2 f3 f4 f5 p0 p1 p2 p3 p4 p5
  obtain ⟨r0, r1, r2, r3, r4, r5⟩ := hz6.cells6
  obtain ⟨f0, f1, f2, f3, f4, f5⟩ := hz6.free6
  obtain ⟨p0, p1, p2, p3, p4, p5⟩ := hr6.cells6
  have HBW := hid hbw6
  clear hbw6 hbw hlt4 h3g hs6 hbs p0 p1 p2 p3 p4 p5 hr6
  go_wp2
  refine ret_parse w.heap.size rfl rfl rfl (c0 := .string ⟨#[]⟩) (c1 := .int .i64 0) (c2 := .int .i64 0) (c3 := .slice none 0 0) (c4 := .string ⟨#[]⟩) (c5 := .string ⟨#[]⟩) (by go_simp) (by go_simp) (by go_simp) (by go_simp) (by go_simp) (by go_simp) ⟨⟨#[]⟩, 0, 0, none, 0, 0, ⟨#[]⟩, ⟨#[]⟩, [], rfl, World.ownsRow_nil _ _ _ _, rfl, Nat.zero_le _, six_below HBW.out (Nat.le_refl _) _ _ _ _ _ _⟩

set_option maxHeartbeats 4000000 in
theorem parse_other (s : ByteArray) (hs : s.size ≤ 67108864) (w : World) (n k : Int) (hn : Z.num (Z.fld (Z.rst (lst s))) = some n) (hk : Z.kindOf (Z.fld (Z.rst (Z.rst (lst s)))) = some k) (ns' : List Int) (t' x' : Z.Str) (hp : Z.put k (Z.rst (Z.rst (Z.rst (lst s)))) = some (ns', t', x')) (hv : Z.recValid (⟨Z.fld (lst s), n, k, ns', t', x'⟩ : Z.Rec) = true) (hf : ¬ Z.format (⟨Z.fld (lst s), n, k, ns', t', x'⟩ : Z.Rec) = lst s) :
    Calls Tryz.prog 123 #[.string s] w (ParseOut (none) w) := by
  go_enter Tryz.func123, Tryz.ntmps123
  go_wp2_with fail
  refine (l2Field_any s 0 (Nat.zero_le _) hs _).mono ?_
  rintro e w1 ⟨x1, q1, rfl, hq1, h1, g1, rfl⟩
  rw [List.drop_zero] at h1 g1
  have hx1 : x1.size ≤ s.size := by
    have h9 := congrArg List.length h1
    have h8 := fld_le (lst s)
    rw [lst_length] at h9 h8
    omega
  have H1 := hid h1
  have G1 := hid g1
  clear h1 g1
  go_wp2_with fail
  refine (l2Field_any s q1 hq1 hs _).mono ?_
  rintro e w1 ⟨x2, q2, rfl, hq2, h2, g2, rfl⟩
  rw [G1.out] at h2 g2
  have hx2 : x2.size ≤ s.size := by
    have h9 := congrArg List.length h2
    have h8 := fld_le (Z.rst (lst s))
    have h7 : (Z.rst (lst s)).length ≤ (lst s).length := by rw [← G1.out, List.length_drop]; omega
    rw [lst_length] at h9 h7
    omega
  have H2 := hid h2
  have G2 := hid g2
  clear h2 g2
  go_wp2_with fail
  refine (l2Field_any s q2 hq2 hs _).mono ?_
  rintro e w1 ⟨x3, q3, rfl, hq3, h3, g3, rfl⟩
  rw [G2.out] at h3 g3
  have H3 := hid h3
  have G3 := hid g3
  clear h3 g3
  go_wp2_with fail
  have HN := hid (show Z.num (lst x2) = some n by rw [H2.out]; exact hn)
  have HK := hid (show Z.kindOf (lst x3) = some k by rw [H3.out]; exact hk)
  clear hk hn
  refine (l13Num_some x2 (by omega) HN _).mono ?_
  rintro e w1 ⟨rfl, rfl⟩
  go_wp2_with fail
  refine (KindOf_some x3 HK _).mono ?_
  rintro e w3 ⟨rfl, hb3⟩
  go_wp2_with fail
  have htl := tail_size s q3
  have hput := l2Put_any x1 (s.extract q3 s.size) n k (by omega) w3
  rw [tail_lst, G3.out, hp] at hput
  refine hput.mono ?_
  clear hput
  rintro e w4 ⟨A, L, c, x, y, ns, rfl, hown, hpo, hL, hxs, hys, hb4⟩
  have hz4 : Blk (w4.alloc (.cells #[.string x1, .int .i64 n, .int .i64 k, .slice A L c, .string x, .string y] 25)) w.heap.size 25 [.string ⟨#[]⟩, .int .i64 0, .int .i64 0, .slice none 0 0, .string ⟨#[]⟩, .string ⟨#[]⟩] := (((Blk.new w 25 [.string ⟨#[]⟩, .int .i64 0, .int .i64 0, .slice none 0 0, .string ⟨#[]⟩, .string ⟨#[]⟩]).next hb3).next hb4).alloc _
  have hr4 : Blk (w4.alloc (.cells #[.string x1, .int .i64 n, .int .i64 k, .slice A L c, .string x, .string y] 25)) w4.heap.size 25 [.string x1, .int .i64 n, .int .i64 k, .slice A L c, .string x, .string y] := Blk.new w4 25 [.string x1, .int .i64 n, .int .i64 k, .slice A L c, .string x, .string y]
  have hlt4 : w.heap.size < w4.heap.size := by have := hb3.size; have := hb4.size; simp at *; omega
  have h3g : w.heap.size < w3.heap.size := by have := hb3.size; simp at this; omega
  have hbw : Below w.heap.size w (w4.alloc (.cells #[.string x1, .int .i64 n, .int .i64 k, .slice A L c, .string x, .string y] 25)) := ((((Below.refl _ _).alloc (Nat.le_refl _) _).trans (hb3.mono (by simp))).trans (hb4.mono (by omega))).alloc (by omega) _
  have hbs := hbw.size
  have hown5 := hown.alloc (.cells #[.string x1, .int .i64 n, .int .i64 k, .slice A L c, .string x, .string y] 25)
  obtain ⟨r0, r1, r2, r3, r4, r5⟩ := hz4.cells6
  obtain ⟨f0, f1, f2, f3, f4, f5⟩ := hz4.free6
  obtain ⟨p0, p1, p2, p3, p4, p5⟩ := hr4.cells6
  clear hown hb3 hb4
  have HXS := hid hxs
  have HYS := hid hys
  have HLT := hid hlt4
  have HBS := hid hbs
  have H3G := hid h3g
  have HPO := hid hpo
  have HP := hid hp
  clear hxs hys hpo hp
  have he := HPO.out _ rfl
  simp only [Prod.mk.injEq] at he
  obtain ⟨rfl, rfl, rfl⟩ := he
  have hsx : x.size ≤ 67108864 := by have := HXS.out; omega
  have hsy : y.size ≤ 67108864 := by have := HYS.out; omega
  have hsn : x1.size ≤ 67108864 := by omega
  have hL6 : L ≤ 67108864 := by omega
  have hrd5 := Reads.of_own hown5
  have HV := hid (show Z.recValid (⟨lst x1, n, k, ns', lst x, lst y⟩ : Z.Rec) = true by rw [H1.out]; exact hv)
  clear hv
  go_wp2_with fail
  refine (RecordValid_eq x1 n k A L c x y ns' _ _ hrd5 (Nat.le_refl _) hL6 hsn hsx hsy true HV).mono ?_
  rintro e w6 ⟨rfl, hb6⟩
  have hz6 := hz4.next hb6
  have hr6 := hr4.next hb6
  have hown6 := own_next hown5 hb6
  have hbw6 := hbw.trans (hb6.mono HBS.out)
  have hs6 := hb6.size
  clear hz4 hr4 hown5 hrd5 hb6 r0 r1 r2 r3 r4 r5 f0 f1 f2 f3 f4 f5 p0 p1 p2 p3 p4 p5
  obtain ⟨r0, r1, r2, r3, r4, r5⟩ := hz6.cells6
  obtain ⟨f0, f1, f2, f3, f4, f5⟩ := hz6.free6
  obtain ⟨p0, p1, p2, p3, p4, p5⟩ := hr6.cells6
  go_wp2_with fail
  have hrd6 := Reads.of_own hown6
  obtain ⟨F, hF⟩ : ∃ F, F = bs (Z.format (⟨lst x1, n, k, ns', lst x, lst y⟩ : Z.Rec)) := ⟨_, rfl⟩
  have hfr := FormatRecord_any x1 n k A L c x y ns' w6.heap.size w6 hrd6 (Nat.le_refl _) hL6 hsn hsx hsy
  rw [← hF] at hfr
  refine hfr.mono ?_
  clear hfr
  rintro e w7 ⟨rfl, hb7⟩
  have hz7 := hz6.next hb7
  have hr7 := hr6.next hb7
  have hown7 := own_next hown6 hb7
  have hbw7 := hbw6.trans (hb7.mono hbw6.size)
  have HQ := hid (show (F.toList == s.toList) = false by rw [eq_toList, hF, lst_bs, H1.out]; simpa using hf)
  have HQ2 := hid (show (F.toList != s.toList) = (!false) by rw [bne, HQ.out])
  clear hf hF hz6 hr6 hown6 hrd6 hb7 r0 r1 r2 r3 r4 r5 f0 f1 f2 f3 f4 f5 p0 p1 p2 p3 p4 p5
  obtain ⟨r0, r1, r2, r3, r4, r5⟩ := hz7.cells6
  obtain ⟨f0, f1, f2, f3, f4, f5⟩ := hz7.free6
  obtain ⟨p0, p1, p2, p3, p4, p5⟩ := hr7.cells6
  have hq := HQ.out
  have hq2 := HQ2.out
  rw [show (!false) = true from rfl] at hq2
  have HBW := hid hbw7
  clear hbw7 hbw6 hbw hlt4 h3g hs6 hbs p0 p1 p2 p3 p4 p5 hr7
  go_wp2
  refine ret_parse w.heap.size rfl rfl rfl (c0 := .string ⟨#[]⟩) (c1 := .int .i64 0) (c2 := .int .i64 0) (c3 := .slice none 0 0) (c4 := .string ⟨#[]⟩) (c5 := .string ⟨#[]⟩) (by go_simp) (by go_simp) (by go_simp) (by go_simp) (by go_simp) (by go_simp) ⟨⟨#[]⟩, 0, 0, none, 0, 0, ⟨#[]⟩, ⟨#[]⟩, [], rfl, World.ownsRow_nil _ _ _ _, rfl, Nat.zero_le _, six_below HBW.out (Nat.le_refl _) _ _ _ _ _ _⟩

set_option maxHeartbeats 4000000 in
theorem parse_good (s : ByteArray) (hs : s.size ≤ 67108864) (w : World) (n k : Int) (hn : Z.num (Z.fld (Z.rst (lst s))) = some n) (hk : Z.kindOf (Z.fld (Z.rst (Z.rst (lst s)))) = some k) (ns' : List Int) (t' x' : Z.Str) (hp : Z.put k (Z.rst (Z.rst (Z.rst (lst s)))) = some (ns', t', x')) (hv : Z.recValid (⟨Z.fld (lst s), n, k, ns', t', x'⟩ : Z.Rec) = true) (hf : Z.format (⟨Z.fld (lst s), n, k, ns', t', x'⟩ : Z.Rec) = lst s) :
    Calls Tryz.prog 123 #[.string s] w (ParseOut (some (⟨Z.fld (lst s), n, k, ns', t', x'⟩ : Z.Rec)) w) := by
  go_enter Tryz.func123, Tryz.ntmps123
  go_wp2_with fail
  refine (l2Field_any s 0 (Nat.zero_le _) hs _).mono ?_
  rintro e w1 ⟨x1, q1, rfl, hq1, h1, g1, rfl⟩
  rw [List.drop_zero] at h1 g1
  have hx1 : x1.size ≤ s.size := by
    have h9 := congrArg List.length h1
    have h8 := fld_le (lst s)
    rw [lst_length] at h9 h8
    omega
  have H1 := hid h1
  have G1 := hid g1
  clear h1 g1
  go_wp2_with fail
  refine (l2Field_any s q1 hq1 hs _).mono ?_
  rintro e w1 ⟨x2, q2, rfl, hq2, h2, g2, rfl⟩
  rw [G1.out] at h2 g2
  have hx2 : x2.size ≤ s.size := by
    have h9 := congrArg List.length h2
    have h8 := fld_le (Z.rst (lst s))
    have h7 : (Z.rst (lst s)).length ≤ (lst s).length := by rw [← G1.out, List.length_drop]; omega
    rw [lst_length] at h9 h7
    omega
  have H2 := hid h2
  have G2 := hid g2
  clear h2 g2
  go_wp2_with fail
  refine (l2Field_any s q2 hq2 hs _).mono ?_
  rintro e w1 ⟨x3, q3, rfl, hq3, h3, g3, rfl⟩
  rw [G2.out] at h3 g3
  have H3 := hid h3
  have G3 := hid g3
  clear h3 g3
  go_wp2_with fail
  have HN := hid (show Z.num (lst x2) = some n by rw [H2.out]; exact hn)
  have HK := hid (show Z.kindOf (lst x3) = some k by rw [H3.out]; exact hk)
  clear hk hn
  refine (l13Num_some x2 (by omega) HN _).mono ?_
  rintro e w1 ⟨rfl, rfl⟩
  go_wp2_with fail
  refine (KindOf_some x3 HK _).mono ?_
  rintro e w3 ⟨rfl, hb3⟩
  go_wp2_with fail
  have htl := tail_size s q3
  have hput := l2Put_any x1 (s.extract q3 s.size) n k (by omega) w3
  rw [tail_lst, G3.out, hp] at hput
  refine hput.mono ?_
  clear hput
  rintro e w4 ⟨A, L, c, x, y, ns, rfl, hown, hpo, hL, hxs, hys, hb4⟩
  have hz4 : Blk (w4.alloc (.cells #[.string x1, .int .i64 n, .int .i64 k, .slice A L c, .string x, .string y] 25)) w.heap.size 25 [.string ⟨#[]⟩, .int .i64 0, .int .i64 0, .slice none 0 0, .string ⟨#[]⟩, .string ⟨#[]⟩] := (((Blk.new w 25 [.string ⟨#[]⟩, .int .i64 0, .int .i64 0, .slice none 0 0, .string ⟨#[]⟩, .string ⟨#[]⟩]).next hb3).next hb4).alloc _
  have hr4 : Blk (w4.alloc (.cells #[.string x1, .int .i64 n, .int .i64 k, .slice A L c, .string x, .string y] 25)) w4.heap.size 25 [.string x1, .int .i64 n, .int .i64 k, .slice A L c, .string x, .string y] := Blk.new w4 25 [.string x1, .int .i64 n, .int .i64 k, .slice A L c, .string x, .string y]
  have hlt4 : w.heap.size < w4.heap.size := by have := hb3.size; have := hb4.size; simp at *; omega
  have h3g : w.heap.size < w3.heap.size := by have := hb3.size; simp at this; omega
  have hbw : Below w.heap.size w (w4.alloc (.cells #[.string x1, .int .i64 n, .int .i64 k, .slice A L c, .string x, .string y] 25)) := ((((Below.refl _ _).alloc (Nat.le_refl _) _).trans (hb3.mono (by simp))).trans (hb4.mono (by omega))).alloc (by omega) _
  have hbs := hbw.size
  have hown5 := hown.alloc (.cells #[.string x1, .int .i64 n, .int .i64 k, .slice A L c, .string x, .string y] 25)
  obtain ⟨r0, r1, r2, r3, r4, r5⟩ := hz4.cells6
  obtain ⟨f0, f1, f2, f3, f4, f5⟩ := hz4.free6
  obtain ⟨p0, p1, p2, p3, p4, p5⟩ := hr4.cells6
  clear hown hb3 hb4
  have HXS := hid hxs
  have HYS := hid hys
  have HLT := hid hlt4
  have HBS := hid hbs
  have H3G := hid h3g
  have HPO := hid hpo
  have HP := hid hp
  clear hxs hys hpo hp
  have he := HPO.out _ rfl
  simp only [Prod.mk.injEq] at he
  obtain ⟨rfl, rfl, rfl⟩ := he
  have hsx : x.size ≤ 67108864 := by have := HXS.out; omega
  have hsy : y.size ≤ 67108864 := by have := HYS.out; omega
  have hsn : x1.size ≤ 67108864 := by omega
  have hL6 : L ≤ 67108864 := by omega
  have hrd5 := Reads.of_own hown5
  have HV := hid (show Z.recValid (⟨lst x1, n, k, ns', lst x, lst y⟩ : Z.Rec) = true by rw [H1.out]; exact hv)
  clear hv
  go_wp2_with fail
  refine (RecordValid_eq x1 n k A L c x y ns' _ _ hrd5 (Nat.le_refl _) hL6 hsn hsx hsy true HV).mono ?_
  rintro e w6 ⟨rfl, hb6⟩
  have hz6 := hz4.next hb6
  have hr6 := hr4.next hb6
  have hown6 := own_next hown5 hb6
  have hbw6 := hbw.trans (hb6.mono HBS.out)
  have hs6 := hb6.size
  clear hz4 hr4 hown5 hrd5 hb6 r0 r1 r2 r3 r4 r5 f0 f1 f2 f3 f4 f5 p0 p1 p2 p3 p4 p5
  obtain ⟨r0, r1, r2, r3, r4, r5⟩ := hz6.cells6
  obtain ⟨f0, f1, f2, f3, f4, f5⟩ := hz6.free6
  obtain ⟨p0, p1, p2, p3, p4, p5⟩ := hr6.cells6
  go_wp2_with fail
  have hrd6 := Reads.of_own hown6
  obtain ⟨F, hF⟩ : ∃ F, F = bs (Z.format (⟨lst x1, n, k, ns', lst x, lst y⟩ : Z.Rec)) := ⟨_, rfl⟩
  have hfr := FormatRecord_any x1 n k A L c x y ns' w6.heap.size w6 hrd6 (Nat.le_refl _) hL6 hsn hsx hsy
  rw [← hF] at hfr
  refine hfr.mono ?_
  clear hfr
  rintro e w7 ⟨rfl, hb7⟩
  have hz7 := hz6.next hb7
  have hr7 := hr6.next hb7
  have hown7 := own_next hown6 hb7
  have hbw7 := hbw6.trans (hb7.mono hbw6.size)
  have HQ := hid (show (F.toList == s.toList) = true by rw [eq_toList, hF, lst_bs, H1.out]; simpa using hf)
  have HQ2 := hid (show (F.toList != s.toList) = (!true) by rw [bne, HQ.out])
  clear hf hF hz6 hr6 hown6 hrd6 hb7 r0 r1 r2 r3 r4 r5 f0 f1 f2 f3 f4 f5 p0 p1 p2 p3 p4 p5
  obtain ⟨r0, r1, r2, r3, r4, r5⟩ := hz7.cells6
  obtain ⟨f0, f1, f2, f3, f4, f5⟩ := hz7.free6
  obtain ⟨p0, p1, p2, p3, p4, p5⟩ := hr7.cells6
  have hq := HQ.out
  have hq2 := HQ2.out
  rw [show (!true) = false from rfl] at hq2
  have HBW := hid hbw7
  clear hbw7 hbw6 hbw hlt4 h3g hs6 hbs
  go_wp2
  refine ret_parse w.heap.size rfl rfl rfl (c0 := .string x1) (c1 := .int .i64 n) (c2 := .int .i64 k) (c3 := .slice A L c) (c4 := .string x) (c5 := .string y) (by go_simp) (by go_simp) (by go_simp) (by go_simp) (by go_simp) (by go_simp) ⟨x1, n, k, A, L, c, x, y, ns', rfl, own_mono (six_own hown7 H3G.out _ _ _ _ _ _) (Nat.le_of_lt H3G.out), by rw [← H1.out]; rfl, hL, six_below HBW.out (Nat.le_refl _) _ _ _ _ _ _⟩

theorem ParseRecord_any (s : ByteArray) (hs : s.size ≤ 67108864) (w : World) :
    Calls Tryz.prog 123 #[.string s] w (ParseOut (Z.parse (lst s)) w) := by
  cases hn : Z.num (Z.fld (Z.rst (lst s))) with
  | none =>
    rw [show Z.parse (lst s) = none by simp [Z.parse, hn]]
    exact parse_num s hs w hn
  | some n =>
    cases hk : Z.kindOf (Z.fld (Z.rst (Z.rst (lst s)))) with
    | none =>
      rw [show Z.parse (lst s) = none by simp [Z.parse, hn, hk]]
      exact parse_kind s hs w n hn hk
    | some k =>
      cases hp : Z.put k (Z.rst (Z.rst (Z.rst (lst s)))) with
      | none =>
        rw [show Z.parse (lst s) = none by simp [Z.parse, hn, hk, hp]]
        exact parse_put s hs w n k hn hk hp
      | some p =>
        obtain ⟨ns, t, x⟩ := p
        cases hv : Z.recValid (⟨Z.fld (lst s), n, k, ns, t, x⟩ : Z.Rec) with
        | false =>
          rw [show Z.parse (lst s) = none by simp [Z.parse, hn, hk, hp, hv]]
          exact parse_bad s hs w n k hn hk ns t x hp hv
        | true =>
          by_cases hf : Z.format (⟨Z.fld (lst s), n, k, ns, t, x⟩ : Z.Rec) = lst s
          · rw [show Z.parse (lst s) = some (⟨Z.fld (lst s), n, k, ns, t, x⟩ : Z.Rec) by simp [Z.parse, hn, hk, hp, hv, hf]]
            exact parse_good s hs w n k hn hk ns t x hp hv hf
          · rw [show Z.parse (lst s) = none by simp [Z.parse, hn, hk, hp, hv, hf]]
            exact parse_other s hs w n k hn hk ns t x hp hv hf
end Go.Proofs.YtpgeeeamcncpkaaGreatDoor

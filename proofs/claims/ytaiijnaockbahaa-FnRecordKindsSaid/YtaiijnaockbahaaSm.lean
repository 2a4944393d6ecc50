/- What ParseRecord of the model returns. -/
import Derived.Test.YtaiijnaockbahaaSl
import Derived.Test.YtaiijnaockbahaaSj
namespace Go.Proofs.Ytaiijnaockbahaa
open Go.RowKit
set_option maxRecDepth 100000
set_option linter.unusedVariables false

theorem ret_parse {a : Act} {W : World} {post : Ending → World → Prop} (b : Nat) {c0 c1 c2 c3 c4 c5 ok : Value} (hp : a.tmps[2]?.getD undef = .pointer (some ⟨b, 0, none⟩)) (hk : a.tmps[3]?.getD undef = ok) (hd : a.defers = [])
    (h0 : W.cell? ⟨b, 0, none⟩ = some c0) (h1 : W.cell? ⟨b, 1, none⟩ = some c1) (h2 : W.cell? ⟨b, 2, none⟩ = some c2) (h3 : W.cell? ⟨b, 3, none⟩ = some c3) (h4 : W.cell? ⟨b, 4, none⟩ = some c4) (h5 : W.cell? ⟨b, 5, none⟩ = some c5)
    (h : post (.returned (.tuple #[.agg #[c0, c1, c2, c3, c4, c5], ok])) W) : bodyPost Try.prog Try.f64 post Exit.ret a W :=
  bodyPost_ret (by simp [results, Try.results64, go_sem, hp, hk, h0, h1, h2, h3, h4, h5]) hd h

/-- The record that is no record. -/
def noRec : Z.Rec := ⟨[], 0, 0, [], [], []⟩
/-- What ParseRecord leaves. -/
def ParseOut (o : Option Z.Rec) (w : World) (e : Ending) (w' : World) : Prop :=
  ∃ (N : ByteArray) (T K : Int) (A : Option Addr) (L c : Nat) (x y : ByteArray) (ns : List Int), e = .returned (.tuple #[.agg #[.string N, .int .i64 T, .int .i64 K, .slice A L c, .string x, .string y], .bool o.isSome]) ∧ w'.ownsRow w.heap.size 3 1 (.slice A L c) L (ns.map iv) ∧ o.getD noRec = ⟨lst N, T, K, ns, lst x, lst y⟩ ∧ L ≤ 7 ∧ Below w.heap.size w w'

theorem KindOf_some (s : ByteArray) {k : Int} (hk : Hid (Z.kindOf (lst s) = some k)) (w : World) :
    Calls Try.prog 70 #[.string s] w fun e w' => e = .returned (.tuple #[.int .i64 k, .bool true]) ∧ Below w.heap.size w w' := by
  have h := KindOf_any s w
  rw [hk.out] at h
  exact h
theorem KindOf_none (s : ByteArray) (hk : Hid (Z.kindOf (lst s) = none)) (w : World) :
    Calls Try.prog 70 #[.string s] w fun e w' => e = .returned (.tuple #[.int .i64 0, .bool false]) ∧ Below w.heap.size w w' := by
  have h := KindOf_any s w
  rw [hk.out] at h
  exact h

theorem size_alloc' (w : World) (o : Obj) : (w.alloc o).heap.size = w.heap.size + 1 := by simp
set_option maxHeartbeats 4000000 in
theorem parse_num (s : ByteArray) (hs : s.size ≤ 67108864) (w : World) (h : Z.num (Z.fld (Z.rst (lst s))) = none) :
    Calls Try.prog 64 #[.string s] w (ParseOut none w) := by
  go_enter Try.func64, Try.ntmps64
  go_wp2_with fail
  refine (l2Field_any s 0 (Nat.zero_le _) hs _).mono ?_
  rintro e w1 ⟨x1, q1, rfl, hq1, h1, g1, rfl⟩
  rw [List.drop_zero] at h1 g1
  have H1 := hid h1
  have G1 := hid g1
  clear h1 g1
  go_wp2_with fail
  refine (l2Field_any s q1 hq1 hs _).mono ?_
  rintro e w1 ⟨x2, q2, rfl, hq2, h2, g2, rfl⟩
  rw [G1.out] at h2 g2
  have hx2 : x2.size ≤ s.size := by
    have h9 := congrArg List.length h2
    have h8 := fld_le (Z.rst (lst s))
    have h7 : (Z.rst (lst s)).length ≤ (lst s).length := by rw [← G1.out, List.length_drop]; omega
    rw [lst_length] at h9 h7
    omega
  have H2 := hid h2
  have G2 := hid g2
  clear h2 g2
  go_wp2_with fail
  refine (l2Field_any s q2 hq2 hs _).mono ?_
  rintro e w1 ⟨x3, q3, rfl, hq3, h3, g3, rfl⟩
  rw [G2.out] at h3 g3
  have H3 := hid h3
  have G3 := hid g3
  clear h3 g3
  go_wp2_with fail
  have HN := hid (show Z.num (lst x2) = none by rw [H2.out]; exact h)
  clear h
  refine (l13Num_none x2 (by omega) HN _).mono ?_
  rintro e w1 ⟨rfl, rfl⟩
  go_wp2_with fail
  cases hk : Z.kindOf (lst x3) with
  | none =>
    have HK := hid hk
    clear hk
    refine (KindOf_none x3 HK _).mono ?_
    rintro e w3 ⟨rfl, hb3⟩
    obtain ⟨hc3, hf3⟩ := bcell hb3
    have r0 : w3.cell? ⟨w.heap.size, 0, none⟩ = some (.string ⟨#[]⟩) := (hc3 _ _ (by simp; try omega)).trans (by go_simp)
    have r1 : w3.cell? ⟨w.heap.size, 1, none⟩ = some (.int .i64 0) := (hc3 _ _ (by simp; try omega)).trans (by go_simp)
    have r2 : w3.cell? ⟨w.heap.size, 2, none⟩ = some (.int .i64 0) := (hc3 _ _ (by simp; try omega)).trans (by go_simp)
    have r3 : w3.cell? ⟨w.heap.size, 3, none⟩ = some (.slice none 0 0) := (hc3 _ _ (by simp; try omega)).trans (by go_simp)
    have r4 : w3.cell? ⟨w.heap.size, 4, none⟩ = some (.string ⟨#[]⟩) := (hc3 _ _ (by simp; try omega)).trans (by go_simp)
    have r5 : w3.cell? ⟨w.heap.size, 5, none⟩ = some (.string ⟨#[]⟩) := (hc3 _ _ (by simp; try omega)).trans (by go_simp)
    go_wp2
    refine ret_parse w.heap.size rfl rfl rfl (c0 := .string ⟨#[]⟩) (c1 := .int .i64 0) (c2 := .int .i64 0) (c3 := .slice none 0 0) (c4 := .string ⟨#[]⟩) (c5 := .string ⟨#[]⟩) (by go_simp) (by go_simp) (by go_simp) (by go_simp) (by go_simp) (by go_simp) ⟨⟨#[]⟩, 0, 0, none, 0, 0, ⟨#[]⟩, ⟨#[]⟩, [], rfl, World.ownsRow_nil _ _ _ _, rfl, Nat.zero_le _, ?_⟩
    have hbw : Below w.heap.size w w3 := Below.trans (by go_grown) (hb3.mono (by simp; try omega))
    clear hc3 hf3 hb3
    go_grown
  | some k =>
    have HK := hid hk
    clear hk
    refine (KindOf_some x3 HK _).mono ?_
    rintro e w3 ⟨rfl, hb3⟩
    obtain ⟨hc3, hf3⟩ := bcell hb3
    have r0 : w3.cell? ⟨w.heap.size, 0, none⟩ = some (.string ⟨#[]⟩) := (hc3 _ _ (by simp; try omega)).trans (by go_simp)
    have r1 : w3.cell? ⟨w.heap.size, 1, none⟩ = some (.int .i64 0) := (hc3 _ _ (by simp; try omega)).trans (by go_simp)
    have r2 : w3.cell? ⟨w.heap.size, 2, none⟩ = some (.int .i64 0) := (hc3 _ _ (by simp; try omega)).trans (by go_simp)
    have r3 : w3.cell? ⟨w.heap.size, 3, none⟩ = some (.slice none 0 0) := (hc3 _ _ (by simp; try omega)).trans (by go_simp)
    have r4 : w3.cell? ⟨w.heap.size, 4, none⟩ = some (.string ⟨#[]⟩) := (hc3 _ _ (by simp; try omega)).trans (by go_simp)
    have r5 : w3.cell? ⟨w.heap.size, 5, none⟩ = some (.string ⟨#[]⟩) := (hc3 _ _ (by simp; try omega)).trans (by go_simp)
    go_wp2
    refine ret_parse w.heap.size rfl rfl rfl (c0 := .string ⟨#[]⟩) (c1 := .int .i64 0) (c2 := .int .i64 0) (c3 := .slice none 0 0) (c4 := .string ⟨#[]⟩) (c5 := .string ⟨#[]⟩) (by go_simp) (by go_simp) (by go_simp) (by go_simp) (by go_simp) (by go_simp) ⟨⟨#[]⟩, 0, 0, none, 0, 0, ⟨#[]⟩, ⟨#[]⟩, [], rfl, World.ownsRow_nil _ _ _ _, rfl, Nat.zero_le _, ?_⟩
    have hbw : Below w.heap.size w w3 := Below.trans (by go_grown) (hb3.mono (by simp; try omega))
    clear hc3 hf3 hb3
    go_grown

set_option maxHeartbeats 4000000 in
theorem parse_kind (s : ByteArray) (hs : s.size ≤ 67108864) (w : World) (n : Int) (hn : Z.num (Z.fld (Z.rst (lst s))) = some n) (h : Z.kindOf (Z.fld (Z.rst (Z.rst (lst s)))) = none) :
    Calls Try.prog 64 #[.string s] w (ParseOut none w) := by
  go_enter Try.func64, Try.ntmps64
  go_wp2_with fail
  refine (l2Field_any s 0 (Nat.zero_le _) hs _).mono ?_
  rintro e w1 ⟨x1, q1, rfl, hq1, h1, g1, rfl⟩
  rw [List.drop_zero] at h1 g1
  have H1 := hid h1
  have G1 := hid g1
  clear h1 g1
  go_wp2_with fail
  refine (l2Field_any s q1 hq1 hs _).mono ?_
  rintro e w1 ⟨x2, q2, rfl, hq2, h2, g2, rfl⟩
  rw [G1.out] at h2 g2
  have hx2 : x2.size ≤ s.size := by
    have h9 := congrArg List.length h2
    have h8 := fld_le (Z.rst (lst s))
    have h7 : (Z.rst (lst s)).length ≤ (lst s).length := by rw [← G1.out, List.length_drop]; omega
    rw [lst_length] at h9 h7
    omega
  have H2 := hid h2
  have G2 := hid g2
  clear h2 g2
  go_wp2_with fail
  refine (l2Field_any s q2 hq2 hs _).mono ?_
  rintro e w1 ⟨x3, q3, rfl, hq3, h3, g3, rfl⟩
  rw [G2.out] at h3 g3
  have H3 := hid h3
  have G3 := hid g3
  clear h3 g3
  go_wp2_with fail
  have HN := hid (show Z.num (lst x2) = some n by rw [H2.out]; exact hn)
  have HK := hid (show Z.kindOf (lst x3) = none by rw [H3.out]; exact h)
  clear h hn
  refine (l13Num_some x2 (by omega) HN _).mono ?_
  rintro e w1 ⟨rfl, rfl⟩
  go_wp2_with fail
  refine (KindOf_none x3 HK _).mono ?_
  rintro e w3 ⟨rfl, hb3⟩
  obtain ⟨hc3, hf3⟩ := bcell hb3
  have r0 : w3.cell? ⟨w.heap.size, 0, none⟩ = some (.string ⟨#[]⟩) := (hc3 _ _ (by simp; try omega)).trans (by go_simp)
  have r1 : w3.cell? ⟨w.heap.size, 1, none⟩ = some (.int .i64 0) := (hc3 _ _ (by simp; try omega)).trans (by go_simp)
  have r2 : w3.cell? ⟨w.heap.size, 2, none⟩ = some (.int .i64 0) := (hc3 _ _ (by simp; try omega)).trans (by go_simp)
  have r3 : w3.cell? ⟨w.heap.size, 3, none⟩ = some (.slice none 0 0) := (hc3 _ _ (by simp; try omega)).trans (by go_simp)
  have r4 : w3.cell? ⟨w.heap.size, 4, none⟩ = some (.string ⟨#[]⟩) := (hc3 _ _ (by simp; try omega)).trans (by go_simp)
  have r5 : w3.cell? ⟨w.heap.size, 5, none⟩ = some (.string ⟨#[]⟩) := (hc3 _ _ (by simp; try omega)).trans (by go_simp)
  go_wp2
  refine ret_parse w.heap.size rfl rfl rfl (c0 := .string ⟨#[]⟩) (c1 := .int .i64 0) (c2 := .int .i64 0) (c3 := .slice none 0 0) (c4 := .string ⟨#[]⟩) (c5 := .string ⟨#[]⟩) (by go_simp) (by go_simp) (by go_simp) (by go_simp) (by go_simp) (by go_simp) ⟨⟨#[]⟩, 0, 0, none, 0, 0, ⟨#[]⟩, ⟨#[]⟩, [], rfl, World.ownsRow_nil _ _ _ _, rfl, Nat.zero_le _, ?_⟩
  have hbw : Below w.heap.size w w3 := Below.trans (by go_grown) (hb3.mono (by simp; try omega))
  clear hc3 hf3 hb3
  go_grown
end Go.Proofs.Ytaiijnaockbahaa

/- What the exact laws on differences share. -/
import Derived.Test.YtbbldgpoegkokaaZh
namespace Go.Proofs.Ytbbldgpoegkokaa
open Go.RowKit
set_option maxRecDepth 100000
set_option linter.unusedVariables false

theorem toDiff_law {w W : World} {b : Nat} {cs : List Value} {f t : Int} {rs ss : List RV} {aA bA : Option Addr} {aL aC bL bC : Nat} (hra : Recs w w.heap.size aA aL rs) (hrb : Recs w w.heap.size bA bL ss) (hh : Held w W b cs) (hs : Hid (∀ r ∈ rs, r.small)) (hs' : Hid (∀ r ∈ ss, r.small)) (la : aL ≤ 1048576) (lb : bL ≤ 1048576) :
    Calls Try.prog 37 #[.agg #[.int .i64 f, .int .i64 t, .slice aA aL aC, .slice bA bL bC]] W fun e W' => ∃ A A', e = .returned (.agg #[.int .i64 f, .int .i64 t, .slice A aL aL, .slice A' bL bL]) ∧ Copy W' rs A aL ∧ Copy W' ss A' bL ∧ Below W.heap.size W W' :=
  (toDiff_own f t rs ss w.heap.size aA bA aL aC bL bC W (hra.below hh.1 (Nat.le_refl _)) (hrb.below hh.1 (Nat.le_refl _)) (hh.up (Nat.le_refl _)) la lb (small_L hs) (small_L hs')).mono fun e W' ⟨g, g', h1, h2, h3, _, _, h5⟩ =>
    ⟨_, _, h1, h2.copy hra, h3.copy hrb, h5⟩
theorem sameD_copy {f t f' t' : Int} {rs ss xs ys os ps us vs : List RV} (h1 : os.map RV.z = rs.map RV.z) (h2 : ps.map RV.z = ss.map RV.z) (h3 : us.map RV.z = xs.map RV.z) (h4 : vs.map RV.z = ys.map RV.z) : sameD f t f' t' os ps us vs = sameD f t f' t' rs ss xs ys := by unfold sameD; rw [h1, h2, h3, h4]
section
variable {w W : World} {f t f' t' : Int} {rs ss xs ys : List RV} {a1 a2 a3 a4 A A' D D' : Option Addr} {n n' m m' c c' d d' : Nat}
theorem DiffSame_law (r1 : Recs w w.heap.size a1 n rs) (r2 : Recs w w.heap.size a2 n' ss) (r3 : Recs w w.heap.size a3 m xs) (r4 : Recs w w.heap.size a4 m' ys) (h1 : Copy W rs A n) (h2 : Copy W ss A' n') (h3 : Copy W xs D m) (h4 : Copy W ys D' m') (s1 : Hid (∀ r ∈ rs, r.small)) (s2 : Hid (∀ r ∈ ss, r.small)) (s3 : Hid (∀ r ∈ xs, r.small)) (s4 : Hid (∀ r ∈ ys, r.small)) (l1 : n ≤ 1048576) (l2 : n' ≤ 1048576) (l3 : m ≤ 1048576) (l4 : m' ≤ 1048576) (v : Bool) (hv : Hid (sameD f t f' t' rs ss xs ys = v)) :
    Calls Try.prog 40 #[.agg #[.int .i64 f, .int .i64 t, .slice A n c, .slice A' n' c'], .agg #[.int .i64 f', .int .i64 t', .slice D m d, .slice D' m' d']] W fun e W' => e = .returned (.bool v) ∧ Below W.heap.size W W' := by
  obtain ⟨os, z1, q1⟩ := h1.ex
  obtain ⟨ps, z2, q2⟩ := h2.ex
  obtain ⟨us, z3, q3⟩ := h3.ex
  obtain ⟨vs, z4, q4⟩ := h4.ex
  exact DiffSame_any f t f' t' os ps us vs _ A A' D D' n c n' c' m d m' d' W q1 q2 q3 q4 (Nat.le_refl _) (by omega) (by omega) (by omega) (by omega) (fine_of z1 q1 r1 s1) (fine_of z2 q2 r2 s2) (fine_of z3 q3 r3 s3) (fine_of z4 q4 r4 s4) v (hid (by rw [sameD_copy z1 z2 z3 z4]; exact hv.out))
theorem iDiffSame_law (r1 : Recs w w.heap.size a1 n rs) (r2 : Recs w w.heap.size a2 n' ss) (r3 : Recs w w.heap.size a3 m xs) (r4 : Recs w w.heap.size a4 m' ys) (h1 : Copy W rs A n) (h2 : Copy W ss A' n') (h3 : Copy W xs D m) (h4 : Copy W ys D' m') (s1 : Hid (∀ r ∈ rs, r.small)) (s2 : Hid (∀ r ∈ ss, r.small)) (s3 : Hid (∀ r ∈ xs, r.small)) (s4 : Hid (∀ r ∈ ys, r.small)) (l1 : n ≤ 1048576) (l2 : n' ≤ 1048576) (l3 : m ≤ 1048576) (l4 : m' ≤ 1048576) (v : Bool) (hv : Hid (sameD f t f' t' rs ss xs ys = v)) :
    Calls Try.prog 41 #[.agg #[.int .i64 f, .int .i64 t, .slice A n c, .slice A' n' c'], .agg #[.int .i64 f', .int .i64 t', .slice D m d, .slice D' m' d']] W fun e W' => e = .returned (.bool v) ∧ Below W.heap.size W W' := by
  obtain ⟨os, z1, q1⟩ := h1.ex
  obtain ⟨ps, z2, q2⟩ := h2.ex
  obtain ⟨us, z3, q3⟩ := h3.ex
  obtain ⟨vs, z4, q4⟩ := h4.ex
  exact iDiffSame_any f t f' t' os ps us vs _ A A' D D' n c n' c' m d m' d' W q1 q2 q3 q4 (Nat.le_refl _) (by omega) (by omega) (by omega) (by omega) (fine_of z1 q1 r1 s1) (fine_of z2 q2 r2 s2) (fine_of z3 q3 r3 s3) (fine_of z4 q4 r4 s4) v (hid (by rw [sameD_copy z1 z2 z3 z4]; exact hv.out))
end
theorem cells8 {w W : World} {b b' : Nat} {c0 c1 c2 c3 d0 d1 d2 d3 : Value} (h : Held w W b [c0, c1, c2, c3]) (k : Held w W b' [d0, d1, d2, d3]) :
    Held w W b [c0, c1, c2, c3] ∧ Held w W b' [d0, d1, d2, d3] ∧ W.cell? ⟨b, 0, none⟩ = some c0 ∧ W.cell? ⟨b, 1, none⟩ = some c1 ∧ W.cell? ⟨b, 2, none⟩ = some c2 ∧ W.cell? ⟨b, 3, none⟩ = some c3 ∧ W.cell? ⟨b', 0, none⟩ = some d0 ∧ W.cell? ⟨b', 1, none⟩ = some d1 ∧ W.cell? ⟨b', 2, none⟩ = some d2 ∧ W.cell? ⟨b', 3, none⟩ = some d3 :=
  ⟨h, k, h.2.2.2 0 _ rfl, h.2.2.2 1 _ rfl, h.2.2.2 2 _ rfl, h.2.2.2 3 _ rfl, k.2.2.2 0 _ rfl, k.2.2.2 1 _ rfl, k.2.2.2 2 _ rfl, k.2.2.2 3 _ rfl⟩
theorem cells8b {w W : World} {b b' l m : Nat} {c0 c1 c2 c3 d0 d1 d2 d3 : Value} {cs ds : List Value} {P Q R S : Prop} (h : Held w W b [c0, c1, c2, c3]) (k : Held w W b' [d0, d1, d2, d3]) (hl : Held w W l cs) (hm : Held w W m ds) (hp : P) (hq : Q) (hr : R) (hs : S) :
    Held w W b [c0, c1, c2, c3] ∧ Held w W b' [d0, d1, d2, d3] ∧ Held w W l cs ∧ Held w W m ds ∧ P ∧ Q ∧ R ∧ S ∧ W.cell? ⟨b, 0, none⟩ = some c0 ∧ W.cell? ⟨b, 1, none⟩ = some c1 ∧ W.cell? ⟨b, 2, none⟩ = some c2 ∧ W.cell? ⟨b, 3, none⟩ = some c3 ∧ W.cell? ⟨b', 0, none⟩ = some d0 ∧ W.cell? ⟨b', 1, none⟩ = some d1 ∧ W.cell? ⟨b', 2, none⟩ = some d2 ∧ W.cell? ⟨b', 3, none⟩ = some d3 :=
  ⟨h, k, hl, hm, hp, hq, hr, hs, h.2.2.2 0 _ rfl, h.2.2.2 1 _ rfl, h.2.2.2 2 _ rfl, h.2.2.2 3 _ rfl, k.2.2.2 0 _ rfl, k.2.2.2 1 _ rfl, k.2.2.2 2 _ rfl, k.2.2.2 3 _ rfl⟩
theorem Held.cells4 {w W : World} {b : Nat} {c0 c1 c2 c3 : Value} (h : Held w W b [c0, c1, c2, c3]) : W.cell? ⟨b, 0, none⟩ = some c0 ∧ W.cell? ⟨b, 1, none⟩ = some c1 ∧ W.cell? ⟨b, 2, none⟩ = some c2 ∧ W.cell? ⟨b, 3, none⟩ = some c3 := ⟨h.2.2.2 0 _ rfl, h.2.2.2 1 _ rfl, h.2.2.2 2 _ rfl, h.2.2.2 3 _ rfl⟩
end Go.Proofs.Ytbbldgpoegkokaa

/- The walk of FnExactReadLine: what the statement's program does at every input. -/
import Derived.Test.YtpgeeeamcncpkaaGreatDoorTie
import Derived.Test.YtpgeeeamcncpkaaGreatDoorCards
import Derived.Test.YtpgeeeamcncpkaaGreatDoorHb
import Derived.Test.YtpgeeeamcncpkaaGreatDoorEa
import Derived.Test.YtpgeeeamcncpkaaGreatDoorSt
import Derived.Outline
namespace Go.Proofs.YtpgeeeamcncpkaaGreatDoor.fnExactReadLine
open Go.ChangeShapes Go.WideShapes Go.ChangeAt Go.RowKit
open Go.ChangeMaps (open_string shut_string)
set_option linter.unusedVariables false

theorem own : ownKnob Tryz.prog.godebug = none := by kernel_rfl
theorem laidOut : laidOutB Tryz.prog = true := by kernel_rfl
set_option maxRecDepth 100000
def StIn (w : World) (v : Value) : Prop := ∃ (o : ByteArray) (t : Int) (ow : ByteArray), v = .agg #[.string o, .int .i64 t, .string ow] ∧ o.size ≤ maxLen ∧ ow.size ≤ maxLen
theorem open_state {H : Type} {enc : TypeId × Value → H} {w : World} {r : Reach} {b0 : Nat} {v : Value} {d : DataW H} {p : List MemPlace} (hv : Value.okWide Tryz.prog w r b0 39 v) (h : DataW.Trod enc Tryz.prog w 0 (fun _ => true) true 39 v d p) : StIn w v := by
  obtain ⟨cs, rfl, hsz⟩ := okWide_struct Tryz.underlying39 hv
  obtain ⟨fuel, hf⟩ := h
  obtain ⟨xs, n, _, hx, _, hlen, hg⟩ := DataW.trod_struct Tryz.underlying39 hf
  have h6 : Tryz.prog.cellsOf 39 = 3 := by kernel_rfl
  rw [h6] at hsz
  obtain ⟨l⟩ := cs
  obtain ⟨c0, c1, c2, rfl⟩ : ∃ c0 c1 c2, l = [c0, c1, c2] := by
    match l, hsz with
    | [a, b, c], _ => exact ⟨a, b, c, rfl⟩
  obtain ⟨y0, y1, y2, rfl⟩ : ∃ c0 c1 c2, xs = [c0, c1, c2] := by
    match xs, hlen with
    | [a, b, c], _ => exact ⟨a, b, c, rfl⟩
  have g0 := hg 0 _ rfl
  have g1 := hg 1 _ rfl
  have g2 := hg 2 _ rfl
  obtain ⟨s, e0, _, hs⟩ := DataW.trod_string Tryz.underlying9 (g0.trans rfl)
  obtain ⟨t, e1, _, _⟩ := DataW.trod_int Tryz.underlying3 (g1.trans rfl)
  obtain ⟨g, e2, _, hg2⟩ := DataW.trod_string Tryz.underlying9 (g2.trans rfl)
  have k9 : Tryz.prog.cellsOf 9 = 1 := by kernel_rfl
  have k3 : Tryz.prog.cellsOf 3 = 1 := by kernel_rfl
  simp [Value.cells, k9, k3] at e0 e1 e2
  subst e0 e1 e2
  exact ⟨_, _, _, rfl, hs, hg2⟩
set_option maxHeartbeats 2000000 in
theorem szState_any (o ow : ByteArray) (t : Int) (w : World) (ho : o.size ≤ maxLen) (how : ow.size ≤ maxLen) :
    Calls Tryz.prog 21 #[.agg #[.string o, .int .i64 t, .string ow], .int .i64 1048576] w fun e w' => ∃ k : Int, e = .returned (.int .i64 k) ∧ Hid (0 ≤ k → o.size + ow.size ≤ 1048576) ∧ Below w.heap.size w w' := by
  unfold maxLen at ho how
  go_enter Tryz.func21, Tryz.ntmps21
  by_cases h1 : (1048576 : Int) - o.size < 0
  · go_wp2
    go_ret
    exact ⟨_, rfl, hid (fun h => absurd h (by decide)), by go_grown⟩
  · by_cases h2 : (1048576 : Int) - o.size - ow.size < 0
    · go_wp2
      go_ret
      exact ⟨_, rfl, hid (fun h => absurd h (by decide)), by go_grown⟩
    · go_wp2
      go_ret
      exact ⟨_, rfl, hid (fun h => by omega), by go_grown⟩
theorem ret_to {a : Act} {W : World} {post : Ending → World → Prop} (b : Nat) {c0 c1 c2 : Value} (hp : a.tmps[2]?.getD undef = .pointer (some ⟨b, 0, none⟩)) (hd : a.defers = [])
    (h0 : W.cell? ⟨b, 0, none⟩ = some c0) (h1 : W.cell? ⟨b, 1, none⟩ = some c1) (h2 : W.cell? ⟨b, 2, none⟩ = some c2)
    (h : post (.returned (.agg #[c0, c1, c2])) W) : bodyPost Tryz.prog Tryz.f23 post Exit.ret a W :=
  bodyPost_ret (by simp [results, Tryz.results23, go_sem, hp, h0, h1, h2]) hd h
set_option maxHeartbeats 2000000 in
theorem toState_any (o ow : ByteArray) (t : Int) (w : World) :
    Calls Tryz.prog 23 #[.agg #[.string o, .int .i64 t, .string ow]] w fun e w' => e = .returned (.agg #[.string o, .int .i64 t, .string ow]) ∧ Below w.heap.size w w' := by
  go_enter Tryz.func23, Tryz.ntmps23
  go_wp2
  refine ret_to (w.heap.size + 1) rfl rfl (c0 := .string o) (c1 := .int .i64 t) (c2 := .string ow) (by go_simp) (by go_simp) (by go_simp) ⟨rfl, ?_⟩
  go_grown
set_option maxHeartbeats 2000000 in
theorem eqState_any (o ow : ByteArray) (t : Int) (w : World) :
    Calls Tryz.prog 25 #[.agg #[.string o, .int .i64 t, .string ow], .agg #[.string o, .int .i64 t, .string ow]] w fun e w' => e = .returned (.bool true) ∧ Below w.heap.size w w' := by
  have q1 : (o.toList == o.toList) = true := by simp
  have q2 : (ow.toList == ow.toList) = true := by simp
  go_enter Tryz.func25, Tryz.ntmps25
  go_wp2
  go_ret
  exact ⟨rfl, by go_grown⟩
theorem apart {u v : Value} {p q p' q' : Nat} (hu : ∀ k, u.ownBlock = some k → p ≤ k ∧ k < q) (hv : ∀ k, v.ownBlock = some k → p' ≤ k ∧ k < q') (h : q ≤ p' ∨ q' ≤ p) : u.ownBlock = none ∨ u.ownBlock ≠ v.ownBlock := by
  cases hu2 : u.ownBlock with
  | none => exact Or.inl rfl
  | some k =>
    refine Or.inr fun e => ?_
    have h1 := hu k hu2
    have h2 := hv k e.symm
    omega
theorem mReadLine_v (o ow line : ByteArray) (t : Int) (w : World) (ho : o.size ≤ 67108864) (how : ow.size ≤ 67108864) (hline : line.size ≤ 67108860) (s : Z.St) (r : Z.Rec) (b1 b2 : Bool) (res : Option (Z.St × Option Z.Rec)) (hres : Hid (Z.readLine ⟨lst o, t, lst ow⟩ (lst line) = res)) (hs : Hid (stOf res = s)) (hr : Hid (rcOf res = r)) (h1 : Hid (rcIs res = b1)) (h2 : Hid (res.isSome = b2)) :
    Calls Tryz.prog 22 #[.agg #[.string o, .int .i64 t, .string ow], .string line] w fun e w' => ∃ (o ow : ByteArray) (t : Int) (N : ByteArray) (T K : Int) (A : Option Addr) (L c : Nat) (x y : ByteArray) (ns : List Int), e = .returned (.tuple #[.agg #[.string o, .int .i64 t, .string ow], .agg #[.string N, .int .i64 T, .int .i64 K, .slice A L c, .string x, .string y], .bool b1, .bool b2]) ∧ w'.ownsRow w.heap.size 3 1 (.slice A L c) L (ns.map iv) ∧ s = ⟨lst o, t, lst ow⟩ ∧ r = ⟨lst N, T, K, ns, lst x, lst y⟩ ∧ L ≤ 7 ∧ Below w.heap.size w w' := by
  have h := ReadLine_any o ow line t w ho how hline
  unfold RLOut at h
  rw [hres.out, hs.out, hr.out, h1.out, h2.out] at h
  exact h
theorem iReadLine_v (o ow line : ByteArray) (t : Int) (w : World) (hm : MX w) (hk : KT w) (ho : o.size ≤ 67108864) (how : ow.size ≤ 67108864) (hline : line.size ≤ 67108860) (s : Z.St) (r : Z.Rec) (b1 b2 : Bool) (res : Option (Z.St × Option Z.Rec)) (hres : Hid (Z.readLine ⟨lst o, t, lst ow⟩ (lst line) = res)) (hs : Hid (stOf res = s)) (hr : Hid (rcOf res = r)) (h1 : Hid (rcIs res = b1)) (h2 : Hid (res.isSome = b2)) :
    Calls Tryz.prog 24 #[.agg #[.string o, .int .i64 t, .string ow], .string line] w fun e w' => ∃ (o ow : ByteArray) (t : Int) (N : ByteArray) (T K : Int) (A : Option Addr) (L c : Nat) (x y : ByteArray) (ns : List Int), e = .returned (.tuple #[.agg #[.string o, .int .i64 t, .string ow], .agg #[.string N, .int .i64 T, .int .i64 K, .slice A L c, .string x, .string y], .bool b1, .bool b2]) ∧ w'.ownsRow w.heap.size 3 1 (.slice A L c) L (ns.map iv) ∧ s = ⟨lst o, t, lst ow⟩ ∧ r = ⟨lst N, T, K, ns, lst x, lst y⟩ ∧ L ≤ 7 ∧ Below w.heap.size w w' := by
  have h := iReadLine_any o ow line t w hm hk ho how hline
  unfold RLOut at h
  rw [hres.out, hs.out, hr.out, h1.out, h2.out] at h
  exact h

set_option maxRecDepth 100000 in
set_option maxHeartbeats 16000000 in
theorem walk (v0 : Value) (a1 : ByteArray) (w1 : a1.size ≤ maxLen) (w : World) (i0 : StIn w v0) (hk : KT w) (hm : MX w) :
    Calls Tryz.prog 4 #[v0, .string a1] w fun e w' => e = .returned (.bool true) ∧ Below w.heap.size w w' := by
  unfold maxLen at w1
  obtain ⟨o, t, ow, rfl, m1, m2⟩ := i0
  by_cases hb1 : a1.size ≤ 1048576
  · obtain ⟨res, hres⟩ : ∃ res, Z.readLine ⟨lst o, t, lst ow⟩ (lst a1) = res := ⟨_, rfl⟩
    obtain ⟨s9, hs9⟩ : ∃ s, stOf res = s := ⟨_, rfl⟩
    obtain ⟨r9, hr9⟩ : ∃ r, rcOf res = r := ⟨_, rfl⟩
    obtain ⟨b1, h1⟩ : ∃ b, rcIs res = b := ⟨_, rfl⟩
    obtain ⟨b2, h2⟩ : ∃ b, res.isSome = b := ⟨_, rfl⟩
    have HRES := hid hres
    have HS := hid hs9
    have HR := hid hr9
    have H1 := hid h1
    have H2 := hid h2
    clear hres hs9 hr9 h1 h2
    go_enter Tryz.func4, Tryz.ntmps4
    have Ba : Blk (w.alloc (.cells #[.string o, .int .i64 t, .string ow] 39)) w.heap.size 39 [.string o, .int .i64 t, .string ow] := Blk.new w 39 [.string o, .int .i64 t, .string ow]
    have bw : Below w.heap.size w (w.alloc (.cells #[.string o, .int .i64 t, .string ow] 39)) := (Below.refl _ _).alloc (Nat.le_refl _) _
    obtain ⟨ca0, ca1, ca2⟩ := Ba.cells3
    go_wp2_with fail
    refine (szState_any o ow t _ m1 m2).mono ?_
    rintro e w1 ⟨k1, rfl, hk1, hb1⟩
    clear ca0 ca1 ca2
    have hs1 := hb1.size
    try simp only [World.alloc, Array.size_push] at hs1
    replace Ba := Ba.next hb1
    replace bw := bw.trans (hb1.mono bw.size)
    clear hb1
    obtain ⟨ca0, ca1, ca2⟩ := Ba.cells3
    by_cases hk1n : k1 < 0
    · go_wp2
      go_ret
      exact ⟨rfl, bw⟩
    have g1 := hk1.out (by omega)
    clear hk1 m1 m2
    go_wp2_with fail
    refine (toState_any o ow t _).mono ?_
    rintro e v2 ⟨rfl, hb2⟩
    clear ca0 ca1 ca2
    have hs2 := hb2.size
    try simp only [World.alloc, Array.size_push] at hs2
    replace Ba := Ba.next hb2
    replace bw := bw.trans (hb2.mono bw.size)
    clear hb2
    go_wp2_with fail
    refine (mReadLine_v o ow a1 t _ (by omega) (by omega) (by omega) _ _ b1 b2 res HRES HS HR H1 H2).mono ?_
    rintro e v3 ⟨mo, mw, mt, mN, mT, mK, mA, mL, mC, mG, mX, mZ, rfl, Om, hsm9, hqm9, hlm, hb3⟩
    have hs3 := hb3.size
    try simp only [World.alloc, Array.size_push] at hs3
    replace Ba := Ba.next hb3
    replace bw := bw.trans (hb3.mono bw.size)
    clear hb3
    have Lm := Om.lt
    try simp only [World.alloc, Array.size_push] at Lm
    subst hsm9
    subst hqm9
    replace Ba := Ba.alloc (.cells #[.string mo, .int .i64 mt, .string mw] 41)
    replace Om := Om.alloc (.cells #[.string mo, .int .i64 mt, .string mw] 41)
    replace bw := bw.alloc bw.size (.cells #[.string mo, .int .i64 mt, .string mw] 41)
    have Bu := Blk.new v3 41 [.string mo, .int .i64 mt, .string mw]
    replace Ba := Ba.alloc (.cells #[.string mN, .int .i64 mT, .int .i64 mK, .slice mA mL mC, .string mG, .string mX] 25)
    replace Bu := Bu.alloc (.cells #[.string mN, .int .i64 mT, .int .i64 mK, .slice mA mL mC, .string mG, .string mX] 25)
    replace Om := Om.alloc (.cells #[.string mN, .int .i64 mT, .int .i64 mK, .slice mA mL mC, .string mG, .string mX] 25)
    replace bw := bw.alloc bw.size (.cells #[.string mN, .int .i64 mT, .int .i64 mK, .slice mA mL mC, .string mG, .string mX] 25)
    have Bm : Blk ((v3.alloc (.cells #[.string mo, .int .i64 mt, .string mw] 41)).alloc (.cells #[.string mN, .int .i64 mT, .int .i64 mK, .slice mA mL mC, .string mG, .string mX] 25)) (v3.heap.size + 1) 25 [.string mN, .int .i64 mT, .int .i64 mK, .slice mA mL mC, .string mG, .string mX] := by
      have h9 := Blk.new (v3.alloc (.cells #[.string mo, .int .i64 mt, .string mw] 41)) 25 [.string mN, .int .i64 mT, .int .i64 mK, .slice mA mL mC, .string mG, .string mX]
      simpa using h9
    obtain ⟨ca0, ca1, ca2⟩ := Ba.cells3
    obtain ⟨cu0, cu1, cu2⟩ := Bu.cells3
    obtain ⟨cm0, cm1, cm2, cm3, cm4, cm5⟩ := Bm.cells6
    go_wp2_with fail
    refine (toState_any o ow t _).mono ?_
    rintro e v4 ⟨rfl, hb4⟩
    clear ca0 ca1 ca2 cu0 cu1 cu2 cm0 cm1 cm2 cm3 cm4 cm5
    have hs4 := hb4.size
    try simp only [World.alloc, Array.size_push] at hs4
    replace Ba := Ba.next hb4
    replace Bu := Bu.next hb4
    replace Bm := Bm.next hb4
    replace Om := own_next Om hb4
    replace bw := bw.trans (hb4.mono bw.size)
    clear hb4
    go_wp2_with fail
    refine (iReadLine_v o ow a1 t _ (hm.below bw) (hk.below bw) (by omega) (by omega) (by omega) _ _ b1 b2 res HRES HS HR H1 H2).mono ?_
    rintro e v5 ⟨go, gw, gt, gN, gT, gK, gA, gL, gC, gG, gX, gZ, rfl, Og, hsg9, hqg9, hlg, hb5⟩
    have hs5 := hb5.size
    try simp only [World.alloc, Array.size_push] at hs5
    replace Ba := Ba.next hb5
    replace Bu := Bu.next hb5
    replace Bm := Bm.next hb5
    replace Om := own_next Om hb5
    replace bw := bw.trans (hb5.mono bw.size)
    clear hb5
    have Lg := Og.lt
    try simp only [World.alloc, Array.size_push] at Lg
    have hl9 := reads_len (Reads.of_own Om)
    have hk9 := reads_len (Reads.of_own Og)
    simp only [Z.Rec.mk.injEq] at hqg9
    obtain ⟨e1, e2, e3, e4, e5, e6⟩ := hqg9
    have e1 := lst_inj e1
    have e5 := lst_inj e5
    have e6 := lst_inj e6
    subst e1 e2 e3 e4 e5 e6
    have e7 : mL = gL := hl9.symm.trans hk9
    subst e7
    simp only [Z.St.mk.injEq] at hsg9
    obtain ⟨e1, e2, e3⟩ := hsg9
    have e1 := lst_inj e1
    have e3 := lst_inj e3
    subst e1 e2 e3
    clear hl9 hk9
    replace Ba := Ba.alloc (.cells #[.string mo, .int .i64 mt, .string mw] 41)
    replace Bu := Bu.alloc (.cells #[.string mo, .int .i64 mt, .string mw] 41)
    replace Bm := Bm.alloc (.cells #[.string mo, .int .i64 mt, .string mw] 41)
    replace Om := Om.alloc (.cells #[.string mo, .int .i64 mt, .string mw] 41)
    replace Og := Og.alloc (.cells #[.string mo, .int .i64 mt, .string mw] 41)
    replace bw := bw.alloc bw.size (.cells #[.string mo, .int .i64 mt, .string mw] 41)
    have By := Blk.new v5 41 [.string mo, .int .i64 mt, .string mw]
    replace Ba := Ba.alloc (.cells #[.string mN, .int .i64 mT, .int .i64 mK, .slice gA mL gC, .string mG, .string mX] 25)
    replace Bu := Bu.alloc (.cells #[.string mN, .int .i64 mT, .int .i64 mK, .slice gA mL gC, .string mG, .string mX] 25)
    replace Bm := Bm.alloc (.cells #[.string mN, .int .i64 mT, .int .i64 mK, .slice gA mL gC, .string mG, .string mX] 25)
    replace By := By.alloc (.cells #[.string mN, .int .i64 mT, .int .i64 mK, .slice gA mL gC, .string mG, .string mX] 25)
    replace Om := Om.alloc (.cells #[.string mN, .int .i64 mT, .int .i64 mK, .slice gA mL gC, .string mG, .string mX] 25)
    replace Og := Og.alloc (.cells #[.string mN, .int .i64 mT, .int .i64 mK, .slice gA mL gC, .string mG, .string mX] 25)
    replace bw := bw.alloc bw.size (.cells #[.string mN, .int .i64 mT, .int .i64 mK, .slice gA mL gC, .string mG, .string mX] 25)
    have Bg : Blk ((v5.alloc (.cells #[.string mo, .int .i64 mt, .string mw] 41)).alloc (.cells #[.string mN, .int .i64 mT, .int .i64 mK, .slice gA mL gC, .string mG, .string mX] 25)) (v5.heap.size + 1) 25 [.string mN, .int .i64 mT, .int .i64 mK, .slice gA mL gC, .string mG, .string mX] := by
      have h9 := Blk.new (v5.alloc (.cells #[.string mo, .int .i64 mt, .string mw] 41)) 25 [.string mN, .int .i64 mT, .int .i64 mK, .slice gA mL gC, .string mG, .string mX]
      simpa using h9
    obtain ⟨ca0, ca1, ca2⟩ := Ba.cells3
    obtain ⟨cu0, cu1, cu2⟩ := Bu.cells3
    obtain ⟨cm0, cm1, cm2, cm3, cm4, cm5⟩ := Bm.cells6
    obtain ⟨cy0, cy1, cy2⟩ := By.cells3
    obtain ⟨cg0, cg1, cg2, cg3, cg4, cg5⟩ := Bg.cells6
    go_wp2_with fail
    refine (eqState_any mo mw mt _).mono ?_
    rintro e v6 ⟨rfl, hb6⟩
    clear ca0 ca1 ca2 cu0 cu1 cu2 cm0 cm1 cm2 cm3 cm4 cm5 cy0 cy1 cy2 cg0 cg1 cg2 cg3 cg4 cg5
    have hs6 := hb6.size
    try simp only [World.alloc, Array.size_push] at hs6
    replace Ba := Ba.next hb6
    replace Bu := Bu.next hb6
    replace Bm := Bm.next hb6
    replace By := By.next hb6
    replace Bg := Bg.next hb6
    replace Om := own_next Om hb6
    replace Og := own_next Og hb6
    replace bw := bw.trans (hb6.mono bw.size)
    clear hb6
    obtain ⟨cm0, cm1, cm2, cm3, cm4, cm5⟩ := Bm.cells6
    obtain ⟨cg0, cg1, cg2, cg3, cg4, cg5⟩ := Bg.cells6
    go_wp2_with fail
    refine (eqRecord_any mN mT mK gA mL gC mG mX _ _ mA mC _ _ (Reads.of_own Og) (Nat.le_refl _) (by omega) (Reads.of_own Om) (Nat.le_refl _)).mono ?_
    rintro e v7 ⟨rfl, hb7⟩
    clear cm0 cm1 cm2 cm3 cm4 cm5 cg0 cg1 cg2 cg3 cg4 cg5
    have hs7 := hb7.size
    try simp only [World.alloc, Array.size_push] at hs7
    replace Ba := Ba.next hb7
    replace Bu := Bu.next hb7
    replace Bm := Bm.next hb7
    replace By := By.next hb7
    replace Bg := Bg.next hb7
    replace Om := own_next Om hb7
    replace Og := own_next Og hb7
    replace bw := bw.trans (hb7.mono bw.size)
    clear hb7
    obtain ⟨cg0, cg1, cg2, cg3, cg4, cg5⟩ := Bg.cells6
    go_wp2_with fail
    refine (markRecord_any mN mT mK gA mL gC mG mX mZ _ 1 _ (by first | omega | (simp; omega)) Og (by omega)).mono ?_
    rintro e v8 ⟨rfl, Og', hb8, hg8⟩
    clear Og
    clear cg0 cg1 cg2 cg3 cg4 cg5
    have hs8 := hg8.size
    try simp only [World.alloc, Array.size_push] at hs8
    replace Ba := Ba.grew hg8 (fun e => by have := Lg _ e.symm; omega)
    replace Bu := Bu.grew hg8 (fun e => by have := Lg _ e.symm; omega)
    replace Bm := Bm.grew hg8 (fun e => by have := Lg _ e.symm; omega)
    replace By := By.grew hg8 (fun e => by have := Lg _ e.symm; omega)
    replace Bg := Bg.grew hg8 (fun e => by have := Lg _ e.symm; omega)
    replace Om := Om.kept hg8 (apart Lm Lg (by omega))
    replace bw := bw.trans (hb8.mono (by first | omega | (simp; omega)))
    clear hb8 hg8
    have Og := Og'
    clear Og'
    obtain ⟨cg0, cg1, cg2, cg3, cg4, cg5⟩ := Bg.cells6
    go_wp2_with fail
    refine (heldRecord_any mN mT mK gA mL gC mG mX _ 1 _ (Reads.of_own Og) (Nat.le_refl _) (by omega)).mono ?_
    rintro e v9 ⟨rfl, hb9⟩
    clear cg0 cg1 cg2 cg3 cg4 cg5
    have hs9 := hb9.size
    try simp only [World.alloc, Array.size_push] at hs9
    replace Ba := Ba.next hb9
    replace Bu := Bu.next hb9
    replace Bm := Bm.next hb9
    replace By := By.next hb9
    replace Bg := Bg.next hb9
    replace Om := own_next Om hb9
    replace Og := own_next Og hb9
    replace bw := bw.trans (hb9.mono bw.size)
    clear hb9
    obtain ⟨ca0, ca1, ca2⟩ := Ba.cells3
    have hq0 : ¬ ((1 : Int) + (mL : Int)) < 0 := by omega
    go_wp2_with fail
    refine (toState_any o ow t _).mono ?_
    rintro e v10 ⟨rfl, hb10⟩
    clear ca0 ca1 ca2
    have hs10 := hb10.size
    try simp only [World.alloc, Array.size_push] at hs10
    replace Ba := Ba.next hb10
    replace Bu := Bu.next hb10
    replace Bm := Bm.next hb10
    replace By := By.next hb10
    replace Bg := Bg.next hb10
    replace Om := own_next Om hb10
    replace Og := own_next Og hb10
    replace bw := bw.trans (hb10.mono bw.size)
    clear hb10
    go_wp2_with fail
    refine (iReadLine_v o ow a1 t _ (hm.below bw) (hk.below bw) (by omega) (by omega) (by omega) _ _ b1 b2 res HRES HS HR H1 H2).mono ?_
    rintro e v11 ⟨ho, hw, ht, hN, hT, hK, hA, hL, hC, hG, hX, hZ, rfl, Oh, hsh9, hqh9, hlh, hb11⟩
    have hs11 := hb11.size
    try simp only [World.alloc, Array.size_push] at hs11
    replace Ba := Ba.next hb11
    replace Bu := Bu.next hb11
    replace Bm := Bm.next hb11
    replace By := By.next hb11
    replace Bg := Bg.next hb11
    replace Om := own_next Om hb11
    replace Og := own_next Og hb11
    replace bw := bw.trans (hb11.mono bw.size)
    clear hb11
    have Lh := Oh.lt
    try simp only [World.alloc, Array.size_push] at Lh
    have hl9 := reads_len (Reads.of_own Om)
    have hk9 := reads_len (Reads.of_own Oh)
    simp only [Z.Rec.mk.injEq] at hqh9
    obtain ⟨e1, e2, e3, e4, e5, e6⟩ := hqh9
    have e1 := lst_inj e1
    have e5 := lst_inj e5
    have e6 := lst_inj e6
    subst e1 e2 e3 e4 e5 e6
    have e7 : mL = hL := hl9.symm.trans hk9
    subst e7
    simp only [Z.St.mk.injEq] at hsh9
    obtain ⟨e1, e2, e3⟩ := hsh9
    have e1 := lst_inj e1
    have e3 := lst_inj e3
    subst e1 e2 e3
    clear hl9 hk9
    replace Ba := Ba.alloc (.cells #[.string mo, .int .i64 mt, .string mw] 41)
    replace Bu := Bu.alloc (.cells #[.string mo, .int .i64 mt, .string mw] 41)
    replace Bm := Bm.alloc (.cells #[.string mo, .int .i64 mt, .string mw] 41)
    replace By := By.alloc (.cells #[.string mo, .int .i64 mt, .string mw] 41)
    replace Bg := Bg.alloc (.cells #[.string mo, .int .i64 mt, .string mw] 41)
    replace Om := Om.alloc (.cells #[.string mo, .int .i64 mt, .string mw] 41)
    replace Og := Og.alloc (.cells #[.string mo, .int .i64 mt, .string mw] 41)
    replace Oh := Oh.alloc (.cells #[.string mo, .int .i64 mt, .string mw] 41)
    replace bw := bw.alloc bw.size (.cells #[.string mo, .int .i64 mt, .string mw] 41)
    have Bz := Blk.new v11 41 [.string mo, .int .i64 mt, .string mw]
    replace Ba := Ba.alloc (.cells #[.string mN, .int .i64 mT, .int .i64 mK, .slice hA mL hC, .string mG, .string mX] 25)
    replace Bu := Bu.alloc (.cells #[.string mN, .int .i64 mT, .int .i64 mK, .slice hA mL hC, .string mG, .string mX] 25)
    replace Bm := Bm.alloc (.cells #[.string mN, .int .i64 mT, .int .i64 mK, .slice hA mL hC, .string mG, .string mX] 25)
    replace By := By.alloc (.cells #[.string mN, .int .i64 mT, .int .i64 mK, .slice hA mL hC, .string mG, .string mX] 25)
    replace Bg := Bg.alloc (.cells #[.string mN, .int .i64 mT, .int .i64 mK, .slice hA mL hC, .string mG, .string mX] 25)
    replace Bz := Bz.alloc (.cells #[.string mN, .int .i64 mT, .int .i64 mK, .slice hA mL hC, .string mG, .string mX] 25)
    replace Om := Om.alloc (.cells #[.string mN, .int .i64 mT, .int .i64 mK, .slice hA mL hC, .string mG, .string mX] 25)
    replace Og := Og.alloc (.cells #[.string mN, .int .i64 mT, .int .i64 mK, .slice hA mL hC, .string mG, .string mX] 25)
    replace Oh := Oh.alloc (.cells #[.string mN, .int .i64 mT, .int .i64 mK, .slice hA mL hC, .string mG, .string mX] 25)
    replace bw := bw.alloc bw.size (.cells #[.string mN, .int .i64 mT, .int .i64 mK, .slice hA mL hC, .string mG, .string mX] 25)
    have Bh : Blk ((v11.alloc (.cells #[.string mo, .int .i64 mt, .string mw] 41)).alloc (.cells #[.string mN, .int .i64 mT, .int .i64 mK, .slice hA mL hC, .string mG, .string mX] 25)) (v11.heap.size + 1) 25 [.string mN, .int .i64 mT, .int .i64 mK, .slice hA mL hC, .string mG, .string mX] := by
      have h9 := Blk.new (v11.alloc (.cells #[.string mo, .int .i64 mt, .string mw] 41)) 25 [.string mN, .int .i64 mT, .int .i64 mK, .slice hA mL hC, .string mG, .string mX]
      simpa using h9
    obtain ⟨cu0, cu1, cu2⟩ := Bu.cells3
    obtain ⟨cm0, cm1, cm2, cm3, cm4, cm5⟩ := Bm.cells6
    obtain ⟨cg0, cg1, cg2, cg3, cg4, cg5⟩ := Bg.cells6
    obtain ⟨cz0, cz1, cz2⟩ := Bz.cells3
    obtain ⟨ch0, ch1, ch2, ch3, ch4, ch5⟩ := Bh.cells6
    go_wp2_with fail
    refine (eqState_any mo mw mt _).mono ?_
    rintro e v12 ⟨rfl, hb12⟩
    clear cu0 cu1 cu2 cm0 cm1 cm2 cm3 cm4 cm5 cg0 cg1 cg2 cg3 cg4 cg5 cz0 cz1 cz2 ch0 ch1 ch2 ch3 ch4 ch5
    have hs12 := hb12.size
    try simp only [World.alloc, Array.size_push] at hs12
    replace Ba := Ba.next hb12
    replace Bu := Bu.next hb12
    replace Bm := Bm.next hb12
    replace By := By.next hb12
    replace Bg := Bg.next hb12
    replace Bz := Bz.next hb12
    replace Bh := Bh.next hb12
    replace Om := own_next Om hb12
    replace Og := own_next Og hb12
    replace Oh := own_next Oh hb12
    replace bw := bw.trans (hb12.mono bw.size)
    clear hb12
    obtain ⟨cm0, cm1, cm2, cm3, cm4, cm5⟩ := Bm.cells6
    obtain ⟨ch0, ch1, ch2, ch3, ch4, ch5⟩ := Bh.cells6
    go_wp2_with fail
    refine (eqRecord_any mN mT mK hA mL hC mG mX _ _ mA mC _ _ (Reads.of_own Oh) (Nat.le_refl _) (by omega) (Reads.of_own Om) (Nat.le_refl _)).mono ?_
    rintro e v13 ⟨rfl, hb13⟩
    clear cm0 cm1 cm2 cm3 cm4 cm5 ch0 ch1 ch2 ch3 ch4 ch5
    have hs13 := hb13.size
    try simp only [World.alloc, Array.size_push] at hs13
    replace Ba := Ba.next hb13
    replace Bu := Bu.next hb13
    replace Bm := Bm.next hb13
    replace By := By.next hb13
    replace Bg := Bg.next hb13
    replace Bz := Bz.next hb13
    replace Bh := Bh.next hb13
    replace Om := own_next Om hb13
    replace Og := own_next Og hb13
    replace Oh := own_next Oh hb13
    replace bw := bw.trans (hb13.mono bw.size)
    clear hb13
    obtain ⟨cg0, cg1, cg2, cg3, cg4, cg5⟩ := Bg.cells6
    go_wp2_with fail
    refine (heldRecord_any mN mT mK gA mL gC mG mX _ 1 _ (Reads.of_own Og) (Nat.le_refl _) (by omega)).mono ?_
    rintro e v14 ⟨rfl, hb14⟩
    clear cg0 cg1 cg2 cg3 cg4 cg5
    have hs14 := hb14.size
    try simp only [World.alloc, Array.size_push] at hs14
    replace Ba := Ba.next hb14
    replace Bu := Bu.next hb14
    replace Bm := Bm.next hb14
    replace By := By.next hb14
    replace Bg := Bg.next hb14
    replace Bz := Bz.next hb14
    replace Bh := Bh.next hb14
    replace Om := own_next Om hb14
    replace Og := own_next Og hb14
    replace Oh := own_next Oh hb14
    replace bw := bw.trans (hb14.mono bw.size)
    clear hb14
    go_wp2
    go_ret
    exact ⟨rfl, bw⟩
  · go_enter Tryz.func4, Tryz.ntmps4
    go_wp2_with fail
    go_ret
    exact ⟨rfl, (Below.refl _ _).alloc (Nat.le_refl _) _⟩

end Go.Proofs.YtpgeeeamcncpkaaGreatDoor.fnExactReadLine

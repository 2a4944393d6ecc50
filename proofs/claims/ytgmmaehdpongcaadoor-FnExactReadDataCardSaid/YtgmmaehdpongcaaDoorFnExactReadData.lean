/- For all records, lists of fields and origins, ReadData answers as the model does, leaves what it was given as it was, and its answer owns its memory, where the tables are as the programs' texts lay them. -/
import Derived.Test.YtgmmaehdpongcaaDoorTie
import Derived.Test.YtgmmaehdpongcaaDoorCards
import Derived.Test.YtgmmaehdpongcaaDoorHb
import Derived.Test.YtgmmaehdpongcaaDoorHc
import Derived.Test.YtgmmaehdpongcaaDoorRe
import Derived.Test.YtgmmaehdpongcaaDoorRi
import Derived.Deep.RegionHeld3
import Derived.Outline
namespace Go.Proofs.YtgmmaehdpongcaaDoor.fnExactReadData
open Go.ChangeShapes Go.WideShapes Go.ChangeAt Go.RowKit
open Go.ChangeMaps (open_string shut_string)
set_option linter.unusedVariables false

theorem own : ownKnob Tryd.prog.godebug = none := by kernel_rfl
theorem laidOut : laidOutB Tryd.prog = true := by kernel_rfl
theorem apart {u v : Value} {p q p' q' : Nat} (hu : ∀ k, u.ownBlock = some k → p ≤ k ∧ k < q) (hv : ∀ k, v.ownBlock = some k → p' ≤ k ∧ k < q') (h : q ≤ p' ∨ q' ≤ p) : u.ownBlock = none ∨ u.ownBlock ≠ v.ownBlock := by
  cases hu2 : u.ownBlock with
  | none => exact Or.inl rfl
  | some k =>
    refine Or.inr fun e => ?_
    have h1 := hu k hu2
    have h2 := hv k e.symm
    omega
theorem ReadData_eq (aN : ByteArray) (aT aK : Int) (rA : Option Addr) (rL rC : Nat) (rG rX : ByteArray) (fs : List Z.Str) (B : Nat) (A : Option Addr) (c : Nat) (or : ByteArray) (w : World) (hr : Reads w B A fs.length (fs.map sv)) (hB : B ≤ w.heap.size) (hcap : fs.length ≤ c) (hlen : fs.length ≤ 67108864) (hor : or.size ≤ 67108864) (hnm : aN.size ≤ 67108864) (hsz : Hid (∀ l ∈ fs, l.length ≤ 67108864)) (o : Option Z.Rec) (ho : Hid (Z.readData (lst aN) aT aK fs (lst or) = o)) (ok : Bool) (hok : Hid (o.isSome = ok)) :
    Calls Tryd.prog 35 #[.agg #[.string aN, .int .i64 aT, .int .i64 aK, .slice rA rL rC, .string rG, .string rX], .slice A fs.length c, .string or] w fun e w' => ∃ (N : ByteArray) (T K : Int) (A : Option Addr) (L c : Nat) (x y : ByteArray) (ns : List Int), e = .returned (.tuple #[.agg #[.string N, .int .i64 T, .int .i64 K, .slice A L c, .string x, .string y], .bool ok]) ∧ w'.ownsRow w.heap.size 3 1 (.slice A L c) L (ns.map iv) ∧ o.getD noRec = ⟨lst N, T, K, ns, lst x, lst y⟩ ∧ L ≤ 7 ∧ Below w.heap.size w w' := by
  have h := ReadData_any aN aT aK rA rL rC rG rX fs B A c or w hr hB hcap hlen hor hnm hsz
  unfold ParseOut at h
  rw [ho.out, hok.out] at h
  exact h
theorem iReadData_eq (aN : ByteArray) (aT aK : Int) (rA : Option Addr) (rL rC : Nat) (rG rX : ByteArray) (fs : List Z.Str) (B : Nat) (A : Option Addr) (c : Nat) (or : ByteArray) (w : World) (hm : MX w) (hr : Reads w B A fs.length (fs.map sv)) (hB : B ≤ w.heap.size) (hcap : fs.length ≤ c) (hlen : fs.length ≤ 67108864) (hor : or.size ≤ 67108863) (hnm : aN.size ≤ 67108863) (hsz : Hid (∀ l ∈ fs, l.length ≤ 67108863)) (o : Option Z.Rec) (ho : Hid (Z.readData (lst aN) aT aK fs (lst or) = o)) (ok : Bool) (hok : Hid (o.isSome = ok)) :
    Calls Tryd.prog 37 #[.agg #[.string aN, .int .i64 aT, .int .i64 aK, .slice rA rL rC, .string rG, .string rX], .slice A fs.length c, .string or] w fun e w' => ∃ (N : ByteArray) (T K : Int) (A : Option Addr) (L c : Nat) (x y : ByteArray) (ns : List Int), e = .returned (.tuple #[.agg #[.string N, .int .i64 T, .int .i64 K, .slice A L c, .string x, .string y], .bool ok]) ∧ w'.ownsRow w.heap.size 3 1 (.slice A L c) L (ns.map iv) ∧ o.getD noRec = ⟨lst N, T, K, ns, lst x, lst y⟩ ∧ L ≤ 7 ∧ Below w.heap.size w w' := by
  have h := iReadData_any aN aT aK rA rL rC rG rX fs B A c or w hm hr hB hcap hlen hor hnm hsz
  unfold ParseOut at h
  rw [ho.out, hok.out] at h
  exact h
theorem eqStrS (xs : List Z.Str) (B : Nat) (A A2 : Option Addr) (c c2 : Nat) (w : World) (hr1 : Reads w B A xs.length (xs.map sv)) (hr2 : Reads w B A2 xs.length (xs.map sv)) (hx : xs.length ≤ 67108864) :
    Calls Tryd.prog 31 #[.slice A xs.length c, .slice A2 xs.length c2] w fun e w' => e = .returned (.bool true) ∧ ∃ q, w.drewN q = w' := by
  refine (eqStringS_any xs xs B A A2 _ _ c c2 w hr1 hr2 hx hx).mono ?_
  rintro e w' ⟨rfl, q, rfl⟩
  exact ⟨ret_bool (by simp), q, rfl⟩
theorem markS_int (xs : List Z.Str) (base : Nat) (A : Option Addr) (n c k : Nat) (v : Int) (hv : v = (k : Int)) (w : World) (hown : w.ownsRow base 9 1 (.slice A n c) n (xs.map sv)) (h1 : 1 ≤ k) (h2 : k + xs.length ≤ 1048577) :
    Calls Tryd.prog 32 #[.slice A n c, .int .i64 v] w fun e w' => ∃ r : Int, e = .returned (.int .i64 r) ∧ ¬ r < 0 ∧ Below base w w' ∧ w.grownBy w' (Value.slice A n c).ownBlock := by
  subst hv
  exact (markStringS_grown xs base A n c k w hown h1 h2).mono fun _ _ h => ⟨_, h.1, by omega, h.2.2⟩
theorem regCells {w W : World} {b b' : Nat} {t t' : TypeId} {c0 c1 c2 c3 c4 c5 d0 d1 d2 d3 d4 d5 : Value} (h : Blk w b t [c0, c1, c2, c3, c4, c5]) (k : Blk w b' t' [d0, d1, d2, d3, d4, d5]) (hb : Below w.heap.size w W) :
    Below w.heap.size w W ∧ W.cell? ⟨b, 0, none⟩ = some c0 ∧ W.cell? ⟨b, 1, none⟩ = some c1 ∧ W.cell? ⟨b, 2, none⟩ = some c2 ∧ W.cell? ⟨b, 3, none⟩ = some c3 ∧ W.cell? ⟨b, 4, none⟩ = some c4 ∧ W.cell? ⟨b, 5, none⟩ = some c5 ∧
    W.cell? ⟨b', 0, none⟩ = some d0 ∧ W.cell? ⟨b', 1, none⟩ = some d1 ∧ W.cell? ⟨b', 2, none⟩ = some d2 ∧ W.cell? ⟨b', 3, none⟩ = some d3 ∧ W.cell? ⟨b', 4, none⟩ = some d4 ∧ W.cell? ⟨b', 5, none⟩ = some d5 := by
  obtain ⟨h0, h1, h2, h3, h4, h5⟩ := (h.next hb).cells6
  obtain ⟨k0, k1, k2, k3, k4, k5⟩ := (k.next hb).cells6
  exact ⟨hb, h0, h1, h2, h3, h4, h5, k0, k1, k2, k3, k4, k5⟩
theorem belowOn {w W W' : World} (h : Below w.heap.size w W) (k : Below W.heap.size W W') : Below w.heap.size w W' := h.trans (k.mono h.size)
theorem toRecord_reg {w V W : World} {aN : ByteArray} {aT aK : Int} {aA : Option Addr} {aL aC : Nat} {aG aX : ByteArray} {aZ : List Int} (hra : Reads w w.heap.size aA aL (aZ.map iv)) (bw : Below w.heap.size w V) (hh : Below V.heap.size V W) (la : aL ≤ 1048576) :
    Calls Tryd.prog 27 #[.agg #[.string aN, .int .i64 aT, .int .i64 aK, .slice aA aL aC, .string aG, .string aX]] W fun e W' => ∃ A c, e = .returned (.agg #[.string aN, .int .i64 aT, .int .i64 aK, .slice A aL c, .string aG, .string aX]) ∧ Reads W' W'.heap.size A aL (aZ.map iv) ∧ Below W.heap.size W W' :=
  toRecord_any _ _ _ _ _ _ _ _ aZ w.heap.size W (hra.below (bw.trans (hh.mono bw.size)) (Nat.le_refl _)) (Nat.le_trans bw.size hh.size) (by omega) la
theorem eqRecord_reg {V W : World} {aN : ByteArray} {aT aK : Int} {aA bA : Option Addr} {aL aC bC : Nat} {aG aX : ByteArray} {aZ : List Int} (hra : Reads V V.heap.size aA aL (aZ.map iv)) (hh : Below V.heap.size V W) (hrb : Reads W W.heap.size bA aL (aZ.map iv)) (la : aL ≤ 1048576) :
    Calls Tryd.prog 28 #[.agg #[.string aN, .int .i64 aT, .int .i64 aK, .slice aA aL aC, .string aG, .string aX], .agg #[.string aN, .int .i64 aT, .int .i64 aK, .slice bA aL bC, .string aG, .string aX]] W fun e W' => e = .returned (.bool true) ∧ Below W.heap.size W W' :=
  eqRecord_any _ _ _ _ _ _ _ _ aZ V.heap.size bA bC W.heap.size W (hra.below hh (Nat.le_refl _)) hh.size (by omega) hrb (Nat.le_refl _)

set_option maxRecDepth 100000 in
set_option maxHeartbeats 16000000 in
theorem walk (v0 v1 : Value) (a2 : ByteArray) (w2 : a2.size ≤ maxLen) (w : World) (i0 : RecIn w v0) (i1 : StrsIn w v1) (hm : MX w) :
    Calls Tryd.prog 9 #[v0, v1, .string a2] w fun e w' => e = .returned (.bool true) ∧ Below w.heap.size w w' := by
  unfold maxLen at w2
  obtain ⟨aN, aT, aK, aA, aL, aC, aG, aX, rfl, m1, m2, m3, m4, m5, aZ, hra⟩ := i0
  obtain ⟨fA, fn, fC, ls, rfl, f1, f2, rfl, hrf, hl⟩ := i1
  have HL := hid hl
  unfold maxLen at f2
  clear hl
  by_cases hb0 : a2.size ≤ 1048576
  · obtain ⟨o, ho⟩ : ∃ o, Z.readData (lst aN) aT aK ls (lst a2) = o := ⟨_, rfl⟩
    obtain ⟨ok, hok⟩ : ∃ ok, o.isSome = ok := ⟨_, rfl⟩
    have HO := hid ho
    have HOK := hid hok
    clear ho hok
    go_enter Tryd.func9, Tryd.ntmps9
    have Ba : Blk (w.alloc (.cells #[.string aN, .int .i64 aT, .int .i64 aK, .slice aA aL aC, .string aG, .string aX] 38)) w.heap.size 38 [.string aN, .int .i64 aT, .int .i64 aK, .slice aA aL aC, .string aG, .string aX] := Blk.new w 38 [.string aN, .int .i64 aT, .int .i64 aK, .slice aA aL aC, .string aG, .string aX]
    have bw : Below w.heap.size w (w.alloc (.cells #[.string aN, .int .i64 aT, .int .i64 aK, .slice aA aL aC, .string aG, .string aX] 38)) := (Below.refl _ _).alloc (Nat.le_refl _) _
    obtain ⟨ca0, ca1, ca2, ca3, ca4, ca5⟩ := Ba.cells6
    go_wp2_with fail
    refine (szRecord_any _ _ _ _ _ _ _ _ [] 0 1048576 _ m1 (by omega) m2 m3 (by omega) (by omega)).mono ?_
    rintro e w1 ⟨k1, rfl, hk1, hb1⟩
    clear ca0 ca1 ca2 ca3 ca4 ca5
    have hs1 := hb1.size
    try simp only [World.alloc, Array.size_push] at hs1
    replace Ba := Ba.next hb1
    replace bw := bw.trans (hb1.mono bw.size)
    clear hb1
    obtain ⟨ca0, ca1, ca2, ca3, ca4, ca5⟩ := Ba.cells6
    by_cases hk1n : k1 < 0
    · go_wp2
      go_ret
      exact ⟨rfl, bw⟩
    obtain ⟨g1, g2⟩ := hk1.out
    have g3 := g2 (by omega)
    clear g2 hk1 m1 m2 m3 m4
    have la : aL ≤ 1048576 := by omega
    have s1 : aN.size ≤ 1048576 := by omega
    obtain ⟨M1, rfl⟩ : ∃ M : Nat, k1 = M := ⟨k1.toNat, by omega⟩
    go_wp2_with fail
    refine (szStringS_from M1 (by omega) ls w.heap.size fA _ fC _ (hrf.below bw (Nat.le_refl _)) (by unfold maxLen; omega) HL.out).mono ?_
    rintro e w1' ⟨m, rfl, hm9, rfl⟩
    by_cases hm0 : m < 0
    · go_wp2_with fail
      go_ret
      exact ⟨rfl, bw⟩
    have hsz : ls.length + sizes ls ≤ M1 := by
      rcases hm9.out with h | h
      · exact absurd h hm0
      · exact h.2
    have HLB : Hid (∀ l ∈ ls, l.length ≤ 67108863) := hid (fun l hl => by have := sizes_mem hl; omega)
    have HLC : Hid (∀ l ∈ ls, l.length ≤ 67108864) := hid (fun l hl => by have := HLB.out l hl; omega)
    have hll : ls.length ≤ 1048576 := by omega
    clear hm9 HL
    go_wp2_with fail
    refine (toRecord_own aN aT aK aA aL aC aG aX aZ w.heap.size _ (hra.below bw (Nat.le_refl _)) bw.size (by omega) la).mono ?_
    rintro e v2 ⟨A2, c2, rfl, ho2, hb2⟩
    clear ca0 ca1 ca2 ca3 ca4 ca5
    have hs2 := hb2.size
    try simp only [World.alloc, Array.size_push] at hs2
    replace Ba := Ba.next hb2
    replace bw := bw.trans (hb2.mono bw.size)
    clear hb2
    clear ho2
    obtain ⟨ca0, ca1, ca2, ca3, ca4, ca5⟩ := Ba.cells6
    go_wp2_with fail
    refine (toStringS_any ls w.heap.size fA _ fC _ (hrf.below bw (Nat.le_refl _)) bw.size hll).mono ?_
    rintro e v3 ⟨A3, c3, rfl, Os3, hb3⟩
    clear ca0 ca1 ca2 ca3 ca4 ca5
    have hs3 := hb3.size
    try simp only [World.alloc, Array.size_push] at hs3
    replace Ba := Ba.next hb3
    replace bw := bw.trans (hb3.mono bw.size)
    clear hb3
    obtain ⟨ca0, ca1, ca2, ca3, ca4, ca5⟩ := Ba.cells6
    have cap3 := (own_cap Os3).1
    go_wp2_with fail
    refine (ReadData_eq aN aT aK A2 aL c2 aG aX ls _ A3 c3 a2 _ (Reads.of_own Os3) (Nat.le_refl _) cap3 (by omega) (by omega) (by omega) HLC _ HO ok HOK).mono ?_
    rintro e v4 ⟨bN, bT, bK, bA, bL, bC, bG, bX, bZ, rfl, Ow, hq4, hl4, hb4⟩
    clear Os3 cap3
    clear ca0 ca1 ca2 ca3 ca4 ca5
    have hs4 := hb4.size
    try simp only [World.alloc, Array.size_push] at hs4
    replace Ba := Ba.next hb4
    replace bw := bw.trans (hb4.mono bw.size)
    clear hb4
    have Lw := Ow.lt
    try simp only [World.alloc, Array.size_push] at Lw
    replace Ba := Ba.alloc (.cells #[.string bN, .int .i64 bT, .int .i64 bK, .slice bA bL bC, .string bG, .string bX] 25)
    replace Ow := Ow.alloc (.cells #[.string bN, .int .i64 bT, .int .i64 bK, .slice bA bL bC, .string bG, .string bX] 25)
    replace bw := bw.alloc bw.size (.cells #[.string bN, .int .i64 bT, .int .i64 bK, .slice bA bL bC, .string bG, .string bX] 25)
    have Bw : Blk (v4.alloc (.cells #[.string bN, .int .i64 bT, .int .i64 bK, .slice bA bL bC, .string bG, .string bX] 25)) v4.heap.size 25 [.string bN, .int .i64 bT, .int .i64 bK, .slice bA bL bC, .string bG, .string bX] := Blk.new v4 25 [.string bN, .int .i64 bT, .int .i64 bK, .slice bA bL bC, .string bG, .string bX]
    obtain ⟨ca0, ca1, ca2, ca3, ca4, ca5⟩ := Ba.cells6
    obtain ⟨cw0, cw1, cw2, cw3, cw4, cw5⟩ := Bw.cells6
    go_wp2_with fail
    refine (toRecord_own aN aT aK aA aL aC aG aX aZ w.heap.size _ (hra.below bw (Nat.le_refl _)) bw.size (by omega) la).mono ?_
    rintro e v5 ⟨A5, c5, rfl, Ox, hb5⟩
    clear ca0 ca1 ca2 ca3 ca4 ca5 cw0 cw1 cw2 cw3 cw4 cw5
    have hs5 := hb5.size
    try simp only [World.alloc, Array.size_push] at hs5
    replace Ba := Ba.next hb5
    replace Bw := Bw.next hb5
    replace Ow := own_next Ow hb5
    replace bw := bw.trans (hb5.mono bw.size)
    clear hb5
    have Lx := Ox.lt
    try simp only [World.alloc, Array.size_push] at Lx
    replace Ba := Ba.alloc (.cells #[.string aN, .int .i64 aT, .int .i64 aK, .slice A5 aL c5, .string aG, .string aX] 25)
    replace Bw := Bw.alloc (.cells #[.string aN, .int .i64 aT, .int .i64 aK, .slice A5 aL c5, .string aG, .string aX] 25)
    replace Ow := Ow.alloc (.cells #[.string aN, .int .i64 aT, .int .i64 aK, .slice A5 aL c5, .string aG, .string aX] 25)
    replace Ox := Ox.alloc (.cells #[.string aN, .int .i64 aT, .int .i64 aK, .slice A5 aL c5, .string aG, .string aX] 25)
    replace bw := bw.alloc bw.size (.cells #[.string aN, .int .i64 aT, .int .i64 aK, .slice A5 aL c5, .string aG, .string aX] 25)
    have Bx : Blk (v5.alloc (.cells #[.string aN, .int .i64 aT, .int .i64 aK, .slice A5 aL c5, .string aG, .string aX] 25)) v5.heap.size 25 [.string aN, .int .i64 aT, .int .i64 aK, .slice A5 aL c5, .string aG, .string aX] := Blk.new v5 25 [.string aN, .int .i64 aT, .int .i64 aK, .slice A5 aL c5, .string aG, .string aX]
    obtain ⟨ca0, ca1, ca2, ca3, ca4, ca5⟩ := Ba.cells6
    obtain ⟨cw0, cw1, cw2, cw3, cw4, cw5⟩ := Bw.cells6
    obtain ⟨cx0, cx1, cx2, cx3, cx4, cx5⟩ := Bx.cells6
    go_wp2_with fail
    refine (toStringS_any ls w.heap.size fA _ fC _ (hrf.below bw (Nat.le_refl _)) bw.size hll).mono ?_
    rintro e v6 ⟨A6, c6, rfl, Os, hb6⟩
    clear ca0 ca1 ca2 ca3 ca4 ca5 cw0 cw1 cw2 cw3 cw4 cw5 cx0 cx1 cx2 cx3 cx4 cx5
    have hs6 := hb6.size
    try simp only [World.alloc, Array.size_push] at hs6
    replace Ba := Ba.next hb6
    replace Bw := Bw.next hb6
    replace Bx := Bx.next hb6
    replace Ow := own_next Ow hb6
    replace Ox := own_next Ox hb6
    replace bw := bw.trans (hb6.mono bw.size)
    clear hb6
    have Ls := Os.lt
    try simp only [World.alloc, Array.size_push] at Ls
    obtain ⟨ca0, ca1, ca2, ca3, ca4, ca5⟩ := Ba.cells6
    obtain ⟨cw0, cw1, cw2, cw3, cw4, cw5⟩ := Bw.cells6
    obtain ⟨cx0, cx1, cx2, cx3, cx4, cx5⟩ := Bx.cells6
    have cap6 := (own_cap Os).1
    go_wp2_with fail
    refine (iReadData_eq aN aT aK A5 aL c5 aG aX ls _ A6 c6 a2 _ (hm.below bw) (Reads.of_own Os) (Nat.le_refl _) cap6 (by omega) (by omega) (by omega) HLB _ HO ok HOK).mono ?_
    rintro e v7 ⟨gN, gT, gK, gA, gL, gC, gG, gX, gZ, rfl, Og, hq7, hl7, hb7⟩
    clear cap6
    clear ca0 ca1 ca2 ca3 ca4 ca5 cw0 cw1 cw2 cw3 cw4 cw5 cx0 cx1 cx2 cx3 cx4 cx5
    have hs7 := hb7.size
    try simp only [World.alloc, Array.size_push] at hs7
    replace Ba := Ba.next hb7
    replace Bw := Bw.next hb7
    replace Bx := Bx.next hb7
    replace Ow := own_next Ow hb7
    replace Ox := own_next Ox hb7
    replace Os := own_next Os hb7
    replace bw := bw.trans (hb7.mono bw.size)
    clear hb7
    have Lg := Og.lt
    try simp only [World.alloc, Array.size_push] at Lg
    have hlw7 := reads_len (Reads.of_own Ow)
    have hlg7 := reads_len (Reads.of_own Og)
    have he7 := hq4.symm.trans hq7
    simp only [Z.Rec.mk.injEq] at he7
    obtain ⟨e1, rfl, rfl, rfl, e5, e6⟩ := he7
    obtain rfl := lst_inj e1
    obtain rfl := lst_inj e5
    obtain rfl := lst_inj e6
    obtain rfl : bL = gL := hlw7.symm.trans hlg7
    clear e1 e5 e6 hlw7 hlg7 hq7
    replace Ba := Ba.alloc (.cells #[.string bN, .int .i64 bT, .int .i64 bK, .slice gA bL gC, .string bG, .string bX] 25)
    replace Bw := Bw.alloc (.cells #[.string bN, .int .i64 bT, .int .i64 bK, .slice gA bL gC, .string bG, .string bX] 25)
    replace Bx := Bx.alloc (.cells #[.string bN, .int .i64 bT, .int .i64 bK, .slice gA bL gC, .string bG, .string bX] 25)
    replace Ow := Ow.alloc (.cells #[.string bN, .int .i64 bT, .int .i64 bK, .slice gA bL gC, .string bG, .string bX] 25)
    replace Ox := Ox.alloc (.cells #[.string bN, .int .i64 bT, .int .i64 bK, .slice gA bL gC, .string bG, .string bX] 25)
    replace Os := Os.alloc (.cells #[.string bN, .int .i64 bT, .int .i64 bK, .slice gA bL gC, .string bG, .string bX] 25)
    replace Og := Og.alloc (.cells #[.string bN, .int .i64 bT, .int .i64 bK, .slice gA bL gC, .string bG, .string bX] 25)
    replace bw := bw.alloc bw.size (.cells #[.string bN, .int .i64 bT, .int .i64 bK, .slice gA bL gC, .string bG, .string bX] 25)
    have Bg : Blk (v7.alloc (.cells #[.string bN, .int .i64 bT, .int .i64 bK, .slice gA bL gC, .string bG, .string bX] 25)) v7.heap.size 25 [.string bN, .int .i64 bT, .int .i64 bK, .slice gA bL gC, .string bG, .string bX] := Blk.new v7 25 [.string bN, .int .i64 bT, .int .i64 bK, .slice gA bL gC, .string bG, .string bX]
    obtain ⟨ca0, ca1, ca2, ca3, ca4, ca5⟩ := Ba.cells6
    obtain ⟨cw0, cw1, cw2, cw3, cw4, cw5⟩ := Bw.cells6
    obtain ⟨cx0, cx1, cx2, cx3, cx4, cx5⟩ := Bx.cells6
    obtain ⟨cg0, cg1, cg2, cg3, cg4, cg5⟩ := Bg.cells6
    go_wp2_with fail
    refine (eqRecord_any bN bT bK gA bL gC bG bX bZ _ bA bC _ _ (Reads.of_own Og) (Nat.le_refl _) (by omega) (Reads.of_own Ow) (Nat.le_refl _)).mono ?_
    rintro e v8 ⟨rfl, hb8⟩
    clear ca0 ca1 ca2 ca3 ca4 ca5 cw0 cw1 cw2 cw3 cw4 cw5 cx0 cx1 cx2 cx3 cx4 cx5 cg0 cg1 cg2 cg3 cg4 cg5
    have hs8 := hb8.size
    try simp only [World.alloc, Array.size_push] at hs8
    replace Ba := Ba.next hb8
    replace Bw := Bw.next hb8
    replace Bx := Bx.next hb8
    replace Bg := Bg.next hb8
    replace Ow := own_next Ow hb8
    replace Ox := own_next Ox hb8
    replace Os := own_next Os hb8
    replace Og := own_next Og hb8
    replace bw := bw.trans (hb8.mono bw.size)
    clear hb8
    obtain ⟨ca0, ca1, ca2, ca3, ca4, ca5⟩ := Ba.cells6
    obtain ⟨cx0, cx1, cx2, cx3, cx4, cx5⟩ := Bx.cells6
    have RX := Reads.of_own Ox
    go_wp2_with fail
    go_region_held3 (fun w' => Below v8.heap.size v8 w' ∧ w'.cell? ⟨w.heap.size, 0, none⟩ = some (.string aN) ∧ w'.cell? ⟨w.heap.size, 1, none⟩ = some (.int .i64 aT) ∧ w'.cell? ⟨w.heap.size, 2, none⟩ = some (.int .i64 aK) ∧ w'.cell? ⟨w.heap.size, 3, none⟩ = some (.slice aA aL aC) ∧ w'.cell? ⟨w.heap.size, 4, none⟩ = some (.string aG) ∧ w'.cell? ⟨w.heap.size, 5, none⟩ = some (.string aX) ∧ w'.cell? ⟨v5.heap.size, 0, none⟩ = some (.string aN) ∧ w'.cell? ⟨v5.heap.size, 1, none⟩ = some (.int .i64 aT) ∧ w'.cell? ⟨v5.heap.size, 2, none⟩ = some (.int .i64 aK) ∧ w'.cell? ⟨v5.heap.size, 3, none⟩ = some (.slice A5 aL c5) ∧ w'.cell? ⟨v5.heap.size, 4, none⟩ = some (.string aG) ∧ w'.cell? ⟨v5.heap.size, 5, none⟩ = some (.string aX))
      (first | exact regCells Ba Bx (Below.refl _ _) | exact regCells Ba Bx (by assumption) | exact regCells Ba Bx (below_drewN (Below.refl _ _) 1) | exact regCells Ba Bx (below_drewN (by assumption) 1) | (go_split_ands; exact regCells Ba Bx (belowOn (by assumption) hb9)))
      (first
        | (go_at_call 27; go_split_ands; refine (toRecord_reg hra bw (by assumption) la).mono ?_; rintro e w9 ⟨A9, c9, rfl, hr9, hb9⟩)
        | (go_at_call 28; go_split_ands; refine (eqRecord_reg RX (by assumption) (by first | assumption | exact readsNow (by assumption) (by assumption)) la).mono ?_; rintro e w14 ⟨rfl, hb9⟩))
    all_goals go_split_ands
    all_goals (have hb10 : Below v8.heap.size v8 w14 := by assumption)
    all_goals (
      clear RX
      try clear hr9
      have hs9 := hb10.size
      try simp only [World.alloc, Array.size_push] at hs9
      replace Ba := Ba.next hb10
      replace Bw := Bw.next hb10
      replace Bx := Bx.next hb10
      replace Bg := Bg.next hb10
      replace Ow := own_next Ow hb10
      replace Ox := own_next Ox hb10
      replace Os := own_next Os hb10
      replace Og := own_next Og hb10
      replace bw := bw.trans (hb10.mono bw.size)
      clear hb10
      obtain ⟨ca0, ca1, ca2, ca3, ca4, ca5⟩ := Ba.cells6
      obtain ⟨cx0, cx1, cx2, cx3, cx4, cx5⟩ := Bx.cells6
      go_wp2_with fail
      refine (toStringS_any ls w.heap.size fA _ fC _ (hrf.below bw (Nat.le_refl _)) bw.size hll).mono ?_
      rintro e v11 ⟨A11, c11, rfl, Os11, hb11⟩
      clear ca0 ca1 ca2 ca3 ca4 ca5 cx0 cx1 cx2 cx3 cx4 cx5
      have hs10 := hb11.size
      try simp only [World.alloc, Array.size_push] at hs10
      replace Ba := Ba.next hb11
      replace Bw := Bw.next hb11
      replace Bx := Bx.next hb11
      replace Bg := Bg.next hb11
      replace Ow := own_next Ow hb11
      replace Ox := own_next Ox hb11
      replace Os := own_next Os hb11
      replace Og := own_next Og hb11
      replace bw := bw.trans (hb11.mono bw.size)
      clear hb11
      obtain ⟨ca0, ca1, ca2, ca3, ca4, ca5⟩ := Ba.cells6
      go_wp2_with fail
      refine (eqStrS ls _ A6 A11 c6 c11 _ (Reads.of_own Os) (Reads.of_own Os11) (by omega)).mono ?_
      rintro e v12 ⟨rfl, q12, rfl⟩
      have hb12 := below_drewN (Below.refl v11.heap.size v11) q12
      clear Os11
      clear ca0 ca1 ca2 ca3 ca4 ca5
      have hs11 := hb12.size
      try simp only [World.alloc, Array.size_push] at hs11
      replace Ba := Ba.next hb12
      replace Bw := Bw.next hb12
      replace Bx := Bx.next hb12
      replace Bg := Bg.next hb12
      replace Ow := own_next Ow hb12
      replace Ox := own_next Ox hb12
      replace Os := own_next Os hb12
      replace Og := own_next Og hb12
      replace bw := bw.trans (hb12.mono bw.size)
      clear hb12
      obtain ⟨cx0, cx1, cx2, cx3, cx4, cx5⟩ := Bx.cells6
      go_wp2_with fail
      refine (markRecord_any aN aT aK A5 aL c5 aG aX aZ _ 1 _ (by simp; omega) Ox (by omega)).mono ?_
      rintro e v13 ⟨rfl, hO13, hb13, hg13⟩
      clear Ox hO13
      clear cx0 cx1 cx2 cx3 cx4 cx5
      have hs12 := hg13.size
      try simp only [World.alloc, Array.size_push] at hs12
      replace Ba := Ba.grew hg13 (fun e => by have := Lx _ e.symm; omega)
      replace Bw := Bw.grew hg13 (fun e => by have := Lx _ e.symm; omega)
      replace Bx := Bx.grew hg13 (fun e => by have := Lx _ e.symm; omega)
      replace Bg := Bg.grew hg13 (fun e => by have := Lx _ e.symm; omega)
      replace Ow := Ow.kept hg13 (apart Lw Lx (by omega))
      replace Os := Os.kept hg13 (apart Ls Lx (by omega))
      replace Og := Og.kept hg13 (apart Lg Lx (by omega))
      replace bw := bw.trans (hb13.mono (by first | omega | (simp; omega)))
      clear hb13 hg13
      go_wp2_with fail
      refine (markS_int ls _ A6 _ c6 (1 + aL) _ (by simp) v13 Os (by omega) (by omega)).mono ?_
      rintro e v14 ⟨k14, rfl, hk14, hb14, hg14⟩
      clear Os
      have hs13 := hg14.size
      try simp only [World.alloc, Array.size_push] at hs13
      replace Ba := Ba.grew hg14 (fun e => by have := Ls _ e.symm; omega)
      replace Bw := Bw.grew hg14 (fun e => by have := Ls _ e.symm; omega)
      replace Bx := Bx.grew hg14 (fun e => by have := Ls _ e.symm; omega)
      replace Bg := Bg.grew hg14 (fun e => by have := Ls _ e.symm; omega)
      replace Ow := Ow.kept hg14 (apart Lw Ls (by omega))
      replace Og := Og.kept hg14 (apart Lg Ls (by omega))
      replace bw := bw.trans (hb14.mono (by first | omega | (simp; omega)))
      clear hb14 hg14
      obtain ⟨cg0, cg1, cg2, cg3, cg4, cg5⟩ := Bg.cells6
      obtain ⟨cw0, cw1, cw2, cw3, cw4, cw5⟩ := Bw.cells6
      go_wp2_with fail
      refine (eqRecord_any bN bT bK gA bL gC bG bX bZ _ bA bC _ _ (Reads.of_own Og) (Nat.le_refl _) (by omega) (Reads.of_own Ow) (Nat.le_refl _)).mono ?_
      rintro e v15 ⟨rfl, hb15⟩
      clear cg0 cg1 cg2 cg3 cg4 cg5 cw0 cw1 cw2 cw3 cw4 cw5
      have hs14 := hb15.size
      try simp only [World.alloc, Array.size_push] at hs14
      replace Ba := Ba.next hb15
      replace Bw := Bw.next hb15
      replace Bx := Bx.next hb15
      replace Bg := Bg.next hb15
      replace Ow := own_next Ow hb15
      replace Og := own_next Og hb15
      replace bw := bw.trans (hb15.mono bw.size)
      clear hb15
      obtain ⟨cg0, cg1, cg2, cg3, cg4, cg5⟩ := Bg.cells6
      go_wp2_with fail
      refine (markRecord_any bN bT bK gA bL gC bG bX bZ _ 1 _ (by first | omega | (simp; omega)) Og (by omega)).mono ?_
      rintro e v16 ⟨rfl, Og', hb16, hg16⟩
      clear Og
      clear cg0 cg1 cg2 cg3 cg4 cg5
      have hs15 := hg16.size
      try simp only [World.alloc, Array.size_push] at hs15
      replace Ba := Ba.grew hg16 (fun e => by have := Lg _ e.symm; omega)
      replace Bw := Bw.grew hg16 (fun e => by have := Lg _ e.symm; omega)
      replace Bx := Bx.grew hg16 (fun e => by have := Lg _ e.symm; omega)
      replace Bg := Bg.grew hg16 (fun e => by have := Lg _ e.symm; omega)
      replace Ow := Ow.kept hg16 (apart Lw Lg (by omega))
      replace bw := bw.trans (hb16.mono (by first | omega | (simp; omega)))
      clear hb16 hg16
      have Og := Og'
      clear Og'
      obtain ⟨cg0, cg1, cg2, cg3, cg4, cg5⟩ := Bg.cells6
      go_wp2_with fail
      refine (heldRecord_any bN bT bK gA bL gC bG bX _ 1 _ (Reads.of_own Og) (Nat.le_refl _) (by omega)).mono ?_
      rintro e v17 ⟨rfl, hb17⟩
      clear cg0 cg1 cg2 cg3 cg4 cg5
      have hs16 := hb17.size
      try simp only [World.alloc, Array.size_push] at hs16
      replace Ba := Ba.next hb17
      replace Bw := Bw.next hb17
      replace Bx := Bx.next hb17
      replace Bg := Bg.next hb17
      replace Ow := own_next Ow hb17
      replace Og := own_next Og hb17
      replace bw := bw.trans (hb17.mono bw.size)
      clear hb17
      obtain ⟨ca0, ca1, ca2, ca3, ca4, ca5⟩ := Ba.cells6
      have hq0 : ¬ ((1 : Int) + (bL : Int)) < 0 := by omega
      go_wp2_with fail
      refine (toRecord_own aN aT aK aA aL aC aG aX aZ w.heap.size _ (hra.below bw (Nat.le_refl _)) bw.size (by omega) la).mono ?_
      rintro e v18 ⟨A18, c18, rfl, ho18, hb18⟩
      clear ca0 ca1 ca2 ca3 ca4 ca5
      have hs17 := hb18.size
      try simp only [World.alloc, Array.size_push] at hs17
      replace Ba := Ba.next hb18
      replace Bw := Bw.next hb18
      replace Bx := Bx.next hb18
      replace Bg := Bg.next hb18
      replace Ow := own_next Ow hb18
      replace Og := own_next Og hb18
      replace bw := bw.trans (hb18.mono bw.size)
      clear hb18
      clear ho18
      obtain ⟨ca0, ca1, ca2, ca3, ca4, ca5⟩ := Ba.cells6
      go_wp2_with fail
      refine (toStringS_any ls w.heap.size fA _ fC _ (hrf.below bw (Nat.le_refl _)) bw.size hll).mono ?_
      rintro e v19 ⟨A19, c19, rfl, Os19, hb19⟩
      clear ca0 ca1 ca2 ca3 ca4 ca5
      have hs18 := hb19.size
      try simp only [World.alloc, Array.size_push] at hs18
      replace Ba := Ba.next hb19
      replace Bw := Bw.next hb19
      replace Bx := Bx.next hb19
      replace Bg := Bg.next hb19
      replace Ow := own_next Ow hb19
      replace Og := own_next Og hb19
      replace bw := bw.trans (hb19.mono bw.size)
      clear hb19
      have cap19 := (own_cap Os19).1
      go_wp2_with fail
      refine (iReadData_eq aN aT aK A18 aL c18 aG aX ls _ A19 c19 a2 _ (hm.below bw) (Reads.of_own Os19) (Nat.le_refl _) cap19 (by omega) (by omega) (by omega) HLB _ HO ok HOK).mono ?_
      rintro e v20 ⟨hN, hT, hK, hA, hL, hC, hG, hX, hZ, rfl, Oh, hq20, hl20, hb20⟩
      clear cap19 Os19
      have hs19 := hb20.size
      try simp only [World.alloc, Array.size_push] at hs19
      replace Ba := Ba.next hb20
      replace Bw := Bw.next hb20
      replace Bx := Bx.next hb20
      replace Bg := Bg.next hb20
      replace Ow := own_next Ow hb20
      replace Og := own_next Og hb20
      replace bw := bw.trans (hb20.mono bw.size)
      clear hb20
      have hlw20 := reads_len (Reads.of_own Ow)
      have hlg20 := reads_len (Reads.of_own Oh)
      have he20 := hq4.symm.trans hq20
      simp only [Z.Rec.mk.injEq] at he20
      obtain ⟨e1, rfl, rfl, rfl, e5, e6⟩ := he20
      obtain rfl := lst_inj e1
      obtain rfl := lst_inj e5
      obtain rfl := lst_inj e6
      obtain rfl : bL = hL := hlw20.symm.trans hlg20
      clear e1 e5 e6 hlw20 hlg20 hq20
      replace Ba := Ba.alloc (.cells #[.string bN, .int .i64 bT, .int .i64 bK, .slice hA bL hC, .string bG, .string bX] 25)
      replace Bw := Bw.alloc (.cells #[.string bN, .int .i64 bT, .int .i64 bK, .slice hA bL hC, .string bG, .string bX] 25)
      replace Bx := Bx.alloc (.cells #[.string bN, .int .i64 bT, .int .i64 bK, .slice hA bL hC, .string bG, .string bX] 25)
      replace Bg := Bg.alloc (.cells #[.string bN, .int .i64 bT, .int .i64 bK, .slice hA bL hC, .string bG, .string bX] 25)
      replace Ow := Ow.alloc (.cells #[.string bN, .int .i64 bT, .int .i64 bK, .slice hA bL hC, .string bG, .string bX] 25)
      replace Og := Og.alloc (.cells #[.string bN, .int .i64 bT, .int .i64 bK, .slice hA bL hC, .string bG, .string bX] 25)
      replace Oh := Oh.alloc (.cells #[.string bN, .int .i64 bT, .int .i64 bK, .slice hA bL hC, .string bG, .string bX] 25)
      replace bw := bw.alloc bw.size (.cells #[.string bN, .int .i64 bT, .int .i64 bK, .slice hA bL hC, .string bG, .string bX] 25)
      have Bh : Blk (v20.alloc (.cells #[.string bN, .int .i64 bT, .int .i64 bK, .slice hA bL hC, .string bG, .string bX] 25)) v20.heap.size 25 [.string bN, .int .i64 bT, .int .i64 bK, .slice hA bL hC, .string bG, .string bX] := Blk.new v20 25 [.string bN, .int .i64 bT, .int .i64 bK, .slice hA bL hC, .string bG, .string bX]
      obtain ⟨ch0, ch1, ch2, ch3, ch4, ch5⟩ := Bh.cells6
      obtain ⟨cw0, cw1, cw2, cw3, cw4, cw5⟩ := Bw.cells6
      obtain ⟨cg0, cg1, cg2, cg3, cg4, cg5⟩ := Bg.cells6
      go_wp2_with fail
      refine (eqRecord_any bN bT bK hA bL hC bG bX bZ _ bA bC _ _ (Reads.of_own Oh) (Nat.le_refl _) (by omega) (Reads.of_own Ow) (Nat.le_refl _)).mono ?_
      rintro e v21 ⟨rfl, hb21⟩
      clear ch0 ch1 ch2 ch3 ch4 ch5 cw0 cw1 cw2 cw3 cw4 cw5 cg0 cg1 cg2 cg3 cg4 cg5
      have hs20 := hb21.size
      try simp only [World.alloc, Array.size_push] at hs20
      replace Ba := Ba.next hb21
      replace Bw := Bw.next hb21
      replace Bx := Bx.next hb21
      replace Bg := Bg.next hb21
      replace Bh := Bh.next hb21
      replace Ow := own_next Ow hb21
      replace Og := own_next Og hb21
      replace Oh := own_next Oh hb21
      replace bw := bw.trans (hb21.mono bw.size)
      clear hb21
      obtain ⟨cg0, cg1, cg2, cg3, cg4, cg5⟩ := Bg.cells6
      go_wp2_with fail
      refine (heldRecord_any bN bT bK gA bL gC bG bX _ 1 _ (Reads.of_own Og) (Nat.le_refl _) (by omega)).mono ?_
      rintro e v22 ⟨rfl, hb22⟩
      clear cg0 cg1 cg2 cg3 cg4 cg5
      have hs21 := hb22.size
      try simp only [World.alloc, Array.size_push] at hs21
      replace Ba := Ba.next hb22
      replace Bw := Bw.next hb22
      replace Bx := Bx.next hb22
      replace Bg := Bg.next hb22
      replace Bh := Bh.next hb22
      replace Ow := own_next Ow hb22
      replace Og := own_next Og hb22
      replace Oh := own_next Oh hb22
      replace bw := bw.trans (hb22.mono bw.size)
      clear hb22
      go_wp2
      go_ret
      exact ⟨rfl, bw⟩
    )
  · have hra9 := hra
    go_enter Tryd.func9, Tryd.ntmps9
    go_wp2_with fail
    go_ret
    exact ⟨rfl, (Below.refl _ _).alloc (Nat.le_refl _) _⟩

set_option maxRecDepth 100000 in
theorem lifted (os : Os) (started : os.Started) (H : Type) (enc : TypeId × Value → H) :
    ReturnsInHanded {} Tryd.checked os 9 .any (fun w args => (Rows.fnExactReadDataSpec.pre enc Tryd.prog Tryd.f9 Rows.fnExactReadDataRow.domain false w args ∧ laidMetH Tryd.prog [("unicode/utf8.acceptRanges", Rows.laid_unicode_utf8_acceptRanges), ("unicode/utf8.first", Rows.laid_unicode_utf8_first)] w) ∧ sizedMet enc Tryd.prog Tryd.f9 (OpenSpec.ofChange Rows.fnExactReadDataSpec) false w args)
      (Rows.fnExactReadDataSpec.post enc Tryd.prog Tryd.f9 false true false false) := by
  refine returnsInHanded_and_shaped (C := Tryd.checked) (X := fun w _ => laidMetH Tryd.prog [("unicode/utf8.acceptRanges", Rows.laid_unicode_utf8_acceptRanges), ("unicode/utf8.first", Rows.laid_unicode_utf8_first)] w) (fun _ _ _ hh h => h.of_heap hh) own started (by kernel_rfl) Tryd.func9
    (ChangeSpec.witness_shaped (enc := enc) (C := Tryd.checked) (os := os) (X := fun w _ => laidMetH Tryd.prog [("unicode/utf8.acceptRanges", Rows.laid_unicode_utf8_acceptRanges), ("unicode/utf8.first", Rows.laid_unicode_utf8_first)] w) false (World.laidAll Tryd.prog os [("unicode/utf8.acceptRanges", Rows.laid_unicode_utf8_acceptRanges), ("unicode/utf8.first", Rows.laid_unicode_utf8_first)]) #[.agg #[.string ByteArray.empty, .int .i64 0, .int .i64 0, .slice none 0 0, .string ByteArray.empty, .string ByteArray.empty], .slice none 0 0, .string ByteArray.empty] 8 (World.laidAll_os _ _ _)
      (World.shaped_of_ZipB (by kernel_rfl) (by kernel_rfl)) (by kernel_rfl) (by kernel_rfl) (by kernel_rfl)
      (by rw [MakeChecks.laidMetH_plain _ _ _ (by kernel_rfl)]; exact laidMet_laidAll _ (by kernel_rfl) (by kernel_rfl))) ?_
  intro W base args ds gs before hval0 hW hsh hL
  have hval : ∀ (j : Nat) t v, Tryd.f9.params[j]? = some t → args[j]? = some v → Value.okWide Tryd.prog W .any base t v := hval0
  have hW' := hW
  obtain ⟨p, q, hA0, hV, rfl, hfz, hnd⟩ := hW
  have hA : DataW.TrodAll enc Tryd.prog W 0 (fun _ => true) true Tryd.f9.params.toList args.toList ds p := hA0
  have hV1 : DataW.TrodVars enc Tryd.prog W (fun _ => true) [] gs q := hV
  clear hV
  obtain ⟨rfl, rfl⟩ := trodVars_none hV1
  rw [Tryd.params9] at hA hval
  obtain ⟨v0, vs0, d0, ds0, p0, q0, hargs, rfl, rfl, h0, r0⟩ := trodAll_cons hA
  obtain ⟨v1, vs1, d1, ds1, p1, q1, rfl, rfl, rfl, h1, r1⟩ := trodAll_cons r0
  obtain ⟨v2, vs2, d2, ds2, p2, q2, rfl, rfl, rfl, h2, r2⟩ := trodAll_cons r1
  obtain ⟨rfl, rfl, rfl⟩ := trodAll_nil r2
  obtain rfl : args = #[v0, v1, v2] := by cases args; simp_all
  have k0 := h0
  have lt0 : ∀ x ∈ p0, x.block < W.heap.size := by obtain ⟨m, hm⟩ := k0; exact DataW.trod_lt m _ _ _ hm
  have i0 := open_rec (hval 0 38 v0 rfl rfl) h0
  have k1 := h1
  have lt1 : ∀ x ∈ p1, x.block < W.heap.size := by obtain ⟨m, hm⟩ := k1; exact DataW.trod_lt m _ _ _ hm
  have i1 := open_strs (hval 1 34 v1 rfl rfl) h1
  have k2 := h2
  have lt2 : ∀ x ∈ p2, x.block < W.heap.size := by obtain ⟨m, hm⟩ := k2; exact DataW.trod_lt m _ _ _ hm
  obtain ⟨a2, rfl, e2, e2', w2⟩ := open_string Tryd.underlying9 (hval 2 9 v2 rfl rfl) h2
  have hlv := laid_vars (by kernel_rfl) hL
  have hm := mx_of_shaped hsh
  clear hA0 hval0
  refine (walk v0 v1 a2 w2 W  i0 i1 hm).mono fun e W' ⟨he, bel⟩ => ?_
  subst he
  exact ⟨_, rfl, _, _, _, [], _, [], hW', trodAll_mk1 (shut_bool Tryd.underlying4 _), (trodAll_cons_mk (Below.trod laidOut (by kernel_rfl) (of_decide_eq_true (by kernel_rfl)) k0 bel lt0) (trodAll_cons_mk (Below.trod laidOut (by kernel_rfl) (of_decide_eq_true (by kernel_rfl)) k1 bel lt1) (trodAll_cons_mk (Below.trod laidOut (by kernel_rfl) (of_decide_eq_true (by kernel_rfl)) k2 bel lt2) trodAll_mk0))), rfl, bel.frame _, fun h => by cases h⟩

theorem over : Rows.fnExactReadDataRow.holds Tryd.pinned (OpenSpec.ofChange Rows.fnExactReadDataSpec) :=
  OpenClaim.holds_of_wide 9 Tryd.f9 rfl rfl rfl rfl rfl rfl rfl ⟨rfl, rfl, rfl, rfl, rfl⟩ rfl rfl rfl rfl rfl (by kernel_rfl) Tryd.func9 (by kernel_rfl)
    (of_decide_eq_true (by kernel_rfl)) (by unfold Func.isWrapper; first | (rw [if_pos (by decide +kernel)]; kernel_rfl) | (rw [if_neg (by decide +kernel)]; exact ⟨rfl, rfl⟩))
    (fun os started H enc _ => lifted os started H enc)

theorem proved : Rows.FnExactReadDataCardSaid :=
  Claim7.holds_tied_plain_at .later [] [.data, .pinned] true (true, "fedccedac822d90a2a0aad532641127a99a3e79694b7978f8b319353a0145562") true over (fun _ h => by cases h) (by kernel_rfl) (fun _ h => by cases h) fnExactReadData_row_tie rfl ⟨rfl, rfl⟩ (by kernel_rfl) rfl
    (fun f fn hf hfn => by
      obtain rfl : f = 9 := Option.some.inj ((show Tryd.prog.funcNamed "loop.example/zonefiles/laws.FnExactReadData" = some 9 by kernel_rfl).symm.trans hf) |>.symm
      obtain rfl : fn = Tryd.f9 := (Option.some.inj (Tryd.func9.symm.trans hfn)).symm
      exact ⟨by kernel_rfl, fun j t ht => by
        rw [Tryd.params9] at ht
        have hm : t ∈ [38, 34, 9] := by simpa using Array.mem_of_getElem? ht
        have hall : ([38, 34, 9].all fun u => !Tryd.prog.wantsStandIn u) = true := by kernel_rfl
        exact (show Tryd.prog.wantsStandIn t = false by simpa using List.all_eq_true.1 hall t hm)⟩)
    (by kernel_rfl)
end Go.Proofs.YtgmmaehdpongcaaDoor.fnExactReadData

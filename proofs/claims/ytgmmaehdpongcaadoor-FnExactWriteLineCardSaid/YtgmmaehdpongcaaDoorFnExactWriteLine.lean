/- For all records, origins and owners, WriteLine answers as the model does, and leaves what it was given as it was, where the tables are as the programs' texts lay them. -/
import Derived.Test.YtgmmaehdpongcaaDoorTie
import Derived.Test.YtgmmaehdpongcaaDoorCards
import Derived.Test.YtgmmaehdpongcaaDoorHb
import Derived.Test.YtgmmaehdpongcaaDoorEa
import Derived.Test.YtgmmaehdpongcaaDoorWm
import Derived.Test.YtgmmaehdpongcaaDoorWl
import Derived.Deep.RegionHeld3
import Derived.Outline
namespace Go.Proofs.YtgmmaehdpongcaaDoor.fnExactWriteLine
open Go.ChangeShapes Go.WideShapes Go.ChangeAt Go.RowKit
open Go.ChangeMaps (open_string shut_string)
set_option linter.unusedVariables false

theorem own : ownKnob Tryd.prog.godebug = none := by kernel_rfl
theorem laidOut : laidOutB Tryd.prog = true := by kernel_rfl
theorem WriteLine_eq (aN : ByteArray) (aT aK : Int) (aA : Option Addr) (aL aC : Nat) (aG aX : ByteArray) (aZ : List Int) (aB : Nat) (or ow : ByteArray) (w : World) (hra : Reads w aB aA aL (aZ.map iv)) (hba : aB ≤ w.heap.size) (hla : aL ≤ 67108864) (hsa : aN.size ≤ 67108864) (hga : aG.size ≤ 67108864) (hxa : aX.size ≤ 67108864) (hors : or.size ≤ 67108864) (how : ow.size ≤ 67108864) (D : ByteArray) (ok : Bool) (hD : Hid (bs ((Z.writeLine (⟨lst aN, aT, aK, aZ, lst aG, lst aX⟩ : Z.Rec) (lst or) (lst ow)).getD []) = D)) (hok : Hid ((Z.writeLine (⟨lst aN, aT, aK, aZ, lst aG, lst aX⟩ : Z.Rec) (lst or) (lst ow)).isSome = ok)) :
    Calls Tryd.prog 38 #[.agg #[.string aN, .int .i64 aT, .int .i64 aK, .slice aA aL aC, .string aG, .string aX], .string or, .string ow] w fun e w' => e = .returned (.tuple #[.string D, .bool ok]) ∧ Below w.heap.size w w' := by
  have h := WriteLine_any aN aT aK aA aL aC aG aX aZ aB or ow w hra hba hla hsa hga hxa hors how
  unfold rOpt at h
  rw [hD.out, hok.out] at h
  exact h
theorem iWriteLine_eq (aN : ByteArray) (aT aK : Int) (aA : Option Addr) (aL aC : Nat) (aG aX : ByteArray) (aZ : List Int) (aB : Nat) (or ow : ByteArray) (w : World) (hra : Reads w aB aA aL (aZ.map iv)) (hba : aB ≤ w.heap.size) (hla : aL ≤ 67108864) (hsa : aN.size ≤ 67108864) (hga : aG.size ≤ 67108864) (hxa : aX.size ≤ 67108864) (hors : or.size ≤ 67108864) (how : ow.size ≤ 67108864) (hkt : KT w) (hpt : PT w) (D : ByteArray) (ok : Bool) (hD : Hid (bs ((Z.writeLine (⟨lst aN, aT, aK, aZ, lst aG, lst aX⟩ : Z.Rec) (lst or) (lst ow)).getD []) = D)) (hok : Hid ((Z.writeLine (⟨lst aN, aT, aK, aZ, lst aG, lst aX⟩ : Z.Rec) (lst or) (lst ow)).isSome = ok)) :
    Calls Tryd.prog 39 #[.agg #[.string aN, .int .i64 aT, .int .i64 aK, .slice aA aL aC, .string aG, .string aX], .string or, .string ow] w fun e w' => e = .returned (.tuple #[.string D, .bool ok]) ∧ Below w.heap.size w w' := by
  have h := iWriteLine_any aN aT aK aA aL aC aG aX aZ aB or ow w hra hba hla hsa hga hxa hors how hkt hpt
  unfold rOpt at h
  rw [hD.out, hok.out] at h
  exact h
theorem readsNow {W W' : World} {A : Option Addr} {n : Nat} {xs : List Value} (h : Reads W W.heap.size A n xs) (hb : Below W.heap.size W W') : Reads W' W'.heap.size A n xs := (h.below hb (Nat.le_refl _)).more hb.size
theorem regCells {w W : World} {b b' : Nat} {t t' : TypeId} {c0 c1 c2 c3 c4 c5 d0 d1 d2 d3 d4 d5 : Value} (h : Blk w b t [c0, c1, c2, c3, c4, c5]) (k : Blk w b' t' [d0, d1, d2, d3, d4, d5]) (hb : Below w.heap.size w W) :
    Below w.heap.size w W ∧ W.cell? ⟨b, 0, none⟩ = some c0 ∧ W.cell? ⟨b, 1, none⟩ = some c1 ∧ W.cell? ⟨b, 2, none⟩ = some c2 ∧ W.cell? ⟨b, 3, none⟩ = some c3 ∧ W.cell? ⟨b, 4, none⟩ = some c4 ∧ W.cell? ⟨b, 5, none⟩ = some c5 ∧
    W.cell? ⟨b', 0, none⟩ = some d0 ∧ W.cell? ⟨b', 1, none⟩ = some d1 ∧ W.cell? ⟨b', 2, none⟩ = some d2 ∧ W.cell? ⟨b', 3, none⟩ = some d3 ∧ W.cell? ⟨b', 4, none⟩ = some d4 ∧ W.cell? ⟨b', 5, none⟩ = some d5 := by
  obtain ⟨h0, h1, h2, h3, h4, h5⟩ := (h.next hb).cells6
  obtain ⟨k0, k1, k2, k3, k4, k5⟩ := (k.next hb).cells6
  exact ⟨hb, h0, h1, h2, h3, h4, h5, k0, k1, k2, k3, k4, k5⟩
theorem belowOn {w W W' : World} (h : Below w.heap.size w W) (k : Below W.heap.size W W') : Below w.heap.size w W' := h.trans (k.mono h.size)
theorem toRecord_reg {w V W : World} {aN : ByteArray} {aT aK : Int} {aA : Option Addr} {aL aC : Nat} {aG aX : ByteArray} {aZ : List Int} (hra : Reads w w.heap.size aA aL (aZ.map iv)) (bw : Below w.heap.size w V) (hh : Below V.heap.size V W) (la : aL ≤ 1048576) :
    Calls Tryd.prog 27 #[.agg #[.string aN, .int .i64 aT, .int .i64 aK, .slice aA aL aC, .string aG, .string aX]] W fun e W' => ∃ A c, e = .returned (.agg #[.string aN, .int .i64 aT, .int .i64 aK, .slice A aL c, .string aG, .string aX]) ∧ Reads W' W'.heap.size A aL (aZ.map iv) ∧ Below W.heap.size W W' :=
  toRecord_any _ _ _ _ _ _ _ _ aZ w.heap.size W (hra.below (bw.trans (hh.mono bw.size)) (Nat.le_refl _)) (Nat.le_trans bw.size hh.size) (by omega) la
theorem eqRecord_reg {V W : World} {aN : ByteArray} {aT aK : Int} {aA bA : Option Addr} {aL aC bC : Nat} {aG aX : ByteArray} {aZ : List Int} (hra : Reads V V.heap.size aA aL (aZ.map iv)) (hh : Below V.heap.size V W) (hrb : Reads W W.heap.size bA aL (aZ.map iv)) (la : aL ≤ 1048576) :
    Calls Tryd.prog 28 #[.agg #[.string aN, .int .i64 aT, .int .i64 aK, .slice aA aL aC, .string aG, .string aX], .agg #[.string aN, .int .i64 aT, .int .i64 aK, .slice bA aL bC, .string aG, .string aX]] W fun e W' => e = .returned (.bool true) ∧ Below W.heap.size W W' :=
  eqRecord_any _ _ _ _ _ _ _ _ aZ V.heap.size bA bC W.heap.size W (hra.below hh (Nat.le_refl _)) hh.size (by omega) hrb (Nat.le_refl _)

set_option maxRecDepth 100000 in
set_option maxHeartbeats 8000000 in
theorem walk (v0 : Value) (a1 : ByteArray) (w1 : a1.size ≤ maxLen) (a2 : ByteArray) (w2 : a2.size ≤ maxLen) (w : World) (i0 : RecIn w v0) (hk : KT w) (ht : PT w) :
    Calls Tryd.prog 10 #[v0, .string a1, .string a2] w fun e w' => e = .returned (.bool true) ∧ Below w.heap.size w w' := by
  unfold maxLen at w1 w2
  obtain ⟨aN, aT, aK, aA, aL, aC, aG, aX, rfl, m1, m2, m3, m4, m5, aZ, hra⟩ := i0
  by_cases hb1 : a1.size ≤ 1048576
  · by_cases hb2 : a2.size ≤ 1048576
    · obtain ⟨D, hD⟩ : ∃ D, bs ((Z.writeLine (⟨lst aN, aT, aK, aZ, lst aG, lst aX⟩ : Z.Rec) (lst a1) (lst a2)).getD []) = D := ⟨_, rfl⟩
      obtain ⟨ok, hok⟩ : ∃ ok, (Z.writeLine (⟨lst aN, aT, aK, aZ, lst aG, lst aX⟩ : Z.Rec) (lst a1) (lst a2)).isSome = ok := ⟨_, rfl⟩
      have HD := hid hD
      have HOK := hid hok
      clear hD hok
      go_enter Tryd.func10, Tryd.ntmps10
      have Ba : Blk (w.alloc (.cells #[.string aN, .int .i64 aT, .int .i64 aK, .slice aA aL aC, .string aG, .string aX] 38)) w.heap.size 38 [.string aN, .int .i64 aT, .int .i64 aK, .slice aA aL aC, .string aG, .string aX] := Blk.new w 38 [.string aN, .int .i64 aT, .int .i64 aK, .slice aA aL aC, .string aG, .string aX]
      have bw : Below w.heap.size w (w.alloc (.cells #[.string aN, .int .i64 aT, .int .i64 aK, .slice aA aL aC, .string aG, .string aX] 38)) := (Below.refl _ _).alloc (Nat.le_refl _) _
      obtain ⟨ca0, ca1, ca2, ca3, ca4, ca5⟩ := Ba.cells6
      go_wp2_with fail
      refine (szRecord_any _ _ _ _ _ _ _ _ [] 0 1048576 _ m1 (by omega) m2 m3 (by omega) (by omega)).mono ?_
      rintro e w1 ⟨k1, rfl, hk1, hb1⟩
      clear ca0 ca1 ca2 ca3 ca4 ca5
      have hs1 := hb1.size
      try simp only [World.alloc, Array.size_push] at hs1
      replace Ba := Ba.next hb1
      replace bw := bw.trans (hb1.mono bw.size)
      clear hb1
      obtain ⟨ca0, ca1, ca2, ca3, ca4, ca5⟩ := Ba.cells6
      by_cases hk1n : k1 < 0
      · go_wp2
        go_ret
        exact ⟨rfl, bw⟩
      obtain ⟨g1, g2⟩ := hk1.out
      have g3 := g2 (by omega)
      clear g2 hk1 m1 m2 m3 m4
      have la : aL ≤ 1048576 := by omega
      have la6 : aL ≤ 67108864 := by omega
      have s1 : aN.size ≤ 67108864 := by omega
      have s2 : aG.size ≤ 67108864 := by omega
      have s3 : aX.size ≤ 67108864 := by omega
      go_wp2_with fail
      refine (toRecord_own aN aT aK aA aL aC aG aX aZ w.heap.size _ (hra.below bw (Nat.le_refl _)) bw.size (by omega) la).mono ?_
      rintro e v2 ⟨A2, c2, rfl, Ox, hb2⟩
      clear ca0 ca1 ca2 ca3 ca4 ca5
      have hs2 := hb2.size
      try simp only [World.alloc, Array.size_push] at hs2
      replace Ba := Ba.next hb2
      replace bw := bw.trans (hb2.mono bw.size)
      clear hb2
      have rx := Reads.of_own Ox
      go_wp2_with fail
      refine (WriteLine_eq aN aT aK A2 aL c2 aG aX aZ _ a1 a2 _ rx (Nat.le_refl _) la6 s1 s2 s3 (by omega) (by omega) D ok HD HOK).mono ?_
      rintro e v3 ⟨rfl, hb3⟩
      clear Ox rx
      have hs3 := hb3.size
      try simp only [World.alloc, Array.size_push] at hs3
      replace Ba := Ba.next hb3
      replace bw := bw.trans (hb3.mono bw.size)
      clear hb3
      obtain ⟨ca0, ca1, ca2, ca3, ca4, ca5⟩ := Ba.cells6
      go_wp2_with fail
      refine (toRecord_own aN aT aK aA aL aC aG aX aZ w.heap.size _ (hra.below bw (Nat.le_refl _)) bw.size (by omega) la).mono ?_
      rintro e v4 ⟨A4, c4, rfl, Ox, hb4⟩
      clear ca0 ca1 ca2 ca3 ca4 ca5
      have hs4 := hb4.size
      try simp only [World.alloc, Array.size_push] at hs4
      replace Ba := Ba.next hb4
      replace bw := bw.trans (hb4.mono bw.size)
      clear hb4
      have Lx := Ox.lt
      try simp only [World.alloc, Array.size_push] at Lx
      replace Ba := Ba.alloc (.cells #[.string aN, .int .i64 aT, .int .i64 aK, .slice A4 aL c4, .string aG, .string aX] 25)
      replace Ox := Ox.alloc (.cells #[.string aN, .int .i64 aT, .int .i64 aK, .slice A4 aL c4, .string aG, .string aX] 25)
      replace bw := bw.alloc bw.size (.cells #[.string aN, .int .i64 aT, .int .i64 aK, .slice A4 aL c4, .string aG, .string aX] 25)
      have Bx : Blk (v4.alloc (.cells #[.string aN, .int .i64 aT, .int .i64 aK, .slice A4 aL c4, .string aG, .string aX] 25)) v4.heap.size 25 [.string aN, .int .i64 aT, .int .i64 aK, .slice A4 aL c4, .string aG, .string aX] := Blk.new v4 25 [.string aN, .int .i64 aT, .int .i64 aK, .slice A4 aL c4, .string aG, .string aX]
      obtain ⟨ca0, ca1, ca2, ca3, ca4, ca5⟩ := Ba.cells6
      obtain ⟨cx0, cx1, cx2, cx3, cx4, cx5⟩ := Bx.cells6
      have rx := Reads.of_own Ox
      go_wp2_with fail
      refine (iWriteLine_eq aN aT aK A4 aL c4 aG aX aZ _ a1 a2 _ rx (Nat.le_refl _) la6 s1 s2 s3 (by omega) (by omega) (hk.below bw) (ht.below bw) D ok HD HOK).mono ?_
      rintro e v5 ⟨rfl, hb5⟩
      clear rx
      clear ca0 ca1 ca2 ca3 ca4 ca5 cx0 cx1 cx2 cx3 cx4 cx5
      have hs5 := hb5.size
      try simp only [World.alloc, Array.size_push] at hs5
      replace Ba := Ba.next hb5
      replace Bx := Bx.next hb5
      replace Ox := own_next Ox hb5
      replace bw := bw.trans (hb5.mono bw.size)
      clear hb5
      obtain ⟨ca0, ca1, ca2, ca3, ca4, ca5⟩ := Ba.cells6
      obtain ⟨cx0, cx1, cx2, cx3, cx4, cx5⟩ := Bx.cells6
      have RX := Reads.of_own Ox
      go_wp2_with fail
      go_region_held3 (fun w' => Below v5.heap.size v5 w' ∧ w'.cell? ⟨w.heap.size, 0, none⟩ = some (.string aN) ∧ w'.cell? ⟨w.heap.size, 1, none⟩ = some (.int .i64 aT) ∧ w'.cell? ⟨w.heap.size, 2, none⟩ = some (.int .i64 aK) ∧ w'.cell? ⟨w.heap.size, 3, none⟩ = some (.slice aA aL aC) ∧ w'.cell? ⟨w.heap.size, 4, none⟩ = some (.string aG) ∧ w'.cell? ⟨w.heap.size, 5, none⟩ = some (.string aX) ∧ w'.cell? ⟨v4.heap.size, 0, none⟩ = some (.string aN) ∧ w'.cell? ⟨v4.heap.size, 1, none⟩ = some (.int .i64 aT) ∧ w'.cell? ⟨v4.heap.size, 2, none⟩ = some (.int .i64 aK) ∧ w'.cell? ⟨v4.heap.size, 3, none⟩ = some (.slice A4 aL c4) ∧ w'.cell? ⟨v4.heap.size, 4, none⟩ = some (.string aG) ∧ w'.cell? ⟨v4.heap.size, 5, none⟩ = some (.string aX))
        (first | exact regCells Ba Bx (Below.refl _ _) | exact regCells Ba Bx (by assumption) | exact regCells Ba Bx (below_drewN (Below.refl _ _) 1) | exact regCells Ba Bx (below_drewN (by assumption) 1) | (go_split_ands; exact regCells Ba Bx (belowOn (by assumption) hb9)))
        (first
          | (go_at_call 27; go_split_ands; refine (toRecord_reg hra bw (by assumption) la).mono ?_; rintro e w9 ⟨A9, c9, rfl, hr9, hb9⟩)
          | (go_at_call 28; go_split_ands; refine (eqRecord_reg RX (by assumption) (by first | assumption | exact readsNow (by assumption) (by assumption)) la).mono ?_; rintro e w14 ⟨rfl, hb9⟩))
      all_goals go_split_ands
      all_goals (have hb10 : Below v5.heap.size v5 w14 := by assumption)
      all_goals go_wp2
      all_goals go_ret
      all_goals exact ⟨rfl, bw.trans (hb10.mono bw.size)⟩
    · go_enter Tryd.func10, Tryd.ntmps10
      go_wp2_with fail
      go_ret
      exact ⟨rfl, (Below.refl _ _).alloc (Nat.le_refl _) _⟩
  · go_enter Tryd.func10, Tryd.ntmps10
    go_wp2_with fail
    go_ret
    exact ⟨rfl, (Below.refl _ _).alloc (Nat.le_refl _) _⟩

set_option maxRecDepth 100000 in
theorem lifted (os : Os) (started : os.Started) (H : Type) (enc : TypeId × Value → H) :
    ReturnsInHanded {} Tryd.checked os 10 .any (fun w args => (Rows.fnExactWriteLineSpec.pre enc Tryd.prog Tryd.f10 Rows.fnExactWriteLineRow.domain false w args ∧ laidMetH Tryd.prog [("math/bits.deBruijn32tab", Rows.laid_math_bits_deBruijn32tab), ("math/bits.deBruijn64tab", Rows.laid_math_bits_deBruijn64tab), ("internal/strconv.uint64pow10", Rows.laid_internal_strconv_uint64pow10), ("loop.example/zonefiles/impl.kindRows", Rows.laid_loop_example_zonefiles_impl_kindRows)] w) ∧ sizedMet enc Tryd.prog Tryd.f10 (OpenSpec.ofChange Rows.fnExactWriteLineSpec) false w args)
      (Rows.fnExactWriteLineSpec.post enc Tryd.prog Tryd.f10 false true false false) := by
  refine returnsInHanded_and_shaped (C := Tryd.checked) (X := fun w _ => laidMetH Tryd.prog [("math/bits.deBruijn32tab", Rows.laid_math_bits_deBruijn32tab), ("math/bits.deBruijn64tab", Rows.laid_math_bits_deBruijn64tab), ("internal/strconv.uint64pow10", Rows.laid_internal_strconv_uint64pow10), ("loop.example/zonefiles/impl.kindRows", Rows.laid_loop_example_zonefiles_impl_kindRows)] w) (fun _ _ _ hh h => h.of_heap hh) own started (by kernel_rfl) Tryd.func10
    (ChangeSpec.witness_shaped (enc := enc) (C := Tryd.checked) (os := os) (X := fun w _ => laidMetH Tryd.prog [("math/bits.deBruijn32tab", Rows.laid_math_bits_deBruijn32tab), ("math/bits.deBruijn64tab", Rows.laid_math_bits_deBruijn64tab), ("internal/strconv.uint64pow10", Rows.laid_internal_strconv_uint64pow10), ("loop.example/zonefiles/impl.kindRows", Rows.laid_loop_example_zonefiles_impl_kindRows)] w) false (World.laidAll Tryd.prog os [("math/bits.deBruijn32tab", Rows.laid_math_bits_deBruijn32tab), ("math/bits.deBruijn64tab", Rows.laid_math_bits_deBruijn64tab), ("internal/strconv.uint64pow10", Rows.laid_internal_strconv_uint64pow10), ("loop.example/zonefiles/impl.kindRows", Rows.laid_loop_example_zonefiles_impl_kindRows)]) #[.agg #[.string ByteArray.empty, .int .i64 0, .int .i64 0, .slice none 0 0, .string ByteArray.empty, .string ByteArray.empty], .string ByteArray.empty, .string ByteArray.empty] 8 (World.laidAll_os _ _ _)
      (World.shaped_of_ZipB (by kernel_rfl) (by kernel_rfl)) (by kernel_rfl) (by kernel_rfl) (by kernel_rfl)
      (by rw [MakeChecks.laidMetH_plain _ _ _ (by kernel_rfl)]; exact laidMet_laidAll _ (by kernel_rfl) (by kernel_rfl))) ?_
  intro W base args ds gs before hval0 hW hsh hL
  have hval : ∀ (j : Nat) t v, Tryd.f10.params[j]? = some t → args[j]? = some v → Value.okWide Tryd.prog W .any base t v := hval0
  have hW' := hW
  obtain ⟨p, q, hA0, hV, rfl, hfz, hnd⟩ := hW
  have hA : DataW.TrodAll enc Tryd.prog W 0 (fun _ => true) true Tryd.f10.params.toList args.toList ds p := hA0
  have hV1 : DataW.TrodVars enc Tryd.prog W (fun _ => true) ["loop.example/zonefiles/impl.kindRows"] gs q := hV
  clear hV
  have hV2 := hV1
  obtain ⟨g9, t9, cs9, f9, d9, p9, rfl, _, _, _, _, rfl⟩ := trodVars_one hV2
  rw [Tryd.params10] at hA hval
  obtain ⟨v0, vs0, d0, ds0, p0, q0, hargs, rfl, rfl, h0, r0⟩ := trodAll_cons hA
  obtain ⟨v1, vs1, d1, ds1, p1, q1, rfl, rfl, rfl, h1, r1⟩ := trodAll_cons r0
  obtain ⟨v2, vs2, d2, ds2, p2, q2, rfl, rfl, rfl, h2, r2⟩ := trodAll_cons r1
  obtain ⟨rfl, rfl, rfl⟩ := trodAll_nil r2
  obtain rfl : args = #[v0, v1, v2] := by cases args; simp_all
  have k0 := h0
  have lt0 : ∀ x ∈ p0, x.block < W.heap.size := by obtain ⟨m, hm⟩ := k0; exact DataW.trod_lt m _ _ _ hm
  have i0 := open_rec (hval 0 38 v0 rfl rfl) h0
  have k1 := h1
  have lt1 : ∀ x ∈ p1, x.block < W.heap.size := by obtain ⟨m, hm⟩ := k1; exact DataW.trod_lt m _ _ _ hm
  obtain ⟨a1, rfl, e1, e1', w1⟩ := open_string Tryd.underlying9 (hval 1 9 v1 rfl rfl) h1
  have k2 := h2
  have lt2 : ∀ x ∈ p2, x.block < W.heap.size := by obtain ⟨m, hm⟩ := k2; exact DataW.trod_lt m _ _ _ hm
  obtain ⟨a2, rfl, e2, e2', w2⟩ := open_string Tryd.underlying9 (hval 2 9 v2 rfl rfl) h2
  have hlv := laid_vars (by kernel_rfl) hL
  have hk := kt_of_vars (laid_next (laid_next (laid_next hlv)))
  have ht := pt_of_vars (laid_next (laid_next hlv))
  clear hA0 hval0
  refine (walk v0 a1 w1 a2 w2 W  i0 hk ht).mono fun e W' ⟨he, bel⟩ => ?_
  subst he
  exact ⟨_, rfl, _, _, _, [], _, _, hW', trodAll_mk1 (shut_bool Tryd.underlying4 _), (trodAll_cons_mk (Below.trod laidOut (by kernel_rfl) (of_decide_eq_true (by kernel_rfl)) k0 bel lt0) (trodAll_cons_mk (Below.trod laidOut (by kernel_rfl) (of_decide_eq_true (by kernel_rfl)) k1 bel lt1) (trodAll_cons_mk (Below.trod laidOut (by kernel_rfl) (of_decide_eq_true (by kernel_rfl)) k2 bel lt2) trodAll_mk0))), bel.trodVars laidOut (by kernel_rfl) hV1, bel.frame _, fun h => by cases h⟩

theorem over : Rows.fnExactWriteLineRow.holds Tryd.pinned (OpenSpec.ofChange Rows.fnExactWriteLineSpec) :=
  OpenClaim.holds_of_wide 10 Tryd.f10 rfl rfl rfl rfl rfl rfl rfl ⟨rfl, rfl, rfl, rfl, rfl⟩ rfl rfl rfl rfl rfl (by kernel_rfl) Tryd.func10 (by kernel_rfl)
    (of_decide_eq_true (by kernel_rfl)) (by unfold Func.isWrapper; first | (rw [if_pos (by decide +kernel)]; kernel_rfl) | (rw [if_neg (by decide +kernel)]; exact ⟨rfl, rfl⟩))
    (fun os started H enc _ => lifted os started H enc)

theorem proved : Rows.FnExactWriteLineCardSaid :=
  Claim7.holds_tied_plain_at .later [] [.data, .data, .data, .data] true (true, "fedccedac822d90a2a0aad532641127a99a3e79694b7978f8b319353a0145562") true over (fun _ h => by cases h) (by kernel_rfl) (fun _ h => by cases h) fnExactWriteLine_row_tie rfl ⟨rfl, rfl⟩ (by kernel_rfl) rfl
    (fun f fn hf hfn => by
      obtain rfl : f = 10 := Option.some.inj ((show Tryd.prog.funcNamed "loop.example/zonefiles/laws.FnExactWriteLine" = some 10 by kernel_rfl).symm.trans hf) |>.symm
      obtain rfl : fn = Tryd.f10 := (Option.some.inj (Tryd.func10.symm.trans hfn)).symm
      exact ⟨by kernel_rfl, fun j t ht => by
        rw [Tryd.params10] at ht
        have hm : t ∈ [38, 9, 9] := by simpa using Array.mem_of_getElem? ht
        have hall : ([38, 9, 9].all fun u => !Tryd.prog.wantsStandIn u) = true := by kernel_rfl
        exact (show Tryd.prog.wantsStandIn t = false by simpa using List.all_eq_true.1 hall t hm)⟩)
    (by kernel_rfl)
end Go.Proofs.YtgmmaehdpongcaaDoor.fnExactWriteLine

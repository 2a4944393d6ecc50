/- For every input, WriteLine answers for a record, an origin and an owner that are drawn from it as the model does, a line begins with a space where its owner is the record's name, and the line that is written behind the record's own name is read back as the record, where the tables are as the programs' texts lay them. -/
import Derived.Test.YtlknpipbjdecpaaGreatDoorTie
import Derived.Test.YtlknpipbjdecpaaGreatDoorCards
import Derived.Test.YtlknpipbjdecpaaGreatDoorHb
import Derived.Test.YtlknpipbjdecpaaGreatDoorWm
import Derived.Test.YtlknpipbjdecpaaGreatDoorNw
import Derived.Test.YtlknpipbjdecpaaGreatDoorSz
import Derived.Deep.RegionHeld3
import Derived.Outline
namespace Go.Proofs.YtlknpipbjdecpaaGreatDoor.fnLineOwner
open Go.ChangeShapes Go.WideShapes Go.ChangeAt Go.RowKit
open Go.ChangeMaps (open_string shut_string)
set_option linter.unusedVariables false

theorem own : ownKnob Tryz.prog.godebug = none := by kernel_rfl
theorem laidOut : laidOutB Tryz.prog = true := by kernel_rfl
theorem WriteLine_eq (aN : ByteArray) (aT aK : Int) (aA : Option Addr) (aL aC : Nat) (aG aX : ByteArray) (aZ : List Int) (aB : Nat) (or ow : ByteArray) (w : World) (hra : Reads w aB aA aL (aZ.map iv)) (hba : aB ≤ w.heap.size) (hla : aL ≤ 67108864) (hsa : aN.size ≤ 67108864) (hga : aG.size ≤ 67108864) (hxa : aX.size ≤ 67108864) (hors : or.size ≤ 67108864) (how : ow.size ≤ 67108864) (D : ByteArray) (ok : Bool) (hD : Hid (bs ((Z.writeLine (⟨lst aN, aT, aK, aZ, lst aG, lst aX⟩ : Z.Rec) (lst or) (lst ow)).getD []) = D)) (hok : Hid ((Z.writeLine (⟨lst aN, aT, aK, aZ, lst aG, lst aX⟩ : Z.Rec) (lst or) (lst ow)).isSome = ok)) :
    Calls Tryz.prog 31 #[.agg #[.string aN, .int .i64 aT, .int .i64 aK, .slice aA aL aC, .string aG, .string aX], .string or, .string ow] w fun e w' => e = .returned (.tuple #[.string D, .bool ok]) ∧ Below w.heap.size w w' := by
  have h := WriteLine_any aN aT aK aA aL aC aG aX aZ aB or ow w hra hba hla hsa hga hxa hors how
  unfold rOpt at h
  rw [hD.out, hok.out] at h
  exact h
theorem iWriteLine_eq (aN : ByteArray) (aT aK : Int) (aA : Option Addr) (aL aC : Nat) (aG aX : ByteArray) (aZ : List Int) (aB : Nat) (or ow : ByteArray) (w : World) (hra : Reads w aB aA aL (aZ.map iv)) (hba : aB ≤ w.heap.size) (hla : aL ≤ 67108864) (hsa : aN.size ≤ 67108864) (hga : aG.size ≤ 67108864) (hxa : aX.size ≤ 67108864) (hors : or.size ≤ 67108864) (how : ow.size ≤ 67108864) (hkt : KT w) (hpt : PT w) (D : ByteArray) (ok : Bool) (hD : Hid (bs ((Z.writeLine (⟨lst aN, aT, aK, aZ, lst aG, lst aX⟩ : Z.Rec) (lst or) (lst ow)).getD []) = D)) (hok : Hid ((Z.writeLine (⟨lst aN, aT, aK, aZ, lst aG, lst aX⟩ : Z.Rec) (lst or) (lst ow)).isSome = ok)) :
    Calls Tryz.prog 20 #[.agg #[.string aN, .int .i64 aT, .int .i64 aK, .slice aA aL aC, .string aG, .string aX], .string or, .string ow] w fun e w' => e = .returned (.tuple #[.string D, .bool ok]) ∧ Below w.heap.size w w' := by
  have h := iWriteLine_any aN aT aK aA aL aC aG aX aZ aB or ow w hra hba hla hsa hga hxa hors how hkt hpt
  unfold rOpt at h
  rw [hD.out, hok.out] at h
  exact h
theorem recSame_true (aN : ByteArray) (aT aK : Int) (aA : Option Addr) (aL aC : Nat) (aG aX : ByteArray) (aZ : List Int) (aB : Nat) (bA : Option Addr) (bC bB : Nat) (w : World) (hra : Reads w aB aA aL (aZ.map iv)) (hba : aB ≤ w.heap.size) (hla : aL ≤ 67108864) (hrb : Reads w bB bA aL (aZ.map iv)) (hbb : bB ≤ w.heap.size) :
    Calls Tryz.prog 14 #[.agg #[.string aN, .int .i64 aT, .int .i64 aK, .slice aA aL aC, .string aG, .string aX], .agg #[.string aN, .int .i64 aT, .int .i64 aK, .slice bA aL bC, .string aG, .string aX]] w fun e w' => e = .returned (.bool true) ∧ Below w.heap.size w w' := by
  have h := iRecordSame_any aN aT aK aA aL aC aG aX aZ aB aN aT aK bA aL bC aG aX aZ bB w hra hba hla hrb hbb hla
  rw [(Z.recSame_iff _ _).2 rfl] at h
  exact h
theorem wrote {r : Z.Rec} {o ow : Z.Str} {D : ByteArray} (hok : (Z.writeLine r o ow).isSome = true) (hD : bs ((Z.writeLine r o ow).getD []) = D) : Z.recValid r = true ∧ Z.valid o = true ∧ (ow = [] ∨ Z.valid ow = true) ∧ lst D = Z.lineText r o ow := by
  unfold Z.writeLine at hok hD
  split at hok
  · rename_i h
    rw [if_pos h] at hD
    simp only [Bool.and_eq_true, Bool.or_eq_true, decide_eq_true_eq] at h
    exact ⟨h.1.1, h.1.2, h.2, by rw [← hD]; exact lst_bs _⟩
  · simp at hok
theorem wrote_read {r : Z.Rec} {o ow : Z.Str} {D : ByteArray} (t : Int) (ht0 : -1 ≤ t) (ht : t ≤ 100000) (hok : (Z.writeLine r o ow).isSome = true) (hD : bs ((Z.writeLine r o ow).getD []) = D) : Z.readLine ⟨o, t, ow⟩ (lst D) = some (⟨o, t, r.name⟩, some r) := by
  obtain ⟨h1, h2, h3, h4⟩ := wrote hok hD
  rw [h4]
  refine Z.readLine_line (s := ⟨o, t, ow⟩) h1 ?_
  unfold Z.stOk
  simp [h2, ht0, ht]
  exact h3
theorem line_size {r : Z.Rec} {o ow : Z.Str} {D : ByteArray} (hok : (Z.writeLine r o ow).isSome = true) (hD : bs ((Z.writeLine r o ow).getD []) = D) : D.size ≤ 300 := by
  obtain ⟨h1, h2, h3, h4⟩ := wrote hok hD
  rw [← lst_length, h4]
  exact Z.line_len h1 h2 ow
theorem regCells {w W : World} {b b' : Nat} {t t' : TypeId} {c0 c1 c2 c3 c4 c5 d0 d1 d2 d3 d4 d5 : Value} (h : Blk w b t [c0, c1, c2, c3, c4, c5]) (k : Blk w b' t' [d0, d1, d2, d3, d4, d5]) (hb : Below w.heap.size w W) :
    Below w.heap.size w W ∧ W.cell? ⟨b, 0, none⟩ = some c0 ∧ W.cell? ⟨b, 1, none⟩ = some c1 ∧ W.cell? ⟨b, 2, none⟩ = some c2 ∧ W.cell? ⟨b, 3, none⟩ = some c3 ∧ W.cell? ⟨b, 4, none⟩ = some c4 ∧ W.cell? ⟨b, 5, none⟩ = some c5 ∧
    W.cell? ⟨b', 0, none⟩ = some d0 ∧ W.cell? ⟨b', 1, none⟩ = some d1 ∧ W.cell? ⟨b', 2, none⟩ = some d2 ∧ W.cell? ⟨b', 3, none⟩ = some d3 ∧ W.cell? ⟨b', 4, none⟩ = some d4 ∧ W.cell? ⟨b', 5, none⟩ = some d5 := by
  obtain ⟨h0, h1, h2, h3, h4, h5⟩ := (h.next hb).cells6
  obtain ⟨k0, k1, k2, k3, k4, k5⟩ := (k.next hb).cells6
  exact ⟨hb, h0, h1, h2, h3, h4, h5, k0, k1, k2, k3, k4, k5⟩
theorem belowOn {w W W' : World} (h : Below w.heap.size w W) (k : Below W.heap.size W W') : Below w.heap.size w W' := h.trans (k.mono h.size)
theorem recSame_reg {V W : World} {aN : ByteArray} {aT aK : Int} {aA bA : Option Addr} {aL aC bC : Nat} {aG aX : ByteArray} {aZ : List Int} (hra : Reads V V.heap.size aA aL (aZ.map iv)) (hrb : Reads V V.heap.size bA aL (aZ.map iv)) (hh : Below V.heap.size V W) (la : aL ≤ 67108864) :
    Calls Tryz.prog 14 #[.agg #[.string aN, .int .i64 aT, .int .i64 aK, .slice aA aL aC, .string aG, .string aX], .agg #[.string aN, .int .i64 aT, .int .i64 aK, .slice bA aL bC, .string aG, .string aX]] W fun e W' => e = .returned (.bool true) ∧ Below W.heap.size W W' :=
  recSame_true aN aT aK aA aL aC aG aX aZ V.heap.size bA bC V.heap.size W (hra.below hh (Nat.le_refl _)) hh.size la (hrb.below hh (Nat.le_refl _)) hh.size
theorem sp32 {c : UInt8} : ((c.toNat : Int) = 32) ↔ c = 32 := by
  rw [← UInt8.toNat_inj]; simp; omega
theorem first_space {r : Z.Rec} {o ow : Z.Str} {D : ByteArray} (hok : (Z.writeLine r o ow).isSome = true) (hD : bs ((Z.writeLine r o ow).getD []) = D) : ∃ h : 0 < D.size, if r.name = ow then ((D[0]'h).toNat : Int) = 32 else ¬ ((D[0]'h).toNat : Int) = 32 := by
  obtain ⟨h1, h2, h3, h4⟩ := wrote hok hD
  have hne : lst D ≠ [] ∧ (if r.name = ow then (lst D).head? = some 32 else (lst D).head? ≠ some 32) := by
    rw [h4]
    unfold Z.lineText
    split
    · rw [List.nil_append]
      refine ⟨?_, ?_⟩
      · simp [Z.lineFields, Z.spaced]
      · simp [Z.lineFields, Z.spaced]
    · have hs := Z.short_atom (Z.recValid_iff.1 h1).1 h2
      have hn := hs.ne
      have hh := hs.head
      cases hsh : Z.short r.name o with
      | nil => exact absurd hsh hn
      | cons c q =>
        rw [hsh] at hh
        exact ⟨by simp, by simpa using hh⟩
  have hp : 0 < D.size := by
    rw [← lst_length]
    exact List.length_pos_iff.2 hne.1
  have h0 : (lst D).head? = some D[0] := by rw [List.head?_eq_getElem?, List.getElem?_eq_getElem (by rw [lst_length]; exact hp), lst_get D 0 hp]
  refine ⟨hp, ?_⟩
  have h5 := hne.2
  rw [h0] at h5
  split
  · rename_i h
    rw [if_pos h] at h5
    exact sp32.2 (Option.some.inj h5)
  · rename_i h
    rw [if_neg h] at h5
    exact fun e => h5 (congrArg some (sp32.1 e))

set_option maxRecDepth 100000 in
set_option maxHeartbeats 8000000 in
theorem walk (a0 : Option Addr) (len0 cap0 : Nat) (z0 : List Int) (w : World) (w0 : IsRow .u8 w a0 len0 cap0 z0) (hk : KT w) (ht : PT w) (hm : MX w) :
    Calls Tryz.prog 7 #[.slice a0 len0 cap0] w fun e w' => e = .returned (.bool true) ∧ Below w.heap.size w w' := by
  have hc0 := row_cap w0
  unfold maxLen at hc0
  by_cases hb0 : len0 ≤ 1048576
  · obtain ⟨zs0, rfl, hcode0⟩ := code_of_row w0 hb0
    clear w0
    go_enter Tryz.func7, Tryz.ntmps7
    go_wp2_with fail
    refine (DrawWriteLine_any _ _ zs0 w hcode0).mono ?_
    rintro e v1 ⟨aN, aT, aK, aA, aL, aC, aG, aX, aZ, o, ow, rfl, Or, la, s1, s2, s3, so, sw, bw⟩
    have Lr := Or.lt
    try simp only [World.alloc, Array.size_push] at Lr
    replace Or := Or.alloc (.cells #[.string aN, .int .i64 aT, .int .i64 aK, .slice aA aL aC, .string aG, .string aX] 25)
    replace bw := bw.alloc bw.size (.cells #[.string aN, .int .i64 aT, .int .i64 aK, .slice aA aL aC, .string aG, .string aX] 25)
    have Br : Blk (v1.alloc (.cells #[.string aN, .int .i64 aT, .int .i64 aK, .slice aA aL aC, .string aG, .string aX] 25)) v1.heap.size 25 [.string aN, .int .i64 aT, .int .i64 aK, .slice aA aL aC, .string aG, .string aX] := Blk.new v1 25 [.string aN, .int .i64 aT, .int .i64 aK, .slice aA aL aC, .string aG, .string aX]
    obtain ⟨cr0, cr1, cr2, cr3, cr4, cr5⟩ := Br.cells6
    obtain ⟨D, hD⟩ : ∃ D, bs ((Z.writeLine (⟨lst aN, aT, aK, aZ, lst aG, lst aX⟩ : Z.Rec) (lst o) (lst ow)).getD []) = D := ⟨_, rfl⟩
    obtain ⟨ok, hok⟩ : ∃ ok, (Z.writeLine (⟨lst aN, aT, aK, aZ, lst aG, lst aX⟩ : Z.Rec) (lst o) (lst ow)).isSome = ok := ⟨_, rfl⟩
    have HD := hid hD
    have HOK := hid hok
    clear hD hok
    cases ok with
    | false =>
      go_wp2_with fail
      refine (iWriteLine_eq aN aT aK aA aL aC aG aX aZ _ o ow _ (Reads.of_own Or) (Nat.le_refl _) (by omega) (by omega) (by omega) (by omega) (by omega) (by omega) (hk.below bw) (ht.below bw) D false HD HOK).mono ?_
      rintro e v2 ⟨rfl, hb2⟩
      clear cr0 cr1 cr2 cr3 cr4 cr5
      have hs11 := hb2.size
      try simp only [World.alloc, Array.size_push] at hs11
      replace Br := Br.next hb2
      replace Or := own_next Or hb2
      replace bw := bw.trans (hb2.mono bw.size)
      clear hb2
      obtain ⟨cr0, cr1, cr2, cr3, cr4, cr5⟩ := Br.cells6
      go_wp2_with fail
      refine (WriteLine_eq aN aT aK aA aL aC aG aX aZ _ o ow _ (Reads.of_own Or) (Nat.le_refl _) (by omega) (by omega) (by omega) (by omega) (by omega) (by omega) D false HD HOK).mono ?_
      rintro e v3 ⟨rfl, hb3⟩
      clear cr0 cr1 cr2 cr3 cr4 cr5
      have hs12 := hb3.size
      try simp only [World.alloc, Array.size_push] at hs12
      replace Br := Br.next hb3
      replace Or := own_next Or hb3
      replace bw := bw.trans (hb3.mono bw.size)
      clear hb3
      obtain ⟨cr0, cr1, cr2, cr3, cr4, cr5⟩ := Br.cells6
      go_wp2
      go_ret
      exact ⟨ret_bool (by simp), bw⟩
    | true =>
      go_wp2_with fail
      refine (iWriteLine_eq aN aT aK aA aL aC aG aX aZ _ o ow _ (Reads.of_own Or) (Nat.le_refl _) (by omega) (by omega) (by omega) (by omega) (by omega) (by omega) (hk.below bw) (ht.below bw) D true HD HOK).mono ?_
      rintro e v2 ⟨rfl, hb2⟩
      clear cr0 cr1 cr2 cr3 cr4 cr5
      have hs11 := hb2.size
      try simp only [World.alloc, Array.size_push] at hs11
      replace Br := Br.next hb2
      replace Or := own_next Or hb2
      replace bw := bw.trans (hb2.mono bw.size)
      clear hb2
      obtain ⟨cr0, cr1, cr2, cr3, cr4, cr5⟩ := Br.cells6
      go_wp2_with fail
      refine (WriteLine_eq aN aT aK aA aL aC aG aX aZ _ o ow _ (Reads.of_own Or) (Nat.le_refl _) (by omega) (by omega) (by omega) (by omega) (by omega) (by omega) D true HD HOK).mono ?_
      rintro e v3 ⟨rfl, hb3⟩
      clear cr0 cr1 cr2 cr3 cr4 cr5
      have hs12 := hb3.size
      try simp only [World.alloc, Array.size_push] at hs12
      replace Br := Br.next hb3
      replace Or := own_next Or hb3
      replace bw := bw.trans (hb3.mono bw.size)
      clear hb3
      obtain ⟨cr0, cr1, cr2, cr3, cr4, cr5⟩ := Br.cells6
      have hval := (wrote HOK.out HD.out).1
      have hvo := (wrote HOK.out HD.out).2.1
      have hvn := (Z.recValid_iff.1 hval).1
      dsimp only at hvn
      obtain ⟨D2, hD2⟩ : ∃ D2, bs ((Z.writeLine (⟨lst aN, aT, aK, aZ, lst aG, lst aX⟩ : Z.Rec) (lst o) (lst aN)).getD []) = D2 := ⟨_, rfl⟩
      have hok2 : (Z.writeLine (⟨lst aN, aT, aK, aZ, lst aG, lst aX⟩ : Z.Rec) (lst o) (lst aN)).isSome = true := by unfold Z.writeLine; rw [if_pos (by simp [hval, hvo, hvn])]; rfl
      have HD2 := hid hD2
      have HOK2 := hid hok2
      have HS1 := hid (first_space HOK.out HD.out)
      have HS2 := hid (first_space hok2 hD2)
      have HRL := hid (wrote_read (t := 5) (by omega) (by omega) hok2 hD2)
      have HLS := hid (line_size hok2 hD2)
      clear hval hvo hvn hD2 hok2
      go_wp2_with fail
      refine (iWriteLine_eq aN aT aK aA aL aC aG aX aZ _ o aN _ (Reads.of_own Or) (Nat.le_refl _) (by omega) (by omega) (by omega) (by omega) (by omega) (by omega) (hk.below bw) (ht.below bw) D2 true HD2 HOK2).mono ?_
      rintro e v4 ⟨rfl, hb4⟩
      clear cr0 cr1 cr2 cr3 cr4 cr5
      have hs13 := hb4.size
      try simp only [World.alloc, Array.size_push] at hs13
      replace Br := Br.next hb4
      replace Or := own_next Or hb4
      replace bw := bw.trans (hb4.mono bw.size)
      clear hb4
      obtain ⟨cr0, cr1, cr2, cr3, cr4, cr5⟩ := Br.cells6
      have hrd5 := iReadLine_some o aN D2 (5) _ (hm.below bw) (hk.below bw) (by omega) (by omega) (by have := HLS.out; omega) _ _ HRL.out
      go_wp2_with fail
      refine hrd5.mono ?_
      clear hrd5
      rintro e v5 ⟨o5, w5, xN, xT, xK, xA, xL, xC, xG, xX, xZ, rfl, hst5, he9, Ox, hb5⟩
      clear cr0 cr1 cr2 cr3 cr4 cr5
      have hs14 := hb5.size
      try simp only [World.alloc, Array.size_push] at hs14
      replace Br := Br.next hb5
      replace Or := own_next Or hb5
      replace bw := bw.trans (hb5.mono bw.size)
      clear hb5
      have Lx := Ox.lt
      try simp only [World.alloc, Array.size_push] at Lx
      simp only [Z.St.mk.injEq] at hst5
      obtain ⟨t1, _, t3⟩ := hst5
      obtain rfl := lst_inj t1
      obtain rfl := lst_inj t3
      clear t1 t3
      simp only [Z.Rec.mk.injEq] at he9
      obtain ⟨e1, rfl, rfl, rfl, e5, e6⟩ := he9
      obtain rfl := lst_inj e1
      obtain rfl := lst_inj e5
      obtain rfl := lst_inj e6
      have hl1 := reads_len (Reads.of_own Or)
      have hl2 := reads_len (Reads.of_own Ox)
      obtain rfl : aL = xL := hl1.symm.trans hl2
      clear e1 e5 e6 hl1 hl2
      have Bx : Blk ((v5.alloc (.cells #[.string o, .int .i64 5, .string aN] 46)).alloc (.cells #[.string aN, .int .i64 aT, .int .i64 aK, .slice xA aL xC, .string aG, .string aX] 25)) (v5.heap.size + 1) 25 [.string aN, .int .i64 aT, .int .i64 aK, .slice xA aL xC, .string aG, .string aX] := by
        have h9 := Blk.new (v5.alloc (.cells #[.string o, .int .i64 5, .string aN] 46)) 25 [.string aN, .int .i64 aT, .int .i64 aK, .slice xA aL xC, .string aG, .string aX]
        simpa using h9
      replace Br := (Br.alloc (.cells #[.string o, .int .i64 5, .string aN] 46)).alloc (.cells #[.string aN, .int .i64 aT, .int .i64 aK, .slice xA aL xC, .string aG, .string aX] 25)
      replace Or := (Or.alloc (.cells #[.string o, .int .i64 5, .string aN] 46)).alloc (.cells #[.string aN, .int .i64 aT, .int .i64 aK, .slice xA aL xC, .string aG, .string aX] 25)
      replace Ox := (Ox.alloc (.cells #[.string o, .int .i64 5, .string aN] 46)).alloc (.cells #[.string aN, .int .i64 aT, .int .i64 aK, .slice xA aL xC, .string aG, .string aX] 25)
      replace bw := (bw.alloc bw.size (.cells #[.string o, .int .i64 5, .string aN] 46)).alloc (bw.alloc bw.size (.cells #[.string o, .int .i64 5, .string aN] 46)).size (.cells #[.string aN, .int .i64 aT, .int .i64 aK, .slice xA aL xC, .string aG, .string aX] 25)
      obtain ⟨V, hV⟩ : ∃ V, (v5.alloc (.cells #[.string o, .int .i64 5, .string aN] 46)).alloc (.cells #[.string aN, .int .i64 aT, .int .i64 aK, .slice xA aL xC, .string aG, .string aX] 25) = V := ⟨_, rfl⟩
      rw [hV] at Br Bx Or Ox bw
      have HV := hid hV
      have hVs : v5.heap.size < V.heap.size := by rw [← hV]; simp; omega
      clear hV
      have RX := Reads.of_own Ox
      have RR := Reads.of_own Or
      clear Ox Or
      obtain ⟨cr0, cr1, cr2, cr3, cr4, cr5⟩ := Br.cells6
      obtain ⟨cx0, cx1, cx2, cx3, cx4, cx5⟩ := Bx.cells6
      obtain ⟨g1, hg1⟩ := HS1.out
      obtain ⟨g2, hg2⟩ := HS2.out
      simp only [if_true] at hg2
      have hd2 : 0 < D2.size := g2
      have u2 : ((D2[0].toNat : Int) == 32) = true := by simpa using hg2
      have hx9 : decide (lst ow = lst aN) = (ow.toList == aN.toList) := by rw [eq_toList]
      by_cases hq : lst aN = lst ow
      · rw [if_pos hq] at hg1
        have u1 : ((D[0].toNat : Int) == 32) = true := by simpa using hg1
        have u3 : (ow.toList == aN.toList) = true := by rw [← hx9]; exact decide_eq_true hq.symm
        clear hg1 hg2 hq hx9
        go_wp2_with fail
        rw [HV.out]
        go_region_held3 (fun w' => Below V.heap.size V w' ∧ w'.cell? ⟨v1.heap.size, 0, none⟩ = some (.string aN) ∧ w'.cell? ⟨v1.heap.size, 1, none⟩ = some (.int .i64 aT) ∧ w'.cell? ⟨v1.heap.size, 2, none⟩ = some (.int .i64 aK) ∧ w'.cell? ⟨v1.heap.size, 3, none⟩ = some (.slice aA aL aC) ∧ w'.cell? ⟨v1.heap.size, 4, none⟩ = some (.string aG) ∧ w'.cell? ⟨v1.heap.size, 5, none⟩ = some (.string aX) ∧ w'.cell? ⟨v5.heap.size + 1, 0, none⟩ = some (.string aN) ∧ w'.cell? ⟨v5.heap.size + 1, 1, none⟩ = some (.int .i64 aT) ∧ w'.cell? ⟨v5.heap.size + 1, 2, none⟩ = some (.int .i64 aK) ∧ w'.cell? ⟨v5.heap.size + 1, 3, none⟩ = some (.slice xA aL xC) ∧ w'.cell? ⟨v5.heap.size + 1, 4, none⟩ = some (.string aG) ∧ w'.cell? ⟨v5.heap.size + 1, 5, none⟩ = some (.string aX))
          (first | exact regCells Br Bx (Below.refl _ _) | exact regCells Br Bx (by assumption) | exact regCells Br Bx (below_drewN (Below.refl _ _) 1) | exact regCells Br Bx (below_drewN (by assumption) 1) | (go_split_ands; exact regCells Br Bx (belowOn (by assumption) hb9)))
          (first
            | (go_at_call 14; go_split_ands; refine (recSame_reg RX RR (by assumption) (by omega)).mono ?_; rintro e w9 ⟨rfl, hb9⟩))
        all_goals go_split_ands
        all_goals (have hb10 : Below V.heap.size V w9 := by assumption)
        all_goals go_wp2
        all_goals go_ret
        all_goals exact ⟨ret_bool (by simp), bw.trans (hb10.mono bw.size)⟩
      · rw [if_neg hq] at hg1
        have u1 : ((D[0].toNat : Int) == 32) = false := by simpa using hg1
        have u3 : (ow.toList == aN.toList) = false := by rw [← hx9]; exact decide_eq_false (fun e => hq e.symm)
        clear hg1 hg2 hq hx9
        go_wp2_with fail
        rw [HV.out]
        go_region_held3 (fun w' => Below V.heap.size V w' ∧ w'.cell? ⟨v1.heap.size, 0, none⟩ = some (.string aN) ∧ w'.cell? ⟨v1.heap.size, 1, none⟩ = some (.int .i64 aT) ∧ w'.cell? ⟨v1.heap.size, 2, none⟩ = some (.int .i64 aK) ∧ w'.cell? ⟨v1.heap.size, 3, none⟩ = some (.slice aA aL aC) ∧ w'.cell? ⟨v1.heap.size, 4, none⟩ = some (.string aG) ∧ w'.cell? ⟨v1.heap.size, 5, none⟩ = some (.string aX) ∧ w'.cell? ⟨v5.heap.size + 1, 0, none⟩ = some (.string aN) ∧ w'.cell? ⟨v5.heap.size + 1, 1, none⟩ = some (.int .i64 aT) ∧ w'.cell? ⟨v5.heap.size + 1, 2, none⟩ = some (.int .i64 aK) ∧ w'.cell? ⟨v5.heap.size + 1, 3, none⟩ = some (.slice xA aL xC) ∧ w'.cell? ⟨v5.heap.size + 1, 4, none⟩ = some (.string aG) ∧ w'.cell? ⟨v5.heap.size + 1, 5, none⟩ = some (.string aX))
          (first | exact regCells Br Bx (Below.refl _ _) | exact regCells Br Bx (by assumption) | exact regCells Br Bx (below_drewN (Below.refl _ _) 1) | exact regCells Br Bx (below_drewN (by assumption) 1) | (go_split_ands; exact regCells Br Bx (belowOn (by assumption) hb9)))
          (first
            | (go_at_call 14; go_split_ands; refine (recSame_reg RX RR (by assumption) (by omega)).mono ?_; rintro e w9 ⟨rfl, hb9⟩))
        all_goals go_split_ands
        all_goals (have hb10 : Below V.heap.size V w9 := by assumption)
        all_goals go_wp2
        all_goals go_ret
        all_goals exact ⟨ret_bool (by simp), bw.trans (hb10.mono bw.size)⟩
  · go_enter Tryz.func7, Tryz.ntmps7
    go_wp2_with fail
    go_ret
    exact ⟨rfl, Below.refl _ _⟩

set_option maxRecDepth 100000 in
theorem lifted (os : Os) (started : os.Started) (H : Type) (enc : TypeId × Value → H) :
    ReturnsInHanded {} Tryz.checked os 7 .any (fun w args => (Rows.fnLineOwnerSpec.pre enc Tryz.prog Tryz.f7 Rows.fnLineOwnerRow.domain false w args ∧ laidMetH Tryz.prog [("math/bits.deBruijn32tab", Rows.laid_math_bits_deBruijn32tab), ("math/bits.deBruijn64tab", Rows.laid_math_bits_deBruijn64tab), ("internal/strconv.uint64pow10", Rows.laid_internal_strconv_uint64pow10), ("unicode/utf8.acceptRanges", Rows.laid_unicode_utf8_acceptRanges), ("loop.example/zonefiles/impl.kindRows", Rows.laid_loop_example_zonefiles_impl_kindRows), ("unicode/utf8.first", Rows.laid_unicode_utf8_first)] w) ∧ sizedMet enc Tryz.prog Tryz.f7 (OpenSpec.ofChange Rows.fnLineOwnerSpec) false w args)
      (Rows.fnLineOwnerSpec.post enc Tryz.prog Tryz.f7 false true false false) := by
  refine returnsInHanded_and_shaped (C := Tryz.checked) (X := fun w _ => laidMetH Tryz.prog [("math/bits.deBruijn32tab", Rows.laid_math_bits_deBruijn32tab), ("math/bits.deBruijn64tab", Rows.laid_math_bits_deBruijn64tab), ("internal/strconv.uint64pow10", Rows.laid_internal_strconv_uint64pow10), ("unicode/utf8.acceptRanges", Rows.laid_unicode_utf8_acceptRanges), ("loop.example/zonefiles/impl.kindRows", Rows.laid_loop_example_zonefiles_impl_kindRows), ("unicode/utf8.first", Rows.laid_unicode_utf8_first)] w) (fun _ _ _ hh h => h.of_heap hh) own started (by kernel_rfl) Tryz.func7
    (ChangeSpec.witness_shaped (enc := enc) (C := Tryz.checked) (os := os) (X := fun w _ => laidMetH Tryz.prog [("math/bits.deBruijn32tab", Rows.laid_math_bits_deBruijn32tab), ("math/bits.deBruijn64tab", Rows.laid_math_bits_deBruijn64tab), ("internal/strconv.uint64pow10", Rows.laid_internal_strconv_uint64pow10), ("unicode/utf8.acceptRanges", Rows.laid_unicode_utf8_acceptRanges), ("loop.example/zonefiles/impl.kindRows", Rows.laid_loop_example_zonefiles_impl_kindRows), ("unicode/utf8.first", Rows.laid_unicode_utf8_first)] w) false (World.laidAll Tryz.prog os [("math/bits.deBruijn32tab", Rows.laid_math_bits_deBruijn32tab), ("math/bits.deBruijn64tab", Rows.laid_math_bits_deBruijn64tab), ("internal/strconv.uint64pow10", Rows.laid_internal_strconv_uint64pow10), ("unicode/utf8.acceptRanges", Rows.laid_unicode_utf8_acceptRanges), ("loop.example/zonefiles/impl.kindRows", Rows.laid_loop_example_zonefiles_impl_kindRows), ("unicode/utf8.first", Rows.laid_unicode_utf8_first)]) #[.slice none 0 0] 8 (World.laidAll_os _ _ _)
      (World.shaped_of_ZipB (by kernel_rfl) (by kernel_rfl)) (by kernel_rfl) (by kernel_rfl) (by kernel_rfl)
      (by rw [MakeChecks.laidMetH_plain _ _ _ (by kernel_rfl)]; exact laidMet_laidAll _ (by kernel_rfl) (by kernel_rfl))) ?_
  intro W base args ds gs before hval0 hW hsh hL
  have hval : ∀ (j : Nat) t v, Tryz.f7.params[j]? = some t → args[j]? = some v → Value.okWide Tryz.prog W .any base t v := hval0
  have hW' := hW
  obtain ⟨p, q, hA0, hV, rfl, hfz, hnd⟩ := hW
  have hA : DataW.TrodAll enc Tryz.prog W 0 (fun _ => true) true Tryz.f7.params.toList args.toList ds p := hA0
  have hV1 : DataW.TrodVars enc Tryz.prog W (fun _ => true) ["loop.example/zonefiles/impl.kindRows"] gs q := hV
  clear hV
  have hV2 := hV1
  obtain ⟨g9, t9, cs9, f9, d9, p9, rfl, _, _, _, _, rfl⟩ := trodVars_one hV2
  rw [Tryz.params7] at hA hval
  obtain ⟨v0, vs0, d0, ds0, p0, q0, hargs, rfl, rfl, h0, r0⟩ := trodAll_cons hA
  obtain ⟨rfl, rfl, rfl⟩ := trodAll_nil r0
  obtain rfl : args = #[v0] := by cases args; simp_all
  have k0 := h0
  have lt0 : ∀ x ∈ p0, x.block < W.heap.size := by obtain ⟨m, hm⟩ := k0; exact DataW.trod_lt m _ _ _ hm
  obtain ⟨a0, len0, cap0, rfl⟩ := okWide_slice Tryz.underlying22 (hval 0 22 v0 rfl rfl)
  have h0b := h0
  obtain ⟨z0, w0⟩ : ∃ zs, IsRow .u8 W a0 len0 cap0 zs := by
    obtain ⟨fuel, hf⟩ := h0b
    rcases open_ints Tryz.underlying22 Tryz.underlying5 (by kernel_rfl) hf with ⟨hcs, _⟩ | ⟨x, l, c, zs, hcs, _, hl, hm, hz, _, hcell, hwz⟩
    · simp [Value.cells] at hcs
      obtain ⟨rfl, rfl, rfl⟩ := hcs
      exact ⟨[], .inl ⟨rfl, rfl, rfl, rfl⟩⟩
    · simp [Value.cells] at hcs
      obtain ⟨rfl, rfl, rfl⟩ := hcs
      exact ⟨zs, .inr ⟨_, rfl, hl, hm, by simpa using hz, hcell, hwz⟩⟩
  have hlv := laid_vars (by kernel_rfl) hL
  have hk := kt_of_vars (laid_next (laid_next (laid_next (laid_next hlv))))
  have ht := pt_of_vars (laid_next (laid_next hlv))
  have hm := mx_of_shaped hsh
  clear hA0 hval0
  refine (walk a0 len0 cap0 z0 W w0  hk ht hm).mono fun e W' ⟨he, bel⟩ => ?_
  subst he
  exact ⟨_, rfl, _, _, _, [], _, _, hW', trodAll_mk1 (shut_bool Tryz.underlying4 _), (trodAll_cons_mk (Below.trod laidOut (by kernel_rfl) (of_decide_eq_true (by kernel_rfl)) k0 bel lt0) trodAll_mk0), bel.trodVars laidOut (by kernel_rfl) hV1, bel.frame _, fun h => by cases h⟩

theorem over : Rows.fnLineOwnerRow.holds Tryz.pinned (OpenSpec.ofChange Rows.fnLineOwnerSpec) :=
  OpenClaim.holds_of_wide 7 Tryz.f7 rfl rfl rfl rfl rfl rfl rfl ⟨rfl, rfl, rfl, rfl, rfl⟩ rfl rfl rfl rfl rfl (by kernel_rfl) Tryz.func7 (by kernel_rfl)
    (of_decide_eq_true (by kernel_rfl)) (by unfold Func.isWrapper; first | (rw [if_pos (by decide +kernel)]; kernel_rfl) | (rw [if_neg (by decide +kernel)]; exact ⟨rfl, rfl⟩))
    (fun os started H enc _ => lifted os started H enc)

theorem proved : Rows.FnLineOwnerCardSaid :=
  Claim7.holds_tied_plain_at .later [] [.data, .data, .data, .data, .data, .pinned] true (true, "0d21dc787af3e05ac654a6e5a4dee672a1b5db9686d7007c513d93a9f07c4000") true over (fun _ h => by cases h) (by kernel_rfl) (fun _ h => by cases h) fnLineOwner_row_tie rfl ⟨rfl, rfl⟩ (by kernel_rfl) rfl
    (fun f fn hf hfn => by
      obtain rfl : f = 7 := Option.some.inj ((show Tryz.prog.funcNamed "loop.example/zonefiles/laws.FnLineOwner" = some 7 by kernel_rfl).symm.trans hf) |>.symm
      obtain rfl : fn = Tryz.f7 := (Option.some.inj (Tryz.func7.symm.trans hfn)).symm
      exact ⟨by kernel_rfl, fun j t ht => by
        rw [Tryz.params7] at ht
        have hm : t ∈ [22] := by simpa using Array.mem_of_getElem? ht
        have hall : ([22].all fun u => !Tryz.prog.wantsStandIn u) = true := by kernel_rfl
        exact (show Tryz.prog.wantsStandIn t = false by simpa using List.all_eq_true.1 hall t hm)⟩)
    (by kernel_rfl)
end Go.Proofs.YtlknpipbjdecpaaGreatDoor.fnLineOwner

/- For all inputs, a record that is drawn from the first one is formatted, valid and parsed as the model says and is read back, and a text that is drawn from the second one is parsed as the model does and formatted back, where the tables are as the programs' texts lay them. -/
import Derived.Test.YtlknpipbjdecpaaGreatDoorTie
import Derived.Test.YtlknpipbjdecpaaGreatDoorCards
import Derived.Test.YtlknpipbjdecpaaGreatDoorHb
import Derived.Test.YtlknpipbjdecpaaGreatDoorSm
import Derived.Test.YtlknpipbjdecpaaGreatDoorPd
import Derived.Test.YtlknpipbjdecpaaGreatDoorNt
import Derived.Test.YtlknpipbjdecpaaGreatDoorNe
import Derived.Test.YtlknpipbjdecpaaGreatDoorFw
import Derived.Test.YtlknpipbjdecpaaGreatDoorMl
import Derived.Outline
namespace Go.Proofs.YtlknpipbjdecpaaGreatDoor.fnRecordText
open Go.ChangeShapes Go.WideShapes Go.ChangeAt Go.RowKit
open Go.ChangeMaps (open_string shut_string)
set_option linter.unusedVariables false

theorem own : ownKnob Tryz.prog.godebug = none := by kernel_rfl
theorem laidOut : laidOutB Tryz.prog = true := by kernel_rfl
theorem format_len (r : Z.Rec) : (Z.format r).length ≤ 300 := by
  cases hv : Z.recValid r with
  | false => rw [Z.format_nil.2 hv]; simp
  | true =>
    have hdl := data_len hv
    obtain ⟨hvn, hT0, hT1, _, _, _⟩ := Z.recValid_iff.1 hv
    have hn := (Z.valid_len hvn).2
    have ht := itoa_len hT0 (by omega)
    have hk : (Z.kindName r.kind).length ≤ 5 := by
      unfold Z.kindName
      repeat' split
      all_goals simp
    unfold Z.format
    rw [if_pos hv]
    simp only [List.length_append, List.length_cons]
    omega
theorem recSame_true (aN : ByteArray) (aT aK : Int) (aA : Option Addr) (aL aC : Nat) (aG aX : ByteArray) (aZ : List Int) (aB : Nat) (bA : Option Addr) (bC bB : Nat) (w : World) (hra : Reads w aB aA aL (aZ.map iv)) (hba : aB ≤ w.heap.size) (hla : aL ≤ 67108864) (hrb : Reads w bB bA aL (aZ.map iv)) (hbb : bB ≤ w.heap.size) :
    Calls Tryz.prog 14 #[.agg #[.string aN, .int .i64 aT, .int .i64 aK, .slice aA aL aC, .string aG, .string aX], .agg #[.string aN, .int .i64 aT, .int .i64 aK, .slice bA aL bC, .string aG, .string aX]] w fun e w' => e = .returned (.bool true) ∧ Below w.heap.size w w' := by
  have h := iRecordSame_any aN aT aK aA aL aC aG aX aZ aB aN aT aK bA aL bC aG aX aZ bB w hra hba hla hrb hbb hla
  rw [(Z.recSame_iff _ _).2 rfl] at h
  exact h
theorem iParse_eq (s : ByteArray) (hs : s.size ≤ 2000000) (w : World) (hm : MX w) (hk : KT w) (o : Option Z.Rec) (ho : Hid (Z.parse (lst s) = o)) (b : Bool) (hb : Hid (o.isSome = b)) :
    Calls Tryz.prog 10 #[.string s] w fun e w' => ∃ N T K A L c x y ns, e = .returned (.tuple #[.agg #[.string N, .int .i64 T, .int .i64 K, .slice A L c, .string x, .string y], .bool b]) ∧ w'.ownsRow w.heap.size 3 1 (.slice A L c) L (ns.map iv) ∧ o.getD noRec = ⟨lst N, T, K, ns, lst x, lst y⟩ ∧ L ≤ 7 ∧ Below w.heap.size w w' := by
  have h := iParseRecord_any s hs w hm hk
  unfold ParseOut at h
  rw [ho.out, hb.out] at h
  exact h
theorem Parse_eq (s : ByteArray) (hs : s.size ≤ 67108864) (w : World) (o : Option Z.Rec) (ho : Hid (Z.parse (lst s) = o)) (b : Bool) (hb : Hid (o.isSome = b)) :
    Calls Tryz.prog 16 #[.string s] w fun e w' => ∃ N T K A L c x y ns, e = .returned (.tuple #[.agg #[.string N, .int .i64 T, .int .i64 K, .slice A L c, .string x, .string y], .bool b]) ∧ w'.ownsRow w.heap.size 3 1 (.slice A L c) L (ns.map iv) ∧ o.getD noRec = ⟨lst N, T, K, ns, lst x, lst y⟩ ∧ L ≤ 7 ∧ Below w.heap.size w w' := by
  have h := ParseRecord_any s hs w
  unfold ParseOut at h
  rw [ho.out, hb.out] at h
  exact h

set_option maxRecDepth 100000 in
set_option maxHeartbeats 8000000 in
theorem walk (a0 : Option Addr) (len0 cap0 : Nat) (z0 : List Int) (a1 : Option Addr) (len1 cap1 : Nat) (z1 : List Int) (w : World) (w0 : IsRow .u8 w a0 len0 cap0 z0) (w1 : IsRow .u8 w a1 len1 cap1 z1) (hk : KT w) (ht : PT w) (hm : MX w) :
    Calls Tryz.prog 3 #[.slice a0 len0 cap0, .slice a1 len1 cap1] w fun e w' => e = .returned (.bool true) ∧ Below w.heap.size w w' := by
  have hc0 := row_cap w0
  have hc1 := row_cap w1
  unfold maxLen at hc0 hc1
  by_cases hb0 : len0 ≤ 1048576
  · by_cases hb1 : len1 ≤ 1048576
    · obtain ⟨zs0, rfl, hcode0⟩ := code_of_row w0 hb0
      obtain ⟨zs1, rfl, hcode1⟩ := code_of_row w1 hb1
      clear w0 w1
      go_enter Tryz.func3, Tryz.ntmps3
      go_wp2_with fail
      refine (DrawFormatRecord_any _ _ zs0 w hcode0).mono ?_
      rintro e v1 ⟨aN, aT, aK, aA, aL, aC, aG, aX, aZ, rfl, Or, la, s1, s2, s3, bw⟩
      have Lr := Or.lt
      try simp only [World.alloc, Array.size_push] at Lr
      replace Or := Or.alloc (.cells #[.string aN, .int .i64 aT, .int .i64 aK, .slice aA aL aC, .string aG, .string aX] 25)
      replace bw := bw.alloc bw.size (.cells #[.string aN, .int .i64 aT, .int .i64 aK, .slice aA aL aC, .string aG, .string aX] 25)
      have Br : Blk (v1.alloc (.cells #[.string aN, .int .i64 aT, .int .i64 aK, .slice aA aL aC, .string aG, .string aX] 25)) v1.heap.size 25 [.string aN, .int .i64 aT, .int .i64 aK, .slice aA aL aC, .string aG, .string aX] := Blk.new v1 25 [.string aN, .int .i64 aT, .int .i64 aK, .slice aA aL aC, .string aG, .string aX]
      obtain ⟨cr0, cr1, cr2, cr3, cr4, cr5⟩ := Br.cells6
      obtain ⟨D, hD⟩ : ∃ D, bs (Z.format (⟨lst aN, aT, aK, aZ, lst aG, lst aX⟩ : Z.Rec)) = D := ⟨_, rfl⟩
      have hDs : D.size ≤ 300 := by rw [← hD, bs_size]; exact format_len _
      have hDl : lst D = Z.format (⟨lst aN, aT, aK, aZ, lst aG, lst aX⟩ : Z.Rec) := by rw [← hD, lst_bs]
      have HD := hid hD
      clear hD
      cases hv : Z.recValid (⟨lst aN, aT, aK, aZ, lst aG, lst aX⟩ : Z.Rec) with
      | false =>
        go_wp2_with fail
        refine (iFormatRecord_eq aN aT aK aA aL aC aG aX aZ _ _ (Reads.of_own Or) (Nat.le_refl _) (by omega) (by omega) (by omega) (by omega) (hk.below bw) (ht.below bw) D HD).mono ?_
        rintro e v2 ⟨rfl, hb2⟩
        clear cr0 cr1 cr2 cr3 cr4 cr5
        have hs11 := hb2.size
        try simp only [World.alloc, Array.size_push] at hs11
        replace Br := Br.next hb2
        replace Or := own_next Or hb2
        replace bw := bw.trans (hb2.mono bw.size)
        clear hb2
        obtain ⟨cr0, cr1, cr2, cr3, cr4, cr5⟩ := Br.cells6
        have HP := hid (show Z.parse (lst D) = none by rw [hDl, Z.format_nil.2 hv]; rfl)
        have HPS : Hid ((none : Option Z.Rec).isSome = false) := hid rfl
        have HV := hid hv
        clear hv hDl
        go_wp2_with fail
        have tP := iParse_eq D (by omega) _ (hm.below bw) (hk.below bw) _ HP _ HPS
        refine tP.mono ?_
        clear tP
        rintro e v3 ⟨pN, pT, pK, pA, pL, pC, pG, pX, pZ, rfl, Op, hq3, hl3, hb3⟩
        clear cr0 cr1 cr2 cr3 cr4 cr5
        have hs12 := hb3.size
        try simp only [World.alloc, Array.size_push] at hs12
        replace Br := Br.next hb3
        replace Or := own_next Or hb3
        replace bw := bw.trans (hb3.mono bw.size)
        clear hb3
        have Lp := Op.lt
        try simp only [World.alloc, Array.size_push] at Lp
        replace Br := Br.alloc (.cells #[.string pN, .int .i64 pT, .int .i64 pK, .slice pA pL pC, .string pG, .string pX] 25)
        replace Or := Or.alloc (.cells #[.string pN, .int .i64 pT, .int .i64 pK, .slice pA pL pC, .string pG, .string pX] 25)
        replace Op := Op.alloc (.cells #[.string pN, .int .i64 pT, .int .i64 pK, .slice pA pL pC, .string pG, .string pX] 25)
        replace bw := bw.alloc bw.size (.cells #[.string pN, .int .i64 pT, .int .i64 pK, .slice pA pL pC, .string pG, .string pX] 25)
        have Bp : Blk (v3.alloc (.cells #[.string pN, .int .i64 pT, .int .i64 pK, .slice pA pL pC, .string pG, .string pX] 25)) v3.heap.size 25 [.string pN, .int .i64 pT, .int .i64 pK, .slice pA pL pC, .string pG, .string pX] := Blk.new v3 25 [.string pN, .int .i64 pT, .int .i64 pK, .slice pA pL pC, .string pG, .string pX]
        obtain ⟨cr0, cr1, cr2, cr3, cr4, cr5⟩ := Br.cells6
        obtain ⟨cp0, cp1, cp2, cp3, cp4, cp5⟩ := Bp.cells6
        go_wp2_with fail
        refine (iRecordValid_v aN aT aK aA aL aC aG aX aZ _ _ (Reads.of_own Or) (Nat.le_refl _) (by omega) (by omega) (by omega) (by omega) false HV).mono ?_
        rintro e v4 ⟨rfl, hb4⟩
        clear cr0 cr1 cr2 cr3 cr4 cr5 cp0 cp1 cp2 cp3 cp4 cp5
        have hs13 := hb4.size
        try simp only [World.alloc, Array.size_push] at hs13
        replace Br := Br.next hb4
        replace Bp := Bp.next hb4
        replace Or := own_next Or hb4
        replace Op := own_next Op hb4
        replace bw := bw.trans (hb4.mono bw.size)
        clear hb4
        obtain ⟨cr0, cr1, cr2, cr3, cr4, cr5⟩ := Br.cells6
        obtain ⟨cp0, cp1, cp2, cp3, cp4, cp5⟩ := Bp.cells6
        go_wp2_with fail
        refine (FormatRecord_eq aN aT aK aA aL aC aG aX aZ _ _ (Reads.of_own Or) (Nat.le_refl _) (by omega) (by omega) (by omega) (by omega) D HD).mono ?_
        rintro e v5 ⟨rfl, hb5⟩
        clear cr0 cr1 cr2 cr3 cr4 cr5 cp0 cp1 cp2 cp3 cp4 cp5
        have hs14 := hb5.size
        try simp only [World.alloc, Array.size_push] at hs14
        replace Br := Br.next hb5
        replace Bp := Bp.next hb5
        replace Or := own_next Or hb5
        replace Op := own_next Op hb5
        replace bw := bw.trans (hb5.mono bw.size)
        clear hb5
        obtain ⟨cr0, cr1, cr2, cr3, cr4, cr5⟩ := Br.cells6
        obtain ⟨cp0, cp1, cp2, cp3, cp4, cp5⟩ := Bp.cells6
        go_wp2_with fail
        refine (RecordValid_eq aN aT aK aA aL aC aG aX aZ _ _ (Reads.of_own Or) (Nat.le_refl _) (by omega) (by omega) (by omega) (by omega) false HV).mono ?_
        rintro e v6 ⟨rfl, hb6⟩
        clear cr0 cr1 cr2 cr3 cr4 cr5 cp0 cp1 cp2 cp3 cp4 cp5
        have hs15 := hb6.size
        try simp only [World.alloc, Array.size_push] at hs15
        replace Br := Br.next hb6
        replace Bp := Bp.next hb6
        replace Or := own_next Or hb6
        replace Op := own_next Op hb6
        replace bw := bw.trans (hb6.mono bw.size)
        clear hb6
        obtain ⟨cr0, cr1, cr2, cr3, cr4, cr5⟩ := Br.cells6
        obtain ⟨cp0, cp1, cp2, cp3, cp4, cp5⟩ := Bp.cells6
        clear HD HP HPS HV
        clear cr0 cr1 cr2 cr3 cr4 cr5 cp0 cp1 cp2 cp3 cp4 cp5
        clear Br
        clear Bp
        clear Or
        clear Op
        go_wp2_with fail
        refine (DrawParseRecord_any _ _ zs1 _ (hcode1.below bw)).mono ?_
        rintro e w1 ⟨s, rfl, hs, hb9⟩
        have hs16 := hb9.size
        try simp only [World.alloc, Array.size_push] at hs16
        replace bw := bw.trans (hb9.mono bw.size)
        clear hb9
        obtain ⟨o, ho⟩ : ∃ o, Z.parse (lst s) = o := ⟨_, rfl⟩
        have HO := hid ho
        cases o with
        | none =>
          clear ho
          have HB : Hid ((none : Option Z.Rec).isSome = false) := hid rfl
          go_wp2_with fail
          have tP := iParse_eq s (by omega) _ (hm.below bw) (hk.below bw) _ HO _ HB
          refine tP.mono ?_
          clear tP
          rintro e w2 ⟨gN, gT, gK, gA, gL, gC, gG, gX, gZ, rfl, Og, hq2, hl2, hb2⟩
          have hs17 := hb2.size
          try simp only [World.alloc, Array.size_push] at hs17
          replace bw := bw.trans (hb2.mono bw.size)
          clear hb2
          have Lg := Og.lt
          try simp only [World.alloc, Array.size_push] at Lg
          replace Og := Og.alloc (.cells #[.string gN, .int .i64 gT, .int .i64 gK, .slice gA gL gC, .string gG, .string gX] 25)
          replace bw := bw.alloc bw.size (.cells #[.string gN, .int .i64 gT, .int .i64 gK, .slice gA gL gC, .string gG, .string gX] 25)
          have Bg : Blk (w2.alloc (.cells #[.string gN, .int .i64 gT, .int .i64 gK, .slice gA gL gC, .string gG, .string gX] 25)) w2.heap.size 25 [.string gN, .int .i64 gT, .int .i64 gK, .slice gA gL gC, .string gG, .string gX] := Blk.new w2 25 [.string gN, .int .i64 gT, .int .i64 gK, .slice gA gL gC, .string gG, .string gX]
          go_wp2_with fail
          refine (Parse_eq s (by omega) _ _ HO _ HB).mono ?_
          rintro e w3 ⟨hN, hT, hK, hA, hL, hC, hG, hX, hZ, rfl, Oh, hq3, hl3, hb3⟩
          have hs18 := hb3.size
          try simp only [World.alloc, Array.size_push] at hs18
          replace Bg := Bg.next hb3
          replace Og := own_next Og hb3
          replace bw := bw.trans (hb3.mono bw.size)
          clear hb3
          have Lh := Oh.lt
          try simp only [World.alloc, Array.size_push] at Lh
          have he9 : (⟨lst gN, gT, gK, gZ, lst gG, lst gX⟩ : Z.Rec) = ⟨lst hN, hT, hK, hZ, lst hG, lst hX⟩ := hq2.symm.trans hq3
          clear hq2 hq3
          have hlg9 := reads_len (Reads.of_own Og)
          have hlh9 := reads_len (Reads.of_own Oh)
          simp only [Z.Rec.mk.injEq] at he9
          obtain ⟨e1, rfl, rfl, rfl, e5, e6⟩ := he9
          obtain rfl := lst_inj e1
          obtain rfl := lst_inj e5
          obtain rfl := lst_inj e6
          obtain rfl : gL = hL := hlg9.symm.trans hlh9
          clear e1 e5 e6 hlg9 hlh9
          replace Bg := Bg.alloc (.cells #[.string gN, .int .i64 gT, .int .i64 gK, .slice hA gL hC, .string gG, .string gX] 25)
          replace Og := Og.alloc (.cells #[.string gN, .int .i64 gT, .int .i64 gK, .slice hA gL hC, .string gG, .string gX] 25)
          replace Oh := Oh.alloc (.cells #[.string gN, .int .i64 gT, .int .i64 gK, .slice hA gL hC, .string gG, .string gX] 25)
          replace bw := bw.alloc bw.size (.cells #[.string gN, .int .i64 gT, .int .i64 gK, .slice hA gL hC, .string gG, .string gX] 25)
          have Bh : Blk (w3.alloc (.cells #[.string gN, .int .i64 gT, .int .i64 gK, .slice hA gL hC, .string gG, .string gX] 25)) w3.heap.size 25 [.string gN, .int .i64 gT, .int .i64 gK, .slice hA gL hC, .string gG, .string gX] := Blk.new w3 25 [.string gN, .int .i64 gT, .int .i64 gK, .slice hA gL hC, .string gG, .string gX]
          obtain ⟨cg0, cg1, cg2, cg3, cg4, cg5⟩ := Bg.cells6
          obtain ⟨ch0, ch1, ch2, ch3, ch4, ch5⟩ := Bh.cells6
          go_wp2_with fail
          refine (recSame_true gN gT gK gA gL gC gG gX gZ _ hA hC _ _ (Reads.of_own Og) (Nat.le_refl _) (by omega) (Reads.of_own Oh) (Nat.le_refl _)).mono ?_
          rintro e w4 ⟨rfl, hb4⟩
          clear cg0 cg1 cg2 cg3 cg4 cg5 ch0 ch1 ch2 ch3 ch4 ch5
          have hs19 := hb4.size
          try simp only [World.alloc, Array.size_push] at hs19
          replace Bg := Bg.next hb4
          replace Bh := Bh.next hb4
          replace Og := own_next Og hb4
          replace Oh := own_next Oh hb4
          replace bw := bw.trans (hb4.mono bw.size)
          clear hb4
          obtain ⟨cg0, cg1, cg2, cg3, cg4, cg5⟩ := Bg.cells6
          go_wp2
          go_ret
          exact ⟨rfl, bw⟩
        | some o9 =>
          have hfm := Z.parse_some ho
          have HF := hid (show bs (Z.format o9) = s by rw [hfm.2, bs_lst])
          clear hfm ho
          have HB : Hid ((some o9 : Option Z.Rec).isSome = true) := hid rfl
          go_wp2_with fail
          have tP := iParse_eq s (by omega) _ (hm.below bw) (hk.below bw) _ HO _ HB
          refine tP.mono ?_
          clear tP
          rintro e w2 ⟨gN, gT, gK, gA, gL, gC, gG, gX, gZ, rfl, Og, hq2, hl2, hb2⟩
          have hs17 := hb2.size
          try simp only [World.alloc, Array.size_push] at hs17
          replace bw := bw.trans (hb2.mono bw.size)
          clear hb2
          have Lg := Og.lt
          try simp only [World.alloc, Array.size_push] at Lg
          replace Og := Og.alloc (.cells #[.string gN, .int .i64 gT, .int .i64 gK, .slice gA gL gC, .string gG, .string gX] 25)
          replace bw := bw.alloc bw.size (.cells #[.string gN, .int .i64 gT, .int .i64 gK, .slice gA gL gC, .string gG, .string gX] 25)
          have Bg : Blk (w2.alloc (.cells #[.string gN, .int .i64 gT, .int .i64 gK, .slice gA gL gC, .string gG, .string gX] 25)) w2.heap.size 25 [.string gN, .int .i64 gT, .int .i64 gK, .slice gA gL gC, .string gG, .string gX] := Blk.new w2 25 [.string gN, .int .i64 gT, .int .i64 gK, .slice gA gL gC, .string gG, .string gX]
          have ho9 : o9 = (⟨lst gN, gT, gK, gZ, lst gG, lst gX⟩ : Z.Rec) := hq2
          rw [ho9] at HF
          go_wp2_with fail
          refine (Parse_eq s (by omega) _ _ HO _ HB).mono ?_
          rintro e w3 ⟨hN, hT, hK, hA, hL, hC, hG, hX, hZ, rfl, Oh, hq3, hl3, hb3⟩
          have hs18 := hb3.size
          try simp only [World.alloc, Array.size_push] at hs18
          replace Bg := Bg.next hb3
          replace Og := own_next Og hb3
          replace bw := bw.trans (hb3.mono bw.size)
          clear hb3
          have Lh := Oh.lt
          try simp only [World.alloc, Array.size_push] at Lh
          have he9 : (⟨lst gN, gT, gK, gZ, lst gG, lst gX⟩ : Z.Rec) = ⟨lst hN, hT, hK, hZ, lst hG, lst hX⟩ := hq2.symm.trans hq3
          clear hq2 hq3
          have hlg9 := reads_len (Reads.of_own Og)
          have hlh9 := reads_len (Reads.of_own Oh)
          simp only [Z.Rec.mk.injEq] at he9
          obtain ⟨e1, rfl, rfl, rfl, e5, e6⟩ := he9
          obtain rfl := lst_inj e1
          obtain rfl := lst_inj e5
          obtain rfl := lst_inj e6
          obtain rfl : gL = hL := hlg9.symm.trans hlh9
          clear e1 e5 e6 hlg9 hlh9
          replace Bg := Bg.alloc (.cells #[.string gN, .int .i64 gT, .int .i64 gK, .slice hA gL hC, .string gG, .string gX] 25)
          replace Og := Og.alloc (.cells #[.string gN, .int .i64 gT, .int .i64 gK, .slice hA gL hC, .string gG, .string gX] 25)
          replace Oh := Oh.alloc (.cells #[.string gN, .int .i64 gT, .int .i64 gK, .slice hA gL hC, .string gG, .string gX] 25)
          replace bw := bw.alloc bw.size (.cells #[.string gN, .int .i64 gT, .int .i64 gK, .slice hA gL hC, .string gG, .string gX] 25)
          have Bh : Blk (w3.alloc (.cells #[.string gN, .int .i64 gT, .int .i64 gK, .slice hA gL hC, .string gG, .string gX] 25)) w3.heap.size 25 [.string gN, .int .i64 gT, .int .i64 gK, .slice hA gL hC, .string gG, .string gX] := Blk.new w3 25 [.string gN, .int .i64 gT, .int .i64 gK, .slice hA gL hC, .string gG, .string gX]
          obtain ⟨cg0, cg1, cg2, cg3, cg4, cg5⟩ := Bg.cells6
          obtain ⟨ch0, ch1, ch2, ch3, ch4, ch5⟩ := Bh.cells6
          obtain ⟨hsz, _, hsg, hsx⟩ := Z.valid_sizes (show Z.recValid (⟨lst gN, gT, gK, gZ, lst gG, lst gX⟩ : Z.Rec) = true from by rw [← ho9]; exact (Z.parse_some HO.out).1)
          dsimp only at hsz hsg hsx
          rw [lst_length] at hsz hsg hsx
          clear ho9
          go_wp2_with fail
          refine (recSame_true gN gT gK gA gL gC gG gX gZ _ hA hC _ _ (Reads.of_own Og) (Nat.le_refl _) (by omega) (Reads.of_own Oh) (Nat.le_refl _)).mono ?_
          rintro e w4 ⟨rfl, hb4⟩
          clear cg0 cg1 cg2 cg3 cg4 cg5 ch0 ch1 ch2 ch3 ch4 ch5
          have hs19 := hb4.size
          try simp only [World.alloc, Array.size_push] at hs19
          replace Bg := Bg.next hb4
          replace Bh := Bh.next hb4
          replace Og := own_next Og hb4
          replace Oh := own_next Oh hb4
          replace bw := bw.trans (hb4.mono bw.size)
          clear hb4
          obtain ⟨cg0, cg1, cg2, cg3, cg4, cg5⟩ := Bg.cells6
          go_wp2_with fail
          refine (iFormatRecord_eq gN gT gK gA gL gC gG gX gZ _ _ (Reads.of_own Og) (Nat.le_refl _) (by omega) (by omega) (by omega) (by omega) (hk.below bw) (ht.below bw) s HF).mono ?_
          rintro e w5 ⟨rfl, hb5⟩
          clear cg0 cg1 cg2 cg3 cg4 cg5
          have hs20 := hb5.size
          try simp only [World.alloc, Array.size_push] at hs20
          replace Bg := Bg.next hb5
          replace Bh := Bh.next hb5
          replace Og := own_next Og hb5
          replace Oh := own_next Oh hb5
          replace bw := bw.trans (hb5.mono bw.size)
          clear hb5
          go_wp2
          go_ret
          exact ⟨ret_bool (by simp), bw⟩
      | true =>
        go_wp2_with fail
        refine (iFormatRecord_eq aN aT aK aA aL aC aG aX aZ _ _ (Reads.of_own Or) (Nat.le_refl _) (by omega) (by omega) (by omega) (by omega) (hk.below bw) (ht.below bw) D HD).mono ?_
        rintro e v2 ⟨rfl, hb2⟩
        clear cr0 cr1 cr2 cr3 cr4 cr5
        have hs11 := hb2.size
        try simp only [World.alloc, Array.size_push] at hs11
        replace Br := Br.next hb2
        replace Or := own_next Or hb2
        replace bw := bw.trans (hb2.mono bw.size)
        clear hb2
        obtain ⟨cr0, cr1, cr2, cr3, cr4, cr5⟩ := Br.cells6
        have HP := hid (show Z.parse (lst D) = some (⟨lst aN, aT, aK, aZ, lst aG, lst aX⟩ : Z.Rec) by rw [hDl]; exact Z.parse_format hv)
        have HPS : Hid ((some (⟨lst aN, aT, aK, aZ, lst aG, lst aX⟩ : Z.Rec)).isSome = true) := hid rfl
        have HV := hid hv
        clear hv hDl
        go_wp2_with fail
        have tP := iParse_eq D (by omega) _ (hm.below bw) (hk.below bw) _ HP _ HPS
        refine tP.mono ?_
        clear tP
        rintro e v3 ⟨pN, pT, pK, pA, pL, pC, pG, pX, pZ, rfl, Op, hq3, hl3, hb3⟩
        clear cr0 cr1 cr2 cr3 cr4 cr5
        have hs12 := hb3.size
        try simp only [World.alloc, Array.size_push] at hs12
        replace Br := Br.next hb3
        replace Or := own_next Or hb3
        replace bw := bw.trans (hb3.mono bw.size)
        clear hb3
        have Lp := Op.lt
        try simp only [World.alloc, Array.size_push] at Lp
        have he9 : (⟨lst aN, aT, aK, aZ, lst aG, lst aX⟩ : Z.Rec) = ⟨lst pN, pT, pK, pZ, lst pG, lst pX⟩ := hq3
        clear hq3
        have hla9 := reads_len (Reads.of_own Or)
        have hlp9 := reads_len (Reads.of_own Op)
        simp only [Z.Rec.mk.injEq] at he9
        obtain ⟨e1, rfl, rfl, rfl, e5, e6⟩ := he9
        obtain rfl := lst_inj e1
        obtain rfl := lst_inj e5
        obtain rfl := lst_inj e6
        obtain rfl : aL = pL := hla9.symm.trans hlp9
        clear e1 e5 e6 hla9 hlp9
        replace Br := Br.alloc (.cells #[.string aN, .int .i64 aT, .int .i64 aK, .slice pA aL pC, .string aG, .string aX] 25)
        replace Or := Or.alloc (.cells #[.string aN, .int .i64 aT, .int .i64 aK, .slice pA aL pC, .string aG, .string aX] 25)
        replace Op := Op.alloc (.cells #[.string aN, .int .i64 aT, .int .i64 aK, .slice pA aL pC, .string aG, .string aX] 25)
        replace bw := bw.alloc bw.size (.cells #[.string aN, .int .i64 aT, .int .i64 aK, .slice pA aL pC, .string aG, .string aX] 25)
        have Bp : Blk (v3.alloc (.cells #[.string aN, .int .i64 aT, .int .i64 aK, .slice pA aL pC, .string aG, .string aX] 25)) v3.heap.size 25 [.string aN, .int .i64 aT, .int .i64 aK, .slice pA aL pC, .string aG, .string aX] := Blk.new v3 25 [.string aN, .int .i64 aT, .int .i64 aK, .slice pA aL pC, .string aG, .string aX]
        obtain ⟨cr0, cr1, cr2, cr3, cr4, cr5⟩ := Br.cells6
        obtain ⟨cp0, cp1, cp2, cp3, cp4, cp5⟩ := Bp.cells6
        go_wp2_with fail
        refine (iRecordValid_v aN aT aK aA aL aC aG aX aZ _ _ (Reads.of_own Or) (Nat.le_refl _) (by omega) (by omega) (by omega) (by omega) true HV).mono ?_
        rintro e v4 ⟨rfl, hb4⟩
        clear cr0 cr1 cr2 cr3 cr4 cr5 cp0 cp1 cp2 cp3 cp4 cp5
        have hs13 := hb4.size
        try simp only [World.alloc, Array.size_push] at hs13
        replace Br := Br.next hb4
        replace Bp := Bp.next hb4
        replace Or := own_next Or hb4
        replace Op := own_next Op hb4
        replace bw := bw.trans (hb4.mono bw.size)
        clear hb4
        obtain ⟨cr0, cr1, cr2, cr3, cr4, cr5⟩ := Br.cells6
        obtain ⟨cp0, cp1, cp2, cp3, cp4, cp5⟩ := Bp.cells6
        go_wp2_with fail
        refine (FormatRecord_eq aN aT aK aA aL aC aG aX aZ _ _ (Reads.of_own Or) (Nat.le_refl _) (by omega) (by omega) (by omega) (by omega) D HD).mono ?_
        rintro e v5 ⟨rfl, hb5⟩
        clear cr0 cr1 cr2 cr3 cr4 cr5 cp0 cp1 cp2 cp3 cp4 cp5
        have hs14 := hb5.size
        try simp only [World.alloc, Array.size_push] at hs14
        replace Br := Br.next hb5
        replace Bp := Bp.next hb5
        replace Or := own_next Or hb5
        replace Op := own_next Op hb5
        replace bw := bw.trans (hb5.mono bw.size)
        clear hb5
        obtain ⟨cr0, cr1, cr2, cr3, cr4, cr5⟩ := Br.cells6
        obtain ⟨cp0, cp1, cp2, cp3, cp4, cp5⟩ := Bp.cells6
        go_wp2_with fail
        refine (RecordValid_eq aN aT aK aA aL aC aG aX aZ _ _ (Reads.of_own Or) (Nat.le_refl _) (by omega) (by omega) (by omega) (by omega) true HV).mono ?_
        rintro e v6 ⟨rfl, hb6⟩
        clear cr0 cr1 cr2 cr3 cr4 cr5 cp0 cp1 cp2 cp3 cp4 cp5
        have hs15 := hb6.size
        try simp only [World.alloc, Array.size_push] at hs15
        replace Br := Br.next hb6
        replace Bp := Bp.next hb6
        replace Or := own_next Or hb6
        replace Op := own_next Op hb6
        replace bw := bw.trans (hb6.mono bw.size)
        clear hb6
        obtain ⟨cr0, cr1, cr2, cr3, cr4, cr5⟩ := Br.cells6
        obtain ⟨cp0, cp1, cp2, cp3, cp4, cp5⟩ := Bp.cells6
        go_wp2_with fail
        refine (recSame_true aN aT aK pA aL pC aG aX aZ _ aA aC _ _ (Reads.of_own Op) (Nat.le_refl _) (by omega) (Reads.of_own Or) (Nat.le_refl _)).mono ?_
        rintro e v7 ⟨rfl, hb7⟩
        clear cr0 cr1 cr2 cr3 cr4 cr5 cp0 cp1 cp2 cp3 cp4 cp5
        have hs16 := hb7.size
        try simp only [World.alloc, Array.size_push] at hs16
        replace Br := Br.next hb7
        replace Bp := Bp.next hb7
        replace Or := own_next Or hb7
        replace Op := own_next Op hb7
        replace bw := bw.trans (hb7.mono bw.size)
        clear hb7
        obtain ⟨cr0, cr1, cr2, cr3, cr4, cr5⟩ := Br.cells6
        obtain ⟨cp0, cp1, cp2, cp3, cp4, cp5⟩ := Bp.cells6
        clear HD HP HPS HV
        clear cr0 cr1 cr2 cr3 cr4 cr5 cp0 cp1 cp2 cp3 cp4 cp5
        clear Br
        clear Bp
        clear Or
        clear Op
        go_wp2_with fail
        refine (DrawParseRecord_any _ _ zs1 _ (hcode1.below bw)).mono ?_
        rintro e w1 ⟨s, rfl, hs, hb9⟩
        have hs17 := hb9.size
        try simp only [World.alloc, Array.size_push] at hs17
        replace bw := bw.trans (hb9.mono bw.size)
        clear hb9
        obtain ⟨o, ho⟩ : ∃ o, Z.parse (lst s) = o := ⟨_, rfl⟩
        have HO := hid ho
        cases o with
        | none =>
          clear ho
          have HB : Hid ((none : Option Z.Rec).isSome = false) := hid rfl
          go_wp2_with fail
          have tP := iParse_eq s (by omega) _ (hm.below bw) (hk.below bw) _ HO _ HB
          refine tP.mono ?_
          clear tP
          rintro e w2 ⟨gN, gT, gK, gA, gL, gC, gG, gX, gZ, rfl, Og, hq2, hl2, hb2⟩
          have hs18 := hb2.size
          try simp only [World.alloc, Array.size_push] at hs18
          replace bw := bw.trans (hb2.mono bw.size)
          clear hb2
          have Lg := Og.lt
          try simp only [World.alloc, Array.size_push] at Lg
          replace Og := Og.alloc (.cells #[.string gN, .int .i64 gT, .int .i64 gK, .slice gA gL gC, .string gG, .string gX] 25)
          replace bw := bw.alloc bw.size (.cells #[.string gN, .int .i64 gT, .int .i64 gK, .slice gA gL gC, .string gG, .string gX] 25)
          have Bg : Blk (w2.alloc (.cells #[.string gN, .int .i64 gT, .int .i64 gK, .slice gA gL gC, .string gG, .string gX] 25)) w2.heap.size 25 [.string gN, .int .i64 gT, .int .i64 gK, .slice gA gL gC, .string gG, .string gX] := Blk.new w2 25 [.string gN, .int .i64 gT, .int .i64 gK, .slice gA gL gC, .string gG, .string gX]
          go_wp2_with fail
          refine (Parse_eq s (by omega) _ _ HO _ HB).mono ?_
          rintro e w3 ⟨hN, hT, hK, hA, hL, hC, hG, hX, hZ, rfl, Oh, hq3, hl3, hb3⟩
          have hs19 := hb3.size
          try simp only [World.alloc, Array.size_push] at hs19
          replace Bg := Bg.next hb3
          replace Og := own_next Og hb3
          replace bw := bw.trans (hb3.mono bw.size)
          clear hb3
          have Lh := Oh.lt
          try simp only [World.alloc, Array.size_push] at Lh
          have he9 : (⟨lst gN, gT, gK, gZ, lst gG, lst gX⟩ : Z.Rec) = ⟨lst hN, hT, hK, hZ, lst hG, lst hX⟩ := hq2.symm.trans hq3
          clear hq2 hq3
          have hlg9 := reads_len (Reads.of_own Og)
          have hlh9 := reads_len (Reads.of_own Oh)
          simp only [Z.Rec.mk.injEq] at he9
          obtain ⟨e1, rfl, rfl, rfl, e5, e6⟩ := he9
          obtain rfl := lst_inj e1
          obtain rfl := lst_inj e5
          obtain rfl := lst_inj e6
          obtain rfl : gL = hL := hlg9.symm.trans hlh9
          clear e1 e5 e6 hlg9 hlh9
          replace Bg := Bg.alloc (.cells #[.string gN, .int .i64 gT, .int .i64 gK, .slice hA gL hC, .string gG, .string gX] 25)
          replace Og := Og.alloc (.cells #[.string gN, .int .i64 gT, .int .i64 gK, .slice hA gL hC, .string gG, .string gX] 25)
          replace Oh := Oh.alloc (.cells #[.string gN, .int .i64 gT, .int .i64 gK, .slice hA gL hC, .string gG, .string gX] 25)
          replace bw := bw.alloc bw.size (.cells #[.string gN, .int .i64 gT, .int .i64 gK, .slice hA gL hC, .string gG, .string gX] 25)
          have Bh : Blk (w3.alloc (.cells #[.string gN, .int .i64 gT, .int .i64 gK, .slice hA gL hC, .string gG, .string gX] 25)) w3.heap.size 25 [.string gN, .int .i64 gT, .int .i64 gK, .slice hA gL hC, .string gG, .string gX] := Blk.new w3 25 [.string gN, .int .i64 gT, .int .i64 gK, .slice hA gL hC, .string gG, .string gX]
          obtain ⟨cg0, cg1, cg2, cg3, cg4, cg5⟩ := Bg.cells6
          obtain ⟨ch0, ch1, ch2, ch3, ch4, ch5⟩ := Bh.cells6
          go_wp2_with fail
          refine (recSame_true gN gT gK gA gL gC gG gX gZ _ hA hC _ _ (Reads.of_own Og) (Nat.le_refl _) (by omega) (Reads.of_own Oh) (Nat.le_refl _)).mono ?_
          rintro e w4 ⟨rfl, hb4⟩
          clear cg0 cg1 cg2 cg3 cg4 cg5 ch0 ch1 ch2 ch3 ch4 ch5
          have hs20 := hb4.size
          try simp only [World.alloc, Array.size_push] at hs20
          replace Bg := Bg.next hb4
          replace Bh := Bh.next hb4
          replace Og := own_next Og hb4
          replace Oh := own_next Oh hb4
          replace bw := bw.trans (hb4.mono bw.size)
          clear hb4
          obtain ⟨cg0, cg1, cg2, cg3, cg4, cg5⟩ := Bg.cells6
          go_wp2
          go_ret
          exact ⟨rfl, bw⟩
        | some o9 =>
          have hfm := Z.parse_some ho
          have HF := hid (show bs (Z.format o9) = s by rw [hfm.2, bs_lst])
          clear hfm ho
          have HB : Hid ((some o9 : Option Z.Rec).isSome = true) := hid rfl
          go_wp2_with fail
          have tP := iParse_eq s (by omega) _ (hm.below bw) (hk.below bw) _ HO _ HB
          refine tP.mono ?_
          clear tP
          rintro e w2 ⟨gN, gT, gK, gA, gL, gC, gG, gX, gZ, rfl, Og, hq2, hl2, hb2⟩
          have hs18 := hb2.size
          try simp only [World.alloc, Array.size_push] at hs18
          replace bw := bw.trans (hb2.mono bw.size)
          clear hb2
          have Lg := Og.lt
          try simp only [World.alloc, Array.size_push] at Lg
          replace Og := Og.alloc (.cells #[.string gN, .int .i64 gT, .int .i64 gK, .slice gA gL gC, .string gG, .string gX] 25)
          replace bw := bw.alloc bw.size (.cells #[.string gN, .int .i64 gT, .int .i64 gK, .slice gA gL gC, .string gG, .string gX] 25)
          have Bg : Blk (w2.alloc (.cells #[.string gN, .int .i64 gT, .int .i64 gK, .slice gA gL gC, .string gG, .string gX] 25)) w2.heap.size 25 [.string gN, .int .i64 gT, .int .i64 gK, .slice gA gL gC, .string gG, .string gX] := Blk.new w2 25 [.string gN, .int .i64 gT, .int .i64 gK, .slice gA gL gC, .string gG, .string gX]
          have ho9 : o9 = (⟨lst gN, gT, gK, gZ, lst gG, lst gX⟩ : Z.Rec) := hq2
          rw [ho9] at HF
          go_wp2_with fail
          refine (Parse_eq s (by omega) _ _ HO _ HB).mono ?_
          rintro e w3 ⟨hN, hT, hK, hA, hL, hC, hG, hX, hZ, rfl, Oh, hq3, hl3, hb3⟩
          have hs19 := hb3.size
          try simp only [World.alloc, Array.size_push] at hs19
          replace Bg := Bg.next hb3
          replace Og := own_next Og hb3
          replace bw := bw.trans (hb3.mono bw.size)
          clear hb3
          have Lh := Oh.lt
          try simp only [World.alloc, Array.size_push] at Lh
          have he9 : (⟨lst gN, gT, gK, gZ, lst gG, lst gX⟩ : Z.Rec) = ⟨lst hN, hT, hK, hZ, lst hG, lst hX⟩ := hq2.symm.trans hq3
          clear hq2 hq3
          have hlg9 := reads_len (Reads.of_own Og)
          have hlh9 := reads_len (Reads.of_own Oh)
          simp only [Z.Rec.mk.injEq] at he9
          obtain ⟨e1, rfl, rfl, rfl, e5, e6⟩ := he9
          obtain rfl := lst_inj e1
          obtain rfl := lst_inj e5
          obtain rfl := lst_inj e6
          obtain rfl : gL = hL := hlg9.symm.trans hlh9
          clear e1 e5 e6 hlg9 hlh9
          replace Bg := Bg.alloc (.cells #[.string gN, .int .i64 gT, .int .i64 gK, .slice hA gL hC, .string gG, .string gX] 25)
          replace Og := Og.alloc (.cells #[.string gN, .int .i64 gT, .int .i64 gK, .slice hA gL hC, .string gG, .string gX] 25)
          replace Oh := Oh.alloc (.cells #[.string gN, .int .i64 gT, .int .i64 gK, .slice hA gL hC, .string gG, .string gX] 25)
          replace bw := bw.alloc bw.size (.cells #[.string gN, .int .i64 gT, .int .i64 gK, .slice hA gL hC, .string gG, .string gX] 25)
          have Bh : Blk (w3.alloc (.cells #[.string gN, .int .i64 gT, .int .i64 gK, .slice hA gL hC, .string gG, .string gX] 25)) w3.heap.size 25 [.string gN, .int .i64 gT, .int .i64 gK, .slice hA gL hC, .string gG, .string gX] := Blk.new w3 25 [.string gN, .int .i64 gT, .int .i64 gK, .slice hA gL hC, .string gG, .string gX]
          obtain ⟨cg0, cg1, cg2, cg3, cg4, cg5⟩ := Bg.cells6
          obtain ⟨ch0, ch1, ch2, ch3, ch4, ch5⟩ := Bh.cells6
          obtain ⟨hsz, _, hsg, hsx⟩ := Z.valid_sizes (show Z.recValid (⟨lst gN, gT, gK, gZ, lst gG, lst gX⟩ : Z.Rec) = true from by rw [← ho9]; exact (Z.parse_some HO.out).1)
          dsimp only at hsz hsg hsx
          rw [lst_length] at hsz hsg hsx
          clear ho9
          go_wp2_with fail
          refine (recSame_true gN gT gK gA gL gC gG gX gZ _ hA hC _ _ (Reads.of_own Og) (Nat.le_refl _) (by omega) (Reads.of_own Oh) (Nat.le_refl _)).mono ?_
          rintro e w4 ⟨rfl, hb4⟩
          clear cg0 cg1 cg2 cg3 cg4 cg5 ch0 ch1 ch2 ch3 ch4 ch5
          have hs20 := hb4.size
          try simp only [World.alloc, Array.size_push] at hs20
          replace Bg := Bg.next hb4
          replace Bh := Bh.next hb4
          replace Og := own_next Og hb4
          replace Oh := own_next Oh hb4
          replace bw := bw.trans (hb4.mono bw.size)
          clear hb4
          obtain ⟨cg0, cg1, cg2, cg3, cg4, cg5⟩ := Bg.cells6
          go_wp2_with fail
          refine (iFormatRecord_eq gN gT gK gA gL gC gG gX gZ _ _ (Reads.of_own Og) (Nat.le_refl _) (by omega) (by omega) (by omega) (by omega) (hk.below bw) (ht.below bw) s HF).mono ?_
          rintro e w5 ⟨rfl, hb5⟩
          clear cg0 cg1 cg2 cg3 cg4 cg5
          have hs21 := hb5.size
          try simp only [World.alloc, Array.size_push] at hs21
          replace Bg := Bg.next hb5
          replace Bh := Bh.next hb5
          replace Og := own_next Og hb5
          replace Oh := own_next Oh hb5
          replace bw := bw.trans (hb5.mono bw.size)
          clear hb5
          go_wp2
          go_ret
          exact ⟨ret_bool (by simp), bw⟩
    · go_enter Tryz.func3, Tryz.ntmps3
      go_wp2_with fail
      go_ret
      exact ⟨rfl, Below.refl _ _⟩
  · go_enter Tryz.func3, Tryz.ntmps3
    go_wp2_with fail
    go_ret
    exact ⟨rfl, Below.refl _ _⟩

set_option maxRecDepth 100000 in
theorem lifted (os : Os) (started : os.Started) (H : Type) (enc : TypeId × Value → H) :
    ReturnsInHanded {} Tryz.checked os 3 .any (fun w args => (Rows.fnRecordTextSpec.pre enc Tryz.prog Tryz.f3 Rows.fnRecordTextRow.domain false w args ∧ laidMetH Tryz.prog [("math/bits.deBruijn32tab", Rows.laid_math_bits_deBruijn32tab), ("math/bits.deBruijn64tab", Rows.laid_math_bits_deBruijn64tab), ("internal/strconv.uint64pow10", Rows.laid_internal_strconv_uint64pow10), ("unicode/utf8.acceptRanges", Rows.laid_unicode_utf8_acceptRanges), ("loop.example/zonefiles/impl.kindRows", Rows.laid_loop_example_zonefiles_impl_kindRows), ("unicode/utf8.first", Rows.laid_unicode_utf8_first)] w) ∧ sizedMet enc Tryz.prog Tryz.f3 (OpenSpec.ofChange Rows.fnRecordTextSpec) false w args)
      (Rows.fnRecordTextSpec.post enc Tryz.prog Tryz.f3 false true false false) := by
  refine returnsInHanded_and_shaped (C := Tryz.checked) (X := fun w _ => laidMetH Tryz.prog [("math/bits.deBruijn32tab", Rows.laid_math_bits_deBruijn32tab), ("math/bits.deBruijn64tab", Rows.laid_math_bits_deBruijn64tab), ("internal/strconv.uint64pow10", Rows.laid_internal_strconv_uint64pow10), ("unicode/utf8.acceptRanges", Rows.laid_unicode_utf8_acceptRanges), ("loop.example/zonefiles/impl.kindRows", Rows.laid_loop_example_zonefiles_impl_kindRows), ("unicode/utf8.first", Rows.laid_unicode_utf8_first)] w) (fun _ _ _ hh h => h.of_heap hh) own started (by kernel_rfl) Tryz.func3
    (ChangeSpec.witness_shaped (enc := enc) (C := Tryz.checked) (os := os) (X := fun w _ => laidMetH Tryz.prog [("math/bits.deBruijn32tab", Rows.laid_math_bits_deBruijn32tab), ("math/bits.deBruijn64tab", Rows.laid_math_bits_deBruijn64tab), ("internal/strconv.uint64pow10", Rows.laid_internal_strconv_uint64pow10), ("unicode/utf8.acceptRanges", Rows.laid_unicode_utf8_acceptRanges), ("loop.example/zonefiles/impl.kindRows", Rows.laid_loop_example_zonefiles_impl_kindRows), ("unicode/utf8.first", Rows.laid_unicode_utf8_first)] w) false (World.laidAll Tryz.prog os [("math/bits.deBruijn32tab", Rows.laid_math_bits_deBruijn32tab), ("math/bits.deBruijn64tab", Rows.laid_math_bits_deBruijn64tab), ("internal/strconv.uint64pow10", Rows.laid_internal_strconv_uint64pow10), ("unicode/utf8.acceptRanges", Rows.laid_unicode_utf8_acceptRanges), ("loop.example/zonefiles/impl.kindRows", Rows.laid_loop_example_zonefiles_impl_kindRows), ("unicode/utf8.first", Rows.laid_unicode_utf8_first)]) #[.slice none 0 0, .slice none 0 0] 8 (World.laidAll_os _ _ _)
      (World.shaped_of_ZipB (by kernel_rfl) (by kernel_rfl)) (by kernel_rfl) (by kernel_rfl) (by kernel_rfl)
      (by rw [MakeChecks.laidMetH_plain _ _ _ (by kernel_rfl)]; exact laidMet_laidAll _ (by kernel_rfl) (by kernel_rfl))) ?_
  intro W base args ds gs before hval0 hW hsh hL
  have hval : ∀ (j : Nat) t v, Tryz.f3.params[j]? = some t → args[j]? = some v → Value.okWide Tryz.prog W .any base t v := hval0
  have hW' := hW
  obtain ⟨p, q, hA0, hV, rfl, hfz, hnd⟩ := hW
  have hA : DataW.TrodAll enc Tryz.prog W 0 (fun _ => true) true Tryz.f3.params.toList args.toList ds p := hA0
  have hV1 : DataW.TrodVars enc Tryz.prog W (fun _ => true) ["loop.example/zonefiles/impl.kindRows"] gs q := hV
  clear hV
  have hV2 := hV1
  obtain ⟨g9, t9, cs9, f9, d9, p9, rfl, _, _, _, _, rfl⟩ := trodVars_one hV2
  rw [Tryz.params3] at hA hval
  obtain ⟨v0, vs0, d0, ds0, p0, q0, hargs, rfl, rfl, h0, r0⟩ := trodAll_cons hA
  obtain ⟨v1, vs1, d1, ds1, p1, q1, rfl, rfl, rfl, h1, r1⟩ := trodAll_cons r0
  obtain ⟨rfl, rfl, rfl⟩ := trodAll_nil r1
  obtain rfl : args = #[v0, v1] := by cases args; simp_all
  have k0 := h0
  have lt0 : ∀ x ∈ p0, x.block < W.heap.size := by obtain ⟨m, hm⟩ := k0; exact DataW.trod_lt m _ _ _ hm
  obtain ⟨a0, len0, cap0, rfl⟩ := okWide_slice Tryz.underlying22 (hval 0 22 v0 rfl rfl)
  have h0b := h0
  obtain ⟨z0, w0⟩ : ∃ zs, IsRow .u8 W a0 len0 cap0 zs := by
    obtain ⟨fuel, hf⟩ := h0b
    rcases open_ints Tryz.underlying22 Tryz.underlying5 (by kernel_rfl) hf with ⟨hcs, _⟩ | ⟨x, l, c, zs, hcs, _, hl, hm, hz, _, hcell, hwz⟩
    · simp [Value.cells] at hcs
      obtain ⟨rfl, rfl, rfl⟩ := hcs
      exact ⟨[], .inl ⟨rfl, rfl, rfl, rfl⟩⟩
    · simp [Value.cells] at hcs
      obtain ⟨rfl, rfl, rfl⟩ := hcs
      exact ⟨zs, .inr ⟨_, rfl, hl, hm, by simpa using hz, hcell, hwz⟩⟩
  have k1 := h1
  have lt1 : ∀ x ∈ p1, x.block < W.heap.size := by obtain ⟨m, hm⟩ := k1; exact DataW.trod_lt m _ _ _ hm
  obtain ⟨a1, len1, cap1, rfl⟩ := okWide_slice Tryz.underlying22 (hval 1 22 v1 rfl rfl)
  have h1b := h1
  obtain ⟨z1, w1⟩ : ∃ zs, IsRow .u8 W a1 len1 cap1 zs := by
    obtain ⟨fuel, hf⟩ := h1b
    rcases open_ints Tryz.underlying22 Tryz.underlying5 (by kernel_rfl) hf with ⟨hcs, _⟩ | ⟨x, l, c, zs, hcs, _, hl, hm, hz, _, hcell, hwz⟩
    · simp [Value.cells] at hcs
      obtain ⟨rfl, rfl, rfl⟩ := hcs
      exact ⟨[], .inl ⟨rfl, rfl, rfl, rfl⟩⟩
    · simp [Value.cells] at hcs
      obtain ⟨rfl, rfl, rfl⟩ := hcs
      exact ⟨zs, .inr ⟨_, rfl, hl, hm, by simpa using hz, hcell, hwz⟩⟩
  have hlv := laid_vars (by kernel_rfl) hL
  have hk := kt_of_vars (laid_next (laid_next (laid_next (laid_next hlv))))
  have ht := pt_of_vars (laid_next (laid_next hlv))
  have hm := mx_of_shaped hsh
  clear hA0 hval0
  refine (walk a0 len0 cap0 z0 a1 len1 cap1 z1 W w0 w1  hk ht hm).mono fun e W' ⟨he, bel⟩ => ?_
  subst he
  exact ⟨_, rfl, _, _, _, [], _, _, hW', trodAll_mk1 (shut_bool Tryz.underlying4 _), (trodAll_cons_mk (Below.trod laidOut (by kernel_rfl) (of_decide_eq_true (by kernel_rfl)) k0 bel lt0) (trodAll_cons_mk (Below.trod laidOut (by kernel_rfl) (of_decide_eq_true (by kernel_rfl)) k1 bel lt1) trodAll_mk0)), bel.trodVars laidOut (by kernel_rfl) hV1, bel.frame _, fun h => by cases h⟩

theorem over : Rows.fnRecordTextRow.holds Tryz.pinned (OpenSpec.ofChange Rows.fnRecordTextSpec) :=
  OpenClaim.holds_of_wide 3 Tryz.f3 rfl rfl rfl rfl rfl rfl rfl ⟨rfl, rfl, rfl, rfl, rfl⟩ rfl rfl rfl rfl rfl (by kernel_rfl) Tryz.func3 (by kernel_rfl)
    (of_decide_eq_true (by kernel_rfl)) (by unfold Func.isWrapper; first | (rw [if_pos (by decide +kernel)]; kernel_rfl) | (rw [if_neg (by decide +kernel)]; exact ⟨rfl, rfl⟩))
    (fun os started H enc _ => lifted os started H enc)

theorem proved : Rows.FnRecordTextCardSaid :=
  Claim7.holds_tied_plain_at .later [] [.data, .data, .data, .data, .data, .pinned] true (true, "0d21dc787af3e05ac654a6e5a4dee672a1b5db9686d7007c513d93a9f07c4000") true over (fun _ h => by cases h) (by kernel_rfl) (fun _ h => by cases h) fnRecordText_row_tie rfl ⟨rfl, rfl⟩ (by kernel_rfl) rfl
    (fun f fn hf hfn => by
      obtain rfl : f = 3 := Option.some.inj ((show Tryz.prog.funcNamed "loop.example/zonefiles/laws.FnRecordText" = some 3 by kernel_rfl).symm.trans hf) |>.symm
      obtain rfl : fn = Tryz.f3 := (Option.some.inj (Tryz.func3.symm.trans hfn)).symm
      exact ⟨by kernel_rfl, fun j t ht => by
        rw [Tryz.params3] at ht
        have hm : t ∈ [22, 22] := by simpa using Array.mem_of_getElem? ht
        have hall : ([22, 22].all fun u => !Tryz.prog.wantsStandIn u) = true := by kernel_rfl
        exact (show Tryz.prog.wantsStandIn t = false by simpa using List.all_eq_true.1 hall t hm)⟩)
    (by kernel_rfl)
end Go.Proofs.YtlknpipbjdecpaaGreatDoor.fnRecordText

/- What ParseRecord of the program returns. What ParseRecord of the program returns, for every text. -/
import Derived.Test.YtlknpipbjdecpaaGreatDoorPc
import Derived.Test.YtlknpipbjdecpaaGreatDoorIa
import Derived.Test.YtlknpipbjdecpaaGreatDoorIg
import Derived.Test.YtlknpipbjdecpaaGreatDoorSm
namespace Go.Proofs.YtlknpipbjdecpaaGreatDoor
open Go.RowKit
set_option maxRecDepth 100000
set_option linter.unusedVariables false

theorem SplitN_any (s : ByteArray) (hs : s.size ≤ 67108864) (w : World) (hm : MX w) (ls : List Z.Str) (hls : Hid (Lib.splitK [32] 0 3 (lst s) = ls)) :
    Calls Tryz.prog 37 #[.string s, .string ⟨#[32]⟩, .int .i64 4] w fun e w' => ∃ A q, e = .returned (.slice A ls.length q) ∧ Reads w' w'.heap.size A ls.length (ls.map sv) ∧ Below w.heap.size w w' := by
  obtain ⟨_, m, hm⟩ := hm
  have hl : (Lib.splitB ⟨#[32]⟩ 0 (min 4 (s.size + 1) - 1) s).map Value.string = ls.map sv := by
    rw [sv_lists, Lib.splitB_data]
    have h1 := Z.splitN_four (lst s)
    unfold Lib.splitN at h1
    rw [lst_length] at h1
    show (Lib.splitK [32] 0 (min 4 (s.size + 1) - 1) (lst s)).map sv = _
    rw [h1, hls.out]
  have hlen : (Lib.splitB ⟨#[32]⟩ 0 (min 4 (s.size + 1) - 1) s).length = ls.length := by
    have h1 := congrArg List.length hl
    rwa [List.length_map, List.length_map] at h1
  refine (Tryz.strings_SplitN s ⟨#[32]⟩ 4 m w (by omega) hm (by decide) (by omega) (by omega)).mono ?_
  rintro e w' ⟨rfl, rfl⟩
  rw [hlen]
  refine ⟨_, _, rfl, (reads_new w ((Lib.splitB ⟨#[32]⟩ 0 (min 4 (s.size + 1) - 1) s).map Value.string ++ List.replicate (min 4 (s.size + 1) - (Lib.splitB ⟨#[32]⟩ 0 (min 4 (s.size + 1) - 1) s).length) (Value.string ByteArray.empty)) _ 0 _ _ (by simp) ?_).more (by simp), (Below.refl _ _).alloc (Nat.le_refl _) _⟩
  intro j u hu
  rw [Nat.zero_add, hl, List.getElem?_append_left]
  · exact hu
  · exact (List.getElem?_eq_some_iff.1 hu).1

theorem iKindOf_some (s : ByteArray) {k : Int} (hk : Hid (Z.kindOf (lst s) = some k)) (w : World) (ht : KT w) :
    Calls Tryz.prog 39 #[.string s] w fun e w' => e = .returned (.tuple #[.int .i64 k, .bool true]) ∧ Below w.heap.size w w' := by
  have h := iKindOf_any s w ht
  rw [hk.out] at h
  exact h
theorem iKindOf_none (s : ByteArray) (hk : Hid (Z.kindOf (lst s) = none)) (w : World) (ht : KT w) :
    Calls Tryz.prog 39 #[.string s] w fun e w' => e = .returned (.tuple #[.int .i64 0, .bool false]) ∧ Below w.heap.size w w' := by
  have h := iKindOf_any s w ht
  rw [hk.out] at h
  exact h
theorem iRecordValid_v (aN : ByteArray) (aT aK : Int) (aA : Option Addr) (aL aC : Nat) (aG aX : ByteArray) (aZ : List Int) (aB : Nat) (w : World) (hra : Reads w aB aA aL (aZ.map iv)) (hba : aB ≤ w.heap.size) (hla : aL ≤ 67108864) (hsa : aN.size ≤ 67108864) (hga : aG.size ≤ 67108864) (hxa : aX.size ≤ 67108864) (v : Bool) (hv : Hid (Z.recValid (⟨lst aN, aT, aK, aZ, lst aG, lst aX⟩ : Z.Rec) = v)) :
    Calls Tryz.prog 11 #[.agg #[.string aN, .int .i64 aT, .int .i64 aK, .slice aA aL aC, .string aG, .string aX]] w fun e w' => e = .returned (.bool v) ∧ Below w.heap.size w w' := by
  have h := iRecordValid_any aN aT aK aA aL aC aG aX aZ aB w hra hba hla hsa hga hxa
  rw [hv.out] at h
  exact h
theorem ret_iparse {a : Act} {W : World} {post : Ending → World → Prop} (b : Nat) {c0 c1 c2 c3 c4 c5 ok : Value} (hp : a.tmps[2]?.getD undef = .pointer (some ⟨b, 0, none⟩)) (hk : a.tmps[3]?.getD undef = ok) (hd : a.defers = [])
    (h0 : W.cell? ⟨b, 0, none⟩ = some c0) (h1 : W.cell? ⟨b, 1, none⟩ = some c1) (h2 : W.cell? ⟨b, 2, none⟩ = some c2) (h3 : W.cell? ⟨b, 3, none⟩ = some c3) (h4 : W.cell? ⟨b, 4, none⟩ = some c4) (h5 : W.cell? ⟨b, 5, none⟩ = some c5)
    (h : post (.returned (.tuple #[.agg #[c0, c1, c2, c3, c4, c5], ok])) W) : bodyPost Tryz.prog Tryz.f10 post Exit.ret a W :=
  bodyPost_ret (by simp [results, Tryz.results10, go_sem, hp, hk, h0, h1, h2, h3, h4, h5]) hd h

theorem six_apart {w : World} {g g' : Nat} {t : TypeId} {cs : List Value} (h : Blk w g' t cs) (hne : g' ≠ g) (d0 d1 d2 d3 d4 d5 : Value) :
    Blk ((((((w.setCell ⟨g, 0, none⟩ d0).setCell ⟨g, 1, none⟩ d1).setCell ⟨g, 2, none⟩ d2).setCell ⟨g, 3, none⟩ d3).setCell ⟨g, 4, none⟩ d4).setCell ⟨g, 5, none⟩ d5) g' t cs :=
  (((((h.far (p := ⟨g, 0, none⟩) hne d0).far (p := ⟨g, 1, none⟩) hne d1).far (p := ⟨g, 2, none⟩) hne d2).far (p := ⟨g, 3, none⟩) hne d3).far (p := ⟨g, 4, none⟩) hne d4).far (p := ⟨g, 5, none⟩) hne d5
theorem readFields_eq (m : Nat) (N : ByteArray) (T K : Int) (fs : List Z.Str) (B : Nat) (A : Option Addr) (c : Nat) (w : World) (hmx : MX w) (hr : Reads w B A fs.length (fs.map sv)) (hB : B ≤ w.heap.size) (hcap : fs.length ≤ c) (hlen : fs.length ≤ 67108864) (hm : m ≤ 67108863) (hsz : Hid (∀ l ∈ fs, l.length ≤ m)) (o : Option (List Int × Z.Str × Z.Str)) (ho : Hid (Z.readFlds K fs = o)) (ok : Bool) (hok : Hid (o.isSome = ok)) :
    Calls Tryz.prog 40 #[.agg #[.string N, .int .i64 T, .int .i64 K, .slice none 0 0, .string ⟨#[]⟩, .string ⟨#[]⟩], .slice A fs.length c] w fun e w' => ∃ (A : Option Addr) (L c : Nat) (x y : ByteArray) (ns : List Int), e = .returned (.tuple #[.agg #[.string N, .int .i64 T, .int .i64 K, .slice A L c, .string x, .string y], .bool ok]) ∧ w'.ownsRow w.heap.size 3 1 (.slice A L c) L (ns.map iv) ∧ Hid (∀ p, o = some p → p = (ns, lst x, lst y)) ∧ L ≤ 67108864 ∧ x.size ≤ m ∧ y.size ≤ m ∧ Below w.heap.size w w' := by
  have h := readFields_any m N T K fs B A c w hmx hr hB hcap hlen hm hsz
  unfold FldsOut at h
  rw [ho.out, hok.out] at h
  exact h
theorem dataFields_eq (k : Int) (s : ByteArray) (hs : s.size ≤ 67108864) (w : World) (hm : MX w) (fs : List Z.Str) (hfs : Hid (Z.dataFlds k (lst s) = fs)) :
    Calls Tryz.prog 41 #[.int .i64 k, .string s] w fun e w' => ∃ A q, e = .returned (.slice A fs.length q) ∧ Reads w' w'.heap.size A fs.length (fs.map sv) ∧ fs.length ≤ q ∧ Below w.heap.size w w' := by
  have h := dataFields_any k s hs w hm
  rw [hfs.out] at h
  exact h
set_option maxHeartbeats 1000000 in
theorem iparse_short (s : ByteArray) (hs : s.size ≤ 2000000) (w : World) (hm : MX w) (ls : List Z.Str) (hls : Lib.splitK [32] 0 3 (lst s) = ls) (hlen : ls.length < 4) :
    Calls Tryz.prog 10 #[.string s] w (ParseOut (Z.parse (lst s)) w) := by
  have HO := hid (show Z.parse (lst s) = none from Z.iparse_short (by rw [hls]; exact hlen))
  have HL := hid hls
  clear hls
  go_enter Tryz.func10, Tryz.ntmps10
  go_wp2_with fail
  refine (SplitN_any s (by omega) _ (hm.below (by go_grown)) ls HL).mono ?_
  rintro e w2 ⟨A2, q2, rfl, hr2, hb2⟩
  have hz2 : Blk w2 w.heap.size 25 [.string ⟨#[]⟩, .int .i64 0, .int .i64 0, .slice none 0 0, .string ⟨#[]⟩, .string ⟨#[]⟩] := (Blk.new w 25 [.string ⟨#[]⟩, .int .i64 0, .int .i64 0, .slice none 0 0, .string ⟨#[]⟩, .string ⟨#[]⟩]).next hb2
  have hbw2 : Below w.heap.size w w2 := Below.trans (by go_grown) (hb2.mono (by simp))
  have hlt2 := hz2.lt
  clear hb2
  obtain ⟨r0, r1, r2, r3, r4, r5⟩ := hz2.cells6
  obtain ⟨f0, f1, f2, f3, f4, f5⟩ := hz2.free6
  have HBW := hid hbw2
  clear hbw2 hr2
  go_wp2
  rw [HO.out]
  refine ret_iparse w.heap.size rfl rfl rfl (c0 := .string ⟨#[]⟩) (c1 := .int .i64 0) (c2 := .int .i64 0) (c3 := .slice none 0 0) (c4 := .string ⟨#[]⟩) (c5 := .string ⟨#[]⟩) (by go_simp) (by go_simp) (by go_simp) (by go_simp) (by go_simp) (by go_simp) ⟨⟨#[]⟩, 0, 0, none, 0, 0, ⟨#[]⟩, ⟨#[]⟩, [], rfl, World.ownsRow_nil _ _ _ _, rfl, Nat.zero_le _, six_below HBW.out (Nat.le_refl _) _ _ _ _ _ _⟩

theorem reads_four {w : World} {B : Nat} {A : Option Addr} {a b c d : Z.Str} (h : Reads w B A 4 ([a, b, c, d].map sv)) :
    ∃ (ad : Addr) (xa xb xc xd : ByteArray), A = some ad ∧ ad.block < B ∧ lst xa = a ∧ lst xb = b ∧ lst xc = c ∧ lst xd = d ∧
      (∀ W, Below B w W → W.cell? ad = some (.string xa) ∧ W.cell? ⟨ad.block, ad.off + 1, none⟩ = some (.string xb) ∧ W.cell? ⟨ad.block, ad.off + 2, none⟩ = some (.string xc) ∧ W.cell? ⟨ad.block, ad.off + 3, none⟩ = some (.string xd)) := by
  obtain ⟨ad, e, hb, hc⟩ := h.2 (by omega)
  refine ⟨ad, bs a, bs b, bs c, bs d, e, hb, rfl, rfl, rfl, rfl, fun W hW => ?_⟩
  have key : ∀ j u, ([a, b, c, d].map sv)[j]? = some u → W.cell? (ad.add j) = some u := fun j u hu => (hW.cell (p := ad.add j) (by rw [block_of_add]; exact hb)).trans (hc j u hu)
  exact ⟨key 0 _ rfl, key 1 _ rfl, key 2 _ rfl, key 3 _ rfl⟩
theorem split_sizes {s : ByteArray} {ls : List Z.Str} (hls : Lib.splitK [32] 0 3 (lst s) = ls) : ∀ l ∈ ls, l.length ≤ s.size := by
  have key : ∀ (k : Nat) (t : Z.Str), ∀ l ∈ Lib.splitK [32] 0 k t, l.length ≤ t.length := by
    intro k
    induction k with
    | zero => intro t l hl; simp [Lib.splitK] at hl; subst hl; exact Nat.le_refl _
    | succ k ih =>
      intro t l hl
      by_cases h : (32 : UInt8) ∈ t
      · rw [Z.splitK_hit 32 k h] at hl
        have e := congrArg List.length (Z.cut_at h)
        rw [List.length_append, List.length_cons] at e
        rcases List.mem_cons.1 hl with rfl | hl
        · omega
        · have := ih _ l hl; omega
      · rw [Z.splitK_miss 32 _ h] at hl
        simp at hl; subst hl; exact Nat.le_refl _
  intro l hl
  have := key 3 (lst s) l (by rw [hls]; exact hl)
  rwa [lst_length] at this

set_option maxHeartbeats 4000000 in
theorem iparse_num (s : ByteArray) (hs : s.size ≤ 2000000) (w : World) (hm : MX w) (hk : KT w) (a b c d : Z.Str) (hls : Lib.splitK [32] 0 3 (lst s) = [a, b, c, d]) (hn : Z.readNum b 100000 = none) :
    Calls Tryz.prog 10 #[.string s] w (ParseOut (none) w) := by
  obtain ⟨ls, hle⟩ : ∃ ls, ls = [a, b, c, d] := ⟨_, rfl⟩
  rw [← hle] at hls
  have hszs := split_sizes hls
  have HL := hid hls
  go_enter Tryz.func10, Tryz.ntmps10
  go_wp2_with fail
  refine (SplitN_any s (by omega) _ (hm.below (by go_grown)) ls HL).mono ?_
  rintro e w2 ⟨A2, q2, rfl, hr2, hb2⟩
  have hz2 : Blk w2 w.heap.size 25 [.string ⟨#[]⟩, .int .i64 0, .int .i64 0, .slice none 0 0, .string ⟨#[]⟩, .string ⟨#[]⟩] := (Blk.new w 25 [.string ⟨#[]⟩, .int .i64 0, .int .i64 0, .slice none 0 0, .string ⟨#[]⟩, .string ⟨#[]⟩]).next hb2
  have hbw2 : Below w.heap.size w w2 := Below.trans (by go_grown) (hb2.mono (by simp))
  have hlt2 := hz2.lt
  clear hb2
  rw [hle] at hr2 hszs
  have hl4 : ls.length = 4 := by rw [hle]; rfl
  rw [hl4]
  replace hr2 : Reads w2 w2.heap.size A2 4 ([a, b, c, d].map sv) := hr2
  obtain ⟨ad, xa, xb, xc, xd, rfl, hab, rfl, rfl, rfl, rfl, hcs⟩ := reads_four hr2
  have sa : xa.size ≤ 2000000 := by have := hszs (lst xa) (by simp); rw [lst_length] at this; omega
  have sb : xb.size ≤ 2000000 := by have := hszs (lst xb) (by simp); rw [lst_length] at this; omega
  have sc : xc.size ≤ 2000000 := by have := hszs (lst xc) (by simp); rw [lst_length] at this; omega
  have sd : xd.size ≤ 2000000 := by have := hszs (lst xd) (by simp); rw [lst_length] at this; omega
  have HLE := hid hle
  have HL4 := hid hl4
  clear hle hl4 hls hszs hr2
  have HCS := hid hcs
  obtain ⟨c0, c1, c2, c3⟩ := hcs w2 (Below.refl _ _)
  clear hcs
  have HN := hid hn
  clear hn
  go_wp2_with fail
  refine (readNumber_none xb (by omega) _ (by omega) (by omega) HN _).mono ?_
  rintro e w3 ⟨rfl, rfl⟩
  go_wp2_with fail
  refine (iKindOf_any xc _ (hk.below hbw2)).mono ?_
  rintro e w4 ⟨rfl, hb4⟩
  obtain ⟨kk, hkk⟩ : ∃ kk, (Z.kindOf (lst xc)).getD 0 = kk := ⟨_, rfl⟩
  obtain ⟨kb, hkb⟩ : ∃ kb, (Z.kindOf (lst xc)).isSome = kb := ⟨_, rfl⟩
  rw [hkk, hkb]
  have HKK := hid hkk
  have HKB := hid hkb
  clear hkk hkb
  have hz4 := hz2.next hb4
  have hbw4 := hbw2.trans (hb4.mono hbw2.size)
  have hs4 := hb4.size
  clear c0 c1 c2 c3
  obtain ⟨c0, c1, c2, c3⟩ := HCS.out w4 hb4
  obtain ⟨r0, r1, r2, r3, r4, r5⟩ := hz4.cells6
  obtain ⟨f0, f1, f2, f3, f4, f5⟩ := hz4.free6
  have HBW := hid hbw4
  clear hbw2 hbw4 hb4
  go_wp2
  refine ret_iparse w.heap.size rfl rfl rfl (c0 := .string ⟨#[]⟩) (c1 := .int .i64 0) (c2 := .int .i64 0) (c3 := .slice none 0 0) (c4 := .string ⟨#[]⟩) (c5 := .string ⟨#[]⟩) (by go_simp) (by go_simp) (by go_simp) (by go_simp) (by go_simp) (by go_simp) ⟨⟨#[]⟩, 0, 0, none, 0, 0, ⟨#[]⟩, ⟨#[]⟩, [], rfl, World.ownsRow_nil _ _ _ _, rfl, Nat.zero_le _, six_below HBW.out (Nat.le_refl _) _ _ _ _ _ _⟩

set_option maxHeartbeats 4000000 in
theorem iparse_kind (s : ByteArray) (hs : s.size ≤ 2000000) (w : World) (hm : MX w) (hk : KT w) (a b c d : Z.Str) (hls : Lib.splitK [32] 0 3 (lst s) = [a, b, c, d]) (n : Int) (hn : Z.readNum b 100000 = some n) (hq : Z.kindOf c = none) :
    Calls Tryz.prog 10 #[.string s] w (ParseOut (none) w) := by
  obtain ⟨ls, hle⟩ : ∃ ls, ls = [a, b, c, d] := ⟨_, rfl⟩
  rw [← hle] at hls
  have hszs := split_sizes hls
  have HL := hid hls
  go_enter Tryz.func10, Tryz.ntmps10
  go_wp2_with fail
  refine (SplitN_any s (by omega) _ (hm.below (by go_grown)) ls HL).mono ?_
  rintro e w2 ⟨A2, q2, rfl, hr2, hb2⟩
  have hz2 : Blk w2 w.heap.size 25 [.string ⟨#[]⟩, .int .i64 0, .int .i64 0, .slice none 0 0, .string ⟨#[]⟩, .string ⟨#[]⟩] := (Blk.new w 25 [.string ⟨#[]⟩, .int .i64 0, .int .i64 0, .slice none 0 0, .string ⟨#[]⟩, .string ⟨#[]⟩]).next hb2
  have hbw2 : Below w.heap.size w w2 := Below.trans (by go_grown) (hb2.mono (by simp))
  have hlt2 := hz2.lt
  clear hb2
  rw [hle] at hr2 hszs
  have hl4 : ls.length = 4 := by rw [hle]; rfl
  rw [hl4]
  replace hr2 : Reads w2 w2.heap.size A2 4 ([a, b, c, d].map sv) := hr2
  obtain ⟨ad, xa, xb, xc, xd, rfl, hab, rfl, rfl, rfl, rfl, hcs⟩ := reads_four hr2
  have sa : xa.size ≤ 2000000 := by have := hszs (lst xa) (by simp); rw [lst_length] at this; omega
  have sb : xb.size ≤ 2000000 := by have := hszs (lst xb) (by simp); rw [lst_length] at this; omega
  have sc : xc.size ≤ 2000000 := by have := hszs (lst xc) (by simp); rw [lst_length] at this; omega
  have sd : xd.size ≤ 2000000 := by have := hszs (lst xd) (by simp); rw [lst_length] at this; omega
  have HLE := hid hle
  have HL4 := hid hl4
  clear hle hl4 hls hszs hr2
  have HCS := hid hcs
  obtain ⟨c0, c1, c2, c3⟩ := hcs w2 (Below.refl _ _)
  clear hcs
  have HK := hid hq
  clear hq
  have HN := hid hn
  clear hn
  go_wp2_with fail
  refine (readNumber_some xb (by omega) _ (by omega) (by omega) HN _).mono ?_
  rintro e w3 ⟨rfl, rfl⟩
  go_wp2_with fail
  refine (iKindOf_none xc HK _ (hk.below hbw2)).mono ?_
  rintro e w4 ⟨rfl, hb4⟩
  have hz4 := hz2.next hb4
  have hbw4 := hbw2.trans (hb4.mono hbw2.size)
  have hs4 := hb4.size
  clear c0 c1 c2 c3
  obtain ⟨c0, c1, c2, c3⟩ := HCS.out w4 hb4
  obtain ⟨r0, r1, r2, r3, r4, r5⟩ := hz4.cells6
  obtain ⟨f0, f1, f2, f3, f4, f5⟩ := hz4.free6
  have HBW := hid hbw4
  clear hbw2 hbw4 hb4
  go_wp2
  refine ret_iparse w.heap.size rfl rfl rfl (c0 := .string ⟨#[]⟩) (c1 := .int .i64 0) (c2 := .int .i64 0) (c3 := .slice none 0 0) (c4 := .string ⟨#[]⟩) (c5 := .string ⟨#[]⟩) (by go_simp) (by go_simp) (by go_simp) (by go_simp) (by go_simp) (by go_simp) ⟨⟨#[]⟩, 0, 0, none, 0, 0, ⟨#[]⟩, ⟨#[]⟩, [], rfl, World.ownsRow_nil _ _ _ _, rfl, Nat.zero_le _, six_below HBW.out (Nat.le_refl _) _ _ _ _ _ _⟩

set_option maxHeartbeats 4000000 in
theorem iparse_data (s : ByteArray) (hs : s.size ≤ 2000000) (w : World) (hm : MX w) (hk : KT w) (a b c d : Z.Str) (hls : Lib.splitK [32] 0 3 (lst s) = [a, b, c, d]) (n k : Int) (hn : Z.readNum b 100000 = some n) (hq : Z.kindOf c = some k) (ho : Z.readFlds k (Z.dataFlds k d) = none) :
    Calls Tryz.prog 10 #[.string s] w (ParseOut (none) w) := by
  obtain ⟨ls, hle⟩ : ∃ ls, ls = [a, b, c, d] := ⟨_, rfl⟩
  rw [← hle] at hls
  have hszs := split_sizes hls
  have HL := hid hls
  go_enter Tryz.func10, Tryz.ntmps10
  go_wp2_with fail
  refine (SplitN_any s (by omega) _ (hm.below (by go_grown)) ls HL).mono ?_
  rintro e w2 ⟨A2, q2, rfl, hr2, hb2⟩
  have hz2 : Blk w2 w.heap.size 25 [.string ⟨#[]⟩, .int .i64 0, .int .i64 0, .slice none 0 0, .string ⟨#[]⟩, .string ⟨#[]⟩] := (Blk.new w 25 [.string ⟨#[]⟩, .int .i64 0, .int .i64 0, .slice none 0 0, .string ⟨#[]⟩, .string ⟨#[]⟩]).next hb2
  have hbw2 : Below w.heap.size w w2 := Below.trans (by go_grown) (hb2.mono (by simp))
  have hlt2 := hz2.lt
  clear hb2
  rw [hle] at hr2 hszs
  have hl4 : ls.length = 4 := by rw [hle]; rfl
  rw [hl4]
  replace hr2 : Reads w2 w2.heap.size A2 4 ([a, b, c, d].map sv) := hr2
  obtain ⟨ad, xa, xb, xc, xd, rfl, hab, rfl, rfl, rfl, rfl, hcs⟩ := reads_four hr2
  have sa : xa.size ≤ 2000000 := by have := hszs (lst xa) (by simp); rw [lst_length] at this; omega
  have sb : xb.size ≤ 2000000 := by have := hszs (lst xb) (by simp); rw [lst_length] at this; omega
  have sc : xc.size ≤ 2000000 := by have := hszs (lst xc) (by simp); rw [lst_length] at this; omega
  have sd : xd.size ≤ 2000000 := by have := hszs (lst xd) (by simp); rw [lst_length] at this; omega
  have HLE := hid hle
  have HL4 := hid hl4
  clear hle hl4 hls hszs hr2
  have HCS := hid hcs
  obtain ⟨c0, c1, c2, c3⟩ := hcs w2 (Below.refl _ _)
  clear hcs
  have HK := hid hq
  clear hq
  have HN := hid hn
  clear hn
  go_wp2_with fail
  refine (readNumber_some xb (by omega) _ (by omega) (by omega) HN _).mono ?_
  rintro e w3 ⟨rfl, rfl⟩
  go_wp2_with fail
  refine (iKindOf_some xc HK _ (hk.below hbw2)).mono ?_
  rintro e w4 ⟨rfl, hb4⟩
  have hz4 := hz2.next hb4
  have hbw4 := hbw2.trans (hb4.mono hbw2.size)
  have hs4 := hb4.size
  clear c0 c1 c2 c3
  obtain ⟨c0, c1, c2, c3⟩ := HCS.out w4 hb4
  have hbW : Below w.heap.size w (w4.alloc (.cells #[.string xa, .int .i64 n, .int .i64 k, .slice none 0 0, .string ⟨#[]⟩, .string ⟨#[]⟩] 25)) := hbw4.alloc hbw4.size _
  have hx4 : Blk (w4.alloc (.cells #[.string xa, .int .i64 n, .int .i64 k, .slice none 0 0, .string ⟨#[]⟩, .string ⟨#[]⟩] 25)) w4.heap.size 25 [.string xa, .int .i64 n, .int .i64 k, .slice none 0 0, .string ⟨#[]⟩, .string ⟨#[]⟩] := Blk.new w4 25 [.string xa, .int .i64 n, .int .i64 k, .slice none 0 0, .string ⟨#[]⟩, .string ⟨#[]⟩]
  have hz4' := hz4.alloc (.cells #[.string xa, .int .i64 n, .int .i64 k, .slice none 0 0, .string ⟨#[]⟩, .string ⟨#[]⟩] 25)
  obtain ⟨p0, p1, p2, p3, p4, p5⟩ := hx4.cells6
  have hmW0 := hm.below hbW
  have hmW : MX (w4.alloc (.cells #[.string xa, .int .i64 n, .int .i64 k, .slice none 0 0, .string ⟨#[]⟩, .string ⟨#[]⟩] 25)).drew := hmW0
  have hlt4 : w.heap.size < w4.heap.size := by omega
  have c3' : (w4.alloc (.cells #[.string xa, .int .i64 n, .int .i64 k, .slice none 0 0, .string ⟨#[]⟩, .string ⟨#[]⟩] 25)).cell? ⟨ad.block, ad.off + 3, none⟩ = some (.string xd) := (HCS.out _ (hb4.alloc hs4 _)).2.2.2
  obtain ⟨fs, hfs⟩ : ∃ fs, Z.dataFlds k (lst xd) = fs := ⟨_, rfl⟩
  have hfz : ∀ l ∈ fs, l.length ≤ 2000000 := by
    rw [← hfs]
    unfold Z.dataFlds
    intro l hl
    split at hl
    · simp at hl; rw [hl, lst_length]; exact sd
    · have h9 := pieces_piece 32 (lst xd) [] l hl
      rw [lst_length] at h9
      simp at h9
      omega
  have hfl : fs.length ≤ 2000001 := by
    rw [← hfs]
    unfold Z.dataFlds
    split
    · simp
    · rw [pieces_length]
      have h9 := List.count_le_length (a := (32 : UInt8)) (l := lst xd)
      rw [lst_length] at h9
      omega
  rw [hfs] at ho
  have HO := hid ho
  have HFS := hid hfs
  have HFZ := hid hfz
  clear hfs hfz ho
  have HOK : Hid ((none : Option (List Int × Z.Str × Z.Str)).isSome = false) := hid rfl
  go_wp2_with fail
  go_region_with (first
    | (go_at_call 41; refine (dataFields_eq k xd (by omega) _ hmW fs HFS).mono ?_; rintro e w5 ⟨A5, q5, rfl, hr5, hq5, hb5⟩; have hx5 := Blk.next (Blk.drew hx4) hb5; have hz5 := Blk.next (Blk.drew hz4') hb5; obtain ⟨p0, p1, p2, p3, p4, p5⟩ := hx5.cells6)
    | (go_at_call 40; refine (readFields_eq 2000000 xa n k fs _ _ _ _ (MX.below hmW hb5) hr5 (Nat.le_refl _) hq5 (by omega) (by omega) HFZ _ HO _ HOK).mono ?_; rintro e w6 ⟨A6, L6, q6, x6, y6, ns6, rfl, hown6, hpo6, hL6, hxs6, hys6, hb6⟩; have hx6 := hx5.next hb6; have hz6 := hz5.next hb6; obtain ⟨p0, p1, p2, p3, p4, p5⟩ := hx6.cells6; obtain ⟨g0, g1, g2, g3, g4, g5⟩ := hx6.free6))
  all_goals (have hb46 : w4.heap.size < w5.heap.size := by have := hx5.lt; omega)
  all_goals (have hx7 := six_set hx6 (.string xa) (.int .i64 n) (.int .i64 k) (.slice A6 L6 q6) (.string x6) (.string y6))
  all_goals (have hz7 := six_apart hz6 (g := w4.heap.size) (by omega) (.string xa) (.int .i64 n) (.int .i64 k) (.slice A6 L6 q6) (.string x6) (.string y6))
  all_goals (have hown7 := six_own hown6 hb46 (.string xa) (.int .i64 n) (.int .i64 k) (.slice A6 L6 q6) (.string x6) (.string y6))
  all_goals (have hbw6 : Below w.heap.size w w6 := (below_drewN hbW 1).trans ((hb5.mono (by have := hbW.size; simpa using this)).trans (hb6.mono (by omega))))
  all_goals (have hbw7 := six_below hbw6 (by omega : w.heap.size ≤ w4.heap.size) (.string xa) (.int .i64 n) (.int .i64 k) (.slice A6 L6 q6) (.string x6) (.string y6))
  all_goals clear p0 p1 p2 p3 p4 p5 g0 g1 g2 g3 g4 g5 hb5 hb6 hown6 hx6 hz6 hx5 hz5 hr5 hbW hz4 hx4 hz4' hb4 hbw2 hbw4 c0 c1 c2 c3 c3' hz2 hbw6
  all_goals (have hlt7 := hz7.lt)
  all_goals (have hltx := hx7.lt)
  all_goals (obtain ⟨W7, hW7⟩ : ∃ W7, ((((((w6.setCell ⟨w4.heap.size, 0, none⟩ (.string xa)).setCell ⟨w4.heap.size, 1, none⟩ (.int .i64 n)).setCell ⟨w4.heap.size, 2, none⟩ (.int .i64 k)).setCell ⟨w4.heap.size, 3, none⟩ (.slice A6 L6 q6)).setCell ⟨w4.heap.size, 4, none⟩ (.string x6)).setCell ⟨w4.heap.size, 5, none⟩ (.string y6)) = W7 := ⟨_, rfl⟩)
  all_goals rw [hW7] at hx7 hz7 hown7 hbw7 hlt7 hltx ⊢
  all_goals clear hW7
  all_goals (obtain ⟨p0, p1, p2, p3, p4, p5⟩ := hx7.cells6)
  all_goals (obtain ⟨r0, r1, r2, r3, r4, r5⟩ := hz7.cells6)
  all_goals (obtain ⟨f0, f1, f2, f3, f4, f5⟩ := hz7.free6)
  all_goals (have HBW := hid hbw7)
  all_goals clear hbw7 hown7 hpo6
  all_goals go_wp2
  all_goals refine ret_iparse w.heap.size rfl rfl rfl (c0 := .string ⟨#[]⟩) (c1 := .int .i64 0) (c2 := .int .i64 0) (c3 := .slice none 0 0) (c4 := .string ⟨#[]⟩) (c5 := .string ⟨#[]⟩) (by go_simp) (by go_simp) (by go_simp) (by go_simp) (by go_simp) (by go_simp) ⟨⟨#[]⟩, 0, 0, none, 0, 0, ⟨#[]⟩, ⟨#[]⟩, [], rfl, World.ownsRow_nil _ _ _ _, rfl, Nat.zero_le _, six_below HBW.out (Nat.le_refl _) _ _ _ _ _ _⟩

set_option maxHeartbeats 4000000 in
theorem iparse_bad (s : ByteArray) (hs : s.size ≤ 2000000) (w : World) (hm : MX w) (hk : KT w) (a b c d : Z.Str) (hls : Lib.splitK [32] 0 3 (lst s) = [a, b, c, d]) (n k : Int) (hn : Z.readNum b 100000 = some n) (hq : Z.kindOf c = some k) (ns : List Int) (t x : Z.Str) (ho : Z.readFlds k (Z.dataFlds k d) = some (ns, t, x)) (hv : Z.recValid (⟨a, n, k, ns, t, x⟩ : Z.Rec) = false) :
    Calls Tryz.prog 10 #[.string s] w (ParseOut (none) w) := by
  obtain ⟨ls, hle⟩ : ∃ ls, ls = [a, b, c, d] := ⟨_, rfl⟩
  rw [← hle] at hls
  have hszs := split_sizes hls
  have HL := hid hls
  go_enter Tryz.func10, Tryz.ntmps10
  go_wp2_with fail
  refine (SplitN_any s (by omega) _ (hm.below (by go_grown)) ls HL).mono ?_
  rintro e w2 ⟨A2, q2, rfl, hr2, hb2⟩
  have hz2 : Blk w2 w.heap.size 25 [.string ⟨#[]⟩, .int .i64 0, .int .i64 0, .slice none 0 0, .string ⟨#[]⟩, .string ⟨#[]⟩] := (Blk.new w 25 [.string ⟨#[]⟩, .int .i64 0, .int .i64 0, .slice none 0 0, .string ⟨#[]⟩, .string ⟨#[]⟩]).next hb2
  have hbw2 : Below w.heap.size w w2 := Below.trans (by go_grown) (hb2.mono (by simp))
  have hlt2 := hz2.lt
  clear hb2
  rw [hle] at hr2 hszs
  have hl4 : ls.length = 4 := by rw [hle]; rfl
  rw [hl4]
  replace hr2 : Reads w2 w2.heap.size A2 4 ([a, b, c, d].map sv) := hr2
  obtain ⟨ad, xa, xb, xc, xd, rfl, hab, rfl, rfl, rfl, rfl, hcs⟩ := reads_four hr2
  have sa : xa.size ≤ 2000000 := by have := hszs (lst xa) (by simp); rw [lst_length] at this; omega
  have sb : xb.size ≤ 2000000 := by have := hszs (lst xb) (by simp); rw [lst_length] at this; omega
  have sc : xc.size ≤ 2000000 := by have := hszs (lst xc) (by simp); rw [lst_length] at this; omega
  have sd : xd.size ≤ 2000000 := by have := hszs (lst xd) (by simp); rw [lst_length] at this; omega
  have HLE := hid hle
  have HL4 := hid hl4
  clear hle hl4 hls hszs hr2
  have HCS := hid hcs
  obtain ⟨c0, c1, c2, c3⟩ := hcs w2 (Below.refl _ _)
  clear hcs
  have HK := hid hq
  clear hq
  have HN := hid hn
  clear hn
  go_wp2_with fail
  refine (readNumber_some xb (by omega) _ (by omega) (by omega) HN _).mono ?_
  rintro e w3 ⟨rfl, rfl⟩
  go_wp2_with fail
  refine (iKindOf_some xc HK _ (hk.below hbw2)).mono ?_
  rintro e w4 ⟨rfl, hb4⟩
  have hz4 := hz2.next hb4
  have hbw4 := hbw2.trans (hb4.mono hbw2.size)
  have hs4 := hb4.size
  clear c0 c1 c2 c3
  obtain ⟨c0, c1, c2, c3⟩ := HCS.out w4 hb4
  have hbW : Below w.heap.size w (w4.alloc (.cells #[.string xa, .int .i64 n, .int .i64 k, .slice none 0 0, .string ⟨#[]⟩, .string ⟨#[]⟩] 25)) := hbw4.alloc hbw4.size _
  have hx4 : Blk (w4.alloc (.cells #[.string xa, .int .i64 n, .int .i64 k, .slice none 0 0, .string ⟨#[]⟩, .string ⟨#[]⟩] 25)) w4.heap.size 25 [.string xa, .int .i64 n, .int .i64 k, .slice none 0 0, .string ⟨#[]⟩, .string ⟨#[]⟩] := Blk.new w4 25 [.string xa, .int .i64 n, .int .i64 k, .slice none 0 0, .string ⟨#[]⟩, .string ⟨#[]⟩]
  have hz4' := hz4.alloc (.cells #[.string xa, .int .i64 n, .int .i64 k, .slice none 0 0, .string ⟨#[]⟩, .string ⟨#[]⟩] 25)
  obtain ⟨p0, p1, p2, p3, p4, p5⟩ := hx4.cells6
  have hmW0 := hm.below hbW
  have hmW : MX (w4.alloc (.cells #[.string xa, .int .i64 n, .int .i64 k, .slice none 0 0, .string ⟨#[]⟩, .string ⟨#[]⟩] 25)).drew := hmW0
  have hlt4 : w.heap.size < w4.heap.size := by omega
  have c3' : (w4.alloc (.cells #[.string xa, .int .i64 n, .int .i64 k, .slice none 0 0, .string ⟨#[]⟩, .string ⟨#[]⟩] 25)).cell? ⟨ad.block, ad.off + 3, none⟩ = some (.string xd) := (HCS.out _ (hb4.alloc hs4 _)).2.2.2
  obtain ⟨fs, hfs⟩ : ∃ fs, Z.dataFlds k (lst xd) = fs := ⟨_, rfl⟩
  have hfz : ∀ l ∈ fs, l.length ≤ 2000000 := by
    rw [← hfs]
    unfold Z.dataFlds
    intro l hl
    split at hl
    · simp at hl; rw [hl, lst_length]; exact sd
    · have h9 := pieces_piece 32 (lst xd) [] l hl
      rw [lst_length] at h9
      simp at h9
      omega
  have hfl : fs.length ≤ 2000001 := by
    rw [← hfs]
    unfold Z.dataFlds
    split
    · simp
    · rw [pieces_length]
      have h9 := List.count_le_length (a := (32 : UInt8)) (l := lst xd)
      rw [lst_length] at h9
      omega
  rw [hfs] at ho
  have HO := hid ho
  have HFS := hid hfs
  have HFZ := hid hfz
  clear hfs hfz ho
  have HOK : Hid ((some (ns, t, x) : Option (List Int × Z.Str × Z.Str)).isSome = true) := hid rfl
  go_wp2_with fail
  go_region_with (first
    | (go_at_call 41; refine (dataFields_eq k xd (by omega) _ hmW fs HFS).mono ?_; rintro e w5 ⟨A5, q5, rfl, hr5, hq5, hb5⟩; have hx5 := Blk.next (Blk.drew hx4) hb5; have hz5 := Blk.next (Blk.drew hz4') hb5; obtain ⟨p0, p1, p2, p3, p4, p5⟩ := hx5.cells6)
    | (go_at_call 40; refine (readFields_eq 2000000 xa n k fs _ _ _ _ (MX.below hmW hb5) hr5 (Nat.le_refl _) hq5 (by omega) (by omega) HFZ _ HO _ HOK).mono ?_; rintro e w6 ⟨A6, L6, q6, x6, y6, ns6, rfl, hown6, hpo6, hL6, hxs6, hys6, hb6⟩; have hx6 := hx5.next hb6; have hz6 := hz5.next hb6; obtain ⟨p0, p1, p2, p3, p4, p5⟩ := hx6.cells6; obtain ⟨g0, g1, g2, g3, g4, g5⟩ := hx6.free6))
  all_goals (have hb46 : w4.heap.size < w5.heap.size := by have := hx5.lt; omega)
  all_goals (have hx7 := six_set hx6 (.string xa) (.int .i64 n) (.int .i64 k) (.slice A6 L6 q6) (.string x6) (.string y6))
  all_goals (have hz7 := six_apart hz6 (g := w4.heap.size) (by omega) (.string xa) (.int .i64 n) (.int .i64 k) (.slice A6 L6 q6) (.string x6) (.string y6))
  all_goals (have hown7 := six_own hown6 hb46 (.string xa) (.int .i64 n) (.int .i64 k) (.slice A6 L6 q6) (.string x6) (.string y6))
  all_goals (have hbw6 : Below w.heap.size w w6 := (below_drewN hbW 1).trans ((hb5.mono (by have := hbW.size; simpa using this)).trans (hb6.mono (by omega))))
  all_goals (have hbw7 := six_below hbw6 (by omega : w.heap.size ≤ w4.heap.size) (.string xa) (.int .i64 n) (.int .i64 k) (.slice A6 L6 q6) (.string x6) (.string y6))
  all_goals clear p0 p1 p2 p3 p4 p5 g0 g1 g2 g3 g4 g5 hb5 hb6 hown6 hx6 hz6 hx5 hz5 hr5 hbW hz4 hx4 hz4' hb4 hbw2 hbw4 c0 c1 c2 c3 c3' hz2 hbw6
  all_goals (have hpo := hpo6.out _ rfl)
  all_goals simp only [Prod.mk.injEq] at hpo
  all_goals obtain ⟨rfl, rfl, rfl⟩ := hpo
  all_goals (have HV := hid hv)
  all_goals clear hv hpo6
  all_goals (have hlt7 := hz7.lt)
  all_goals (have hltx := hx7.lt)
  all_goals (obtain ⟨W7, hW7⟩ : ∃ W7, ((((((w6.setCell ⟨w4.heap.size, 0, none⟩ (.string xa)).setCell ⟨w4.heap.size, 1, none⟩ (.int .i64 n)).setCell ⟨w4.heap.size, 2, none⟩ (.int .i64 k)).setCell ⟨w4.heap.size, 3, none⟩ (.slice A6 L6 q6)).setCell ⟨w4.heap.size, 4, none⟩ (.string x6)).setCell ⟨w4.heap.size, 5, none⟩ (.string y6)) = W7 := ⟨_, rfl⟩)
  all_goals rw [hW7] at hx7 hz7 hown7 hbw7 hlt7 hltx ⊢
  all_goals clear hW7
  all_goals (obtain ⟨p0, p1, p2, p3, p4, p5⟩ := hx7.cells6)
  all_goals (obtain ⟨r0, r1, r2, r3, r4, r5⟩ := hz7.cells6)
  all_goals (obtain ⟨f0, f1, f2, f3, f4, f5⟩ := hz7.free6)
  all_goals (have hrd7 := Reads.of_own hown7)
  all_goals go_wp2_with fail
  all_goals refine (iRecordValid_v xa n k A6 L6 q6 x6 y6 ns _ _ hrd7 (Nat.le_refl _) (by omega) (by omega) (by omega) (by omega) false HV).mono ?_
  all_goals rintro e w8 ⟨rfl, hb8⟩
  all_goals (have hx8 := hx7.next hb8)
  all_goals (have hz8 := hz7.next hb8)
  all_goals (have hown8 := own_next hown7 hb8)
  all_goals (have hbw8 := hbw7.trans (hb8.mono (by omega)))
  all_goals clear p0 p1 p2 p3 p4 p5 r0 r1 r2 r3 r4 r5 f0 f1 f2 f3 f4 f5 hx7 hz7 hown7 hbw7 hrd7 hb8
  all_goals (obtain ⟨p0, p1, p2, p3, p4, p5⟩ := hx8.cells6)
  all_goals (obtain ⟨r0, r1, r2, r3, r4, r5⟩ := hz8.cells6)
  all_goals (obtain ⟨f0, f1, f2, f3, f4, f5⟩ := hz8.free6)
  all_goals (have HBW := hid hbw8)
  all_goals clear hbw8
  all_goals clear hown8
  all_goals go_wp2
  all_goals refine ret_iparse w.heap.size rfl rfl rfl (c0 := .string ⟨#[]⟩) (c1 := .int .i64 0) (c2 := .int .i64 0) (c3 := .slice none 0 0) (c4 := .string ⟨#[]⟩) (c5 := .string ⟨#[]⟩) (by go_simp) (by go_simp) (by go_simp) (by go_simp) (by go_simp) (by go_simp) ⟨⟨#[]⟩, 0, 0, none, 0, 0, ⟨#[]⟩, ⟨#[]⟩, [], rfl, World.ownsRow_nil _ _ _ _, rfl, Nat.zero_le _, six_below HBW.out (Nat.le_refl _) _ _ _ _ _ _⟩

set_option maxHeartbeats 4000000 in
theorem iparse_good (s : ByteArray) (hs : s.size ≤ 2000000) (w : World) (hm : MX w) (hk : KT w) (a b c d : Z.Str) (hls : Lib.splitK [32] 0 3 (lst s) = [a, b, c, d]) (n k : Int) (hn : Z.readNum b 100000 = some n) (hq : Z.kindOf c = some k) (ns : List Int) (t x : Z.Str) (ho : Z.readFlds k (Z.dataFlds k d) = some (ns, t, x)) (hv : Z.recValid (⟨a, n, k, ns, t, x⟩ : Z.Rec) = true) :
    Calls Tryz.prog 10 #[.string s] w (ParseOut ((some ⟨a, n, k, ns, t, x⟩)) w) := by
  obtain ⟨ls, hle⟩ : ∃ ls, ls = [a, b, c, d] := ⟨_, rfl⟩
  rw [← hle] at hls
  have hszs := split_sizes hls
  have HL := hid hls
  go_enter Tryz.func10, Tryz.ntmps10
  go_wp2_with fail
  refine (SplitN_any s (by omega) _ (hm.below (by go_grown)) ls HL).mono ?_
  rintro e w2 ⟨A2, q2, rfl, hr2, hb2⟩
  have hz2 : Blk w2 w.heap.size 25 [.string ⟨#[]⟩, .int .i64 0, .int .i64 0, .slice none 0 0, .string ⟨#[]⟩, .string ⟨#[]⟩] := (Blk.new w 25 [.string ⟨#[]⟩, .int .i64 0, .int .i64 0, .slice none 0 0, .string ⟨#[]⟩, .string ⟨#[]⟩]).next hb2
  have hbw2 : Below w.heap.size w w2 := Below.trans (by go_grown) (hb2.mono (by simp))
  have hlt2 := hz2.lt
  clear hb2
  rw [hle] at hr2 hszs
  have hl4 : ls.length = 4 := by rw [hle]; rfl
  rw [hl4]
  replace hr2 : Reads w2 w2.heap.size A2 4 ([a, b, c, d].map sv) := hr2
  obtain ⟨ad, xa, xb, xc, xd, rfl, hab, rfl, rfl, rfl, rfl, hcs⟩ := reads_four hr2
  have sa : xa.size ≤ 2000000 := by have := hszs (lst xa) (by simp); rw [lst_length] at this; omega
  have sb : xb.size ≤ 2000000 := by have := hszs (lst xb) (by simp); rw [lst_length] at this; omega
  have sc : xc.size ≤ 2000000 := by have := hszs (lst xc) (by simp); rw [lst_length] at this; omega
  have sd : xd.size ≤ 2000000 := by have := hszs (lst xd) (by simp); rw [lst_length] at this; omega
  have HLE := hid hle
  have HL4 := hid hl4
  clear hle hl4 hls hszs hr2
  have HCS := hid hcs
  obtain ⟨c0, c1, c2, c3⟩ := hcs w2 (Below.refl _ _)
  clear hcs
  have hv5 := (Z.valid_sizes hv).2.1
  dsimp only at hv5
  have HK := hid hq
  clear hq
  have HN := hid hn
  clear hn
  go_wp2_with fail
  refine (readNumber_some xb (by omega) _ (by omega) (by omega) HN _).mono ?_
  rintro e w3 ⟨rfl, rfl⟩
  go_wp2_with fail
  refine (iKindOf_some xc HK _ (hk.below hbw2)).mono ?_
  rintro e w4 ⟨rfl, hb4⟩
  have hz4 := hz2.next hb4
  have hbw4 := hbw2.trans (hb4.mono hbw2.size)
  have hs4 := hb4.size
  clear c0 c1 c2 c3
  obtain ⟨c0, c1, c2, c3⟩ := HCS.out w4 hb4
  have hbW : Below w.heap.size w (w4.alloc (.cells #[.string xa, .int .i64 n, .int .i64 k, .slice none 0 0, .string ⟨#[]⟩, .string ⟨#[]⟩] 25)) := hbw4.alloc hbw4.size _
  have hx4 : Blk (w4.alloc (.cells #[.string xa, .int .i64 n, .int .i64 k, .slice none 0 0, .string ⟨#[]⟩, .string ⟨#[]⟩] 25)) w4.heap.size 25 [.string xa, .int .i64 n, .int .i64 k, .slice none 0 0, .string ⟨#[]⟩, .string ⟨#[]⟩] := Blk.new w4 25 [.string xa, .int .i64 n, .int .i64 k, .slice none 0 0, .string ⟨#[]⟩, .string ⟨#[]⟩]
  have hz4' := hz4.alloc (.cells #[.string xa, .int .i64 n, .int .i64 k, .slice none 0 0, .string ⟨#[]⟩, .string ⟨#[]⟩] 25)
  obtain ⟨p0, p1, p2, p3, p4, p5⟩ := hx4.cells6
  have hmW0 := hm.below hbW
  have hmW : MX (w4.alloc (.cells #[.string xa, .int .i64 n, .int .i64 k, .slice none 0 0, .string ⟨#[]⟩, .string ⟨#[]⟩] 25)).drew := hmW0
  have hlt4 : w.heap.size < w4.heap.size := by omega
  have c3' : (w4.alloc (.cells #[.string xa, .int .i64 n, .int .i64 k, .slice none 0 0, .string ⟨#[]⟩, .string ⟨#[]⟩] 25)).cell? ⟨ad.block, ad.off + 3, none⟩ = some (.string xd) := (HCS.out _ (hb4.alloc hs4 _)).2.2.2
  obtain ⟨fs, hfs⟩ : ∃ fs, Z.dataFlds k (lst xd) = fs := ⟨_, rfl⟩
  have hfz : ∀ l ∈ fs, l.length ≤ 2000000 := by
    rw [← hfs]
    unfold Z.dataFlds
    intro l hl
    split at hl
    · simp at hl; rw [hl, lst_length]; exact sd
    · have h9 := pieces_piece 32 (lst xd) [] l hl
      rw [lst_length] at h9
      simp at h9
      omega
  have hfl : fs.length ≤ 2000001 := by
    rw [← hfs]
    unfold Z.dataFlds
    split
    · simp
    · rw [pieces_length]
      have h9 := List.count_le_length (a := (32 : UInt8)) (l := lst xd)
      rw [lst_length] at h9
      omega
  rw [hfs] at ho
  have HO := hid ho
  have HFS := hid hfs
  have HFZ := hid hfz
  clear hfs hfz ho
  have HOK : Hid ((some (ns, t, x) : Option (List Int × Z.Str × Z.Str)).isSome = true) := hid rfl
  go_wp2_with fail
  go_region_with (first
    | (go_at_call 41; refine (dataFields_eq k xd (by omega) _ hmW fs HFS).mono ?_; rintro e w5 ⟨A5, q5, rfl, hr5, hq5, hb5⟩; have hx5 := Blk.next (Blk.drew hx4) hb5; have hz5 := Blk.next (Blk.drew hz4') hb5; obtain ⟨p0, p1, p2, p3, p4, p5⟩ := hx5.cells6)
    | (go_at_call 40; refine (readFields_eq 2000000 xa n k fs _ _ _ _ (MX.below hmW hb5) hr5 (Nat.le_refl _) hq5 (by omega) (by omega) HFZ _ HO _ HOK).mono ?_; rintro e w6 ⟨A6, L6, q6, x6, y6, ns6, rfl, hown6, hpo6, hL6, hxs6, hys6, hb6⟩; have hx6 := hx5.next hb6; have hz6 := hz5.next hb6; obtain ⟨p0, p1, p2, p3, p4, p5⟩ := hx6.cells6; obtain ⟨g0, g1, g2, g3, g4, g5⟩ := hx6.free6))
  all_goals (have hb46 : w4.heap.size < w5.heap.size := by have := hx5.lt; omega)
  all_goals (have hx7 := six_set hx6 (.string xa) (.int .i64 n) (.int .i64 k) (.slice A6 L6 q6) (.string x6) (.string y6))
  all_goals (have hz7 := six_apart hz6 (g := w4.heap.size) (by omega) (.string xa) (.int .i64 n) (.int .i64 k) (.slice A6 L6 q6) (.string x6) (.string y6))
  all_goals (have hown7 := six_own hown6 hb46 (.string xa) (.int .i64 n) (.int .i64 k) (.slice A6 L6 q6) (.string x6) (.string y6))
  all_goals (have hbw6 : Below w.heap.size w w6 := (below_drewN hbW 1).trans ((hb5.mono (by have := hbW.size; simpa using this)).trans (hb6.mono (by omega))))
  all_goals (have hbw7 := six_below hbw6 (by omega : w.heap.size ≤ w4.heap.size) (.string xa) (.int .i64 n) (.int .i64 k) (.slice A6 L6 q6) (.string x6) (.string y6))
  all_goals clear p0 p1 p2 p3 p4 p5 g0 g1 g2 g3 g4 g5 hb5 hb6 hown6 hx6 hz6 hx5 hz5 hr5 hbW hz4 hx4 hz4' hb4 hbw2 hbw4 c0 c1 c2 c3 c3' hz2 hbw6
  all_goals (have hpo := hpo6.out _ rfl)
  all_goals simp only [Prod.mk.injEq] at hpo
  all_goals obtain ⟨rfl, rfl, rfl⟩ := hpo
  all_goals (have HV := hid hv)
  all_goals clear hv hpo6
  all_goals (have hlt7 := hz7.lt)
  all_goals (have hltx := hx7.lt)
  all_goals (obtain ⟨W7, hW7⟩ : ∃ W7, ((((((w6.setCell ⟨w4.heap.size, 0, none⟩ (.string xa)).setCell ⟨w4.heap.size, 1, none⟩ (.int .i64 n)).setCell ⟨w4.heap.size, 2, none⟩ (.int .i64 k)).setCell ⟨w4.heap.size, 3, none⟩ (.slice A6 L6 q6)).setCell ⟨w4.heap.size, 4, none⟩ (.string x6)).setCell ⟨w4.heap.size, 5, none⟩ (.string y6)) = W7 := ⟨_, rfl⟩)
  all_goals rw [hW7] at hx7 hz7 hown7 hbw7 hlt7 hltx ⊢
  all_goals clear hW7
  all_goals (obtain ⟨p0, p1, p2, p3, p4, p5⟩ := hx7.cells6)
  all_goals (obtain ⟨r0, r1, r2, r3, r4, r5⟩ := hz7.cells6)
  all_goals (obtain ⟨f0, f1, f2, f3, f4, f5⟩ := hz7.free6)
  all_goals (have hrd7 := Reads.of_own hown7)
  all_goals go_wp2_with fail
  all_goals refine (iRecordValid_v xa n k A6 L6 q6 x6 y6 ns _ _ hrd7 (Nat.le_refl _) (by omega) (by omega) (by omega) (by omega) true HV).mono ?_
  all_goals rintro e w8 ⟨rfl, hb8⟩
  all_goals (have hx8 := hx7.next hb8)
  all_goals (have hz8 := hz7.next hb8)
  all_goals (have hown8 := own_next hown7 hb8)
  all_goals (have hbw8 := hbw7.trans (hb8.mono (by omega)))
  all_goals clear p0 p1 p2 p3 p4 p5 r0 r1 r2 r3 r4 r5 f0 f1 f2 f3 f4 f5 hx7 hz7 hown7 hbw7 hrd7 hb8
  all_goals (obtain ⟨p0, p1, p2, p3, p4, p5⟩ := hx8.cells6)
  all_goals (obtain ⟨r0, r1, r2, r3, r4, r5⟩ := hz8.cells6)
  all_goals (obtain ⟨f0, f1, f2, f3, f4, f5⟩ := hz8.free6)
  all_goals (have HBW := hid hbw8)
  all_goals clear hbw8
  all_goals (have HLW := hid (show w.heap.size < w5.heap.size by omega))
  all_goals (have hL7 := reads_len (Reads.of_own hown8))
  all_goals (have HL7 := hid (show L6 ≤ 7 by omega))
  all_goals clear hL7 hv5
  all_goals go_wp2
  all_goals refine ret_iparse w.heap.size rfl rfl rfl (c0 := .string xa) (c1 := .int .i64 n) (c2 := .int .i64 k) (c3 := .slice A6 L6 q6) (c4 := .string x6) (c5 := .string y6) (by go_simp) (by go_simp) (by go_simp) (by go_simp) (by go_simp) (by go_simp) ⟨xa, n, k, A6, L6, q6, x6, y6, ns, rfl, own_mono (six_own hown8 HLW.out _ _ _ _ _ _) (Nat.le_of_lt HLW.out), rfl, HL7.out, six_below HBW.out (Nat.le_refl _) _ _ _ _ _ _⟩

end Go.Proofs.YtlknpipbjdecpaaGreatDoor

namespace Go.Proofs.YtlknpipbjdecpaaGreatDoor
open Go.RowKit
set_option maxRecDepth 100000
set_option linter.unusedVariables false

theorem iParseRecord_any (s : ByteArray) (hs : s.size ≤ 2000000) (w : World) (hm : MX w) (hk : KT w) :
    Calls Tryz.prog 10 #[.string s] w (ParseOut (Z.parse (lst s)) w) := by
  rcases Z.split4_cases (lst s) with ⟨a, b, c, d, _, _, _, _, h4⟩ | ⟨hl, _⟩
  · rw [Z.iparse_four h4]
    unfold Z.iparse4
    cases hn : Z.readNum b 100000 with
    | none => exact iparse_num s hs w hm hk a b c d h4 hn
    | some n =>
      cases hq : Z.kindOf c with
      | none => exact iparse_kind s hs w hm hk a b c d h4 n hn hq
      | some k =>
        dsimp only
        cases ho : Z.readFlds k (Z.dataFlds k d) with
        | none => exact iparse_data s hs w hm hk a b c d h4 n k hn hq ho
        | some p =>
          obtain ⟨ns, t, x⟩ := p
          dsimp only
          cases hv : Z.recValid (⟨a, n, k, ns, t, x⟩ : Z.Rec) with
          | false => exact iparse_bad s hs w hm hk a b c d h4 n k hn hq ns t x ho hv
          | true => exact iparse_good s hs w hm hk a b c d h4 n k hn hq ns t x ho hv
  · exact iparse_short s hs w hm _ rfl hl
end Go.Proofs.YtlknpipbjdecpaaGreatDoor

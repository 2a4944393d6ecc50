/- What the draws of numbers return, and the draws of kinds. What the draws of records return: some record whose numbers can be read. -/
import Derived.Test.YtpgeeeamcncpkaaGreatDoorD
import Derived.Test.YtpgeeeamcncpkaaGreatDoorIa
import Derived.Test.YtpgeeeamcncpkaaGreatDoorSa
import Derived.Test.YtpgeeeamcncpkaaGreatDoorSm
import Derived.Test.YtpgeeeamcncpkaaGreatDoorBk
namespace Go.Proofs.YtpgeeeamcncpkaaGreatDoor
open Go.RowKit
set_option maxRecDepth 100000
set_option linter.unusedVariables false

set_option maxHeartbeats 1000000 in
theorem num_draw (g p B : Nat) (A : Option Addr) (n c : Nat) (zs : List Int) (w : World) (hr : Rd w g p) (hp : p ≤ 1000000) (hrd : Reads w B A n (zs.map iv)) (hB : B ≤ w.heap.size) (hn1 : 1 ≤ n) (hn2 : n ≤ 1048576) (hA : ∀ ad, A = some ad → ad.block ≠ g) :
    Calls Tryz.prog 45 #[.pointer (some ⟨g, 0, none⟩), .slice A n c] w fun e w' => ∃ z : Int, e = .returned (.int .i64 z) ∧ z ∈ zs ∧ Rd w' g (p + 1) ∧ But g w w' := by
  obtain rfl : n = zs.length := by simpa using hrd.1.symm
  have HA := hid hA
  clear hA
  go_enter Tryz.func45, Tryz.ntmps45
  go_wp2_with fail
  refine (pick_any g p _ w hr hp (by omega) (by omega)).mono ?_
  rintro e w1 ⟨i, rfl, hi0, hi1, hr1, hb1⟩
  obtain ⟨k, rfl⟩ := Int.eq_ofNat_of_zero_le hi0
  have hk : k < zs.length := by omega
  obtain ⟨ad, u, rfl, hab, hx, hcell⟩ := (hb1.reads hrd hB (fun _ => HA.out)).at_ hk
  rw [List.getElem?_map, List.getElem?_eq_getElem hk] at hx
  simp only [Option.map_some, Option.some.injEq] at hx
  subst hx
  obtain ⟨z, hz⟩ : ∃ z, z = zs[k] := ⟨_, rfl⟩
  have hzm : z ∈ zs := by rw [hz]; exact List.getElem_mem _
  unfold iv at hcell
  rw [← hz] at hcell
  clear hz
  go_wp2_with fail
  go_ret
  exact ⟨z, rfl, hzm, hr1, hb1⟩

/-- A new row of numbers as an argument. -/
theorem with_ints {w : World} {g p : Nat} (hr : Rd w g p) (zs : List Int) (t : TypeId) :
    Rd (w.alloc (.cells (zs.map iv).toArray t)) g p ∧ Reads (w.alloc (.cells (zs.map iv).toArray t)) (w.heap.size + 1) (some ⟨w.heap.size, 0, none⟩) zs.length (zs.map iv) ∧
      But g w (w.alloc (.cells (zs.map iv).toArray t)) ∧ w.heap.size + 1 ≤ (w.alloc (.cells (zs.map iv).toArray t)).heap.size ∧ ∀ ad : Addr, some (⟨w.heap.size, 0, none⟩ : Addr) = some ad → ad.block ≠ g := by
  have hgl := hr.lt
  have h := reads_alloc w (zs.map iv) t
  rw [List.length_map] at h
  refine ⟨hr.but ((Below.refl _ _).alloc (Nat.le_refl _) _), h, (But.refl g w).alloc _, by simp, fun ad e => ?_⟩
  injection e with e
  subst e
  show w.heap.size ≠ g
  omega

def kindNums : List Int := [1, 2, 5, 6, 12, 15, 16, 0, 3, 99]
def kindTexts : List Z.Str := [[65], [78, 83], [67, 78, 65, 77, 69], [83, 79, 65], [80, 84, 82], [77, 88], [84, 88, 84]]
theorem kindTexts_le : ∀ l ∈ kindTexts, l.length ≤ 12 := by decide
def kindBends : List Z.Str := [[], [65], [78], [120]]
theorem kindBends_le : ∀ l ∈ kindBends, l.length ≤ 12 := by decide
set_option maxHeartbeats 1000000 in
theorem l2Names_any (w : World) :
    Calls Tryz.prog 131 #[] w fun e w' => e = .returned (.slice (some ⟨w.heap.size, 0, none⟩) 7 7) ∧ w' = w.alloc (.cells (kindTexts.map sv).toArray 9) := by
  go_enter Tryz.func131, Tryz.ntmps131
  go_wp2
  go_ret
  exact ⟨rfl, rfl⟩
end Go.Proofs.YtpgeeeamcncpkaaGreatDoor

namespace Go.Proofs.YtpgeeeamcncpkaaGreatDoor
open Go.RowKit
set_option maxRecDepth 100000
set_option linter.unusedVariables false

def lineTexts : List Z.Str := [[119, 119, 119, 46, 97, 46, 98, 46, 32, 51, 48, 48, 32, 65, 32, 49, 46, 50, 46, 51, 46, 52], [97, 46, 98, 46, 32, 51, 48, 48, 32, 78, 83, 32, 110, 115, 46, 98, 46], [120, 46, 119, 119, 119, 46, 97, 46, 98, 46, 32, 54, 48, 32, 67, 78, 65, 77, 69, 32, 119, 119, 119, 46, 97, 46, 98, 46], [97, 46, 98, 46, 32, 51, 54, 48, 48, 32, 83, 79, 65, 32, 110, 115, 46, 98, 46, 32, 55, 32, 49, 48, 32, 50, 48, 32, 51, 48, 32, 52, 48], [97, 46, 98, 46, 32, 51, 48, 48, 32, 77, 88, 32, 49, 48, 32, 109, 97, 105, 108, 46, 97, 46, 98, 46], [97, 46, 98, 46, 32, 51, 48, 48, 32, 84, 88, 84, 32, 34, 104, 101, 108, 108, 111, 32, 120, 34], [122, 46, 98, 46, 32, 48, 32, 80, 84, 82, 32, 97, 46, 98, 46], [42, 46, 97, 46, 98, 46, 32, 51, 48, 48, 32, 65, 32, 57, 46, 57, 46, 57, 46, 57], [115, 117, 98, 46, 97, 46, 98, 46, 32, 51, 48, 48, 32, 78, 83, 32, 110, 115, 46, 115, 117, 98, 46, 97, 46, 98, 46], [110, 115, 46, 115, 117, 98, 46, 97, 46, 98, 46, 32, 51, 48, 48, 32, 65, 32, 53, 46, 54, 46, 55, 46, 56], [119, 119, 119, 46, 97, 46, 98, 46, 32, 51, 48, 48, 32, 65, 32, 49, 46, 50, 46, 51, 46, 53], [109, 97, 105, 108, 46, 97, 46, 98, 46, 32, 51, 48, 48, 32, 65, 32, 50, 46, 50, 46, 50, 46, 50], [119, 119, 119, 46, 97, 46, 98, 46, 32, 51, 48, 48, 32, 84, 88, 84, 32, 34, 34]]
theorem lineTexts_le : ∀ l ∈ lineTexts, l.length ≤ 40 := by decide
set_option maxHeartbeats 1000000 in
theorem l2Lines_any (w : World) :
    Calls Tryz.prog 82 #[] w fun e w' => e = .returned (.slice (some ⟨w.heap.size, 0, none⟩) 13 13) ∧ w' = w.alloc (.cells (lineTexts.map sv).toArray 9) := by
  go_enter Tryz.func82, Tryz.ntmps82
  go_wp2
  go_ret
  exact ⟨rfl, rfl⟩

/-- Some record, whose numbers lie in a row of the call's own. -/
def RecOut (w : World) (e : Ending) (w' : World) : Prop :=
  ∃ (N : ByteArray) (T K : Int) (A : Option Addr) (L c : Nat) (x y : ByteArray) (ns : List Int), e = .returned (.agg #[.string N, .int .i64 T, .int .i64 K, .slice A L c, .string x, .string y]) ∧ w'.ownsRow w.heap.size 3 1 (.slice A L c) L (ns.map iv) ∧ L ≤ 90 ∧ N.size ≤ 100 ∧ x.size ≤ 100 ∧ y.size ≤ 100 ∧ Below w.heap.size w w'
theorem parse_sizes {s N x y : ByteArray} {T K : Int} {ns : List Int} (h : (Z.parse (lst s)).getD noRec = ⟨lst N, T, K, ns, lst x, lst y⟩) : N.size ≤ 100 ∧ x.size ≤ 100 ∧ y.size ≤ 100 := by
  cases hp : Z.parse (lst s) with
  | none =>
    rw [hp] at h
    unfold noRec at h
    simp only [Option.getD_none, Z.Rec.mk.injEq] at h
    have h1 := congrArg List.length h.1
    have h2 := congrArg List.length h.2.2.2.2.1
    have h3 := congrArg List.length h.2.2.2.2.2
    rw [lst_length] at h1 h2 h3
    simp at h1 h2 h3
    omega
  | some r =>
    rw [hp] at h
    simp only [Option.getD_some] at h
    subst h
    have hv := Z.valid_sizes (Z.parse_some hp).1
    obtain ⟨h1, _, h3, h4⟩ := hv
    dsimp only at h1 h3 h4
    rw [lst_length] at h1 h3 h4
    omega
theorem ret_make {a : Act} {W : World} {post : Ending → World → Prop} (b : Nat) {c0 c1 c2 c3 c4 c5 : Value} (hp : a.tmps[2]?.getD undef = .pointer (some ⟨b, 0, none⟩)) (hd : a.defers = [])
    (hB : W.cell? ⟨b, 0, none⟩ = some c0 ∧ W.cell? ⟨b, 1, none⟩ = some c1 ∧ W.cell? ⟨b, 2, none⟩ = some c2 ∧ W.cell? ⟨b, 3, none⟩ = some c3 ∧ W.cell? ⟨b, 4, none⟩ = some c4 ∧ W.cell? ⟨b, 5, none⟩ = some c5)
    (h : post (.returned (.agg #[c0, c1, c2, c3, c4, c5])) W) : bodyPost Tryz.prog Tryz.f81 post Exit.ret a W := by
  obtain ⟨h0, h1, h2, h3, h4, h5⟩ := hB
  exact bodyPost_ret (by simp [results, Tryz.results81, go_sem, hp, h0, h1, h2, h3, h4, h5]) hd h
set_option maxHeartbeats 4000000 in
theorem l2Make_any (s : ByteArray) (hs : s.size ≤ 1000) (w : World) :
    Calls Tryz.prog 81 #[.string s] w (RecOut w) := by
  go_enter Tryz.func81, Tryz.ntmps81
  go_wp2_with fail
  refine (ParseRecord_any s (by omega) _).mono ?_
  rintro e w1 ⟨N, T, K, A, L, c, x, y, ns, rfl, hown, hz, hL, hb⟩
  have hsz := parse_sizes hz
  have hz4 : Blk (w1.alloc (.cells #[.string N, .int .i64 T, .int .i64 K, .slice A L c, .string x, .string y] 25)) w.heap.size 25 [.string ⟨#[]⟩, .int .i64 0, .int .i64 0, .slice none 0 0, .string ⟨#[]⟩, .string ⟨#[]⟩] := ((Blk.new w 25 [.string ⟨#[]⟩, .int .i64 0, .int .i64 0, .slice none 0 0, .string ⟨#[]⟩, .string ⟨#[]⟩]).next hb).alloc _
  have hr4 : Blk (w1.alloc (.cells #[.string N, .int .i64 T, .int .i64 K, .slice A L c, .string x, .string y] 25)) w1.heap.size 25 [.string N, .int .i64 T, .int .i64 K, .slice A L c, .string x, .string y] := Blk.new w1 25 [.string N, .int .i64 T, .int .i64 K, .slice A L c, .string x, .string y]
  have hlt := hb.size
  have hbw : Below w.heap.size w (w1.alloc (.cells #[.string N, .int .i64 T, .int .i64 K, .slice A L c, .string x, .string y] 25)) := (((Below.refl _ _).alloc (Nat.le_refl _) _).trans (hb.mono (by simp))).alloc (by simp at hlt; omega) _
  have hown5 := hown.alloc (.cells #[.string N, .int .i64 T, .int .i64 K, .slice A L c, .string x, .string y] 25)
  obtain ⟨r0, r1, r2, r3, r4, r5⟩ := hz4.cells6
  obtain ⟨f0, f1, f2, f3, f4, f5⟩ := hz4.free6
  obtain ⟨p0, p1, p2, p3, p4, p5⟩ := hr4.cells6
  have HZ := hid hz
  clear hz hb hown hlt
  have HBW := hid hbw
  clear hbw
  go_wp2
  exact ret_make w.heap.size rfl rfl (six_set hz4 _ _ _ _ _ _).cells6 ⟨N, T, K, A, L, c, x, y, ns, rfl, own_mono (six_own hown5 (by simp) _ _ _ _ _ _) (by simp), by omega, hsz.1, hsz.2.1, hsz.2.2, six_below HBW.out (Nat.le_refl _) _ _ _ _ _ _⟩

theorem ret_copy {a : Act} {W : World} {post : Ending → World → Prop} (b : Nat) {c0 c1 c2 c3 c4 c5 : Value} (hp : a.tmps[2]?.getD undef = .pointer (some ⟨b, 0, none⟩)) (hd : a.defers = [])
    (hB : W.cell? ⟨b, 0, none⟩ = some c0 ∧ W.cell? ⟨b, 1, none⟩ = some c1 ∧ W.cell? ⟨b, 2, none⟩ = some c2 ∧ W.cell? ⟨b, 3, none⟩ = some c3 ∧ W.cell? ⟨b, 4, none⟩ = some c4 ∧ W.cell? ⟨b, 5, none⟩ = some c5)
    (h : post (.returned (.agg #[c0, c1, c2, c3, c4, c5])) W) : bodyPost Tryz.prog Tryz.f117 post Exit.ret a W := by
  obtain ⟨h0, h1, h2, h3, h4, h5⟩ := hB
  exact bodyPost_ret (by simp [results, Tryz.results117, go_sem, hp, h0, h1, h2, h3, h4, h5]) hd h
set_option maxHeartbeats 4000000 in
theorem l2Copy_any (aN : ByteArray) (aT aK : Int) (aA : Option Addr) (aL aC : Nat) (aG aX : ByteArray) (aZ : List Int) (aB : Nat) (w : World) (hra : Reads w aB aA aL (aZ.map iv)) (hba : aB ≤ w.heap.size) (hla : aL ≤ 67108864) (hl : aL ≤ 100) (h1 : aN.size ≤ 100) (h2 : aG.size ≤ 100) (h3 : aX.size ≤ 100) :
    Calls Tryz.prog 117 #[.agg #[.string aN, .int .i64 aT, .int .i64 aK, .slice aA aL aC, .string aG, .string aX]] w fun e w' => ∃ A c, e = .returned (.agg #[.string aN, .int .i64 aT, .int .i64 aK, .slice A aL c, .string aG, .string aX]) ∧ w'.ownsRow w.heap.size 3 1 (.slice A aL c) aL (aZ.map iv) ∧ Below w.heap.size w w' := by
  go_enter Tryz.func117, Tryz.ntmps117
  have hbx : Below w.heap.size w (((w.alloc (.cells #[.string aN, .int .i64 aT, .int .i64 aK, .slice aA aL aC, .string aG, .string aX] 25)).alloc (.cells #[.string ⟨#[]⟩, .int .i64 0, .int .i64 0, .slice none 0 0, .string ⟨#[]⟩, .string ⟨#[]⟩] 25)).alloc (.cells #[] 3)) := by go_grown
  have hr3 := (hra.below hbx hba)
  have hp3 : Blk (((w.alloc (.cells #[.string aN, .int .i64 aT, .int .i64 aK, .slice aA aL aC, .string aG, .string aX] 25)).alloc (.cells #[.string ⟨#[]⟩, .int .i64 0, .int .i64 0, .slice none 0 0, .string ⟨#[]⟩, .string ⟨#[]⟩] 25)).alloc (.cells #[] 3)) w.heap.size 25 [.string aN, .int .i64 aT, .int .i64 aK, .slice aA aL aC, .string aG, .string aX] := ((Blk.new w 25 [.string aN, .int .i64 aT, .int .i64 aK, .slice aA aL aC, .string aG, .string aX]).alloc _).alloc _
  have hz3 : Blk (((w.alloc (.cells #[.string aN, .int .i64 aT, .int .i64 aK, .slice aA aL aC, .string aG, .string aX] 25)).alloc (.cells #[.string ⟨#[]⟩, .int .i64 0, .int .i64 0, .slice none 0 0, .string ⟨#[]⟩, .string ⟨#[]⟩] 25)).alloc (.cells #[] 3)) (w.heap.size + 1) 25 [.string ⟨#[]⟩, .int .i64 0, .int .i64 0, .slice none 0 0, .string ⟨#[]⟩, .string ⟨#[]⟩] := by
    have := Blk.new (w.alloc (.cells #[.string aN, .int .i64 aT, .int .i64 aK, .slice aA aL aC, .string aG, .string aX] 25)) 25 [.string ⟨#[]⟩, .int .i64 0, .int .i64 0, .slice none 0 0, .string ⟨#[]⟩, .string ⟨#[]⟩]
    have := this.alloc (.cells #[] 3)
    simpa using this
  have hown3 : (((w.alloc (.cells #[.string aN, .int .i64 aT, .int .i64 aK, .slice aA aL aC, .string aG, .string aX] 25)).alloc (.cells #[.string ⟨#[]⟩, .int .i64 0, .int .i64 0, .slice none 0 0, .string ⟨#[]⟩, .string ⟨#[]⟩] 25)).alloc (.cells #[] 3)).ownsRow (w.heap.size + 1 + 1) 3 1 (.slice (some ⟨w.heap.size + 1 + 1, 0, none⟩) 0 0) 0 [] := by
    have := World.ownsRow_made (base := w.heap.size + 1 + 1) (e := 3) (size := 1) ((w.alloc (.cells #[.string aN, .int .i64 aT, .int .i64 aK, .slice aA aL aC, .string aG, .string aX] 25)).alloc (.cells #[.string ⟨#[]⟩, .int .i64 0, .int .i64 0, .slice none 0 0, .string ⟨#[]⟩, .string ⟨#[]⟩] 25)) #[] 0 (by simp) (by decide) (by simp)
    simpa using this
  obtain ⟨i0, hi0, hz0, hz1, hz2⟩ := info_parts infoIntz
  have HR := hid hr3
  have HP3 := hid hp3
  have HZ3 := hid hz3
  have HO := hid hown3
  have HBX := hid hbx
  clear hbx hr3 hp3 hz3 hown3
  go_wp2_with (at_builtin; refine wpList_app_any _ rfl (.tmp 3) (.tmp 5) _ rfl (w.heap.size + 1 + 1) 3 i0 _ 8 Tryz.underlying23 hi0 hz0 hz1 hz2 rfl _ 0 [] rfl HO.out aB aA aL aC (aZ.map iv) rfl HR.out (ivs_one aZ) (by unfold maxLen; omega) (by omega) (by simp) ?_; intro A c w4 hown4 hbel4 hblk4; have hp4 := hblk4 _ _ _ HP3.out (own_of_two HO.out (by omega)); have hz4 := hblk4 _ _ _ HZ3.out (own_of_two HO.out (by omega)); rw [Nat.zero_add] at hown4; have HBW := hid (HBX.out.trans (hbel4 w.heap.size (by omega))); obtain ⟨p0, p1, p2, p3, p4, p5⟩ := hp4.cells6; obtain ⟨f0, f1, f2, f3, f4, f5⟩ := hp4.free6; obtain ⟨r0, r1, r2, r3, r4, r5⟩ := hz4.cells6; obtain ⟨e0, e1, e2, e3, e4, e5⟩ := hz4.free6; have HP4 := hid hp4; have HZ4 := hid hz4; have HO4 := hid hown4; clear hbel4 hblk4 hp4 hz4 hown4)
  have hz5 := HZ4.out.far (p := ⟨w.heap.size, 3, none⟩) (by show w.heap.size + 1 ≠ w.heap.size; omega) (.slice A (0 + aL) c)
  simp only [Nat.zero_add] at hz5 ⊢
  refine ret_copy (w.heap.size + 1) rfl rfl (six_set hz5 _ _ _ _ _ _).cells6 ⟨A, c, rfl, ?_, ?_⟩
  · exact own_mono (six_own (ownsRow_setCell_below HO4.out (a := ⟨w.heap.size, 3, none⟩) (by show w.heap.size < w.heap.size + 1 + 1; omega) _) (by omega) _ _ _ _ _ _) (by omega)
  · exact six_below (HBW.out.setCell (p := ⟨w.heap.size, 3, none⟩) (Nat.le_refl _) _) (by omega) _ _ _ _ _ _
end Go.Proofs.YtpgeeeamcncpkaaGreatDoor

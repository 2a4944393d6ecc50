/- What the model's helper of ReadLine for directives returns. -/
import Derived.Test.YtpgeeeamcncpkaaGreatDoorMo
import Derived.Test.YtpgeeeamcncpkaaGreatDoorRd
import Derived.IntWalk
import Derived.Deep.RegionWith
namespace Go.Proofs.YtpgeeeamcncpkaaGreatDoor
open Go.RowKit
set_option maxRecDepth 100000
set_option linter.unusedVariables false
set_option linter.unusedSimpArgs false

def DollarOut (w : World) (res : Option Z.St) (e : Ending) (w' : World) : Prop :=
  ∃ (o' : ByteArray) (t' : Int) (ow' : ByteArray), e = .returned (.tuple #[.agg #[.string o', .int .i64 t', .string ow'], .bool res.isSome]) ∧ Hid (∀ s, res = some s → s = ⟨lst o', t', lst ow'⟩) ∧ Below w.heap.size w w'
theorem Blk.cells3 {w : World} {g : Nat} {t : TypeId} {c0 c1 c2 : Value} (h : Blk w g t [c0, c1, c2]) :
    w.cell? ⟨g, 0, none⟩ = some c0 ∧ w.cell? ⟨g, 1, none⟩ = some c1 ∧ w.cell? ⟨g, 2, none⟩ = some c2 := ⟨h.cell 0, h.cell 1, h.cell 2⟩
theorem Blk.free3 {w : World} {g : Nat} {t : TypeId} {cs : List Value} (h : Blk w g t cs) :
    w.frozen? ⟨g, 0, none⟩ = false ∧ w.frozen? ⟨g, 1, none⟩ = false ∧ w.frozen? ⟨g, 2, none⟩ = false := ⟨h.frozen 0, h.frozen 1, h.frozen 2⟩
theorem three_set {w : World} {g : Nat} {t : TypeId} {c0 c1 c2 : Value} (h : Blk w g t [c0, c1, c2]) (d0 d1 d2 : Value) :
    Blk (((w.setCell ⟨g, 0, none⟩ d0).setCell ⟨g, 1, none⟩ d1).setCell ⟨g, 2, none⟩ d2) g t [d0, d1, d2] := ((h.put 0 d0).put 1 d1).put 2 d2
theorem three_below {w w' : World} {B g : Nat} (h : Below B w w') (hg : B ≤ g) (d0 d1 d2 : Value) :
    Below B w (((w'.setCell ⟨g, 0, none⟩ d0).setCell ⟨g, 1, none⟩ d1).setCell ⟨g, 2, none⟩ d2) :=
  ((h.setCell (p := ⟨g, 0, none⟩) hg d0).setCell (p := ⟨g, 1, none⟩) hg d1).setCell (p := ⟨g, 2, none⟩) hg d2
theorem ret_dol {a : Act} {W : World} {post : Ending → World → Prop} (b : Nat) {c0 c1 c2 ok : Value} (hp : a.tmps[4]?.getD undef = .pointer (some ⟨b, 0, none⟩)) (hk : a.tmps[5]?.getD undef = ok) (hd : a.defers = [])
    (hB : W.cell? ⟨b, 0, none⟩ = some c0 ∧ W.cell? ⟨b, 1, none⟩ = some c1 ∧ W.cell? ⟨b, 2, none⟩ = some c2)
    (h : post (.returned (.tuple #[.agg #[c0, c1, c2], ok])) W) : bodyPost Tryz.prog Tryz.f64 post Exit.ret a W := by
  obtain ⟨h0, h1, h2⟩ := hB
  exact bodyPost_ret (by simp [results, Tryz.results64, go_sem, hp, hk, h0, h1, h2]) hd h
theorem dol_none {w w' : World} {a5 : Value} {res : Option Z.St} {o' ow' : ByteArray} {t' : Int} (hres : res = none) (h5 : a5 = .bool false) (hb : Below w.heap.size w w') : DollarOut w res (.returned (.tuple #[.agg #[.string o', .int .i64 t', .string ow'], a5])) w' := by
  subst hres h5
  exact ⟨o', t', ow', rfl, hid (fun s h => by cases h), hb⟩
theorem dol_some {w w' : World} {a5 : Value} {res : Option Z.St} {o' ow' : ByteArray} {t' : Int} (hres : res = some ⟨lst o', t', lst ow'⟩) (h5 : a5 = .bool true) (hb : Below w.heap.size w w') : DollarOut w res (.returned (.tuple #[.agg #[.string o', .int .i64 t', .string ow'], a5])) w' := by
  subst hres h5
  exact ⟨o', t', ow', rfl, hid (fun s h => (Option.some.inj h).symm), hb⟩
theorem dword_true {y : ByteArray} {l : Z.Str} (h : lst y = l) : (y.toList == l) = true := by rw [toList_lst, h]; simp
theorem dword_false {y : ByteArray} {l : Z.Str} (h : lst y ≠ l) : (y.toList == l) = false := by rw [toList_lst]; simpa using h
theorem fld_at {w : World} {B : Nat} {A : Option Addr} {fs : List Z.Str} {k : Nat} (h : Reads w B A fs.length (fs.map sv)) (hk : k < fs.length) (hsz : ∀ l ∈ fs, l.length ≤ 67108864) :
    ∃ ad s, A = some ad ∧ ad.block < B ∧ lst s = fs.getD k [] ∧ s.size ≤ 67108864 ∧ w.cell? (ad.add k) = some (.string s) := by
  obtain ⟨ad, s, e, hb, hs, hc⟩ := reads_str h hk
  refine ⟨ad, s, e, hb, hs, ?_, hc⟩
  have h1 : fs.getD k [] ∈ fs := by simp [hk]
  have h2 := hsz _ h1
  rw [← hs, lst_length] at h2
  exact h2

theorem dollar_not2 {s : Z.St} {fs : List Z.Str} (h : fs.length ≠ 2) : Z.dollar s fs = none := by
  match fs, h with
  | [], _ => rfl
  | [_], _ => rfl
  | _ :: _ :: _ :: _, _ => rfl
set_option maxHeartbeats 4000000 in
theorem dol_len (o ow : ByteArray) (t : Int) (fs : List Z.Str) (B : Nat) (A : Option Addr) (c : Nat) (w : World) (hr : Reads w B A fs.length (fs.map sv)) (hB : B ≤ w.heap.size) (hlen : fs.length ≤ 67108864) (ho : o.size ≤ 67108864) (how : ow.size ≤ 67108864) (hsz : Hid (∀ l ∈ fs, l.length ≤ 67108864)) (h2 : fs.length ≠ 2) :
    Calls Tryz.prog 64 #[.agg #[.string o, .int .i64 t, .string ow], .slice A fs.length c] w (DollarOut w (Z.dollar ⟨lst o, t, lst ow⟩ fs)) := by
  have HE := hid (dollar_not2 (s := ⟨lst o, t, lst ow⟩) h2)
  have q0 : ((fs.length : Int) != 2) = true := by simp; omega
  have hs0 := (Blk.new w 41 [.string o, .int .i64 t, .string ow]).alloc (.cells #[.string ⟨#[]⟩, .int .i64 0, .string ⟨#[]⟩] 41)
  have ho0 := Blk.new (w.alloc (.cells #[.string o, .int .i64 t, .string ow] 41)) 41 [.string ⟨#[]⟩, .int .i64 0, .string ⟨#[]⟩]
  rw [show (w.alloc (.cells #[.string o, .int .i64 t, .string ow] 41)).heap.size = w.heap.size + 1 by simp] at ho0
  have hb0 : Below w.heap.size w ((w.alloc (.cells #[.string o, .int .i64 t, .string ow] 41)).alloc (.cells #[.string ⟨#[]⟩, .int .i64 0, .string ⟨#[]⟩] 41)) := ((Below.refl _ _).alloc (Nat.le_refl _) _).alloc (by simp) _
  have hr0 := hr.below hb0 hB
  go_enter Tryz.func64, Tryz.ntmps64
  go_upto_region 2 with fail
  obtain ⟨W, hW⟩ : ∃ W, (w.alloc (.cells #[.string o, .int .i64 t, .string ow] 41)).alloc (.cells #[.string ⟨#[]⟩, .int .i64 0, .string ⟨#[]⟩] 41) = W := ⟨_, rfl⟩
  rw [hW] at hs0 ho0 hb0 hr0 ⊢
  clear hW
  obtain ⟨p0, p1, p2⟩ := hs0.cells3
  obtain ⟨r0, r1, r2⟩ := ho0.cells3
  obtain ⟨f0, f1, f2⟩ := ho0.free3
  have hx := three_set ho0 (.string o) (.int .i64 t) (.string ow)
  have hb := three_below hb0 (Nat.le_add_right _ 1) (.string o) (.int .i64 t) (.string ow)
  go_wp2
  exact ret_dol (w.heap.size + 1) rfl rfl rfl hx.cells3 (dol_none HE.out rfl hb)

set_option maxHeartbeats 4000000 in
theorem dol_else (o ow : ByteArray) (t : Int) (fs : List Z.Str) (B : Nat) (A : Option Addr) (c : Nat) (w : World) (hr : Reads w B A fs.length (fs.map sv)) (hB : B ≤ w.heap.size) (hlen : fs.length ≤ 67108864) (ho : o.size ≤ 67108864) (how : ow.size ≤ 67108864) (hsz : Hid (∀ l ∈ fs, l.length ≤ 67108864)) (a b : Z.Str) (hfs : fs = [a, b]) (ha1 : a ≠ Z.originWord) (ha2 : a ≠ Z.ttlWord) :
    Calls Tryz.prog 64 #[.agg #[.string o, .int .i64 t, .string ow], .slice A fs.length c] w (DollarOut w (Z.dollar ⟨lst o, t, lst ow⟩ fs)) := by
  have HE := hid (show Z.dollar ⟨lst o, t, lst ow⟩ fs = none by rw [hfs]; unfold Z.dollar; simp only [if_neg ha1, if_neg ha2])
  have hl2 : fs.length = 2 := by rw [hfs]; rfl
  have q0 : ((fs.length : Int) != 2) = false := by simp; omega
  have hs0 := (Blk.new w 41 [.string o, .int .i64 t, .string ow]).alloc (.cells #[.string ⟨#[]⟩, .int .i64 0, .string ⟨#[]⟩] 41)
  have ho0 := Blk.new (w.alloc (.cells #[.string o, .int .i64 t, .string ow] 41)) 41 [.string ⟨#[]⟩, .int .i64 0, .string ⟨#[]⟩]
  rw [show (w.alloc (.cells #[.string o, .int .i64 t, .string ow] 41)).heap.size = w.heap.size + 1 by simp] at ho0
  have hb0 : Below w.heap.size w ((w.alloc (.cells #[.string o, .int .i64 t, .string ow] 41)).alloc (.cells #[.string ⟨#[]⟩, .int .i64 0, .string ⟨#[]⟩] 41)) := ((Below.refl _ _).alloc (Nat.le_refl _) _).alloc (by simp) _
  have hr0 := hr.below hb0 hB
  obtain ⟨ad, x, rfl, hab, hx, hxs, hcell⟩ := fld_at hr0 (k := 0) (by omega) hsz.out
  have hx1 : lst x = a := by rw [hx, hfs]; rfl
  rw [show ad.add 0 = ad from rfl] at hcell
  have q1 : (x.toList == [36, 79, 82, 73, 71, 73, 78]) = false := dword_false (by rw [hx1]; exact ha1)
  have q2 : (x.toList == [36, 84, 84, 76]) = false := dword_false (by rw [hx1]; exact ha2)
  clear hx hx1 ha1 ha2 hfs
  go_enter Tryz.func64, Tryz.ntmps64
  go_upto_region 12 with fail
  obtain ⟨W, hW⟩ : ∃ W, (w.alloc (.cells #[.string o, .int .i64 t, .string ow] 41)).alloc (.cells #[.string ⟨#[]⟩, .int .i64 0, .string ⟨#[]⟩] 41) = W := ⟨_, rfl⟩
  rw [hW] at hs0 ho0 hb0 hr0 ⊢
  clear hW
  obtain ⟨p0, p1, p2⟩ := hs0.cells3
  obtain ⟨r0, r1, r2⟩ := ho0.cells3
  obtain ⟨f0, f1, f2⟩ := ho0.free3
  have hx := three_set ho0 (.string o) (.int .i64 t) (.string ow)
  have hb := three_below hb0 (Nat.le_add_right _ 1) (.string o) (.int .i64 t) (.string ow)
  go_wp2
  exact ret_dol (w.heap.size + 1) rfl rfl rfl hx.cells3 (dol_none HE.out rfl hb)

set_option maxHeartbeats 4000000 in
theorem dol_origin (o ow : ByteArray) (t : Int) (fs : List Z.Str) (B : Nat) (A : Option Addr) (c : Nat) (w : World) (hr : Reads w B A fs.length (fs.map sv)) (hB : B ≤ w.heap.size) (hlen : fs.length ≤ 67108864) (ho : o.size ≤ 67108864) (how : ow.size ≤ 67108864) (hsz : Hid (∀ l ∈ fs, l.length ≤ 67108864)) (b : Z.Str) (hfs : fs = [Z.originWord, b]) :
    Calls Tryz.prog 64 #[.agg #[.string o, .int .i64 t, .string ow], .slice A fs.length c] w (DollarOut w (Z.dollar ⟨lst o, t, lst ow⟩ fs)) := by
  have hl2 : fs.length = 2 := by rw [hfs]; rfl
  have q0 : ((fs.length : Int) != 2) = false := by simp; omega
  have hs0 := (Blk.new w 41 [.string o, .int .i64 t, .string ow]).alloc (.cells #[.string ⟨#[]⟩, .int .i64 0, .string ⟨#[]⟩] 41)
  have ho0 := Blk.new (w.alloc (.cells #[.string o, .int .i64 t, .string ow] 41)) 41 [.string ⟨#[]⟩, .int .i64 0, .string ⟨#[]⟩]
  rw [show (w.alloc (.cells #[.string o, .int .i64 t, .string ow] 41)).heap.size = w.heap.size + 1 by simp] at ho0
  have hb0 : Below w.heap.size w ((w.alloc (.cells #[.string o, .int .i64 t, .string ow] 41)).alloc (.cells #[.string ⟨#[]⟩, .int .i64 0, .string ⟨#[]⟩] 41)) := ((Below.refl _ _).alloc (Nat.le_refl _) _).alloc (by simp) _
  have hr0 := hr.below hb0 hB
  obtain ⟨ad, x, rfl, hab, hx, hxs, hcell⟩ := fld_at hr0 (k := 0) (by omega) hsz.out
  have hx1 : lst x = Z.originWord := by rw [hx, hfs]; rfl
  rw [show ad.add 0 = ad from rfl] at hcell
  obtain ⟨ad', z, hae, hab', hz, hzs, hcellz⟩ := fld_at hr0 (k := 1) (by omega) hsz.out
  obtain rfl : ad = ad' := Option.some.inj hae
  have hcellz' : ((w.alloc (.cells #[.string o, .int .i64 t, .string ow] 41)).alloc (.cells #[.string ⟨#[]⟩, .int .i64 0, .string ⟨#[]⟩] 41)).cell? ⟨ad.block, ad.off + 1, none⟩ = some (.string z) := hcellz
  have hz1 : lst z = b := by rw [hz, hfs]; rfl
  obtain ⟨y, hy⟩ : ∃ y, bs ((Z.readName (lst z) (lst o)).getD []) = y := ⟨_, rfl⟩
  obtain ⟨ok, hok⟩ : ∃ ok, (Z.readName (lst z) (lst o)).isSome = ok := ⟨_, rfl⟩
  have HE := hid (show Z.dollar ⟨lst o, t, lst ow⟩ fs = if ok then some ⟨lst y, t, lst ow⟩ else none by
    rw [hfs]
    unfold Z.dollar
    simp only [if_true]
    rw [← hz1, ← hok, ← hy]
    cases Z.readName (lst z) (lst o) with
    | none => rfl
    | some n => show some _ = some _; rw [show (Option.some n).getD [] = n from rfl, lst_bs])
  have HX := hid hy
  have HOK := hid hok
  have q1 : (x.toList == [36, 79, 82, 73, 71, 73, 78]) = true := dword_true hx1
  clear hx hx1 hz hz1 hfs hy hok hae hcellz
  obtain ⟨p0, p1, p2⟩ := hs0.cells3
  go_enter Tryz.func64, Tryz.ntmps64
  go_upto_region 5 with fail
  obtain ⟨W, hW⟩ : ∃ W, (w.alloc (.cells #[.string o, .int .i64 t, .string ow] 41)).alloc (.cells #[.string ⟨#[]⟩, .int .i64 0, .string ⟨#[]⟩] 41) = W := ⟨_, rfl⟩
  rw [hW] at hs0 ho0 hb0 hr0 hcellz' hcell ⊢
  clear hW p0 p1 p2
  obtain ⟨p0, p1, p2⟩ := hs0.cells3
  have hs1 := hs0.drew
  have ho1 := ho0.drew
  have hb1 := below_drewN hb0 1
  have qi : (1 : Int) < ((fs.length : Nat) : Int) := by omega
  go_region_with (first
    | (go_at_call 65; refine (ReadName_eq z o hzs ho y ok HX HOK _).mono ?_; rintro e w5 ⟨rfl, hb5⟩; have hs5 := hs1.next hb5; have ho5 := ho1.next hb5; obtain ⟨m0, m1, m2⟩ := hs5.cells3; obtain ⟨n0, n1, n2⟩ := hs5.free3; obtain ⟨r0, r1, r2⟩ := ho5.cells3; obtain ⟨f0, f1, f2⟩ := ho5.free3))
  all_goals have hbw := hb1.trans (hb5.mono hb1.size)
  all_goals have hs6 := hs5.put 0 (.string y)
  all_goals have ho6 := ho5.far (p := ⟨w.heap.size, 0, none⟩) (by show w.heap.size + 1 ≠ w.heap.size; omega) (.string y)
  all_goals have hb6 := hbw.setCell (p := ⟨w.heap.size, 0, none⟩) (Nat.le_refl _) (.string y)
  all_goals have hx := three_set ho6 (.string y) (.int .i64 t) (.string ow)
  all_goals have hb := three_below hb6 (Nat.le_add_right _ 1) (.string y) (.int .i64 t) (.string ow)
  all_goals go_wp2
  all_goals cases ok with
    | true => exact ret_dol (w.heap.size + 1) rfl rfl rfl hx.cells3 (dol_some (by rw [HE.out]; rfl) rfl hb)
    | false => exact ret_dol (w.heap.size + 1) rfl rfl rfl hx.cells3 (dol_none (by rw [HE.out]; rfl) rfl hb)

set_option maxHeartbeats 4000000 in
theorem dol_ttl (o ow : ByteArray) (t : Int) (fs : List Z.Str) (B : Nat) (A : Option Addr) (c : Nat) (w : World) (hr : Reads w B A fs.length (fs.map sv)) (hB : B ≤ w.heap.size) (hlen : fs.length ≤ 67108864) (ho : o.size ≤ 67108864) (how : ow.size ≤ 67108864) (hsz : Hid (∀ l ∈ fs, l.length ≤ 67108864)) (b : Z.Str) (hfs : fs = [Z.ttlWord, b]) :
    Calls Tryz.prog 64 #[.agg #[.string o, .int .i64 t, .string ow], .slice A fs.length c] w (DollarOut w (Z.dollar ⟨lst o, t, lst ow⟩ fs)) := by
  have hl2 : fs.length = 2 := by rw [hfs]; rfl
  have q0 : ((fs.length : Int) != 2) = false := by simp; omega
  have hs0 := (Blk.new w 41 [.string o, .int .i64 t, .string ow]).alloc (.cells #[.string ⟨#[]⟩, .int .i64 0, .string ⟨#[]⟩] 41)
  have ho0 := Blk.new (w.alloc (.cells #[.string o, .int .i64 t, .string ow] 41)) 41 [.string ⟨#[]⟩, .int .i64 0, .string ⟨#[]⟩]
  rw [show (w.alloc (.cells #[.string o, .int .i64 t, .string ow] 41)).heap.size = w.heap.size + 1 by simp] at ho0
  have hb0 : Below w.heap.size w ((w.alloc (.cells #[.string o, .int .i64 t, .string ow] 41)).alloc (.cells #[.string ⟨#[]⟩, .int .i64 0, .string ⟨#[]⟩] 41)) := ((Below.refl _ _).alloc (Nat.le_refl _) _).alloc (by simp) _
  have hr0 := hr.below hb0 hB
  obtain ⟨ad, x, rfl, hab, hx, hxs, hcell⟩ := fld_at hr0 (k := 0) (by omega) hsz.out
  have hx1 : lst x = Z.ttlWord := by rw [hx, hfs]; rfl
  rw [show ad.add 0 = ad from rfl] at hcell
  obtain ⟨ad', z, hae, hab', hz, hzs, hcellz⟩ := fld_at hr0 (k := 1) (by omega) hsz.out
  obtain rfl : ad = ad' := Option.some.inj hae
  have hcellz' : ((w.alloc (.cells #[.string o, .int .i64 t, .string ow] 41)).alloc (.cells #[.string ⟨#[]⟩, .int .i64 0, .string ⟨#[]⟩] 41)).cell? ⟨ad.block, ad.off + 1, none⟩ = some (.string z) := hcellz
  have hz1 : lst z = b := by rw [hz, hfs]; rfl
  have hd : Z.dollar ⟨lst o, t, lst ow⟩ fs = (Z.num (lst z)).bind (fun n => if 0 ≤ n ∧ n ≤ 100000 then some ⟨lst o, n, lst ow⟩ else none) := by
    rw [hfs]
    unfold Z.dollar
    simp only [show ¬ Z.ttlWord = Z.originWord by decide, if_false, if_true, hz1]
  have q1 : (x.toList == [36, 79, 82, 73, 71, 73, 78]) = false := dword_false (by rw [hx1]; decide)
  have q2 : (x.toList == [36, 84, 84, 76]) = true := dword_true hx1
  clear hx hx1 hz hz1 hfs hae hcellz
  have qi : (1 : Int) < ((fs.length : Nat) : Int) := by omega
  go_enter Tryz.func64, Tryz.ntmps64
  go_upto_region 9 with fail
  obtain ⟨W, hW⟩ : ∃ W, (w.alloc (.cells #[.string o, .int .i64 t, .string ow] 41)).alloc (.cells #[.string ⟨#[]⟩, .int .i64 0, .string ⟨#[]⟩] 41) = W := ⟨_, rfl⟩
  rw [hW] at hs0 ho0 hb0 hr0 hcellz' hcell ⊢
  clear hW
  obtain ⟨p0, p1, p2⟩ := hs0.cells3
  obtain ⟨m0, m1, m2⟩ := hs0.free3
  obtain ⟨r0, r1, r2⟩ := ho0.cells3
  obtain ⟨f0, f1, f2⟩ := ho0.free3
  have hgo : ∀ n : Int, Below w.heap.size w ((((W.setCell ⟨w.heap.size, 1, none⟩ (.int .i64 n)).setCell ⟨w.heap.size + 1, 0, none⟩ (.string o)).setCell ⟨w.heap.size + 1, 1, none⟩ (.int .i64 n)).setCell ⟨w.heap.size + 1, 2, none⟩ (.string ow)) := fun n => three_below (hb0.setCell (p := ⟨w.heap.size, 1, none⟩) (Nat.le_refl _) (.int .i64 n)) (Nat.le_add_right _ 1) _ _ _
  have hgx : ∀ n : Int, Blk ((((W.setCell ⟨w.heap.size, 1, none⟩ (.int .i64 n)).setCell ⟨w.heap.size + 1, 0, none⟩ (.string o)).setCell ⟨w.heap.size + 1, 1, none⟩ (.int .i64 n)).setCell ⟨w.heap.size + 1, 2, none⟩ (.string ow)) (w.heap.size + 1) 41 [.string o, .int .i64 n, .string ow] := fun n => three_set (ho0.far (p := ⟨w.heap.size, 1, none⟩) (by show w.heap.size + 1 ≠ w.heap.size; omega) (.int .i64 n)) _ _ _
  cases hn : Z.num (lst z) with
  | none =>
    have HN := hid hn
    have HE := hid (show Z.dollar ⟨lst o, t, lst ow⟩ fs = none by rw [hd, hn]; rfl)
    clear hn hd
    go_wp2_with fail
    refine (l13Num_none z hzs HN _).mono ?_
    rintro e w2 ⟨rfl, rfl⟩
    go_wp2
    exact ret_dol (w.heap.size + 1) rfl rfl rfl (hgx 0).cells3 (dol_none HE.out rfl (hgo 0))
  | some n =>
    have HN := hid hn
    by_cases h0 : 0 ≤ n
    · by_cases h1 : n ≤ 100000
      · have HE := hid (show Z.dollar ⟨lst o, t, lst ow⟩ fs = some ⟨lst o, n, lst ow⟩ by rw [hd, hn]; simp [h0, h1])
        clear hn hd
        go_wp2_with fail
        refine (l13Num_some z hzs HN _).mono ?_
        rintro e w2 ⟨rfl, rfl⟩
        go_wp2
        exact ret_dol (w.heap.size + 1) rfl rfl rfl (hgx n).cells3 (dol_some HE.out rfl (hgo n))
      · have HE := hid (show Z.dollar ⟨lst o, t, lst ow⟩ fs = none by rw [hd, hn]; simp [h1])
        clear hn hd
        go_wp2_with fail
        refine (l13Num_some z hzs HN _).mono ?_
        rintro e w2 ⟨rfl, rfl⟩
        go_wp2
        exact ret_dol (w.heap.size + 1) rfl rfl rfl (hgx n).cells3 (dol_none HE.out (congrArg Value.bool (decide_eq_false (by omega))) (hgo n))
    · have HE := hid (show Z.dollar ⟨lst o, t, lst ow⟩ fs = none by rw [hd, hn]; simp [h0])
      clear hn hd
      go_wp2_with fail
      refine (l13Num_some z hzs HN _).mono ?_
      rintro e w2 ⟨rfl, rfl⟩
      go_wp2
      exact ret_dol (w.heap.size + 1) rfl rfl rfl (hgx n).cells3 (dol_none HE.out rfl (hgo n))

theorem l3Dollar_any (o ow : ByteArray) (t : Int) (fs : List Z.Str) (B : Nat) (A : Option Addr) (c : Nat) (w : World) (hr : Reads w B A fs.length (fs.map sv)) (hB : B ≤ w.heap.size) (hlen : fs.length ≤ 67108864) (ho : o.size ≤ 67108864) (how : ow.size ≤ 67108864) (hsz : Hid (∀ l ∈ fs, l.length ≤ 67108864)) :
    Calls Tryz.prog 64 #[.agg #[.string o, .int .i64 t, .string ow], .slice A fs.length c] w (DollarOut w (Z.dollar ⟨lst o, t, lst ow⟩ fs)) := by
  by_cases h2 : fs.length = 2
  · match fs, h2 with
    | [a, b], _ =>
      by_cases h1 : a = Z.originWord
      · subst h1
        exact dol_origin o ow t _ B A c w hr hB hlen ho how hsz b rfl
      · by_cases h3 : a = Z.ttlWord
        · subst h3
          exact dol_ttl o ow t _ B A c w hr hB hlen ho how hsz b rfl
        · exact dol_else o ow t _ B A c w hr hB hlen ho how hsz a b rfl h1 h3
  · exact dol_len o ow t fs B A c w hr hB hlen ho how hsz h2
end Go.Proofs.YtpgeeeamcncpkaaGreatDoor

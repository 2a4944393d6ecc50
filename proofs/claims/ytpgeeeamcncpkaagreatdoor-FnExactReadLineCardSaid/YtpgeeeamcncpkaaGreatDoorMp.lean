/- What the model's helpers of ReadLine for records and directives return. -/
import Derived.Test.YtpgeeeamcncpkaaGreatDoorMo
import Derived.Test.YtpgeeeamcncpkaaGreatDoorRe
import Derived.IntWalk
import Derived.Deep.RegionWith
namespace Go.Proofs.YtpgeeeamcncpkaaGreatDoor
open Go.RowKit
set_option maxRecDepth 100000
set_option linter.unusedVariables false
set_option linter.unusedSimpArgs false

namespace Z
def recK (o ow : Str) (T : Int) (fs : List Str) : Option Rec := match fs with
  | [] => none
  | f :: r => match kindOf f with
    | none => none
    | some k => readData ow T k r o
theorem record_ttl (s : St) (fs : List Str) : record s fs = recK s.origin s.owner (takeTtl s.ttl fs).1 (takeIn (takeTtl s.ttl fs).2) := by
  unfold record recK
  cases takeIn (takeTtl s.ttl fs).2 with
  | nil => rfl
  | cons f r => cases h : kindOf f <;> simp [h]
end Z
theorem mReadData_n (aN : ByteArray) (aT aK : Int) (rA : Option Addr) (rL rC : Nat) (rG rX : ByteArray) (fs : List Z.Str) (B : Nat) (A : Option Addr) (n c : Nat) (or : ByteArray) (w : World) (hr : Reads w B A n (fs.map sv)) (hB : B ≤ w.heap.size) (hcap : n ≤ c) (hlen : n ≤ 67108864) (hor : or.size ≤ 67108864) (hnm : aN.size ≤ 67108864) (hsz : Hid (∀ l ∈ fs, l.length ≤ 67108864)) (res : Option Z.Rec) (hres : Hid (Z.readData (lst aN) aT aK fs (lst or) = res)) (ok : Bool) (hok : Hid (res.isSome = ok)) :
    Calls Tryz.prog 16 #[.agg #[.string aN, .int .i64 aT, .int .i64 aK, .slice rA rL rC, .string rG, .string rX], .slice A n c, .string or] w fun e w' => ∃ (N : ByteArray) (T K : Int) (A : Option Addr) (L c : Nat) (x y : ByteArray) (ns : List Int), e = .returned (.tuple #[.agg #[.string N, .int .i64 T, .int .i64 K, .slice A L c, .string x, .string y], .bool ok]) ∧ w'.ownsRow w.heap.size 3 1 (.slice A L c) L (ns.map iv) ∧ Hid (res.getD noRec = ⟨lst N, T, K, ns, lst x, lst y⟩) ∧ L ≤ 7 ∧ Below w.heap.size w w' := by
  have hn : n = fs.length := by have := hr.1; simpa using this.symm
  subst hn
  have h := ReadData_any aN aT aK rA rL rC rG rX fs B A c or w hr hB hcap hlen hor hnm hsz
  unfold ParseOut at h
  rw [hres.out, hok.out] at h
  refine h.mono ?_
  rintro e w' ⟨N, T, K, A, L, c, x, y, ns, h1, h2, h3, h4, h5⟩
  exact ⟨N, T, K, A, L, c, x, y, ns, h1, h2, hid h3, h4, h5⟩
theorem list_two {α : Type} (l : List α) : l = [] ∨ ∃ f r, l = f :: r := by
  cases l with
  | nil => exact Or.inl rfl
  | cons f r => exact Or.inr ⟨f, r, rfl⟩
/-- The three blocks of the call. -/
structure RBox (w wc : World) (o ow : ByteArray) (t T : Int) : Prop where
  below : Below w.heap.size w wc
  state : Blk wc w.heap.size 41 [.string o, .int .i64 t, .string ow]
  out : Blk wc (w.heap.size + 1) 25 [.string ⟨#[]⟩, .int .i64 0, .int .i64 0, .slice none 0 0, .string ⟨#[]⟩, .string ⟨#[]⟩]
  recb : Blk wc (w.heap.size + 2) 25 [.string ow, .int .i64 T, .int .i64 0, .slice none 0 0, .string ⟨#[]⟩, .string ⟨#[]⟩]
theorem rbox_new (w : World) (o ow : ByteArray) (t : Int) : RBox w (((w.alloc (.cells #[.string o, .int .i64 t, .string ow] 41)).alloc (.cells #[.string ⟨#[]⟩, .int .i64 0, .int .i64 0, .slice none 0 0, .string ⟨#[]⟩, .string ⟨#[]⟩] 25)).alloc (.cells #[.string ow, .int .i64 t, .int .i64 0, .slice none 0 0, .string ⟨#[]⟩, .string ⟨#[]⟩] 25)) o ow t t := by
  refine ⟨(((Below.refl _ _).alloc (Nat.le_refl _) _).alloc (by simp) _).alloc (by simp; omega) _, ((Blk.new w 41 [.string o, .int .i64 t, .string ow]).alloc _).alloc _, ?_, ?_⟩
  · have h := Blk.new (w.alloc (.cells #[.string o, .int .i64 t, .string ow] 41)) 25 [.string ⟨#[]⟩, .int .i64 0, .int .i64 0, .slice none 0 0, .string ⟨#[]⟩, .string ⟨#[]⟩]
    rw [show (w.alloc (.cells #[.string o, .int .i64 t, .string ow] 41)).heap.size = w.heap.size + 1 by simp] at h
    exact h.alloc _
  · have h := Blk.new ((w.alloc (.cells #[.string o, .int .i64 t, .string ow] 41)).alloc (.cells #[.string ⟨#[]⟩, .int .i64 0, .int .i64 0, .slice none 0 0, .string ⟨#[]⟩, .string ⟨#[]⟩] 25)) 25 [.string ow, .int .i64 t, .int .i64 0, .slice none 0 0, .string ⟨#[]⟩, .string ⟨#[]⟩]
    rwa [show ((w.alloc (.cells #[.string o, .int .i64 t, .string ow] 41)).alloc (.cells #[.string ⟨#[]⟩, .int .i64 0, .int .i64 0, .slice none 0 0, .string ⟨#[]⟩, .string ⟨#[]⟩] 25)).heap.size = w.heap.size + 2 by simp] at h
theorem RBox.next {w wc wd : World} {o ow : ByteArray} {t T : Int} (h : RBox w wc o ow t T) (hb : Below wc.heap.size wc wd) : RBox w wd o ow t T :=
  ⟨h.below.trans (hb.mono h.below.size), h.state.next hb, h.out.next hb, h.recb.next hb⟩
theorem RBox.ttl {w wc : World} {o ow : ByteArray} {t T : Int} (h : RBox w wc o ow t T) (n : Int) : RBox w (wc.setCell ⟨w.heap.size + 2, 1, none⟩ (.int .i64 n)) o ow t n :=
  ⟨h.below.setCell (p := ⟨w.heap.size + 2, 1, none⟩) (by show w.heap.size ≤ w.heap.size + 2; omega) _, h.state.far (p := ⟨w.heap.size + 2, 1, none⟩) (by show w.heap.size ≠ w.heap.size + 2; omega) _, h.out.far (p := ⟨w.heap.size + 2, 1, none⟩) (by show w.heap.size + 1 ≠ w.heap.size + 2; omega) _, h.recb.put 1 _⟩
theorem ret_rec {a : Act} {W : World} {post : Ending → World → Prop} (b : Nat) {c0 c1 c2 c3 c4 c5 ok : Value} (hp : a.tmps[4]?.getD undef = .pointer (some ⟨b, 0, none⟩)) (hk : a.tmps[5]?.getD undef = ok) (hd : a.defers = [])
    (hB : W.cell? ⟨b, 0, none⟩ = some c0 ∧ W.cell? ⟨b, 1, none⟩ = some c1 ∧ W.cell? ⟨b, 2, none⟩ = some c2 ∧ W.cell? ⟨b, 3, none⟩ = some c3 ∧ W.cell? ⟨b, 4, none⟩ = some c4 ∧ W.cell? ⟨b, 5, none⟩ = some c5)
    (h : post (.returned (.tuple #[.agg #[c0, c1, c2, c3, c4, c5], ok])) W) : bodyPost Tryz.prog Tryz.f66 post Exit.ret a W := by
  obtain ⟨h0, h1, h2, h3, h4, h5⟩ := hB
  exact bodyPost_ret (by simp [results, Tryz.results66, go_sem, hp, hk, h0, h1, h2, h3, h4, h5]) hd h
theorem ret_rec2 {v : Value} {a b : Bool} (h : a = b) : Ending.returned (.tuple #[v, .bool b]) = .returned (.tuple #[v, .bool a]) := by rw [h]
theorem out_none {w w' : World} {a5 : Value} {res : Option Z.Rec} (hres : res = none) (h5 : a5 = .bool false) (hb : Below w.heap.size w w') : ParseOut res w (.returned (.tuple #[.agg #[.string ⟨#[]⟩, .int .i64 0, .int .i64 0, .slice none 0 0, .string ⟨#[]⟩, .string ⟨#[]⟩], a5])) w' := by
  subst hres h5
  exact ⟨⟨#[]⟩, 0, 0, none, 0, 0, ⟨#[]⟩, ⟨#[]⟩, [], rfl, World.ownsRow_nil _ _ _ _, rfl, Nat.zero_le _, hb⟩
theorem str_at {w : World} {B : Nat} {A : Option Addr} {fs : List Z.Str} {k : Nat} {f : Z.Str} {r : List Z.Str} (h : Reads w B A fs.length (fs.map sv)) (hk : fs.drop k = f :: r) (hsz : ∀ l ∈ fs, l.length ≤ 67108864) :
    k < fs.length ∧ ∃ ad s, A = some ad ∧ ad.block < B ∧ lst s = f ∧ s.size ≤ 67108864 ∧ w.cell? (ad.add k) = some (.string s) := by
  have hlt : k < fs.length := by
    apply Classical.byContradiction
    intro h
    rw [List.drop_eq_nil_of_le (by omega)] at hk
    cases hk
  obtain ⟨ad, s, e, hb, hs, hc⟩ := reads_str h hlt
  have hf : fs.getD k [] = f := by
    have h9 := List.drop_eq_getElem_cons hlt
    rw [hk] at h9
    injection h9 with h9 _
    simp [hlt, ← h9]
  refine ⟨hlt, ad, s, e, hb, hs.trans hf, ?_, hc⟩
  have h1 : f ∈ fs := List.mem_of_mem_drop (hk ▸ List.mem_cons_self)
  have h2 := hsz _ h1
  rw [← hf, ← hs, lst_length] at h2
  exact h2
theorem in_true {y : ByteArray} {l : Z.Str} (h : lst y = l) : (y.toList == l) = true := by rw [toList_lst, h]; simp
theorem in_false {y : ByteArray} {l : Z.Str} (h : lst y ≠ l) : (y.toList == l) = false := by rw [toList_lst]; simpa using h
set_option maxHeartbeats 8000000 in
theorem l3Record_any (o ow : ByteArray) (t : Int) (fs : List Z.Str) (B : Nat) (A : Option Addr) (c : Nat) (w : World) (hr : Reads w B A fs.length (fs.map sv)) (hB : B ≤ w.heap.size) (hcap : fs.length ≤ c) (hlen : fs.length ≤ 67108864) (ho : o.size ≤ 67108864) (how : ow.size ≤ 67108864) (hsz : Hid (∀ l ∈ fs, l.length ≤ 67108864)) :
    Calls Tryz.prog 66 #[.agg #[.string o, .int .i64 t, .string ow], .slice A fs.length c] w (ParseOut (Z.record ⟨lst o, t, lst ow⟩ fs) w) := by
  obtain ⟨res, hres⟩ : ∃ res, Z.record ⟨lst o, t, lst ow⟩ fs = res := ⟨_, rfl⟩
  rw [hres]
  have HRES := hid hres
  clear hres
  have hx0 := rbox_new w o ow t
  go_enter Tryz.func66, Tryz.ntmps66
  have s0 := ((Blk.new w 41 [.string o, .int .i64 t, .string ow]).alloc (.cells #[.string ⟨#[]⟩, .int .i64 0, .int .i64 0, .slice none 0 0, .string ⟨#[]⟩, .string ⟨#[]⟩] 25)).cell 1
  have s1 := ((Blk.new w 41 [.string o, .int .i64 t, .string ow]).alloc (.cells #[.string ⟨#[]⟩, .int .i64 0, .int .i64 0, .slice none 0 0, .string ⟨#[]⟩, .string ⟨#[]⟩] 25)).cell 2
  simp only [List.getElem?_cons_zero, List.getElem?_cons_succ] at s0 s1
  go_upto_if 20 with fail
  obtain ⟨W, hW⟩ : ∃ W, ((w.alloc (.cells #[.string o, .int .i64 t, .string ow] 41)).alloc (.cells #[.string ⟨#[]⟩, .int .i64 0, .int .i64 0, .slice none 0 0, .string ⟨#[]⟩, .string ⟨#[]⟩] 25)).alloc (.cells #[.string ow, .int .i64 t, .int .i64 0, .slice none 0 0, .string ⟨#[]⟩, .string ⟨#[]⟩] 25) = W := ⟨_, rfl⟩
  rw [hW] at hx0 ⊢
  clear hW s0 s1
  have hrW := hr.below hx0.below hB
  go_cut [7, 8, 9] from 20 (fun v7 v8 v9 wc => ∃ (k : Nat) (T : Int), v7 = .int .i64 k ∧ k ≤ fs.length ∧ RBox w wc o ow t T ∧ Hid (Z.record ⟨lst o, t, lst ow⟩ fs = Z.recK (lst o) (lst ow) T (Z.takeIn (fs.drop k))))
  case first =>
    obtain hfs | ⟨f, r, hfs⟩ := list_two fs
    · skip
      subst hfs
      have HE := hid (show Z.record ⟨lst o, t, lst ow⟩ [] = Z.recK (lst o) (lst ow) t (Z.takeIn (List.drop 0 [])) from rfl)
      go_wp2
      go_meet
      exact ⟨0, t, rfl, Nat.zero_le _, hx0, HE⟩
    · obtain ⟨hlt, ad, x, rfl, hab, hx, hxs, hcell⟩ := str_at (k := 0) (f := f) (r := r) hrW (by rw [hfs]; rfl) hsz.out
      rw [show ad.add 0 = ad from rfl] at hcell
      have q0 : 0 < ((fs.length : Nat) : Int) := by omega
      cases hn : Z.num f with
      | none =>
        have HN := hid (show Z.num (lst x) = none by rw [hx]; exact hn)
        have HE := hid (show Z.record ⟨lst o, t, lst ow⟩ fs = Z.recK (lst o) (lst ow) t (Z.takeIn (fs.drop 0)) by
          rw [Z.record_ttl, hfs, show Z.takeTtl t (f :: r) = (t, f :: r) by simp only [Z.takeTtl, hn]]; rfl)
        clear hn hx hfs
        go_wp2_with fail
        refine (l13Num_none x hxs HN _).mono ?_
        rintro e w2 ⟨rfl, rfl⟩
        go_wp2
        go_meet
        exact ⟨0, t, rfl, Nat.zero_le _, hx0, HE⟩
      | some n =>
        have HN := hid (show Z.num (lst x) = some n by rw [hx]; exact hn)
        have HE := hid (show Z.record ⟨lst o, t, lst ow⟩ fs = Z.recK (lst o) (lst ow) n (Z.takeIn (fs.drop 1)) by
          rw [Z.record_ttl, hfs, show Z.takeTtl t (f :: r) = (n, r) by simp only [Z.takeTtl, hn]]; rfl)
        clear hn hx hfs
        have hx2 := hx0.ttl n
        obtain ⟨p0, p1, p2, p3, p4, p5⟩ := hx0.recb.cells6
        obtain ⟨f0, f1, f2, f3, f4, f5⟩ := hx0.recb.free6
        go_wp2_with fail
        refine (l13Num_some x hxs HN _).mono ?_
        rintro e w2 ⟨rfl, rfl⟩
        go_wp2
        go_meet
        exact ⟨1, n, rfl, hlt, hx2, HE⟩
  case rest =>
  obtain ⟨k, T, rfl, hk, hx1, HE1⟩ := hcut
  rename World => w1
  clear hx0 hrW
  have hr1 := hr.below hx1.below hB
  go_upto_region 8 with fail
  go_cut [44] from 34 (fun v44 wc => ∃ b : Bool, v44 = .bool b ∧ wc = w1 ∧ (b = true → k < fs.length) ∧ Hid (Z.takeIn (fs.drop k) = if b then fs.drop (k + 1) else fs.drop k))
  case first =>
    obtain hd | ⟨f, r, hd⟩ := list_two (fs.drop k)
    · skip
      have q0 : ¬ (k : Int) < ((fs.length : Nat) : Int) := by have := List.drop_eq_nil_iff.1 hd; omega
      have HE := hid (show Z.takeIn (fs.drop k) = if false = true then fs.drop (k + 1) else fs.drop k by rw [hd]; rfl)
      clear hd
      go_wp2
      go_meet
      exact ⟨false, rfl, rfl, (fun h => by cases h), HE⟩
    · obtain ⟨hlt, ad, x, rfl, hab, hx, hxs, hcell⟩ := str_at hr1 hd hsz.out
      have q0 : (k : Int) < ((fs.length : Nat) : Int) := by omega
      have hd1 : fs.drop (k + 1) = r := by rw [← List.drop_drop, hd]; rfl
      by_cases hi : f = Z.inWord
      · have qi : (x.toList == [73, 78]) = true := in_true (hx.trans hi)
        have HE := hid (show Z.takeIn (fs.drop k) = if true = true then fs.drop (k + 1) else fs.drop k by rw [hd1, hd]; simp [Z.takeIn, hi])
        clear hi hd hd1 hx
        go_wp2
        go_meet
        exact ⟨true, rfl, rfl, fun _ => hlt, HE⟩
      · have qi : (x.toList == [73, 78]) = false := in_false (by rw [hx]; exact hi)
        have HE := hid (show Z.takeIn (fs.drop k) = if false = true then fs.drop (k + 1) else fs.drop k by rw [hd]; simp [Z.takeIn, hi])
        clear hi hd hd1 hx
        go_wp2
        go_meet
        exact ⟨false, rfl, rfl, (fun h => by cases h), HE⟩
  case rest =>
  obtain ⟨b, rfl, hw, hkb, HT1⟩ := hcut
  subst hw
  rename World => w1
  go_upto_if 44 with fail
  go_cut [7] from 45 (fun v7 wc => ∃ j : Nat, v7 = .int .i64 j ∧ wc = w1 ∧ j ≤ fs.length ∧ Hid (Z.takeIn (fs.drop k) = fs.drop j))
  case first =>
    cases b with
    | false =>
      go_wp2
      go_meet
      exact ⟨k, rfl, rfl, hk, HT1⟩
    | true =>
      have hk1 := hkb rfl
      go_wp2
      go_meet
      exact ⟨k + 1, rfl, rfl, hk1, HT1⟩
  case rest =>
  obtain ⟨j, rfl, hw, hj, HT2⟩ := hcut
  subst hw
  rename World => w1
  have HE2 := hid (show Z.record ⟨lst o, t, lst ow⟩ fs = Z.recK (lst o) (lst ow) T (fs.drop j) by rw [HE1.out, HT2.out])
  clear HE1 HT1 HT2 hkb hk
  obtain hd | ⟨f, r, hd⟩ := list_two (fs.drop j)
  · skip
    have q0 : ((fs.length : Nat) : Int) ≤ (j : Int) := by have := List.drop_eq_nil_iff.1 hd; omega
    have HN := hid (show res = none by rw [← HRES.out, HE2.out, hd]; rfl)
    clear hd
    obtain ⟨r0, r1, r2, r3, r4, r5⟩ := hx1.out.cells6
    obtain ⟨f0, f1, f2, f3, f4, f5⟩ := hx1.out.free6
    go_wp2
    exact ret_rec (w.heap.size + 1) rfl rfl rfl (six_set hx1.out _ _ _ _ _ _).cells6 (out_none HN.out rfl (six_below hx1.below (Nat.le_succ _) _ _ _ _ _ _))
  · obtain ⟨hlt, ad, x, rfl, hab, hx, hxs, hcell⟩ := str_at hr1 hd hsz.out
    have q0 : ¬ ((fs.length : Nat) : Int) ≤ (j : Int) := by omega
    have q1 : (j : Int) < ((fs.length : Nat) : Int) := by omega
    have hd1 : fs.drop (j + 1) = r := by rw [← List.drop_drop, hd]; rfl
    cases hkk : Z.kindOf f with
    | none =>
      have HK := hid (show Z.kindOf (lst x) = none by rw [hx]; exact hkk)
      have HN := hid (show res = none by rw [← HRES.out, HE2.out, hd]; simp [Z.recK, hkk])
      clear hkk hx hd hd1
      go_wp2_with fail
      refine (KindOf_none x HK _).mono ?_
      rintro e w2 ⟨rfl, hb2⟩
      have hx2 := hx1.next hb2
      obtain ⟨p0, p1, p2, p3, p4, p5⟩ := hx2.recb.cells6
      obtain ⟨g0, g1, g2, g3, g4, g5⟩ := hx2.recb.free6
      have hx3 := hx2.out.far (p := ⟨w.heap.size + 2, 2, none⟩) (by show w.heap.size + 1 ≠ w.heap.size + 2; omega) (.int .i64 0)
      have hb3 := hx2.below.setCell (p := ⟨w.heap.size + 2, 2, none⟩) (by show w.heap.size ≤ w.heap.size + 2; omega) (.int .i64 0)
      obtain ⟨r0, r1, r2, r3, r4, r5⟩ := hx3.cells6
      obtain ⟨f0, f1, f2, f3, f4, f5⟩ := hx3.free6
      go_wp2
      exact ret_rec (w.heap.size + 1) rfl rfl rfl (six_set hx3 _ _ _ _ _ _).cells6 (out_none HN.out rfl (six_below hb3 (Nat.le_succ _) _ _ _ _ _ _))
    | some kk =>
      obtain ⟨ok, hok⟩ : ∃ ok, res.isSome = ok := ⟨_, rfl⟩
      have HOK := hid hok
      have HK := hid (show Z.kindOf (lst x) = some kk by rw [hx]; exact hkk)
      have HN := hid (show Z.readData (lst ow) T kk (fs.drop (j + 1)) (lst o) = res by rw [← HRES.out, HE2.out, hd, hd1]; simp [Z.recK, hkk])
      have HSZ := hid (show ∀ l ∈ fs.drop (j + 1), l.length ≤ 67108864 from fun l hl => hsz.out l (List.mem_of_mem_drop hl))
      clear hkk hx hd hd1 hok
      go_wp2_with fail
      refine (KindOf_some x HK _).mono ?_
      rintro e w2 ⟨rfl, hb2⟩
      have hx2 := hx1.next hb2
      obtain ⟨p0, p1, p2, p3, p4, p5⟩ := hx2.recb.cells6
      obtain ⟨g0, g1, g2, g3, g4, g5⟩ := hx2.recb.free6
      have ho3 := hx2.out.far (p := ⟨w.heap.size + 2, 2, none⟩) (by show w.heap.size + 1 ≠ w.heap.size + 2; omega) (.int .i64 kk)
      have hs3 := hx2.state.far (p := ⟨w.heap.size + 2, 2, none⟩) (by show w.heap.size ≠ w.heap.size + 2; omega) (.int .i64 kk)
      have hr3 := hx2.recb.put 2 (.int .i64 kk)
      have hb3 := hx2.below.setCell (p := ⟨w.heap.size + 2, 2, none⟩) (by show w.heap.size ≤ w.heap.size + 2; omega) (.int .i64 kk)
      go_upto_region 16 with fail
      obtain ⟨W3, hW3⟩ : ∃ W3, w2.setCell ⟨w.heap.size + 2, 2, none⟩ (.int .i64 kk) = W3 := ⟨_, rfl⟩
      rw [hW3] at ho3 hs3 hr3 hb3 ⊢
      clear hW3 p0 p1 p2 p3 p4 p5 g0 g1 g2 g3 g4 g5 hx1 hx2 hb2 hr1
      have hrc := (hr.below hb3 hB).cut (k := j + 1) hcap
      rw [← List.map_drop] at hrc
      have hBW := Nat.le_trans hB hb3.size
      obtain ⟨p0, p1, p2, p3, p4, p5⟩ := hr3.cells6
      have s0 := hs3.cell 0
      simp only [List.getElem?_cons_zero] at s0
      by_cases hc : c = j + 1
      · rw [if_pos hc] at hrc
        subst hc
        have u1 : 0 ≤ 0 := Nat.le_refl _
        have u2 : 0 ≤ 67108864 := Nat.zero_le _
        rw [show fs.length - (j + 1) = 0 by omega] at hrc
        have q2 : (j : Int) + 1 ≤ ((fs.length : Nat) : Int) := by omega
        have q3 : ((fs.length : Nat) : Int) ≤ ((j + 1 : Nat) : Int) := by omega
        have q4 : 0 ≤ (j : Int) + 1 := by omega
        have u3 := hs3.lt
        have u4 := hb3.size
        have hrd := hrc.drew
        have ho3d := ho3.drew
        have hb3d := below_drewN hb3 1
        have e1 : IntKind.i64.wrap ((j : Int) + 1) = (j : Int) + 1 := IntWalk.i64_in _ (by omega)
        have e2 : ((j : Int) + 1).toNat = j + 1 := by omega
        go_wp2_with fail
        go_region_with (first
          | (go_at_call 16; refine (mReadData_n ow T kk none 0 0 ⟨#[]⟩ ⟨#[]⟩ (fs.drop (j + 1)) B _ _ _ o _ hrd hBW u1 u2 ho how HSZ res HN ok HOK).mono ?_; rintro e w5 ⟨N, T5, K5, A5, L5, C5, x5, y5, ns, rfl, hown, hq, hl, hb5⟩; have ho5 := ho3d.next hb5; obtain ⟨r0, r1, r2, r3, r4, r5⟩ := ho5.cells6; obtain ⟨f0, f1, f2, f3, f4, f5⟩ := ho5.free6))
        all_goals clear e1 e2
        all_goals have hown5 := own_mono (six_own hown (g := w.heap.size + 1) ho3d.lt (.string N) (.int .i64 T5) (.int .i64 K5) (.slice A5 L5 C5) (.string x5) (.string y5)) hb3d.size
        all_goals have hb6 := six_below (hb3d.trans (hb5.mono hb3.size)) (Nat.le_succ _) (.string N) (.int .i64 T5) (.int .i64 K5) (.slice A5 L5 C5) (.string x5) (.string y5)
        all_goals have ho6 := six_set ho5 (.string N) (.int .i64 T5) (.int .i64 K5) (.slice A5 L5 C5) (.string x5) (.string y5)
        all_goals go_wp2
        all_goals exact ret_rec (w.heap.size + 1) rfl rfl rfl ho6.cells6 ⟨N, T5, K5, A5, L5, C5, x5, y5, ns, ret_rec2 HOK.out, hown5, hq.out, hl, hb6⟩
      · rw [if_neg hc] at hrc
        skip
        have u1 : fs.length - (j + 1) ≤ c - (j + 1) := by omega
        have u2 : fs.length - (j + 1) ≤ 67108864 := by omega
        have q2 : (j : Int) + 1 ≤ ((fs.length : Nat) : Int) := by omega
        have q3 : ((fs.length : Nat) : Int) ≤ ((c : Nat) : Int) := by omega
        have q4 : 0 ≤ (j : Int) + 1 := by omega
        have u3 := hs3.lt
        have u4 := hb3.size
        have hrd := hrc.drew
        have ho3d := ho3.drew
        have hb3d := below_drewN hb3 1
        have e1 : IntKind.i64.wrap ((j : Int) + 1) = (j : Int) + 1 := IntWalk.i64_in _ (by omega)
        have e2 : ((j : Int) + 1).toNat = j + 1 := by omega
        go_wp2_with fail
        go_region_with (first
          | (go_at_call 16; refine (mReadData_n ow T kk none 0 0 ⟨#[]⟩ ⟨#[]⟩ (fs.drop (j + 1)) B _ _ _ o _ hrd hBW u1 u2 ho how HSZ res HN ok HOK).mono ?_; rintro e w5 ⟨N, T5, K5, A5, L5, C5, x5, y5, ns, rfl, hown, hq, hl, hb5⟩; have ho5 := ho3d.next hb5; obtain ⟨r0, r1, r2, r3, r4, r5⟩ := ho5.cells6; obtain ⟨f0, f1, f2, f3, f4, f5⟩ := ho5.free6))
        all_goals clear e1 e2
        all_goals have hown5 := own_mono (six_own hown (g := w.heap.size + 1) ho3d.lt (.string N) (.int .i64 T5) (.int .i64 K5) (.slice A5 L5 C5) (.string x5) (.string y5)) hb3d.size
        all_goals have hb6 := six_below (hb3d.trans (hb5.mono hb3.size)) (Nat.le_succ _) (.string N) (.int .i64 T5) (.int .i64 K5) (.slice A5 L5 C5) (.string x5) (.string y5)
        all_goals have ho6 := six_set ho5 (.string N) (.int .i64 T5) (.int .i64 K5) (.slice A5 L5 C5) (.string x5) (.string y5)
        all_goals go_wp2
        all_goals exact ret_rec (w.heap.size + 1) rfl rfl rfl ho6.cells6 ⟨N, T5, K5, A5, L5, C5, x5, y5, ns, ret_rec2 HOK.out, hown5, hq.out, hl, hb6⟩
end Go.Proofs.YtpgeeeamcncpkaaGreatDoor

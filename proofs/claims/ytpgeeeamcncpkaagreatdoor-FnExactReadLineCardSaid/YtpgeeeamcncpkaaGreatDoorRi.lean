/- What ReadData of the program returns, for every record, list of fields and origin. -/
import Derived.Test.YtpgeeeamcncpkaaGreatDoorMl
import Derived.Test.YtpgeeeamcncpkaaGreatDoorPd
namespace Go.Proofs.YtpgeeeamcncpkaaGreatDoor
open Go.RowKit
set_option maxRecDepth 100000
set_option linter.unusedVariables false
set_option linter.unusedSimpArgs false

theorem iNameValid_v (s : ByteArray) (hs : s.size ≤ 67108864) (v : Bool) (hv : Hid (Z.valid (lst s) = v)) (w : World) :
    Calls Tryz.prog 49 #[.string s] w fun e w' => e = .returned (.bool v) ∧ Below w.heap.size w w' := by
  have h := iNameValid_any s (by unfold maxLen; omega) w
  rw [hv.out] at h
  exact h
theorem iReadName_v (t o : ByteArray) (ht : t.size ≤ 67108864) (ho : o.size ≤ 67108864) (x : ByteArray) (b : Bool) (hx : Hid (bs ((Z.readName (lst t) (lst o)).getD []) = x)) (hb : Hid ((Z.readName (lst t) (lst o)).isSome = b)) (w : World) :
    Calls Tryz.prog 48 #[.string t, .string o] w fun e w' => e = .returned (.tuple #[.string x, .bool b]) ∧ Below w.heap.size w w' := by
  have h := iReadName_any t o (by unfold maxLen; omega) (by unfold maxLen; omega) w
  unfold rOpt at h
  rw [hx.out, hb.out] at h
  exact h
theorem own_far {w : World} {base : Nat} {e : TypeId} {size : Nat} {v : Value} {n : Nat} {xs : List Value} (h : w.ownsRow base e size v n xs) {p : Addr} (hne : v.ownBlock ≠ some p.block) (u : Value) : (w.setCell p u).ownsRow base e size v n xs :=
  h.kept (row := some p.block) ⟨rfl, rfl, rfl, by simp [World.setCell], fun k hk hr => Below.heap_setCell w p u k (fun e => hr (by rw [e]))⟩ (Or.inr hne)
theorem empty_of {x : ByteArray} {b : Bool} (h : decide (lst x = []) = b) : x.toList.isEmpty = b := by
  rw [toList_lst, ← h]
  cases lst x <;> rfl
theorem ret_ird {a : Act} {W : World} {post : Ending → World → Prop} (b : Nat) {c0 c1 c2 c3 c4 c5 ok : Value} (hp : a.tmps[6]?.getD undef = .pointer (some ⟨b, 0, none⟩)) (hk : a.tmps[7]?.getD undef = ok) (hd : a.defers = [])
    (h0 : W.cell? ⟨b, 0, none⟩ = some c0) (h1 : W.cell? ⟨b, 1, none⟩ = some c1) (h2 : W.cell? ⟨b, 2, none⟩ = some c2) (h3 : W.cell? ⟨b, 3, none⟩ = some c3) (h4 : W.cell? ⟨b, 4, none⟩ = some c4) (h5 : W.cell? ⟨b, 5, none⟩ = some c5)
    (h : post (.returned (.tuple #[.agg #[c0, c1, c2, c3, c4, c5], ok])) W) : bodyPost Tryz.prog Tryz.f15 post Exit.ret a W :=
  bodyPost_ret (by simp [results, Tryz.results15, go_sem, hp, hk, h0, h1, h2, h3, h4, h5]) hd h

set_option maxHeartbeats 4000000 in
theorem ird_fields (aN : ByteArray) (aT aK : Int) (rA : Option Addr) (rL rC : Nat) (rG rX : ByteArray) (fs : List Z.Str) (B : Nat) (A : Option Addr) (c : Nat) (or : ByteArray) (w : World) (hm : MX w) (hr : Reads w B A fs.length (fs.map sv)) (hB : B ≤ w.heap.size) (hcap : fs.length ≤ c) (hlen : fs.length ≤ 67108864) (hor : or.size ≤ 67108863) (hnm : aN.size ≤ 67108863) (hsz : Hid (∀ l ∈ fs, l.length ≤ 67108863)) (ho : Z.readFlds aK fs = none) :
    Calls Tryz.prog 15 #[.agg #[.string aN, .int .i64 aT, .int .i64 aK, .slice rA rL rC, .string rG, .string rX], .slice A fs.length c, .string or] w (ParseOut (none) w) := by
  have hx0 : Blk ((w.alloc (.cells #[.string aN, .int .i64 aT, .int .i64 aK, .slice rA rL rC, .string rG, .string rX] 25)).alloc (.cells #[.string ⟨#[]⟩, .int .i64 0, .int .i64 0, .slice none 0 0, .string ⟨#[]⟩, .string ⟨#[]⟩] 25)) w.heap.size 25 [.string aN, .int .i64 aT, .int .i64 aK, .slice rA rL rC, .string rG, .string rX] := (Blk.new w 25 [.string aN, .int .i64 aT, .int .i64 aK, .slice rA rL rC, .string rG, .string rX]).alloc _
  have hz0 : Blk ((w.alloc (.cells #[.string aN, .int .i64 aT, .int .i64 aK, .slice rA rL rC, .string rG, .string rX] 25)).alloc (.cells #[.string ⟨#[]⟩, .int .i64 0, .int .i64 0, .slice none 0 0, .string ⟨#[]⟩, .string ⟨#[]⟩] 25)) (w.heap.size + 1) 25 [.string ⟨#[]⟩, .int .i64 0, .int .i64 0, .slice none 0 0, .string ⟨#[]⟩, .string ⟨#[]⟩] := by
    have h := Blk.new (w.alloc (.cells #[.string aN, .int .i64 aT, .int .i64 aK, .slice rA rL rC, .string rG, .string rX] 25)) 25 [.string ⟨#[]⟩, .int .i64 0, .int .i64 0, .slice none 0 0, .string ⟨#[]⟩, .string ⟨#[]⟩]
    rwa [show (w.alloc (.cells #[.string aN, .int .i64 aT, .int .i64 aK, .slice rA rL rC, .string rG, .string rX] 25)).heap.size = w.heap.size + 1 by simp] at h
  have hb0 : Below w.heap.size w ((w.alloc (.cells #[.string aN, .int .i64 aT, .int .i64 aK, .slice rA rL rC, .string rG, .string rX] 25)).alloc (.cells #[.string ⟨#[]⟩, .int .i64 0, .int .i64 0, .slice none 0 0, .string ⟨#[]⟩, .string ⟨#[]⟩] 25)) := ((Below.refl _ _).alloc (Nat.le_refl _) _).alloc (by simp) _
  obtain ⟨p0, p1, p2, p3, p4, p5⟩ := hx0.cells6
  have hr0 := hr.below hb0 hB
  have HO := hid ho
  clear ho
  have HOK : Hid ((none : Option (List Int × Z.Str × Z.Str)).isSome = false) := hid rfl
  go_enter Tryz.func15, Tryz.ntmps15
  go_wp2_with fail
  refine (readFields_eq 67108863 aN aT aK fs B A c _ (hm.below hb0) hr0 (by simp; omega) hcap hlen (by omega) hsz none HO false HOK).mono ?_
  rintro e w4 ⟨A4, L4, q4, x4, y4, ns4, rfl, hown4, hpo, hL4, hxs4, hys4, hb4⟩
  have hs4 := hb4.size
  simp only [World.alloc, Array.size_push] at hs4
  have hz4 := (hz0.next hb4).alloc (.cells #[.string aN, .int .i64 aT, .int .i64 aK, .slice A4 L4 q4, .string x4, .string y4] 25)
  have hu4 : Blk (w4.alloc (.cells #[.string aN, .int .i64 aT, .int .i64 aK, .slice A4 L4 q4, .string x4, .string y4] 25)) w4.heap.size 25 [.string aN, .int .i64 aT, .int .i64 aK, .slice A4 L4 q4, .string x4, .string y4] := Blk.new w4 25 [.string aN, .int .i64 aT, .int .i64 aK, .slice A4 L4 q4, .string x4, .string y4]
  have hbw4 : Below w.heap.size w (w4.alloc (.cells #[.string aN, .int .i64 aT, .int .i64 aK, .slice A4 L4 q4, .string x4, .string y4] 25)) := (hb0.trans (hb4.mono (by simp; omega))).alloc (by omega) _
  have hnb : (Value.slice A4 L4 q4).ownBlock ≠ some w4.heap.size := fun e => absurd (hown4.lt _ e).2 (Nat.lt_irrefl _)
  have hown5 := own_mono hown4 (show w.heap.size + 2 ≤ _ by simp)
  replace hown5 := hown5.alloc (.cells #[.string aN, .int .i64 aT, .int .i64 aK, .slice A4 L4 q4, .string x4, .string y4] 25)
  clear hx0 hz0 hb0 hr0 hb4 hown4 p0 p1 p2 p3 p4 p5
  obtain ⟨p0, p1, p2, p3, p4, p5⟩ := hu4.cells6
  obtain ⟨g0, g1, g2, g3, g4, g5⟩ := hu4.free6
  obtain ⟨r0, r1, r2, r3, r4, r5⟩ := hz4.cells6
  obtain ⟨f0, f1, f2, f3, f4, f5⟩ := hz4.free6
  have HBW := hid hbw4
  clear hbw4
  go_wp2
  refine ret_ird (w.heap.size + 1) rfl rfl rfl (c0 := .string ⟨#[]⟩) (c1 := .int .i64 0) (c2 := .int .i64 0) (c3 := .slice none 0 0) (c4 := .string ⟨#[]⟩) (c5 := .string ⟨#[]⟩) (by go_simp) (by go_simp) (by go_simp) (by go_simp) (by go_simp) (by go_simp) ⟨⟨#[]⟩, 0, 0, none, 0, 0, ⟨#[]⟩, ⟨#[]⟩, [], rfl, World.ownsRow_nil _ _ _ _, rfl, Nat.zero_le _, six_below HBW.out (Nat.le_succ _) _ _ _ _ _ _⟩

set_option maxHeartbeats 4000000 in
theorem ird_bare_origin (aN : ByteArray) (aT aK : Int) (rA : Option Addr) (rL rC : Nat) (rG rX : ByteArray) (fs : List Z.Str) (B : Nat) (A : Option Addr) (c : Nat) (or : ByteArray) (w : World) (hm : MX w) (hr : Reads w B A fs.length (fs.map sv)) (hB : B ≤ w.heap.size) (hcap : fs.length ≤ c) (hlen : fs.length ≤ 67108864) (hor : or.size ≤ 67108863) (hnm : aN.size ≤ 67108863) (hsz : Hid (∀ l ∈ fs, l.length ≤ 67108863)) (ns : List Int) (t x : Z.Str) (ho : Z.readFlds aK fs = some (ns, t, x)) (htt : t = []) (hv : Z.valid (lst or) = false) :
    Calls Tryz.prog 15 #[.agg #[.string aN, .int .i64 aT, .int .i64 aK, .slice rA rL rC, .string rG, .string rX], .slice A fs.length c, .string or] w (ParseOut (none) w) := by
  have hx0 : Blk ((w.alloc (.cells #[.string aN, .int .i64 aT, .int .i64 aK, .slice rA rL rC, .string rG, .string rX] 25)).alloc (.cells #[.string ⟨#[]⟩, .int .i64 0, .int .i64 0, .slice none 0 0, .string ⟨#[]⟩, .string ⟨#[]⟩] 25)) w.heap.size 25 [.string aN, .int .i64 aT, .int .i64 aK, .slice rA rL rC, .string rG, .string rX] := (Blk.new w 25 [.string aN, .int .i64 aT, .int .i64 aK, .slice rA rL rC, .string rG, .string rX]).alloc _
  have hz0 : Blk ((w.alloc (.cells #[.string aN, .int .i64 aT, .int .i64 aK, .slice rA rL rC, .string rG, .string rX] 25)).alloc (.cells #[.string ⟨#[]⟩, .int .i64 0, .int .i64 0, .slice none 0 0, .string ⟨#[]⟩, .string ⟨#[]⟩] 25)) (w.heap.size + 1) 25 [.string ⟨#[]⟩, .int .i64 0, .int .i64 0, .slice none 0 0, .string ⟨#[]⟩, .string ⟨#[]⟩] := by
    have h := Blk.new (w.alloc (.cells #[.string aN, .int .i64 aT, .int .i64 aK, .slice rA rL rC, .string rG, .string rX] 25)) 25 [.string ⟨#[]⟩, .int .i64 0, .int .i64 0, .slice none 0 0, .string ⟨#[]⟩, .string ⟨#[]⟩]
    rwa [show (w.alloc (.cells #[.string aN, .int .i64 aT, .int .i64 aK, .slice rA rL rC, .string rG, .string rX] 25)).heap.size = w.heap.size + 1 by simp] at h
  have hb0 : Below w.heap.size w ((w.alloc (.cells #[.string aN, .int .i64 aT, .int .i64 aK, .slice rA rL rC, .string rG, .string rX] 25)).alloc (.cells #[.string ⟨#[]⟩, .int .i64 0, .int .i64 0, .slice none 0 0, .string ⟨#[]⟩, .string ⟨#[]⟩] 25)) := ((Below.refl _ _).alloc (Nat.le_refl _) _).alloc (by simp) _
  obtain ⟨p0, p1, p2, p3, p4, p5⟩ := hx0.cells6
  have hr0 := hr.below hb0 hB
  have HO := hid ho
  clear ho
  have HOK : Hid ((some (ns, t, x) : Option (List Int × Z.Str × Z.Str)).isSome = true) := hid rfl
  have HT := hid htt
  have HVO := hid hv
  clear htt hv
  go_enter Tryz.func15, Tryz.ntmps15
  go_wp2_with fail
  refine (readFields_eq 67108863 aN aT aK fs B A c _ (hm.below hb0) hr0 (by simp; omega) hcap hlen (by omega) hsz _ HO _ HOK).mono ?_
  rintro e w4 ⟨A4, L4, q4, x4, y4, ns4, rfl, hown4, hpo, hL4, hxs4, hys4, hb4⟩
  have hs4 := hb4.size
  simp only [World.alloc, Array.size_push] at hs4
  have hz4 := (hz0.next hb4).alloc (.cells #[.string aN, .int .i64 aT, .int .i64 aK, .slice A4 L4 q4, .string x4, .string y4] 25)
  have hu4 : Blk (w4.alloc (.cells #[.string aN, .int .i64 aT, .int .i64 aK, .slice A4 L4 q4, .string x4, .string y4] 25)) w4.heap.size 25 [.string aN, .int .i64 aT, .int .i64 aK, .slice A4 L4 q4, .string x4, .string y4] := Blk.new w4 25 [.string aN, .int .i64 aT, .int .i64 aK, .slice A4 L4 q4, .string x4, .string y4]
  have hbw4 : Below w.heap.size w (w4.alloc (.cells #[.string aN, .int .i64 aT, .int .i64 aK, .slice A4 L4 q4, .string x4, .string y4] 25)) := (hb0.trans (hb4.mono (by simp; omega))).alloc (by omega) _
  have hnb : (Value.slice A4 L4 q4).ownBlock ≠ some w4.heap.size := fun e => absurd (hown4.lt _ e).2 (Nat.lt_irrefl _)
  have hown5 := own_mono hown4 (show w.heap.size + 2 ≤ _ by simp)
  replace hown5 := hown5.alloc (.cells #[.string aN, .int .i64 aT, .int .i64 aK, .slice A4 L4 q4, .string x4, .string y4] 25)
  clear hx0 hz0 hb0 hr0 hb4 hown4 p0 p1 p2 p3 p4 p5
  obtain ⟨p0, p1, p2, p3, p4, p5⟩ := hu4.cells6
  obtain ⟨g0, g1, g2, g3, g4, g5⟩ := hu4.free6
  have hpo2 := hpo.out _ rfl
  simp only [Prod.mk.injEq] at hpo2
  obtain ⟨rfl, rfl, rfl⟩ := hpo2
  clear hpo
  have ht : lst x4 = [] := HT.out
  have hxe := empty_of (x := x4) (decide_eq_true ht)
  clear ht
  have hown4 := hown5
  clear hown5
  go_wp2_with fail
  refine (iNameValid_v or (by omega) false HVO _).mono ?_
  rintro e w6 ⟨rfl, hb6⟩
  have hs6 := hb6.size
  simp only [World.setCell, Array.size_modify, World.alloc, Array.size_push] at hs6
  have hz6 := hz4.next hb6
  have hu6 := hu4.next hb6
  have hown6 := own_next hown4 hb6
  have hbw6 := hbw4.trans (hb6.mono (by simp; omega))
  clear hz4 hu4 hbw4 hown4 hb6 p0 p1 p2 p3 p4 p5 g0 g1 g2 g3 g4 g5
  obtain ⟨p0, p1, p2, p3, p4, p5⟩ := hu6.cells6
  obtain ⟨g0, g1, g2, g3, g4, g5⟩ := hu6.free6
  obtain ⟨r0, r1, r2, r3, r4, r5⟩ := hz6.cells6
  obtain ⟨f0, f1, f2, f3, f4, f5⟩ := hz6.free6
  have HBW := hid hbw6
  clear hbw6
  go_wp2
  refine ret_ird (w.heap.size + 1) rfl rfl rfl (c0 := .string ⟨#[]⟩) (c1 := .int .i64 0) (c2 := .int .i64 0) (c3 := .slice none 0 0) (c4 := .string ⟨#[]⟩) (c5 := .string ⟨#[]⟩) (by go_simp) (by go_simp) (by go_simp) (by go_simp) (by go_simp) (by go_simp) ⟨⟨#[]⟩, 0, 0, none, 0, 0, ⟨#[]⟩, ⟨#[]⟩, [], rfl, World.ownsRow_nil _ _ _ _, rfl, Nat.zero_le _, six_below HBW.out (Nat.le_succ _) _ _ _ _ _ _⟩

set_option maxHeartbeats 4000000 in
theorem ird_bare_bad (aN : ByteArray) (aT aK : Int) (rA : Option Addr) (rL rC : Nat) (rG rX : ByteArray) (fs : List Z.Str) (B : Nat) (A : Option Addr) (c : Nat) (or : ByteArray) (w : World) (hm : MX w) (hr : Reads w B A fs.length (fs.map sv)) (hB : B ≤ w.heap.size) (hcap : fs.length ≤ c) (hlen : fs.length ≤ 67108864) (hor : or.size ≤ 67108863) (hnm : aN.size ≤ 67108863) (hsz : Hid (∀ l ∈ fs, l.length ≤ 67108863)) (ns : List Int) (t x : Z.Str) (ho : Z.readFlds aK fs = some (ns, t, x)) (htt : t = []) (hv : Z.valid (lst or) = true) (hrv : Z.recValid (⟨lst aN, aT, aK, ns, t, x⟩ : Z.Rec) = false) :
    Calls Tryz.prog 15 #[.agg #[.string aN, .int .i64 aT, .int .i64 aK, .slice rA rL rC, .string rG, .string rX], .slice A fs.length c, .string or] w (ParseOut (none) w) := by
  have hx0 : Blk ((w.alloc (.cells #[.string aN, .int .i64 aT, .int .i64 aK, .slice rA rL rC, .string rG, .string rX] 25)).alloc (.cells #[.string ⟨#[]⟩, .int .i64 0, .int .i64 0, .slice none 0 0, .string ⟨#[]⟩, .string ⟨#[]⟩] 25)) w.heap.size 25 [.string aN, .int .i64 aT, .int .i64 aK, .slice rA rL rC, .string rG, .string rX] := (Blk.new w 25 [.string aN, .int .i64 aT, .int .i64 aK, .slice rA rL rC, .string rG, .string rX]).alloc _
  have hz0 : Blk ((w.alloc (.cells #[.string aN, .int .i64 aT, .int .i64 aK, .slice rA rL rC, .string rG, .string rX] 25)).alloc (.cells #[.string ⟨#[]⟩, .int .i64 0, .int .i64 0, .slice none 0 0, .string ⟨#[]⟩, .string ⟨#[]⟩] 25)) (w.heap.size + 1) 25 [.string ⟨#[]⟩, .int .i64 0, .int .i64 0, .slice none 0 0, .string ⟨#[]⟩, .string ⟨#[]⟩] := by
    have h := Blk.new (w.alloc (.cells #[.string aN, .int .i64 aT, .int .i64 aK, .slice rA rL rC, .string rG, .string rX] 25)) 25 [.string ⟨#[]⟩, .int .i64 0, .int .i64 0, .slice none 0 0, .string ⟨#[]⟩, .string ⟨#[]⟩]
    rwa [show (w.alloc (.cells #[.string aN, .int .i64 aT, .int .i64 aK, .slice rA rL rC, .string rG, .string rX] 25)).heap.size = w.heap.size + 1 by simp] at h
  have hb0 : Below w.heap.size w ((w.alloc (.cells #[.string aN, .int .i64 aT, .int .i64 aK, .slice rA rL rC, .string rG, .string rX] 25)).alloc (.cells #[.string ⟨#[]⟩, .int .i64 0, .int .i64 0, .slice none 0 0, .string ⟨#[]⟩, .string ⟨#[]⟩] 25)) := ((Below.refl _ _).alloc (Nat.le_refl _) _).alloc (by simp) _
  obtain ⟨p0, p1, p2, p3, p4, p5⟩ := hx0.cells6
  have hr0 := hr.below hb0 hB
  have HO := hid ho
  clear ho
  have HOK : Hid ((some (ns, t, x) : Option (List Int × Z.Str × Z.Str)).isSome = true) := hid rfl
  have HT := hid htt
  have HVO := hid hv
  have HV := hid hrv
  clear htt hv hrv
  go_enter Tryz.func15, Tryz.ntmps15
  go_wp2_with fail
  refine (readFields_eq 67108863 aN aT aK fs B A c _ (hm.below hb0) hr0 (by simp; omega) hcap hlen (by omega) hsz _ HO _ HOK).mono ?_
  rintro e w4 ⟨A4, L4, q4, x4, y4, ns4, rfl, hown4, hpo, hL4, hxs4, hys4, hb4⟩
  have hs4 := hb4.size
  simp only [World.alloc, Array.size_push] at hs4
  have hz4 := (hz0.next hb4).alloc (.cells #[.string aN, .int .i64 aT, .int .i64 aK, .slice A4 L4 q4, .string x4, .string y4] 25)
  have hu4 : Blk (w4.alloc (.cells #[.string aN, .int .i64 aT, .int .i64 aK, .slice A4 L4 q4, .string x4, .string y4] 25)) w4.heap.size 25 [.string aN, .int .i64 aT, .int .i64 aK, .slice A4 L4 q4, .string x4, .string y4] := Blk.new w4 25 [.string aN, .int .i64 aT, .int .i64 aK, .slice A4 L4 q4, .string x4, .string y4]
  have hbw4 : Below w.heap.size w (w4.alloc (.cells #[.string aN, .int .i64 aT, .int .i64 aK, .slice A4 L4 q4, .string x4, .string y4] 25)) := (hb0.trans (hb4.mono (by simp; omega))).alloc (by omega) _
  have hnb : (Value.slice A4 L4 q4).ownBlock ≠ some w4.heap.size := fun e => absurd (hown4.lt _ e).2 (Nat.lt_irrefl _)
  have hown5 := own_mono hown4 (show w.heap.size + 2 ≤ _ by simp)
  replace hown5 := hown5.alloc (.cells #[.string aN, .int .i64 aT, .int .i64 aK, .slice A4 L4 q4, .string x4, .string y4] 25)
  clear hx0 hz0 hb0 hr0 hb4 hown4 p0 p1 p2 p3 p4 p5
  obtain ⟨p0, p1, p2, p3, p4, p5⟩ := hu4.cells6
  obtain ⟨g0, g1, g2, g3, g4, g5⟩ := hu4.free6
  have hpo2 := hpo.out _ rfl
  simp only [Prod.mk.injEq] at hpo2
  obtain ⟨rfl, rfl, rfl⟩ := hpo2
  clear hpo
  have ht : lst x4 = [] := HT.out
  have hxe := empty_of (x := x4) (decide_eq_true ht)
  clear ht
  have hown4 := hown5
  clear hown5
  go_wp2_with fail
  refine (iNameValid_v or (by omega) true HVO _).mono ?_
  rintro e w6 ⟨rfl, hb6⟩
  have hs6 := hb6.size
  simp only [World.setCell, Array.size_modify, World.alloc, Array.size_push] at hs6
  have hz6 := hz4.next hb6
  have hu6 := hu4.next hb6
  have hown6 := own_next hown4 hb6
  have hbw6 := hbw4.trans (hb6.mono (by simp; omega))
  clear hz4 hu4 hbw4 hown4 hb6 p0 p1 p2 p3 p4 p5 g0 g1 g2 g3 g4 g5
  obtain ⟨p0, p1, p2, p3, p4, p5⟩ := hu6.cells6
  obtain ⟨g0, g1, g2, g3, g4, g5⟩ := hu6.free6
  have hrd6 := Reads.of_own hown6
  go_wp2_with fail
  refine (iRecordValid_v aN aT aK A4 L4 q4 x4 y4 ns _ _ hrd6 (Nat.le_refl _) (by omega) (by omega) (by omega) (by omega) false HV).mono ?_
  rintro e w8 ⟨rfl, hb8⟩
  have hs8 := hb8.size
  have hz8 := hz6.next hb8
  have hu8 := hu6.next hb8
  have hown8 := own_next hown6 hb8
  have hbw8 := hbw6.trans (hb8.mono (by omega))
  clear hz6 hu6 hbw6 hown6 hb8 hrd6 p0 p1 p2 p3 p4 p5 g0 g1 g2 g3 g4 g5
  obtain ⟨p0, p1, p2, p3, p4, p5⟩ := hu8.cells6
  obtain ⟨r0, r1, r2, r3, r4, r5⟩ := hz8.cells6
  obtain ⟨f0, f1, f2, f3, f4, f5⟩ := hz8.free6
  have HBW := hid hbw8
  clear hbw8
  go_wp2
  refine ret_ird (w.heap.size + 1) rfl rfl rfl (c0 := .string ⟨#[]⟩) (c1 := .int .i64 0) (c2 := .int .i64 0) (c3 := .slice none 0 0) (c4 := .string ⟨#[]⟩) (c5 := .string ⟨#[]⟩) (by go_simp) (by go_simp) (by go_simp) (by go_simp) (by go_simp) (by go_simp) ⟨⟨#[]⟩, 0, 0, none, 0, 0, ⟨#[]⟩, ⟨#[]⟩, [], rfl, World.ownsRow_nil _ _ _ _, rfl, Nat.zero_le _, six_below HBW.out (Nat.le_succ _) _ _ _ _ _ _⟩

set_option maxHeartbeats 4000000 in
theorem ird_bare_good (aN : ByteArray) (aT aK : Int) (rA : Option Addr) (rL rC : Nat) (rG rX : ByteArray) (fs : List Z.Str) (B : Nat) (A : Option Addr) (c : Nat) (or : ByteArray) (w : World) (hm : MX w) (hr : Reads w B A fs.length (fs.map sv)) (hB : B ≤ w.heap.size) (hcap : fs.length ≤ c) (hlen : fs.length ≤ 67108864) (hor : or.size ≤ 67108863) (hnm : aN.size ≤ 67108863) (hsz : Hid (∀ l ∈ fs, l.length ≤ 67108863)) (ns : List Int) (t x : Z.Str) (ho : Z.readFlds aK fs = some (ns, t, x)) (htt : t = []) (hv : Z.valid (lst or) = true) (hrv : Z.recValid (⟨lst aN, aT, aK, ns, t, x⟩ : Z.Rec) = true) :
    Calls Tryz.prog 15 #[.agg #[.string aN, .int .i64 aT, .int .i64 aK, .slice rA rL rC, .string rG, .string rX], .slice A fs.length c, .string or] w (ParseOut (some ⟨lst aN, aT, aK, ns, t, x⟩) w) := by
  have hx0 : Blk ((w.alloc (.cells #[.string aN, .int .i64 aT, .int .i64 aK, .slice rA rL rC, .string rG, .string rX] 25)).alloc (.cells #[.string ⟨#[]⟩, .int .i64 0, .int .i64 0, .slice none 0 0, .string ⟨#[]⟩, .string ⟨#[]⟩] 25)) w.heap.size 25 [.string aN, .int .i64 aT, .int .i64 aK, .slice rA rL rC, .string rG, .string rX] := (Blk.new w 25 [.string aN, .int .i64 aT, .int .i64 aK, .slice rA rL rC, .string rG, .string rX]).alloc _
  have hz0 : Blk ((w.alloc (.cells #[.string aN, .int .i64 aT, .int .i64 aK, .slice rA rL rC, .string rG, .string rX] 25)).alloc (.cells #[.string ⟨#[]⟩, .int .i64 0, .int .i64 0, .slice none 0 0, .string ⟨#[]⟩, .string ⟨#[]⟩] 25)) (w.heap.size + 1) 25 [.string ⟨#[]⟩, .int .i64 0, .int .i64 0, .slice none 0 0, .string ⟨#[]⟩, .string ⟨#[]⟩] := by
    have h := Blk.new (w.alloc (.cells #[.string aN, .int .i64 aT, .int .i64 aK, .slice rA rL rC, .string rG, .string rX] 25)) 25 [.string ⟨#[]⟩, .int .i64 0, .int .i64 0, .slice none 0 0, .string ⟨#[]⟩, .string ⟨#[]⟩]
    rwa [show (w.alloc (.cells #[.string aN, .int .i64 aT, .int .i64 aK, .slice rA rL rC, .string rG, .string rX] 25)).heap.size = w.heap.size + 1 by simp] at h
  have hb0 : Below w.heap.size w ((w.alloc (.cells #[.string aN, .int .i64 aT, .int .i64 aK, .slice rA rL rC, .string rG, .string rX] 25)).alloc (.cells #[.string ⟨#[]⟩, .int .i64 0, .int .i64 0, .slice none 0 0, .string ⟨#[]⟩, .string ⟨#[]⟩] 25)) := ((Below.refl _ _).alloc (Nat.le_refl _) _).alloc (by simp) _
  obtain ⟨p0, p1, p2, p3, p4, p5⟩ := hx0.cells6
  have hr0 := hr.below hb0 hB
  have HO := hid ho
  clear ho
  have HOK : Hid ((some (ns, t, x) : Option (List Int × Z.Str × Z.Str)).isSome = true) := hid rfl
  have HT := hid htt
  have HVO := hid hv
  have HV := hid hrv
  have hv5 := (Z.valid_sizes hrv).2.1
  dsimp only at hv5
  clear htt hv hrv
  go_enter Tryz.func15, Tryz.ntmps15
  go_wp2_with fail
  refine (readFields_eq 67108863 aN aT aK fs B A c _ (hm.below hb0) hr0 (by simp; omega) hcap hlen (by omega) hsz _ HO _ HOK).mono ?_
  rintro e w4 ⟨A4, L4, q4, x4, y4, ns4, rfl, hown4, hpo, hL4, hxs4, hys4, hb4⟩
  have hs4 := hb4.size
  simp only [World.alloc, Array.size_push] at hs4
  have hz4 := (hz0.next hb4).alloc (.cells #[.string aN, .int .i64 aT, .int .i64 aK, .slice A4 L4 q4, .string x4, .string y4] 25)
  have hu4 : Blk (w4.alloc (.cells #[.string aN, .int .i64 aT, .int .i64 aK, .slice A4 L4 q4, .string x4, .string y4] 25)) w4.heap.size 25 [.string aN, .int .i64 aT, .int .i64 aK, .slice A4 L4 q4, .string x4, .string y4] := Blk.new w4 25 [.string aN, .int .i64 aT, .int .i64 aK, .slice A4 L4 q4, .string x4, .string y4]
  have hbw4 : Below w.heap.size w (w4.alloc (.cells #[.string aN, .int .i64 aT, .int .i64 aK, .slice A4 L4 q4, .string x4, .string y4] 25)) := (hb0.trans (hb4.mono (by simp; omega))).alloc (by omega) _
  have hnb : (Value.slice A4 L4 q4).ownBlock ≠ some w4.heap.size := fun e => absurd (hown4.lt _ e).2 (Nat.lt_irrefl _)
  have hown5 := own_mono hown4 (show w.heap.size + 2 ≤ _ by simp)
  replace hown5 := hown5.alloc (.cells #[.string aN, .int .i64 aT, .int .i64 aK, .slice A4 L4 q4, .string x4, .string y4] 25)
  clear hx0 hz0 hb0 hr0 hb4 hown4 p0 p1 p2 p3 p4 p5
  obtain ⟨p0, p1, p2, p3, p4, p5⟩ := hu4.cells6
  obtain ⟨g0, g1, g2, g3, g4, g5⟩ := hu4.free6
  have hpo2 := hpo.out _ rfl
  simp only [Prod.mk.injEq] at hpo2
  obtain ⟨rfl, rfl, rfl⟩ := hpo2
  clear hpo
  have ht : lst x4 = [] := HT.out
  have hxe := empty_of (x := x4) (decide_eq_true ht)
  clear ht
  have hown4 := hown5
  clear hown5
  go_wp2_with fail
  refine (iNameValid_v or (by omega) true HVO _).mono ?_
  rintro e w6 ⟨rfl, hb6⟩
  have hs6 := hb6.size
  simp only [World.setCell, Array.size_modify, World.alloc, Array.size_push] at hs6
  have hz6 := hz4.next hb6
  have hu6 := hu4.next hb6
  have hown6 := own_next hown4 hb6
  have hbw6 := hbw4.trans (hb6.mono (by simp; omega))
  clear hz4 hu4 hbw4 hown4 hb6 p0 p1 p2 p3 p4 p5 g0 g1 g2 g3 g4 g5
  obtain ⟨p0, p1, p2, p3, p4, p5⟩ := hu6.cells6
  obtain ⟨g0, g1, g2, g3, g4, g5⟩ := hu6.free6
  have hrd6 := Reads.of_own hown6
  go_wp2_with fail
  refine (iRecordValid_v aN aT aK A4 L4 q4 x4 y4 ns _ _ hrd6 (Nat.le_refl _) (by omega) (by omega) (by omega) (by omega) true HV).mono ?_
  rintro e w8 ⟨rfl, hb8⟩
  have hs8 := hb8.size
  have hz8 := hz6.next hb8
  have hu8 := hu6.next hb8
  have hown8 := own_next hown6 hb8
  have hbw8 := hbw6.trans (hb8.mono (by omega))
  clear hz6 hu6 hbw6 hown6 hb8 hrd6 p0 p1 p2 p3 p4 p5 g0 g1 g2 g3 g4 g5
  obtain ⟨p0, p1, p2, p3, p4, p5⟩ := hu8.cells6
  obtain ⟨r0, r1, r2, r3, r4, r5⟩ := hz8.cells6
  obtain ⟨f0, f1, f2, f3, f4, f5⟩ := hz8.free6
  have HBW := hid hbw8
  have hL7 := reads_len (Reads.of_own hown8)
  have HL7 := hid (show L4 ≤ 7 by have := hv5; omega)
  clear hbw8 hL7
  go_wp2
  refine ret_ird (w.heap.size + 1) rfl rfl rfl (c0 := .string aN) (c1 := .int .i64 aT) (c2 := .int .i64 aK) (c3 := .slice A4 L4 q4) (c4 := .string x4) (c5 := .string y4) (by go_simp) (by go_simp) (by go_simp) (by go_simp) (by go_simp) (by go_simp) ⟨aN, aT, aK, A4, L4, q4, x4, y4, ns, rfl, own_mono (six_own hown8 (Nat.lt_succ_self _) _ _ _ _ _ _) (by omega), rfl, HL7.out, six_below HBW.out (Nat.le_succ _) _ _ _ _ _ _⟩

set_option maxHeartbeats 4000000 in
theorem ird_name_none (aN : ByteArray) (aT aK : Int) (rA : Option Addr) (rL rC : Nat) (rG rX : ByteArray) (fs : List Z.Str) (B : Nat) (A : Option Addr) (c : Nat) (or : ByteArray) (w : World) (hm : MX w) (hr : Reads w B A fs.length (fs.map sv)) (hB : B ≤ w.heap.size) (hcap : fs.length ≤ c) (hlen : fs.length ≤ 67108864) (hor : or.size ≤ 67108863) (hnm : aN.size ≤ 67108863) (hsz : Hid (∀ l ∈ fs, l.length ≤ 67108863)) (ns : List Int) (t x : Z.Str) (ho : Z.readFlds aK fs = some (ns, t, x)) (htt : t ≠ []) (hv : Z.readName t (lst or) = none) :
    Calls Tryz.prog 15 #[.agg #[.string aN, .int .i64 aT, .int .i64 aK, .slice rA rL rC, .string rG, .string rX], .slice A fs.length c, .string or] w (ParseOut (none) w) := by
  have hx0 : Blk ((w.alloc (.cells #[.string aN, .int .i64 aT, .int .i64 aK, .slice rA rL rC, .string rG, .string rX] 25)).alloc (.cells #[.string ⟨#[]⟩, .int .i64 0, .int .i64 0, .slice none 0 0, .string ⟨#[]⟩, .string ⟨#[]⟩] 25)) w.heap.size 25 [.string aN, .int .i64 aT, .int .i64 aK, .slice rA rL rC, .string rG, .string rX] := (Blk.new w 25 [.string aN, .int .i64 aT, .int .i64 aK, .slice rA rL rC, .string rG, .string rX]).alloc _
  have hz0 : Blk ((w.alloc (.cells #[.string aN, .int .i64 aT, .int .i64 aK, .slice rA rL rC, .string rG, .string rX] 25)).alloc (.cells #[.string ⟨#[]⟩, .int .i64 0, .int .i64 0, .slice none 0 0, .string ⟨#[]⟩, .string ⟨#[]⟩] 25)) (w.heap.size + 1) 25 [.string ⟨#[]⟩, .int .i64 0, .int .i64 0, .slice none 0 0, .string ⟨#[]⟩, .string ⟨#[]⟩] := by
    have h := Blk.new (w.alloc (.cells #[.string aN, .int .i64 aT, .int .i64 aK, .slice rA rL rC, .string rG, .string rX] 25)) 25 [.string ⟨#[]⟩, .int .i64 0, .int .i64 0, .slice none 0 0, .string ⟨#[]⟩, .string ⟨#[]⟩]
    rwa [show (w.alloc (.cells #[.string aN, .int .i64 aT, .int .i64 aK, .slice rA rL rC, .string rG, .string rX] 25)).heap.size = w.heap.size + 1 by simp] at h
  have hb0 : Below w.heap.size w ((w.alloc (.cells #[.string aN, .int .i64 aT, .int .i64 aK, .slice rA rL rC, .string rG, .string rX] 25)).alloc (.cells #[.string ⟨#[]⟩, .int .i64 0, .int .i64 0, .slice none 0 0, .string ⟨#[]⟩, .string ⟨#[]⟩] 25)) := ((Below.refl _ _).alloc (Nat.le_refl _) _).alloc (by simp) _
  obtain ⟨p0, p1, p2, p3, p4, p5⟩ := hx0.cells6
  have hr0 := hr.below hb0 hB
  have HO := hid ho
  clear ho
  have HOK : Hid ((some (ns, t, x) : Option (List Int × Z.Str × Z.Str)).isSome = true) := hid rfl
  have HT := hid htt
  have HVO := hid hv
  clear htt hv
  go_enter Tryz.func15, Tryz.ntmps15
  go_wp2_with fail
  refine (readFields_eq 67108863 aN aT aK fs B A c _ (hm.below hb0) hr0 (by simp; omega) hcap hlen (by omega) hsz _ HO _ HOK).mono ?_
  rintro e w4 ⟨A4, L4, q4, x4, y4, ns4, rfl, hown4, hpo, hL4, hxs4, hys4, hb4⟩
  have hs4 := hb4.size
  simp only [World.alloc, Array.size_push] at hs4
  have hz4 := (hz0.next hb4).alloc (.cells #[.string aN, .int .i64 aT, .int .i64 aK, .slice A4 L4 q4, .string x4, .string y4] 25)
  have hu4 : Blk (w4.alloc (.cells #[.string aN, .int .i64 aT, .int .i64 aK, .slice A4 L4 q4, .string x4, .string y4] 25)) w4.heap.size 25 [.string aN, .int .i64 aT, .int .i64 aK, .slice A4 L4 q4, .string x4, .string y4] := Blk.new w4 25 [.string aN, .int .i64 aT, .int .i64 aK, .slice A4 L4 q4, .string x4, .string y4]
  have hbw4 : Below w.heap.size w (w4.alloc (.cells #[.string aN, .int .i64 aT, .int .i64 aK, .slice A4 L4 q4, .string x4, .string y4] 25)) := (hb0.trans (hb4.mono (by simp; omega))).alloc (by omega) _
  have hnb : (Value.slice A4 L4 q4).ownBlock ≠ some w4.heap.size := fun e => absurd (hown4.lt _ e).2 (Nat.lt_irrefl _)
  have hown5 := own_mono hown4 (show w.heap.size + 2 ≤ _ by simp)
  replace hown5 := hown5.alloc (.cells #[.string aN, .int .i64 aT, .int .i64 aK, .slice A4 L4 q4, .string x4, .string y4] 25)
  clear hx0 hz0 hb0 hr0 hb4 hown4 p0 p1 p2 p3 p4 p5
  obtain ⟨p0, p1, p2, p3, p4, p5⟩ := hu4.cells6
  obtain ⟨g0, g1, g2, g3, g4, g5⟩ := hu4.free6
  have hpo2 := hpo.out _ rfl
  simp only [Prod.mk.injEq] at hpo2
  obtain ⟨rfl, rfl, rfl⟩ := hpo2
  clear hpo
  have ht : lst x4 ≠ [] := HT.out
  have hxe := empty_of (x := x4) (decide_eq_false ht)
  clear ht
  have HY : Hid (bs ((Z.readName (lst x4) (lst or)).getD []) = ⟨#[]⟩) := hid (by rw [HVO.out]; rfl)
  have HYB : Hid ((Z.readName (lst x4) (lst or)).isSome = false) := hid (by rw [HVO.out]; rfl)
  go_wp2_with fail
  refine (iReadName_v x4 or (by omega) (by omega) ⟨#[]⟩ false HY HYB _).mono ?_
  rintro e w5 ⟨rfl, hb5⟩
  have hs5 := hb5.size
  simp only [World.alloc, Array.size_push] at hs5
  have hz5' := hz4.next hb5
  have hu5' := hu4.next hb5
  have hown5' := own_next hown5 hb5
  have hbw5' := hbw4.trans (hb5.mono (by simp; omega))
  have hz5 := hz5'.far (p := ⟨w4.heap.size, 4, none⟩) (by show w.heap.size + 1 ≠ w4.heap.size; omega) (.string ⟨#[]⟩)
  have hu5 := hu5'.put 4 (.string ⟨#[]⟩)
  have hbw5 := hbw5'.setCell (p := ⟨w4.heap.size, 4, none⟩) (by show w.heap.size ≤ w4.heap.size; omega) (.string ⟨#[]⟩)
  have hown9 := own_far hown5' (p := ⟨w4.heap.size, 4, none⟩) hnb (.string ⟨#[]⟩)
  clear hz4 hu4 hbw4 hb5 hown5 p0 p1 p2 p3 p4 p5 g0 g1 g2 g3 g4 g5
  obtain ⟨p0, p1, p2, p3, p4, p5⟩ := hu5'.cells6
  obtain ⟨g0, g1, g2, g3, g4, g5⟩ := hu5'.free6
  obtain ⟨r0, r1, r2, r3, r4, r5⟩ := hz5'.cells6
  obtain ⟨f0, f1, f2, f3, f4, f5⟩ := hz5'.free6
  have HBW := hid hbw5
  clear hbw5 hbw5'
  go_wp2
  refine ret_ird (w.heap.size + 1) rfl rfl rfl (c0 := .string ⟨#[]⟩) (c1 := .int .i64 0) (c2 := .int .i64 0) (c3 := .slice none 0 0) (c4 := .string ⟨#[]⟩) (c5 := .string ⟨#[]⟩) (by go_simp) (by go_simp) (by go_simp) (by go_simp) (by go_simp) (by go_simp) ⟨⟨#[]⟩, 0, 0, none, 0, 0, ⟨#[]⟩, ⟨#[]⟩, [], rfl, World.ownsRow_nil _ _ _ _, rfl, Nat.zero_le _, six_below HBW.out (Nat.le_succ _) _ _ _ _ _ _⟩

set_option maxHeartbeats 4000000 in
theorem ird_name_bad (aN : ByteArray) (aT aK : Int) (rA : Option Addr) (rL rC : Nat) (rG rX : ByteArray) (fs : List Z.Str) (B : Nat) (A : Option Addr) (c : Nat) (or : ByteArray) (w : World) (hm : MX w) (hr : Reads w B A fs.length (fs.map sv)) (hB : B ≤ w.heap.size) (hcap : fs.length ≤ c) (hlen : fs.length ≤ 67108864) (hor : or.size ≤ 67108863) (hnm : aN.size ≤ 67108863) (hsz : Hid (∀ l ∈ fs, l.length ≤ 67108863)) (ns : List Int) (t x : Z.Str) (ho : Z.readFlds aK fs = some (ns, t, x)) (htt : t ≠ []) (z4 : ByteArray) (hn : Z.readName t (lst or) = some (lst z4)) (hrv : Z.recValid (⟨lst aN, aT, aK, ns, lst z4, x⟩ : Z.Rec) = false) :
    Calls Tryz.prog 15 #[.agg #[.string aN, .int .i64 aT, .int .i64 aK, .slice rA rL rC, .string rG, .string rX], .slice A fs.length c, .string or] w (ParseOut (none) w) := by
  have hx0 : Blk ((w.alloc (.cells #[.string aN, .int .i64 aT, .int .i64 aK, .slice rA rL rC, .string rG, .string rX] 25)).alloc (.cells #[.string ⟨#[]⟩, .int .i64 0, .int .i64 0, .slice none 0 0, .string ⟨#[]⟩, .string ⟨#[]⟩] 25)) w.heap.size 25 [.string aN, .int .i64 aT, .int .i64 aK, .slice rA rL rC, .string rG, .string rX] := (Blk.new w 25 [.string aN, .int .i64 aT, .int .i64 aK, .slice rA rL rC, .string rG, .string rX]).alloc _
  have hz0 : Blk ((w.alloc (.cells #[.string aN, .int .i64 aT, .int .i64 aK, .slice rA rL rC, .string rG, .string rX] 25)).alloc (.cells #[.string ⟨#[]⟩, .int .i64 0, .int .i64 0, .slice none 0 0, .string ⟨#[]⟩, .string ⟨#[]⟩] 25)) (w.heap.size + 1) 25 [.string ⟨#[]⟩, .int .i64 0, .int .i64 0, .slice none 0 0, .string ⟨#[]⟩, .string ⟨#[]⟩] := by
    have h := Blk.new (w.alloc (.cells #[.string aN, .int .i64 aT, .int .i64 aK, .slice rA rL rC, .string rG, .string rX] 25)) 25 [.string ⟨#[]⟩, .int .i64 0, .int .i64 0, .slice none 0 0, .string ⟨#[]⟩, .string ⟨#[]⟩]
    rwa [show (w.alloc (.cells #[.string aN, .int .i64 aT, .int .i64 aK, .slice rA rL rC, .string rG, .string rX] 25)).heap.size = w.heap.size + 1 by simp] at h
  have hb0 : Below w.heap.size w ((w.alloc (.cells #[.string aN, .int .i64 aT, .int .i64 aK, .slice rA rL rC, .string rG, .string rX] 25)).alloc (.cells #[.string ⟨#[]⟩, .int .i64 0, .int .i64 0, .slice none 0 0, .string ⟨#[]⟩, .string ⟨#[]⟩] 25)) := ((Below.refl _ _).alloc (Nat.le_refl _) _).alloc (by simp) _
  obtain ⟨p0, p1, p2, p3, p4, p5⟩ := hx0.cells6
  have hr0 := hr.below hb0 hB
  have HO := hid ho
  clear ho
  have HOK : Hid ((some (ns, t, x) : Option (List Int × Z.Str × Z.Str)).isSome = true) := hid rfl
  have HT := hid htt
  have HVO := hid (Z.readName_some hn).1
  have hzs : z4.size ≤ 60 := by have h := (Z.valid_len (Z.readName_some hn).2.2.2.2).2; rwa [lst_length] at h
  have HN := hid hn
  have HV := hid hrv
  clear htt hn hrv
  go_enter Tryz.func15, Tryz.ntmps15
  go_wp2_with fail
  refine (readFields_eq 67108863 aN aT aK fs B A c _ (hm.below hb0) hr0 (by simp; omega) hcap hlen (by omega) hsz _ HO _ HOK).mono ?_
  rintro e w4 ⟨A4, L4, q4, x4, y4, ns4, rfl, hown4, hpo, hL4, hxs4, hys4, hb4⟩
  have hs4 := hb4.size
  simp only [World.alloc, Array.size_push] at hs4
  have hz4 := (hz0.next hb4).alloc (.cells #[.string aN, .int .i64 aT, .int .i64 aK, .slice A4 L4 q4, .string x4, .string y4] 25)
  have hu4 : Blk (w4.alloc (.cells #[.string aN, .int .i64 aT, .int .i64 aK, .slice A4 L4 q4, .string x4, .string y4] 25)) w4.heap.size 25 [.string aN, .int .i64 aT, .int .i64 aK, .slice A4 L4 q4, .string x4, .string y4] := Blk.new w4 25 [.string aN, .int .i64 aT, .int .i64 aK, .slice A4 L4 q4, .string x4, .string y4]
  have hbw4 : Below w.heap.size w (w4.alloc (.cells #[.string aN, .int .i64 aT, .int .i64 aK, .slice A4 L4 q4, .string x4, .string y4] 25)) := (hb0.trans (hb4.mono (by simp; omega))).alloc (by omega) _
  have hnb : (Value.slice A4 L4 q4).ownBlock ≠ some w4.heap.size := fun e => absurd (hown4.lt _ e).2 (Nat.lt_irrefl _)
  have hown5 := own_mono hown4 (show w.heap.size + 2 ≤ _ by simp)
  replace hown5 := hown5.alloc (.cells #[.string aN, .int .i64 aT, .int .i64 aK, .slice A4 L4 q4, .string x4, .string y4] 25)
  clear hx0 hz0 hb0 hr0 hb4 hown4 p0 p1 p2 p3 p4 p5
  obtain ⟨p0, p1, p2, p3, p4, p5⟩ := hu4.cells6
  obtain ⟨g0, g1, g2, g3, g4, g5⟩ := hu4.free6
  have hpo2 := hpo.out _ rfl
  simp only [Prod.mk.injEq] at hpo2
  obtain ⟨rfl, rfl, rfl⟩ := hpo2
  clear hpo
  have ht : lst x4 ≠ [] := HT.out
  have hxe := empty_of (x := x4) (decide_eq_false ht)
  clear ht
  have HY : Hid (bs ((Z.readName (lst x4) (lst or)).getD []) = z4) := hid (by rw [HN.out]; exact bs_lst z4)
  have HYB : Hid ((Z.readName (lst x4) (lst or)).isSome = true) := hid (by rw [HN.out]; rfl)
  go_wp2_with fail
  refine (iReadName_v x4 or (by omega) (by omega) z4 true HY HYB _).mono ?_
  rintro e w5 ⟨rfl, hb5⟩
  have hs5 := hb5.size
  simp only [World.alloc, Array.size_push] at hs5
  have hz5' := hz4.next hb5
  have hu5' := hu4.next hb5
  have hown5' := own_next hown5 hb5
  have hbw5' := hbw4.trans (hb5.mono (by simp; omega))
  have hz5 := hz5'.far (p := ⟨w4.heap.size, 4, none⟩) (by show w.heap.size + 1 ≠ w4.heap.size; omega) (.string z4)
  have hu5 := hu5'.put 4 (.string z4)
  have hbw5 := hbw5'.setCell (p := ⟨w4.heap.size, 4, none⟩) (by show w.heap.size ≤ w4.heap.size; omega) (.string z4)
  have hown9 := own_far hown5' (p := ⟨w4.heap.size, 4, none⟩) hnb (.string z4)
  clear hz4 hu4 hbw4 hb5 hown5 p0 p1 p2 p3 p4 p5 g0 g1 g2 g3 g4 g5
  obtain ⟨p0, p1, p2, p3, p4, p5⟩ := hu5'.cells6
  obtain ⟨g0, g1, g2, g3, g4, g5⟩ := hu5'.free6
  have hown5 := hown9
  clear hown9 hz5' hu5' hown5' hbw5'
  go_wp2_with fail
  refine (iNameValid_v or (by omega) true HVO _).mono ?_
  rintro e w6 ⟨rfl, hb6⟩
  have hs6 := hb6.size
  simp only [World.setCell, Array.size_modify, World.alloc, Array.size_push] at hs6
  have hz6 := hz5.next hb6
  have hu6 := hu5.next hb6
  have hown6 := own_next hown5 hb6
  have hbw6 := hbw5.trans (hb6.mono (by simp; omega))
  clear hz5 hu5 hbw5 hown5 hb6 p0 p1 p2 p3 p4 p5 g0 g1 g2 g3 g4 g5
  obtain ⟨p0, p1, p2, p3, p4, p5⟩ := hu6.cells6
  obtain ⟨g0, g1, g2, g3, g4, g5⟩ := hu6.free6
  have hrd6 := Reads.of_own hown6
  go_wp2_with fail
  refine (iRecordValid_v aN aT aK A4 L4 q4 z4 y4 ns _ _ hrd6 (Nat.le_refl _) (by omega) (by omega) (by omega) (by omega) false HV).mono ?_
  rintro e w8 ⟨rfl, hb8⟩
  have hs8 := hb8.size
  have hz8 := hz6.next hb8
  have hu8 := hu6.next hb8
  have hown8 := own_next hown6 hb8
  have hbw8 := hbw6.trans (hb8.mono (by omega))
  clear hz6 hu6 hbw6 hown6 hb8 hrd6 p0 p1 p2 p3 p4 p5 g0 g1 g2 g3 g4 g5
  obtain ⟨p0, p1, p2, p3, p4, p5⟩ := hu8.cells6
  obtain ⟨r0, r1, r2, r3, r4, r5⟩ := hz8.cells6
  obtain ⟨f0, f1, f2, f3, f4, f5⟩ := hz8.free6
  have HBW := hid hbw8
  clear hbw8
  go_wp2
  refine ret_ird (w.heap.size + 1) rfl rfl rfl (c0 := .string ⟨#[]⟩) (c1 := .int .i64 0) (c2 := .int .i64 0) (c3 := .slice none 0 0) (c4 := .string ⟨#[]⟩) (c5 := .string ⟨#[]⟩) (by go_simp) (by go_simp) (by go_simp) (by go_simp) (by go_simp) (by go_simp) ⟨⟨#[]⟩, 0, 0, none, 0, 0, ⟨#[]⟩, ⟨#[]⟩, [], rfl, World.ownsRow_nil _ _ _ _, rfl, Nat.zero_le _, six_below HBW.out (Nat.le_succ _) _ _ _ _ _ _⟩

set_option maxHeartbeats 4000000 in
theorem ird_name_good (aN : ByteArray) (aT aK : Int) (rA : Option Addr) (rL rC : Nat) (rG rX : ByteArray) (fs : List Z.Str) (B : Nat) (A : Option Addr) (c : Nat) (or : ByteArray) (w : World) (hm : MX w) (hr : Reads w B A fs.length (fs.map sv)) (hB : B ≤ w.heap.size) (hcap : fs.length ≤ c) (hlen : fs.length ≤ 67108864) (hor : or.size ≤ 67108863) (hnm : aN.size ≤ 67108863) (hsz : Hid (∀ l ∈ fs, l.length ≤ 67108863)) (ns : List Int) (t x : Z.Str) (ho : Z.readFlds aK fs = some (ns, t, x)) (htt : t ≠ []) (z4 : ByteArray) (hn : Z.readName t (lst or) = some (lst z4)) (hrv : Z.recValid (⟨lst aN, aT, aK, ns, lst z4, x⟩ : Z.Rec) = true) :
    Calls Tryz.prog 15 #[.agg #[.string aN, .int .i64 aT, .int .i64 aK, .slice rA rL rC, .string rG, .string rX], .slice A fs.length c, .string or] w (ParseOut (some ⟨lst aN, aT, aK, ns, lst z4, x⟩) w) := by
  have hx0 : Blk ((w.alloc (.cells #[.string aN, .int .i64 aT, .int .i64 aK, .slice rA rL rC, .string rG, .string rX] 25)).alloc (.cells #[.string ⟨#[]⟩, .int .i64 0, .int .i64 0, .slice none 0 0, .string ⟨#[]⟩, .string ⟨#[]⟩] 25)) w.heap.size 25 [.string aN, .int .i64 aT, .int .i64 aK, .slice rA rL rC, .string rG, .string rX] := (Blk.new w 25 [.string aN, .int .i64 aT, .int .i64 aK, .slice rA rL rC, .string rG, .string rX]).alloc _
  have hz0 : Blk ((w.alloc (.cells #[.string aN, .int .i64 aT, .int .i64 aK, .slice rA rL rC, .string rG, .string rX] 25)).alloc (.cells #[.string ⟨#[]⟩, .int .i64 0, .int .i64 0, .slice none 0 0, .string ⟨#[]⟩, .string ⟨#[]⟩] 25)) (w.heap.size + 1) 25 [.string ⟨#[]⟩, .int .i64 0, .int .i64 0, .slice none 0 0, .string ⟨#[]⟩, .string ⟨#[]⟩] := by
    have h := Blk.new (w.alloc (.cells #[.string aN, .int .i64 aT, .int .i64 aK, .slice rA rL rC, .string rG, .string rX] 25)) 25 [.string ⟨#[]⟩, .int .i64 0, .int .i64 0, .slice none 0 0, .string ⟨#[]⟩, .string ⟨#[]⟩]
    rwa [show (w.alloc (.cells #[.string aN, .int .i64 aT, .int .i64 aK, .slice rA rL rC, .string rG, .string rX] 25)).heap.size = w.heap.size + 1 by simp] at h
  have hb0 : Below w.heap.size w ((w.alloc (.cells #[.string aN, .int .i64 aT, .int .i64 aK, .slice rA rL rC, .string rG, .string rX] 25)).alloc (.cells #[.string ⟨#[]⟩, .int .i64 0, .int .i64 0, .slice none 0 0, .string ⟨#[]⟩, .string ⟨#[]⟩] 25)) := ((Below.refl _ _).alloc (Nat.le_refl _) _).alloc (by simp) _
  obtain ⟨p0, p1, p2, p3, p4, p5⟩ := hx0.cells6
  have hr0 := hr.below hb0 hB
  have HO := hid ho
  clear ho
  have HOK : Hid ((some (ns, t, x) : Option (List Int × Z.Str × Z.Str)).isSome = true) := hid rfl
  have HT := hid htt
  have HVO := hid (Z.readName_some hn).1
  have hzs : z4.size ≤ 60 := by have h := (Z.valid_len (Z.readName_some hn).2.2.2.2).2; rwa [lst_length] at h
  have HN := hid hn
  have HV := hid hrv
  have hv5 := (Z.valid_sizes hrv).2.1
  dsimp only at hv5
  clear htt hn hrv
  go_enter Tryz.func15, Tryz.ntmps15
  go_wp2_with fail
  refine (readFields_eq 67108863 aN aT aK fs B A c _ (hm.below hb0) hr0 (by simp; omega) hcap hlen (by omega) hsz _ HO _ HOK).mono ?_
  rintro e w4 ⟨A4, L4, q4, x4, y4, ns4, rfl, hown4, hpo, hL4, hxs4, hys4, hb4⟩
  have hs4 := hb4.size
  simp only [World.alloc, Array.size_push] at hs4
  have hz4 := (hz0.next hb4).alloc (.cells #[.string aN, .int .i64 aT, .int .i64 aK, .slice A4 L4 q4, .string x4, .string y4] 25)
  have hu4 : Blk (w4.alloc (.cells #[.string aN, .int .i64 aT, .int .i64 aK, .slice A4 L4 q4, .string x4, .string y4] 25)) w4.heap.size 25 [.string aN, .int .i64 aT, .int .i64 aK, .slice A4 L4 q4, .string x4, .string y4] := Blk.new w4 25 [.string aN, .int .i64 aT, .int .i64 aK, .slice A4 L4 q4, .string x4, .string y4]
  have hbw4 : Below w.heap.size w (w4.alloc (.cells #[.string aN, .int .i64 aT, .int .i64 aK, .slice A4 L4 q4, .string x4, .string y4] 25)) := (hb0.trans (hb4.mono (by simp; omega))).alloc (by omega) _
  have hnb : (Value.slice A4 L4 q4).ownBlock ≠ some w4.heap.size := fun e => absurd (hown4.lt _ e).2 (Nat.lt_irrefl _)
  have hown5 := own_mono hown4 (show w.heap.size + 2 ≤ _ by simp)
  replace hown5 := hown5.alloc (.cells #[.string aN, .int .i64 aT, .int .i64 aK, .slice A4 L4 q4, .string x4, .string y4] 25)
  clear hx0 hz0 hb0 hr0 hb4 hown4 p0 p1 p2 p3 p4 p5
  obtain ⟨p0, p1, p2, p3, p4, p5⟩ := hu4.cells6
  obtain ⟨g0, g1, g2, g3, g4, g5⟩ := hu4.free6
  have hpo2 := hpo.out _ rfl
  simp only [Prod.mk.injEq] at hpo2
  obtain ⟨rfl, rfl, rfl⟩ := hpo2
  clear hpo
  have ht : lst x4 ≠ [] := HT.out
  have hxe := empty_of (x := x4) (decide_eq_false ht)
  clear ht
  have HY : Hid (bs ((Z.readName (lst x4) (lst or)).getD []) = z4) := hid (by rw [HN.out]; exact bs_lst z4)
  have HYB : Hid ((Z.readName (lst x4) (lst or)).isSome = true) := hid (by rw [HN.out]; rfl)
  go_wp2_with fail
  refine (iReadName_v x4 or (by omega) (by omega) z4 true HY HYB _).mono ?_
  rintro e w5 ⟨rfl, hb5⟩
  have hs5 := hb5.size
  simp only [World.alloc, Array.size_push] at hs5
  have hz5' := hz4.next hb5
  have hu5' := hu4.next hb5
  have hown5' := own_next hown5 hb5
  have hbw5' := hbw4.trans (hb5.mono (by simp; omega))
  have hz5 := hz5'.far (p := ⟨w4.heap.size, 4, none⟩) (by show w.heap.size + 1 ≠ w4.heap.size; omega) (.string z4)
  have hu5 := hu5'.put 4 (.string z4)
  have hbw5 := hbw5'.setCell (p := ⟨w4.heap.size, 4, none⟩) (by show w.heap.size ≤ w4.heap.size; omega) (.string z4)
  have hown9 := own_far hown5' (p := ⟨w4.heap.size, 4, none⟩) hnb (.string z4)
  clear hz4 hu4 hbw4 hb5 hown5 p0 p1 p2 p3 p4 p5 g0 g1 g2 g3 g4 g5
  obtain ⟨p0, p1, p2, p3, p4, p5⟩ := hu5'.cells6
  obtain ⟨g0, g1, g2, g3, g4, g5⟩ := hu5'.free6
  have hown5 := hown9
  clear hown9 hz5' hu5' hown5' hbw5'
  go_wp2_with fail
  refine (iNameValid_v or (by omega) true HVO _).mono ?_
  rintro e w6 ⟨rfl, hb6⟩
  have hs6 := hb6.size
  simp only [World.setCell, Array.size_modify, World.alloc, Array.size_push] at hs6
  have hz6 := hz5.next hb6
  have hu6 := hu5.next hb6
  have hown6 := own_next hown5 hb6
  have hbw6 := hbw5.trans (hb6.mono (by simp; omega))
  clear hz5 hu5 hbw5 hown5 hb6 p0 p1 p2 p3 p4 p5 g0 g1 g2 g3 g4 g5
  obtain ⟨p0, p1, p2, p3, p4, p5⟩ := hu6.cells6
  obtain ⟨g0, g1, g2, g3, g4, g5⟩ := hu6.free6
  have hrd6 := Reads.of_own hown6
  go_wp2_with fail
  refine (iRecordValid_v aN aT aK A4 L4 q4 z4 y4 ns _ _ hrd6 (Nat.le_refl _) (by omega) (by omega) (by omega) (by omega) true HV).mono ?_
  rintro e w8 ⟨rfl, hb8⟩
  have hs8 := hb8.size
  have hz8 := hz6.next hb8
  have hu8 := hu6.next hb8
  have hown8 := own_next hown6 hb8
  have hbw8 := hbw6.trans (hb8.mono (by omega))
  clear hz6 hu6 hbw6 hown6 hb8 hrd6 p0 p1 p2 p3 p4 p5 g0 g1 g2 g3 g4 g5
  obtain ⟨p0, p1, p2, p3, p4, p5⟩ := hu8.cells6
  obtain ⟨r0, r1, r2, r3, r4, r5⟩ := hz8.cells6
  obtain ⟨f0, f1, f2, f3, f4, f5⟩ := hz8.free6
  have HBW := hid hbw8
  have hL7 := reads_len (Reads.of_own hown8)
  have HL7 := hid (show L4 ≤ 7 by have := hv5; omega)
  clear hbw8 hL7
  go_wp2
  refine ret_ird (w.heap.size + 1) rfl rfl rfl (c0 := .string aN) (c1 := .int .i64 aT) (c2 := .int .i64 aK) (c3 := .slice A4 L4 q4) (c4 := .string z4) (c5 := .string y4) (by go_simp) (by go_simp) (by go_simp) (by go_simp) (by go_simp) (by go_simp) ⟨aN, aT, aK, A4, L4, q4, z4, y4, ns, rfl, own_mono (six_own hown8 (Nat.lt_succ_self _) _ _ _ _ _ _) (by omega), rfl, HL7.out, six_below HBW.out (Nat.le_succ _) _ _ _ _ _ _⟩

theorem iReadData_any (aN : ByteArray) (aT aK : Int) (rA : Option Addr) (rL rC : Nat) (rG rX : ByteArray) (fs : List Z.Str) (B : Nat) (A : Option Addr) (c : Nat) (or : ByteArray) (w : World) (hm : MX w) (hr : Reads w B A fs.length (fs.map sv)) (hB : B ≤ w.heap.size) (hcap : fs.length ≤ c) (hlen : fs.length ≤ 67108864) (hor : or.size ≤ 67108863) (hnm : aN.size ≤ 67108863) (hsz : Hid (∀ l ∈ fs, l.length ≤ 67108863)) :
    Calls Tryz.prog 15 #[.agg #[.string aN, .int .i64 aT, .int .i64 aK, .slice rA rL rC, .string rG, .string rX], .slice A fs.length c, .string or] w (ParseOut (Z.readData (lst aN) aT aK fs (lst or)) w) := by
  rw [← Z.iReadData_eq]
  unfold Z.iReadData Z.iData
  cases ho : Z.readFlds aK fs with
  | none => exact ird_fields aN aT aK rA rL rC rG rX fs B A c or w hm hr hB hcap hlen hor hnm hsz ho
  | some p =>
    obtain ⟨ns, t, x⟩ := p
    by_cases ht : t = []
    · have e : (some (ns, t, x)).bind (fun p => if p.2.1 = [] then some p else (Z.readName p.2.1 (lst or)).map fun t => (p.1, t, p.2.2)) = some (ns, t, x) := by
        show (if t = [] then some (ns, t, x) else _) = _
        rw [if_pos ht]
      rw [e]
      dsimp only
      cases hv : Z.valid (lst or) with
      | false =>
        rw [Bool.false_and, if_neg (by decide)]
        exact ird_bare_origin aN aT aK rA rL rC rG rX fs B A c or w hm hr hB hcap hlen hor hnm hsz ns t x ho ht hv
      | true =>
        rw [Bool.true_and]
        cases hrv : Z.recValid (⟨lst aN, aT, aK, ns, t, x⟩ : Z.Rec) with
        | false => exact ird_bare_bad aN aT aK rA rL rC rG rX fs B A c or w hm hr hB hcap hlen hor hnm hsz ns t x ho ht hv hrv
        | true => exact ird_bare_good aN aT aK rA rL rC rG rX fs B A c or w hm hr hB hcap hlen hor hnm hsz ns t x ho ht hv hrv
    · have e : (some (ns, t, x)).bind (fun p => if p.2.1 = [] then some p else (Z.readName p.2.1 (lst or)).map fun t => (p.1, t, p.2.2)) = (Z.readName t (lst or)).map fun t => (ns, t, x) := by
        show (if t = [] then some (ns, t, x) else _) = _
        rw [if_neg ht]
      rw [e]
      cases hn : Z.readName t (lst or) with
      | none => exact ird_name_none aN aT aK rA rL rC rG rX fs B A c or w hm hr hB hcap hlen hor hnm hsz ns t x ho ht hn
      | some z =>
        have hv := (Z.readName_some hn).1
        dsimp only [Option.map_some]
        rw [hv, Bool.true_and]
        obtain ⟨z4, rfl⟩ : ∃ z4, lst z4 = z := ⟨bs z, lst_bs z⟩
        cases hrv : Z.recValid (⟨lst aN, aT, aK, ns, lst z4, x⟩ : Z.Rec) with
        | false => exact ird_name_bad aN aT aK rA rL rC rG rX fs B A c or w hm hr hB hcap hlen hor hnm hsz ns t x ho ht z4 hn hrv
        | true => exact ird_name_good aN aT aK rA rL rC rG rX fs B A c or w hm hr hB hcap hlen hor hnm hsz ns t x ho ht z4 hn hrv
end Go.Proofs.YtpgeeeamcncpkaaGreatDoor

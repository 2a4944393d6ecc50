/- What ReadData of the model returns, for every record, list of fields and origin. -/
import Derived.Test.YtpgeeeamcncpkaaGreatDoorRd
import Derived.Test.YtpgeeeamcncpkaaGreatDoorSi
import Derived.Test.YtpgeeeamcncpkaaGreatDoorSm
namespace Go.Proofs.YtpgeeeamcncpkaaGreatDoor
open Go.RowKit
set_option maxRecDepth 100000
set_option linter.unusedVariables false

theorem NameValid_v (s : ByteArray) (hs : s.size ≤ 67108864) (v : Bool) (hv : Hid (Z.valid (lst s) = v)) (w : World) :
    Calls Tryz.prog 50 #[.string s] w fun e w' => e = .returned (.bool v) ∧ Below w.heap.size w w' := by
  have h := NameValid_any s (by unfold maxLen; omega) w
  rw [hv.out] at h
  exact h
theorem l3Data_eq (N : ByteArray) (T K : Int) (fs : List Z.Str) (B : Nat) (A : Option Addr) (c : Nat) (or : ByteArray) (w : World) (hr : Reads w B A fs.length (fs.map sv)) (hB : B ≤ w.heap.size) (hne : fs ≠ []) (hcap : fs.length ≤ c) (hlen : fs.length ≤ 67108864) (hor : or.size ≤ 67108864) (hsz : Hid (∀ l ∈ fs, l.length ≤ 67108864)) (o : Option (List Int × Z.Str × Z.Str)) (ho : Hid (Z.dataOf K fs (lst or) = o)) (ok : Bool) (hok : Hid (o.isSome = ok)) :
    Calls Tryz.prog 51 #[.agg #[.string N, .int .i64 T, .int .i64 K, .slice none 0 0, .string ⟨#[]⟩, .string ⟨#[]⟩], .slice A fs.length c, .string or] w fun e w' => ∃ (A : Option Addr) (L c : Nat) (x y : ByteArray) (ns : List Int), e = .returned (.tuple #[.agg #[.string N, .int .i64 T, .int .i64 K, .slice A L c, .string x, .string y], .bool ok]) ∧ w'.ownsRow w.heap.size 3 1 (.slice A L c) L (ns.map iv) ∧ Hid (∀ p, o = some p → p = (ns, lst x, lst y)) ∧ L ≤ 7 ∧ x.size ≤ 67108864 ∧ y.size ≤ 67108864 ∧ Below w.heap.size w w' := by
  have h := l3Data_any N T K fs B A c or w hr hB hne hcap hlen hor hsz
  unfold DataOut at h
  rw [ho.out, hok.out] at h
  exact h
theorem ret_rd {a : Act} {W : World} {post : Ending → World → Prop} (b : Nat) {c0 c1 c2 c3 c4 c5 ok : Value} (hp : a.tmps[6]?.getD undef = .pointer (some ⟨b, 0, none⟩)) (hk : a.tmps[7]?.getD undef = ok) (hd : a.defers = [])
    (h0 : W.cell? ⟨b, 0, none⟩ = some c0) (h1 : W.cell? ⟨b, 1, none⟩ = some c1) (h2 : W.cell? ⟨b, 2, none⟩ = some c2) (h3 : W.cell? ⟨b, 3, none⟩ = some c3) (h4 : W.cell? ⟨b, 4, none⟩ = some c4) (h5 : W.cell? ⟨b, 5, none⟩ = some c5)
    (h : post (.returned (.tuple #[.agg #[c0, c1, c2, c3, c4, c5], ok])) W) : bodyPost Tryz.prog Tryz.f16 post Exit.ret a W :=
  bodyPost_ret (by simp [results, Tryz.results16, go_sem, hp, hk, h0, h1, h2, h3, h4, h5]) hd h

set_option maxHeartbeats 4000000 in
theorem rd_empty (aN : ByteArray) (aT aK : Int) (rA : Option Addr) (rL rC : Nat) (rG rX : ByteArray) (fs : List Z.Str) (B : Nat) (A : Option Addr) (c : Nat) (or : ByteArray) (w : World) (hr : Reads w B A fs.length (fs.map sv)) (hB : B ≤ w.heap.size) (hcap : fs.length ≤ c) (hlen : fs.length ≤ 67108864) (hor : or.size ≤ 67108864) (hnm : aN.size ≤ 67108864) (hsz : Hid (∀ l ∈ fs, l.length ≤ 67108864)) (he : fs = []) :
    Calls Tryz.prog 16 #[.agg #[.string aN, .int .i64 aT, .int .i64 aK, .slice rA rL rC, .string rG, .string rX], .slice A fs.length c, .string or] w (ParseOut (none) w) := by
  subst he
  have hx0 : Blk ((w.alloc (.cells #[.string aN, .int .i64 aT, .int .i64 aK, .slice rA rL rC, .string rG, .string rX] 25)).alloc (.cells #[.string ⟨#[]⟩, .int .i64 0, .int .i64 0, .slice none 0 0, .string ⟨#[]⟩, .string ⟨#[]⟩] 25)) w.heap.size 25 [.string aN, .int .i64 aT, .int .i64 aK, .slice rA rL rC, .string rG, .string rX] := (Blk.new w 25 [.string aN, .int .i64 aT, .int .i64 aK, .slice rA rL rC, .string rG, .string rX]).alloc _
  have hz0 : Blk ((w.alloc (.cells #[.string aN, .int .i64 aT, .int .i64 aK, .slice rA rL rC, .string rG, .string rX] 25)).alloc (.cells #[.string ⟨#[]⟩, .int .i64 0, .int .i64 0, .slice none 0 0, .string ⟨#[]⟩, .string ⟨#[]⟩] 25)) (w.heap.size + 1) 25 [.string ⟨#[]⟩, .int .i64 0, .int .i64 0, .slice none 0 0, .string ⟨#[]⟩, .string ⟨#[]⟩] := by
    have h := Blk.new (w.alloc (.cells #[.string aN, .int .i64 aT, .int .i64 aK, .slice rA rL rC, .string rG, .string rX] 25)) 25 [.string ⟨#[]⟩, .int .i64 0, .int .i64 0, .slice none 0 0, .string ⟨#[]⟩, .string ⟨#[]⟩]
    rwa [show (w.alloc (.cells #[.string aN, .int .i64 aT, .int .i64 aK, .slice rA rL rC, .string rG, .string rX] 25)).heap.size = w.heap.size + 1 by simp] at h
  have hb0 : Below w.heap.size w ((w.alloc (.cells #[.string aN, .int .i64 aT, .int .i64 aK, .slice rA rL rC, .string rG, .string rX] 25)).alloc (.cells #[.string ⟨#[]⟩, .int .i64 0, .int .i64 0, .slice none 0 0, .string ⟨#[]⟩, .string ⟨#[]⟩] 25)) := ((Below.refl _ _).alloc (Nat.le_refl _) _).alloc (by simp) _
  obtain ⟨p0, p1, p2, p3, p4, p5⟩ := hx0.cells6
  go_enter Tryz.func16, Tryz.ntmps16
  go_wp2
  refine ret_rd (w.heap.size + 1) rfl rfl rfl (c0 := .string ⟨#[]⟩) (c1 := .int .i64 0) (c2 := .int .i64 0) (c3 := .slice none 0 0) (c4 := .string ⟨#[]⟩) (c5 := .string ⟨#[]⟩) (by go_simp) (by go_simp) (by go_simp) (by go_simp) (by go_simp) (by go_simp) ⟨⟨#[]⟩, 0, 0, none, 0, 0, ⟨#[]⟩, ⟨#[]⟩, [], rfl, World.ownsRow_nil _ _ _ _, rfl, Nat.zero_le _, ?_⟩
  go_grown

set_option maxHeartbeats 4000000 in
theorem rd_origin (aN : ByteArray) (aT aK : Int) (rA : Option Addr) (rL rC : Nat) (rG rX : ByteArray) (fs : List Z.Str) (B : Nat) (A : Option Addr) (c : Nat) (or : ByteArray) (w : World) (hr : Reads w B A fs.length (fs.map sv)) (hB : B ≤ w.heap.size) (hcap : fs.length ≤ c) (hlen : fs.length ≤ 67108864) (hor : or.size ≤ 67108864) (hnm : aN.size ≤ 67108864) (hsz : Hid (∀ l ∈ fs, l.length ≤ 67108864)) (hne : fs ≠ []) (hv : Z.valid (lst or) = false) :
    Calls Tryz.prog 16 #[.agg #[.string aN, .int .i64 aT, .int .i64 aK, .slice rA rL rC, .string rG, .string rX], .slice A fs.length c, .string or] w (ParseOut (none) w) := by
  have hx0 : Blk ((w.alloc (.cells #[.string aN, .int .i64 aT, .int .i64 aK, .slice rA rL rC, .string rG, .string rX] 25)).alloc (.cells #[.string ⟨#[]⟩, .int .i64 0, .int .i64 0, .slice none 0 0, .string ⟨#[]⟩, .string ⟨#[]⟩] 25)) w.heap.size 25 [.string aN, .int .i64 aT, .int .i64 aK, .slice rA rL rC, .string rG, .string rX] := (Blk.new w 25 [.string aN, .int .i64 aT, .int .i64 aK, .slice rA rL rC, .string rG, .string rX]).alloc _
  have hz0 : Blk ((w.alloc (.cells #[.string aN, .int .i64 aT, .int .i64 aK, .slice rA rL rC, .string rG, .string rX] 25)).alloc (.cells #[.string ⟨#[]⟩, .int .i64 0, .int .i64 0, .slice none 0 0, .string ⟨#[]⟩, .string ⟨#[]⟩] 25)) (w.heap.size + 1) 25 [.string ⟨#[]⟩, .int .i64 0, .int .i64 0, .slice none 0 0, .string ⟨#[]⟩, .string ⟨#[]⟩] := by
    have h := Blk.new (w.alloc (.cells #[.string aN, .int .i64 aT, .int .i64 aK, .slice rA rL rC, .string rG, .string rX] 25)) 25 [.string ⟨#[]⟩, .int .i64 0, .int .i64 0, .slice none 0 0, .string ⟨#[]⟩, .string ⟨#[]⟩]
    rwa [show (w.alloc (.cells #[.string aN, .int .i64 aT, .int .i64 aK, .slice rA rL rC, .string rG, .string rX] 25)).heap.size = w.heap.size + 1 by simp] at h
  have hb0 : Below w.heap.size w ((w.alloc (.cells #[.string aN, .int .i64 aT, .int .i64 aK, .slice rA rL rC, .string rG, .string rX] 25)).alloc (.cells #[.string ⟨#[]⟩, .int .i64 0, .int .i64 0, .slice none 0 0, .string ⟨#[]⟩, .string ⟨#[]⟩] 25)) := ((Below.refl _ _).alloc (Nat.le_refl _) _).alloc (by simp) _
  obtain ⟨p0, p1, p2, p3, p4, p5⟩ := hx0.cells6
  have hlt : 0 < fs.length := List.length_pos_iff.2 hne
  have HVO := hid hv
  clear hv
  go_enter Tryz.func16, Tryz.ntmps16
  go_wp2_with fail
  refine (NameValid_v or hor false HVO _).mono ?_
  rintro e w2 ⟨rfl, hb2⟩
  have hx2 := hx0.next hb2
  have hz2 := hz0.next hb2
  have hs2 := hb2.size
  simp only [World.alloc, Array.size_push] at hs2
  have hbw2 := hb0.trans (hb2.mono (by simp; omega))
  have hr2 := hr.below hbw2 hB
  clear hx0 hz0 hb0 hb2 p0 p1 p2 p3 p4 p5
  obtain ⟨p0, p1, p2, p3, p4, p5⟩ := hx2.cells6
  obtain ⟨r0, r1, r2, r3, r4, r5⟩ := hz2.cells6
  obtain ⟨f0, f1, f2, f3, f4, f5⟩ := hz2.free6
  have HBW := hid hbw2
  clear hbw2
  go_wp2
  refine ret_rd (w.heap.size + 1) rfl rfl rfl (c0 := .string ⟨#[]⟩) (c1 := .int .i64 0) (c2 := .int .i64 0) (c3 := .slice none 0 0) (c4 := .string ⟨#[]⟩) (c5 := .string ⟨#[]⟩) (by go_simp) (by go_simp) (by go_simp) (by go_simp) (by go_simp) (by go_simp) ⟨⟨#[]⟩, 0, 0, none, 0, 0, ⟨#[]⟩, ⟨#[]⟩, [], rfl, World.ownsRow_nil _ _ _ _, rfl, Nat.zero_le _, six_below HBW.out (Nat.le_succ _) _ _ _ _ _ _⟩

set_option maxHeartbeats 4000000 in
theorem rd_data (aN : ByteArray) (aT aK : Int) (rA : Option Addr) (rL rC : Nat) (rG rX : ByteArray) (fs : List Z.Str) (B : Nat) (A : Option Addr) (c : Nat) (or : ByteArray) (w : World) (hr : Reads w B A fs.length (fs.map sv)) (hB : B ≤ w.heap.size) (hcap : fs.length ≤ c) (hlen : fs.length ≤ 67108864) (hor : or.size ≤ 67108864) (hnm : aN.size ≤ 67108864) (hsz : Hid (∀ l ∈ fs, l.length ≤ 67108864)) (hne : fs ≠ []) (hv : Z.valid (lst or) = true) (ho : Z.dataOf aK fs (lst or) = none) :
    Calls Tryz.prog 16 #[.agg #[.string aN, .int .i64 aT, .int .i64 aK, .slice rA rL rC, .string rG, .string rX], .slice A fs.length c, .string or] w (ParseOut (none) w) := by
  have hx0 : Blk ((w.alloc (.cells #[.string aN, .int .i64 aT, .int .i64 aK, .slice rA rL rC, .string rG, .string rX] 25)).alloc (.cells #[.string ⟨#[]⟩, .int .i64 0, .int .i64 0, .slice none 0 0, .string ⟨#[]⟩, .string ⟨#[]⟩] 25)) w.heap.size 25 [.string aN, .int .i64 aT, .int .i64 aK, .slice rA rL rC, .string rG, .string rX] := (Blk.new w 25 [.string aN, .int .i64 aT, .int .i64 aK, .slice rA rL rC, .string rG, .string rX]).alloc _
  have hz0 : Blk ((w.alloc (.cells #[.string aN, .int .i64 aT, .int .i64 aK, .slice rA rL rC, .string rG, .string rX] 25)).alloc (.cells #[.string ⟨#[]⟩, .int .i64 0, .int .i64 0, .slice none 0 0, .string ⟨#[]⟩, .string ⟨#[]⟩] 25)) (w.heap.size + 1) 25 [.string ⟨#[]⟩, .int .i64 0, .int .i64 0, .slice none 0 0, .string ⟨#[]⟩, .string ⟨#[]⟩] := by
    have h := Blk.new (w.alloc (.cells #[.string aN, .int .i64 aT, .int .i64 aK, .slice rA rL rC, .string rG, .string rX] 25)) 25 [.string ⟨#[]⟩, .int .i64 0, .int .i64 0, .slice none 0 0, .string ⟨#[]⟩, .string ⟨#[]⟩]
    rwa [show (w.alloc (.cells #[.string aN, .int .i64 aT, .int .i64 aK, .slice rA rL rC, .string rG, .string rX] 25)).heap.size = w.heap.size + 1 by simp] at h
  have hb0 : Below w.heap.size w ((w.alloc (.cells #[.string aN, .int .i64 aT, .int .i64 aK, .slice rA rL rC, .string rG, .string rX] 25)).alloc (.cells #[.string ⟨#[]⟩, .int .i64 0, .int .i64 0, .slice none 0 0, .string ⟨#[]⟩, .string ⟨#[]⟩] 25)) := ((Below.refl _ _).alloc (Nat.le_refl _) _).alloc (by simp) _
  obtain ⟨p0, p1, p2, p3, p4, p5⟩ := hx0.cells6
  have hlt : 0 < fs.length := List.length_pos_iff.2 hne
  have HVO := hid hv
  have HO := hid ho
  clear hv ho
  have HOK : Hid ((none : Option (List Int × Z.Str × Z.Str)).isSome = false) := hid rfl
  go_enter Tryz.func16, Tryz.ntmps16
  go_wp2_with fail
  refine (NameValid_v or hor true HVO _).mono ?_
  rintro e w2 ⟨rfl, hb2⟩
  have hx2 := hx0.next hb2
  have hz2 := hz0.next hb2
  have hs2 := hb2.size
  simp only [World.alloc, Array.size_push] at hs2
  have hbw2 := hb0.trans (hb2.mono (by simp; omega))
  have hr2 := hr.below hbw2 hB
  clear hx0 hz0 hb0 hb2 p0 p1 p2 p3 p4 p5
  obtain ⟨p0, p1, p2, p3, p4, p5⟩ := hx2.cells6
  go_wp2_with fail
  refine (l3Data_eq aN aT aK fs B A c or _ hr2 (by omega) hne hcap hlen hor hsz none HO false HOK).mono ?_
  rintro e w4 ⟨A4, L4, q4, x4, y4, ns4, rfl, hown4, hpo, hL4, hxs4, hys4, hb4⟩
  have hs4 := hb4.size
  have hz4 := (hz2.next hb4).alloc (.cells #[.string aN, .int .i64 aT, .int .i64 aK, .slice A4 L4 q4, .string x4, .string y4] 25)
  have hu4 : Blk (w4.alloc (.cells #[.string aN, .int .i64 aT, .int .i64 aK, .slice A4 L4 q4, .string x4, .string y4] 25)) w4.heap.size 25 [.string aN, .int .i64 aT, .int .i64 aK, .slice A4 L4 q4, .string x4, .string y4] := Blk.new w4 25 [.string aN, .int .i64 aT, .int .i64 aK, .slice A4 L4 q4, .string x4, .string y4]
  have hbw4 : Below w.heap.size w (w4.alloc (.cells #[.string aN, .int .i64 aT, .int .i64 aK, .slice A4 L4 q4, .string x4, .string y4] 25)) := (hbw2.trans (hb4.mono (by omega))).alloc (by omega) _
  have hown5 := hown4.alloc (.cells #[.string aN, .int .i64 aT, .int .i64 aK, .slice A4 L4 q4, .string x4, .string y4] 25)
  clear hx2 hz2 hbw2 hr2 hb4 hown4 p0 p1 p2 p3 p4 p5
  obtain ⟨p0, p1, p2, p3, p4, p5⟩ := hu4.cells6
  obtain ⟨r0, r1, r2, r3, r4, r5⟩ := hz4.cells6
  obtain ⟨f0, f1, f2, f3, f4, f5⟩ := hz4.free6
  have HBW := hid hbw4
  clear hbw4
  go_wp2
  refine ret_rd (w.heap.size + 1) rfl rfl rfl (c0 := .string ⟨#[]⟩) (c1 := .int .i64 0) (c2 := .int .i64 0) (c3 := .slice none 0 0) (c4 := .string ⟨#[]⟩) (c5 := .string ⟨#[]⟩) (by go_simp) (by go_simp) (by go_simp) (by go_simp) (by go_simp) (by go_simp) ⟨⟨#[]⟩, 0, 0, none, 0, 0, ⟨#[]⟩, ⟨#[]⟩, [], rfl, World.ownsRow_nil _ _ _ _, rfl, Nat.zero_le _, six_below HBW.out (Nat.le_succ _) _ _ _ _ _ _⟩

set_option maxHeartbeats 4000000 in
theorem rd_bad (aN : ByteArray) (aT aK : Int) (rA : Option Addr) (rL rC : Nat) (rG rX : ByteArray) (fs : List Z.Str) (B : Nat) (A : Option Addr) (c : Nat) (or : ByteArray) (w : World) (hr : Reads w B A fs.length (fs.map sv)) (hB : B ≤ w.heap.size) (hcap : fs.length ≤ c) (hlen : fs.length ≤ 67108864) (hor : or.size ≤ 67108864) (hnm : aN.size ≤ 67108864) (hsz : Hid (∀ l ∈ fs, l.length ≤ 67108864)) (hne : fs ≠ []) (hv : Z.valid (lst or) = true) (ns : List Int) (t x : Z.Str) (ho : Z.dataOf aK fs (lst or) = some (ns, t, x)) (hrv : Z.recValid (⟨lst aN, aT, aK, ns, t, x⟩ : Z.Rec) = false) :
    Calls Tryz.prog 16 #[.agg #[.string aN, .int .i64 aT, .int .i64 aK, .slice rA rL rC, .string rG, .string rX], .slice A fs.length c, .string or] w (ParseOut (none) w) := by
  have hx0 : Blk ((w.alloc (.cells #[.string aN, .int .i64 aT, .int .i64 aK, .slice rA rL rC, .string rG, .string rX] 25)).alloc (.cells #[.string ⟨#[]⟩, .int .i64 0, .int .i64 0, .slice none 0 0, .string ⟨#[]⟩, .string ⟨#[]⟩] 25)) w.heap.size 25 [.string aN, .int .i64 aT, .int .i64 aK, .slice rA rL rC, .string rG, .string rX] := (Blk.new w 25 [.string aN, .int .i64 aT, .int .i64 aK, .slice rA rL rC, .string rG, .string rX]).alloc _
  have hz0 : Blk ((w.alloc (.cells #[.string aN, .int .i64 aT, .int .i64 aK, .slice rA rL rC, .string rG, .string rX] 25)).alloc (.cells #[.string ⟨#[]⟩, .int .i64 0, .int .i64 0, .slice none 0 0, .string ⟨#[]⟩, .string ⟨#[]⟩] 25)) (w.heap.size + 1) 25 [.string ⟨#[]⟩, .int .i64 0, .int .i64 0, .slice none 0 0, .string ⟨#[]⟩, .string ⟨#[]⟩] := by
    have h := Blk.new (w.alloc (.cells #[.string aN, .int .i64 aT, .int .i64 aK, .slice rA rL rC, .string rG, .string rX] 25)) 25 [.string ⟨#[]⟩, .int .i64 0, .int .i64 0, .slice none 0 0, .string ⟨#[]⟩, .string ⟨#[]⟩]
    rwa [show (w.alloc (.cells #[.string aN, .int .i64 aT, .int .i64 aK, .slice rA rL rC, .string rG, .string rX] 25)).heap.size = w.heap.size + 1 by simp] at h
  have hb0 : Below w.heap.size w ((w.alloc (.cells #[.string aN, .int .i64 aT, .int .i64 aK, .slice rA rL rC, .string rG, .string rX] 25)).alloc (.cells #[.string ⟨#[]⟩, .int .i64 0, .int .i64 0, .slice none 0 0, .string ⟨#[]⟩, .string ⟨#[]⟩] 25)) := ((Below.refl _ _).alloc (Nat.le_refl _) _).alloc (by simp) _
  obtain ⟨p0, p1, p2, p3, p4, p5⟩ := hx0.cells6
  have hlt : 0 < fs.length := List.length_pos_iff.2 hne
  have HVO := hid hv
  have HO := hid ho
  clear hv ho
  have HOK : Hid ((some (ns, t, x) : Option (List Int × Z.Str × Z.Str)).isSome = true) := hid rfl
  go_enter Tryz.func16, Tryz.ntmps16
  go_wp2_with fail
  refine (NameValid_v or hor true HVO _).mono ?_
  rintro e w2 ⟨rfl, hb2⟩
  have hx2 := hx0.next hb2
  have hz2 := hz0.next hb2
  have hs2 := hb2.size
  simp only [World.alloc, Array.size_push] at hs2
  have hbw2 := hb0.trans (hb2.mono (by simp; omega))
  have hr2 := hr.below hbw2 hB
  clear hx0 hz0 hb0 hb2 p0 p1 p2 p3 p4 p5
  obtain ⟨p0, p1, p2, p3, p4, p5⟩ := hx2.cells6
  go_wp2_with fail
  refine (l3Data_eq aN aT aK fs B A c or _ hr2 (by omega) hne hcap hlen hor hsz _ HO _ HOK).mono ?_
  rintro e w4 ⟨A4, L4, q4, x4, y4, ns4, rfl, hown4, hpo, hL4, hxs4, hys4, hb4⟩
  have hs4 := hb4.size
  have hz4 := (hz2.next hb4).alloc (.cells #[.string aN, .int .i64 aT, .int .i64 aK, .slice A4 L4 q4, .string x4, .string y4] 25)
  have hu4 : Blk (w4.alloc (.cells #[.string aN, .int .i64 aT, .int .i64 aK, .slice A4 L4 q4, .string x4, .string y4] 25)) w4.heap.size 25 [.string aN, .int .i64 aT, .int .i64 aK, .slice A4 L4 q4, .string x4, .string y4] := Blk.new w4 25 [.string aN, .int .i64 aT, .int .i64 aK, .slice A4 L4 q4, .string x4, .string y4]
  have hbw4 : Below w.heap.size w (w4.alloc (.cells #[.string aN, .int .i64 aT, .int .i64 aK, .slice A4 L4 q4, .string x4, .string y4] 25)) := (hbw2.trans (hb4.mono (by omega))).alloc (by omega) _
  have hown5 := hown4.alloc (.cells #[.string aN, .int .i64 aT, .int .i64 aK, .slice A4 L4 q4, .string x4, .string y4] 25)
  clear hx2 hz2 hbw2 hr2 hb4 hown4 p0 p1 p2 p3 p4 p5
  obtain ⟨p0, p1, p2, p3, p4, p5⟩ := hu4.cells6
  have hpo2 := hpo.out _ rfl
  simp only [Prod.mk.injEq] at hpo2
  obtain ⟨rfl, rfl, rfl⟩ := hpo2
  have HV := hid hrv
  clear hrv hpo
  have hrd5 := Reads.of_own hown5
  go_wp2_with fail
  refine (RecordValid_eq aN aT aK A4 L4 q4 x4 y4 ns _ _ hrd5 (Nat.le_refl _) (by omega) (by omega) (by omega) (by omega) false HV).mono ?_
  rintro e w6 ⟨rfl, hb6⟩
  have hs6 := hb6.size
  simp only [World.alloc, Array.size_push] at hs6
  have hz6 := hz4.next hb6
  have hu6 := hu4.next hb6
  have hown6 := own_next hown5 hb6
  have hbw6 := hbw4.trans (hb6.mono (by simp; omega))
  clear hz4 hu4 hbw4 hb6 hown5 hrd5 p0 p1 p2 p3 p4 p5
  obtain ⟨p0, p1, p2, p3, p4, p5⟩ := hu6.cells6
  obtain ⟨r0, r1, r2, r3, r4, r5⟩ := hz6.cells6
  obtain ⟨f0, f1, f2, f3, f4, f5⟩ := hz6.free6
  have HBW := hid hbw6
  clear hbw6
  go_wp2
  refine ret_rd (w.heap.size + 1) rfl rfl rfl (c0 := .string ⟨#[]⟩) (c1 := .int .i64 0) (c2 := .int .i64 0) (c3 := .slice none 0 0) (c4 := .string ⟨#[]⟩) (c5 := .string ⟨#[]⟩) (by go_simp) (by go_simp) (by go_simp) (by go_simp) (by go_simp) (by go_simp) ⟨⟨#[]⟩, 0, 0, none, 0, 0, ⟨#[]⟩, ⟨#[]⟩, [], rfl, World.ownsRow_nil _ _ _ _, rfl, Nat.zero_le _, six_below HBW.out (Nat.le_succ _) _ _ _ _ _ _⟩

set_option maxHeartbeats 4000000 in
theorem rd_good (aN : ByteArray) (aT aK : Int) (rA : Option Addr) (rL rC : Nat) (rG rX : ByteArray) (fs : List Z.Str) (B : Nat) (A : Option Addr) (c : Nat) (or : ByteArray) (w : World) (hr : Reads w B A fs.length (fs.map sv)) (hB : B ≤ w.heap.size) (hcap : fs.length ≤ c) (hlen : fs.length ≤ 67108864) (hor : or.size ≤ 67108864) (hnm : aN.size ≤ 67108864) (hsz : Hid (∀ l ∈ fs, l.length ≤ 67108864)) (hne : fs ≠ []) (hv : Z.valid (lst or) = true) (ns : List Int) (t x : Z.Str) (ho : Z.dataOf aK fs (lst or) = some (ns, t, x)) (hrv : Z.recValid (⟨lst aN, aT, aK, ns, t, x⟩ : Z.Rec) = true) :
    Calls Tryz.prog 16 #[.agg #[.string aN, .int .i64 aT, .int .i64 aK, .slice rA rL rC, .string rG, .string rX], .slice A fs.length c, .string or] w (ParseOut (some ⟨lst aN, aT, aK, ns, t, x⟩) w) := by
  have hx0 : Blk ((w.alloc (.cells #[.string aN, .int .i64 aT, .int .i64 aK, .slice rA rL rC, .string rG, .string rX] 25)).alloc (.cells #[.string ⟨#[]⟩, .int .i64 0, .int .i64 0, .slice none 0 0, .string ⟨#[]⟩, .string ⟨#[]⟩] 25)) w.heap.size 25 [.string aN, .int .i64 aT, .int .i64 aK, .slice rA rL rC, .string rG, .string rX] := (Blk.new w 25 [.string aN, .int .i64 aT, .int .i64 aK, .slice rA rL rC, .string rG, .string rX]).alloc _
  have hz0 : Blk ((w.alloc (.cells #[.string aN, .int .i64 aT, .int .i64 aK, .slice rA rL rC, .string rG, .string rX] 25)).alloc (.cells #[.string ⟨#[]⟩, .int .i64 0, .int .i64 0, .slice none 0 0, .string ⟨#[]⟩, .string ⟨#[]⟩] 25)) (w.heap.size + 1) 25 [.string ⟨#[]⟩, .int .i64 0, .int .i64 0, .slice none 0 0, .string ⟨#[]⟩, .string ⟨#[]⟩] := by
    have h := Blk.new (w.alloc (.cells #[.string aN, .int .i64 aT, .int .i64 aK, .slice rA rL rC, .string rG, .string rX] 25)) 25 [.string ⟨#[]⟩, .int .i64 0, .int .i64 0, .slice none 0 0, .string ⟨#[]⟩, .string ⟨#[]⟩]
    rwa [show (w.alloc (.cells #[.string aN, .int .i64 aT, .int .i64 aK, .slice rA rL rC, .string rG, .string rX] 25)).heap.size = w.heap.size + 1 by simp] at h
  have hb0 : Below w.heap.size w ((w.alloc (.cells #[.string aN, .int .i64 aT, .int .i64 aK, .slice rA rL rC, .string rG, .string rX] 25)).alloc (.cells #[.string ⟨#[]⟩, .int .i64 0, .int .i64 0, .slice none 0 0, .string ⟨#[]⟩, .string ⟨#[]⟩] 25)) := ((Below.refl _ _).alloc (Nat.le_refl _) _).alloc (by simp) _
  obtain ⟨p0, p1, p2, p3, p4, p5⟩ := hx0.cells6
  have hlt : 0 < fs.length := List.length_pos_iff.2 hne
  have HVO := hid hv
  have HO := hid ho
  clear hv ho
  have HOK : Hid ((some (ns, t, x) : Option (List Int × Z.Str × Z.Str)).isSome = true) := hid rfl
  go_enter Tryz.func16, Tryz.ntmps16
  go_wp2_with fail
  refine (NameValid_v or hor true HVO _).mono ?_
  rintro e w2 ⟨rfl, hb2⟩
  have hx2 := hx0.next hb2
  have hz2 := hz0.next hb2
  have hs2 := hb2.size
  simp only [World.alloc, Array.size_push] at hs2
  have hbw2 := hb0.trans (hb2.mono (by simp; omega))
  have hr2 := hr.below hbw2 hB
  clear hx0 hz0 hb0 hb2 p0 p1 p2 p3 p4 p5
  obtain ⟨p0, p1, p2, p3, p4, p5⟩ := hx2.cells6
  go_wp2_with fail
  refine (l3Data_eq aN aT aK fs B A c or _ hr2 (by omega) hne hcap hlen hor hsz _ HO _ HOK).mono ?_
  rintro e w4 ⟨A4, L4, q4, x4, y4, ns4, rfl, hown4, hpo, hL4, hxs4, hys4, hb4⟩
  have hs4 := hb4.size
  have hz4 := (hz2.next hb4).alloc (.cells #[.string aN, .int .i64 aT, .int .i64 aK, .slice A4 L4 q4, .string x4, .string y4] 25)
  have hu4 : Blk (w4.alloc (.cells #[.string aN, .int .i64 aT, .int .i64 aK, .slice A4 L4 q4, .string x4, .string y4] 25)) w4.heap.size 25 [.string aN, .int .i64 aT, .int .i64 aK, .slice A4 L4 q4, .string x4, .string y4] := Blk.new w4 25 [.string aN, .int .i64 aT, .int .i64 aK, .slice A4 L4 q4, .string x4, .string y4]
  have hbw4 : Below w.heap.size w (w4.alloc (.cells #[.string aN, .int .i64 aT, .int .i64 aK, .slice A4 L4 q4, .string x4, .string y4] 25)) := (hbw2.trans (hb4.mono (by omega))).alloc (by omega) _
  have hown5 := hown4.alloc (.cells #[.string aN, .int .i64 aT, .int .i64 aK, .slice A4 L4 q4, .string x4, .string y4] 25)
  clear hx2 hz2 hbw2 hr2 hb4 hown4 p0 p1 p2 p3 p4 p5
  obtain ⟨p0, p1, p2, p3, p4, p5⟩ := hu4.cells6
  have hpo2 := hpo.out _ rfl
  simp only [Prod.mk.injEq] at hpo2
  obtain ⟨rfl, rfl, rfl⟩ := hpo2
  have HV := hid hrv
  clear hrv hpo
  have hrd5 := Reads.of_own hown5
  go_wp2_with fail
  refine (RecordValid_eq aN aT aK A4 L4 q4 x4 y4 ns _ _ hrd5 (Nat.le_refl _) (by omega) (by omega) (by omega) (by omega) true HV).mono ?_
  rintro e w6 ⟨rfl, hb6⟩
  have hs6 := hb6.size
  simp only [World.alloc, Array.size_push] at hs6
  have hz6 := hz4.next hb6
  have hu6 := hu4.next hb6
  have hown6 := own_next hown5 hb6
  have hbw6 := hbw4.trans (hb6.mono (by simp; omega))
  clear hz4 hu4 hbw4 hb6 hown5 hrd5 p0 p1 p2 p3 p4 p5
  obtain ⟨p0, p1, p2, p3, p4, p5⟩ := hu6.cells6
  obtain ⟨r0, r1, r2, r3, r4, r5⟩ := hz6.cells6
  obtain ⟨f0, f1, f2, f3, f4, f5⟩ := hz6.free6
  have HBW := hid hbw6
  clear hbw6
  have HL4 := hid hL4
  have HLT := hid (show w.heap.size + 1 < w2.heap.size by omega)
  clear hL4
  go_wp2
  refine ret_rd (w.heap.size + 1) rfl rfl rfl (c0 := .string aN) (c1 := .int .i64 aT) (c2 := .int .i64 aK) (c3 := .slice A4 L4 q4) (c4 := .string x4) (c5 := .string y4) (by go_simp) (by go_simp) (by go_simp) (by go_simp) (by go_simp) (by go_simp) ⟨aN, aT, aK, A4, L4, q4, x4, y4, ns, rfl, own_mono (six_own hown6 HLT.out _ _ _ _ _ _) (by have := HLT.out; omega), rfl, HL4.out, six_below HBW.out (Nat.le_succ _) _ _ _ _ _ _⟩

theorem ReadData_any (aN : ByteArray) (aT aK : Int) (rA : Option Addr) (rL rC : Nat) (rG rX : ByteArray) (fs : List Z.Str) (B : Nat) (A : Option Addr) (c : Nat) (or : ByteArray) (w : World) (hr : Reads w B A fs.length (fs.map sv)) (hB : B ≤ w.heap.size) (hcap : fs.length ≤ c) (hlen : fs.length ≤ 67108864) (hor : or.size ≤ 67108864) (hnm : aN.size ≤ 67108864) (hsz : Hid (∀ l ∈ fs, l.length ≤ 67108864)) :
    Calls Tryz.prog 16 #[.agg #[.string aN, .int .i64 aT, .int .i64 aK, .slice rA rL rC, .string rG, .string rX], .slice A fs.length c, .string or] w (ParseOut (Z.readData (lst aN) aT aK fs (lst or)) w) := by
  unfold Z.readData
  by_cases hne : fs = []
  · rw [if_neg (fun h => h.1 hne)]
    exact rd_empty aN aT aK rA rL rC rG rX fs B A c or w hr hB hcap hlen hor hnm hsz hne
  · cases hv : Z.valid (lst or) with
    | false =>
      rw [if_neg (fun h => by cases h.2)]
      exact rd_origin aN aT aK rA rL rC rG rX fs B A c or w hr hB hcap hlen hor hnm hsz hne hv
    | true =>
      rw [if_pos ⟨hne, rfl⟩]
      cases ho : Z.dataOf aK fs (lst or) with
      | none => exact rd_data aN aT aK rA rL rC rG rX fs B A c or w hr hB hcap hlen hor hnm hsz hne hv ho
      | some p =>
        obtain ⟨ns, t, x⟩ := p
        dsimp only
        cases hrv : Z.recValid (⟨lst aN, aT, aK, ns, t, x⟩ : Z.Rec) with
        | false => exact rd_bad aN aT aK rA rL rC rG rX fs B A c or w hr hB hcap hlen hor hnm hsz hne hv ns t x ho hrv
        | true => exact rd_good aN aT aK rA rL rC rG rX fs B A c or w hr hB hcap hlen hor hnm hsz hne hv ns t x ho hrv
end Go.Proofs.YtpgeeeamcncpkaaGreatDoor

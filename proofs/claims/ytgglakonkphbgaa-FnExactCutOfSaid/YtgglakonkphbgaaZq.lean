/- Copies of records, and how many records of a zone are of a name and a kind, in program and model. -/
import Derived.Test.YtgglakonkphbgaaZp
import Derived.Test.YtgglakonkphbgaaBk
namespace Go.Proofs.Ytgglakonkphbgaa
open Go.RowKit
set_option maxRecDepth 100000
set_option linter.unusedVariables false
set_option linter.unusedSimpArgs false

theorem infoIntq : (Try.prog.info? 3).map (fun i => (i.zero, i.size, i.bytes)) = some (some (.int .i64 0), 1, 8) := by kernel_rfl
set_option maxHeartbeats 2000000 in
theorem Clone_any (zs : List Int) (B : Nat) (A : Option Addr) (n c : Nat) (w : World) (hr : Reads w B A n (zs.map iv)) (hB : B ≤ w.heap.size) (hn : n ≤ 67108864) :
    Calls Try.prog 96 #[.slice A n c] w fun e w' => ∃ A' c', e = .returned (.slice A' n c') ∧ w'.ownsRow w.heap.size 3 1 (.slice A' n c') n (zs.map iv) ∧ Below w.heap.size w w' := by
  cases A with
  | none =>
    obtain rfl : n = 0 := by
      rcases Nat.eq_zero_or_pos n with h | h
      · exact h
      · obtain ⟨ad, e, _⟩ := hr.2 h
        cases e
    have hz : zs.map iv = [] := List.eq_nil_of_length_eq_zero hr.1
    refine (Try.slices_Clone_int_nil 0 c w).mono ?_
    rintro e w' ⟨rfl, rfl⟩
    rw [hz]
    exact ⟨none, 0, rfl, World.ownsRow_nil _ _ _ 1, Below.refl _ _⟩
  | some ad =>
    obtain ⟨i0, hi0, hz0, hz1, hz2⟩ := info_parts infoIntq
    have hown : (w.alloc (.cells #[] 3)).ownsRow w.heap.size 3 1 (.slice (some ⟨w.heap.size, 0, none⟩) 0 0) 0 [] := by
      have := World.ownsRow_made (base := w.heap.size) (e := 3) (size := 1) w #[] 0 (by simp) (by decide) (by simp)
      simpa using this
    have hba : Below w.heap.size w (w.alloc (.cells #[] 3)) := (Below.refl _ _).alloc (Nat.le_refl _) _
    have HO := hid hown
    have HR := hid (hr.below hba hB)
    clear hr hown
    have q22 : ∀ (w : World) (a : Option Addr) (n c n' c' : Nat), (binOp .eql 52 (.slice a n c) (.slice none n' c')).run Try.prog w = .ok (.bool a.isNone) w := fun w a n c n' c' => Lib.run_eql_slice_nil w _ _ a n c n' c' Try.underlying52
    go_enter Try.func96, Try.ntmps96
    go_wp2_with (at_builtin; refine wpList_app_any _ rfl _ _ _ rfl w.heap.size 3 i0 _ 8 Try.underlying52 hi0 hz0 hz1 hz2 rfl _ 0 [] rfl HO.out B (some ad) n c (zs.map iv) rfl HR.out (ivs_one zs) (by unfold maxLen; omega) (by omega) (by simp) ?_; intro A' c' w4 hown4 hbel4 hblk4)
    try rw [Nat.zero_add] at hown4
    go_ret
    exact ⟨A', c', rfl, hown4, hba.trans (hbel4 _ (Nat.le_refl _))⟩

theorem ret_copyRecord {a : Act} {W : World} {post : Ending → World → Prop} (b : Nat) {c0 c1 c2 c3 c4 c5 : Value} (hp : a.tmps[2]?.getD undef = .pointer (some ⟨b, 0, none⟩)) (hd : a.defers = [])
    (hB : W.cell? ⟨b, 0, none⟩ = some c0 ∧ W.cell? ⟨b, 1, none⟩ = some c1 ∧ W.cell? ⟨b, 2, none⟩ = some c2 ∧ W.cell? ⟨b, 3, none⟩ = some c3 ∧ W.cell? ⟨b, 4, none⟩ = some c4 ∧ W.cell? ⟨b, 5, none⟩ = some c5)
    (h : post (.returned (.agg #[c0, c1, c2, c3, c4, c5])) W) : bodyPost Try.prog Try.f84 post Exit.ret a W := by
  obtain ⟨h0, h1, h2, h3, h4, h5⟩ := hB
  exact bodyPost_ret (by simp [results, Try.results84, go_sem, hp, h0, h1, h2, h3, h4, h5]) hd h
set_option maxHeartbeats 4000000 in
theorem copyRecord_any (aN : ByteArray) (aT aK : Int) (aA : Option Addr) (aL aC : Nat) (aG aX : ByteArray) (aZ : List Int) (aB : Nat) (w : World) (hra : Reads w aB aA aL (aZ.map iv)) (hba : aB ≤ w.heap.size) (hla : aL ≤ 67108864) (hl : aL ≤ 67108864) :
    Calls Try.prog 84 #[.agg #[.string aN, .int .i64 aT, .int .i64 aK, .slice aA aL aC, .string aG, .string aX]] w fun e w' => ∃ A c, e = .returned (.agg #[.string aN, .int .i64 aT, .int .i64 aK, .slice A aL c, .string aG, .string aX]) ∧ w'.ownsRow w.heap.size 3 1 (.slice A aL c) aL (aZ.map iv) ∧ Below w.heap.size w w' := by
  go_enter Try.func84, Try.ntmps84
  have hbx : Below w.heap.size w ((w.alloc (.cells #[.string aN, .int .i64 aT, .int .i64 aK, .slice aA aL aC, .string aG, .string aX] 54)).alloc (.cells #[.string ⟨#[]⟩, .int .i64 0, .int .i64 0, .slice none 0 0, .string ⟨#[]⟩, .string ⟨#[]⟩] 54)) := by go_grown
  have hr3 := (hra.below hbx hba)
  have hp3 : Blk ((w.alloc (.cells #[.string aN, .int .i64 aT, .int .i64 aK, .slice aA aL aC, .string aG, .string aX] 54)).alloc (.cells #[.string ⟨#[]⟩, .int .i64 0, .int .i64 0, .slice none 0 0, .string ⟨#[]⟩, .string ⟨#[]⟩] 54)) w.heap.size 54 [.string aN, .int .i64 aT, .int .i64 aK, .slice aA aL aC, .string aG, .string aX] := (Blk.new w 54 [.string aN, .int .i64 aT, .int .i64 aK, .slice aA aL aC, .string aG, .string aX]).alloc _
  have hz3 : Blk ((w.alloc (.cells #[.string aN, .int .i64 aT, .int .i64 aK, .slice aA aL aC, .string aG, .string aX] 54)).alloc (.cells #[.string ⟨#[]⟩, .int .i64 0, .int .i64 0, .slice none 0 0, .string ⟨#[]⟩, .string ⟨#[]⟩] 54)) (w.heap.size + 1) 54 [.string ⟨#[]⟩, .int .i64 0, .int .i64 0, .slice none 0 0, .string ⟨#[]⟩, .string ⟨#[]⟩] := by
    have := Blk.new (w.alloc (.cells #[.string aN, .int .i64 aT, .int .i64 aK, .slice aA aL aC, .string aG, .string aX] 54)) 54 [.string ⟨#[]⟩, .int .i64 0, .int .i64 0, .slice none 0 0, .string ⟨#[]⟩, .string ⟨#[]⟩]
    simpa using this
  have hsz3 : ((w.alloc (.cells #[.string aN, .int .i64 aT, .int .i64 aK, .slice aA aL aC, .string aG, .string aX] 54)).alloc (.cells #[.string ⟨#[]⟩, .int .i64 0, .int .i64 0, .slice none 0 0, .string ⟨#[]⟩, .string ⟨#[]⟩] 54)).heap.size = w.heap.size + 1 + 1 := by simp
  have HR := hid hr3
  have HP3 := hid hp3
  have HZ3 := hid hz3
  have HBX := hid hbx
  have HS3 := hid hsz3
  clear hbx hr3 hp3 hz3 hsz3
  go_wp2_with fail
  refine (Clone_any aZ aB aA aL aC _ HR.out (by rw [HS3.out]; omega) hl).mono ?_
  rintro e w4 ⟨A, c, rfl, hown4, hb4⟩
  have hp4 := HP3.out.next hb4
  have hz4 := HZ3.out.next hb4
  have hbw := HBX.out.trans (hb4.mono (by rw [HS3.out]; omega))
  rw [HS3.out] at hown4
  obtain ⟨p0, p1, p2, p3, p4, p5⟩ := hp4.cells6
  obtain ⟨f0, f1, f2, f3, f4, f5⟩ := hp4.free6
  obtain ⟨r0, r1, r2, r3, r4, r5⟩ := hz4.cells6
  obtain ⟨e0, e1, e2, e3, e4, e5⟩ := hz4.free6
  have HO4 := hid hown4
  have HZ4 := hid hz4
  have HBW := hid hbw
  clear hb4 hp4 hz4 hown4 hbw
  go_wp2_with fail
  have hz5 := HZ4.out.far (p := ⟨w.heap.size, 3, none⟩) (by show w.heap.size + 1 ≠ w.heap.size; omega) (.slice A aL c)
  refine ret_copyRecord (w.heap.size + 1) rfl rfl (six_set hz5 _ _ _ _ _ _).cells6 ⟨A, c, rfl, ?_, ?_⟩
  · exact own_mono (six_own (ownsRow_setCell_below HO4.out (a := ⟨w.heap.size, 3, none⟩) (by show w.heap.size < w.heap.size + 1 + 1; omega) _) (by omega) _ _ _ _ _ _) (by omega)
  · exact six_below (HBW.out.setCell (p := ⟨w.heap.size, 3, none⟩) (Nat.le_refl _) _) (by omega) _ _ _ _ _ _

theorem ret_l2Copy {a : Act} {W : World} {post : Ending → World → Prop} (b : Nat) {c0 c1 c2 c3 c4 c5 : Value} (hp : a.tmps[2]?.getD undef = .pointer (some ⟨b, 0, none⟩)) (hd : a.defers = [])
    (hB : W.cell? ⟨b, 0, none⟩ = some c0 ∧ W.cell? ⟨b, 1, none⟩ = some c1 ∧ W.cell? ⟨b, 2, none⟩ = some c2 ∧ W.cell? ⟨b, 3, none⟩ = some c3 ∧ W.cell? ⟨b, 4, none⟩ = some c4 ∧ W.cell? ⟨b, 5, none⟩ = some c5)
    (h : post (.returned (.agg #[c0, c1, c2, c3, c4, c5])) W) : bodyPost Try.prog Try.f81 post Exit.ret a W := by
  obtain ⟨h0, h1, h2, h3, h4, h5⟩ := hB
  exact bodyPost_ret (by simp [results, Try.results81, go_sem, hp, h0, h1, h2, h3, h4, h5]) hd h
set_option maxHeartbeats 4000000 in
theorem l2Copy_w (aN : ByteArray) (aT aK : Int) (aA : Option Addr) (aL aC : Nat) (aG aX : ByteArray) (aZ : List Int) (aB : Nat) (w : World) (hra : Reads w aB aA aL (aZ.map iv)) (hba : aB ≤ w.heap.size) (hla : aL ≤ 67108864) (hl : aL ≤ 67108864) :
    Calls Try.prog 81 #[.agg #[.string aN, .int .i64 aT, .int .i64 aK, .slice aA aL aC, .string aG, .string aX]] w fun e w' => ∃ A c, e = .returned (.agg #[.string aN, .int .i64 aT, .int .i64 aK, .slice A aL c, .string aG, .string aX]) ∧ w'.ownsRow w.heap.size 3 1 (.slice A aL c) aL (aZ.map iv) ∧ Below w.heap.size w w' := by
  go_enter Try.func81, Try.ntmps81
  have hbx : Below w.heap.size w (((w.alloc (.cells #[.string aN, .int .i64 aT, .int .i64 aK, .slice aA aL aC, .string aG, .string aX] 54)).alloc (.cells #[.string ⟨#[]⟩, .int .i64 0, .int .i64 0, .slice none 0 0, .string ⟨#[]⟩, .string ⟨#[]⟩] 54)).alloc (.cells #[] 3)) := by go_grown
  have hr3 := (hra.below hbx hba)
  have hp3 : Blk (((w.alloc (.cells #[.string aN, .int .i64 aT, .int .i64 aK, .slice aA aL aC, .string aG, .string aX] 54)).alloc (.cells #[.string ⟨#[]⟩, .int .i64 0, .int .i64 0, .slice none 0 0, .string ⟨#[]⟩, .string ⟨#[]⟩] 54)).alloc (.cells #[] 3)) w.heap.size 54 [.string aN, .int .i64 aT, .int .i64 aK, .slice aA aL aC, .string aG, .string aX] := ((Blk.new w 54 [.string aN, .int .i64 aT, .int .i64 aK, .slice aA aL aC, .string aG, .string aX]).alloc _).alloc _
  have hz3 : Blk (((w.alloc (.cells #[.string aN, .int .i64 aT, .int .i64 aK, .slice aA aL aC, .string aG, .string aX] 54)).alloc (.cells #[.string ⟨#[]⟩, .int .i64 0, .int .i64 0, .slice none 0 0, .string ⟨#[]⟩, .string ⟨#[]⟩] 54)).alloc (.cells #[] 3)) (w.heap.size + 1) 54 [.string ⟨#[]⟩, .int .i64 0, .int .i64 0, .slice none 0 0, .string ⟨#[]⟩, .string ⟨#[]⟩] := by
    have := Blk.new (w.alloc (.cells #[.string aN, .int .i64 aT, .int .i64 aK, .slice aA aL aC, .string aG, .string aX] 54)) 54 [.string ⟨#[]⟩, .int .i64 0, .int .i64 0, .slice none 0 0, .string ⟨#[]⟩, .string ⟨#[]⟩]
    have := this.alloc (.cells #[] 3)
    simpa using this
  have hown3 : (((w.alloc (.cells #[.string aN, .int .i64 aT, .int .i64 aK, .slice aA aL aC, .string aG, .string aX] 54)).alloc (.cells #[.string ⟨#[]⟩, .int .i64 0, .int .i64 0, .slice none 0 0, .string ⟨#[]⟩, .string ⟨#[]⟩] 54)).alloc (.cells #[] 3)).ownsRow (w.heap.size + 1 + 1) 3 1 (.slice (some ⟨w.heap.size + 1 + 1, 0, none⟩) 0 0) 0 [] := by
    have := World.ownsRow_made (base := w.heap.size + 1 + 1) (e := 3) (size := 1) ((w.alloc (.cells #[.string aN, .int .i64 aT, .int .i64 aK, .slice aA aL aC, .string aG, .string aX] 54)).alloc (.cells #[.string ⟨#[]⟩, .int .i64 0, .int .i64 0, .slice none 0 0, .string ⟨#[]⟩, .string ⟨#[]⟩] 54)) #[] 0 (by simp) (by decide) (by simp)
    simpa using this
  obtain ⟨i0, hi0, hz0, hz1, hz2⟩ := info_parts infoIntq
  have HR := hid hr3
  have HP3 := hid hp3
  have HZ3 := hid hz3
  have HO := hid hown3
  have HBX := hid hbx
  clear hbx hr3 hp3 hz3 hown3
  go_wp2_with (at_builtin; refine wpList_app_any _ rfl (.tmp 3) (.tmp 5) _ rfl (w.heap.size + 1 + 1) 3 i0 _ 8 Try.underlying52 hi0 hz0 hz1 hz2 rfl _ 0 [] rfl HO.out aB aA aL aC (aZ.map iv) rfl HR.out (ivs_one aZ) (by unfold maxLen; omega) (by omega) (by simp) ?_; intro A c w4 hown4 hbel4 hblk4; have hp4 := hblk4 _ _ _ HP3.out (own_of_two HO.out (by omega)); have hz4 := hblk4 _ _ _ HZ3.out (own_of_two HO.out (by omega)); rw [Nat.zero_add] at hown4; have HBW := hid (HBX.out.trans (hbel4 w.heap.size (by omega))); obtain ⟨p0, p1, p2, p3, p4, p5⟩ := hp4.cells6; obtain ⟨f0, f1, f2, f3, f4, f5⟩ := hp4.free6; obtain ⟨r0, r1, r2, r3, r4, r5⟩ := hz4.cells6; obtain ⟨e0, e1, e2, e3, e4, e5⟩ := hz4.free6; have HP4 := hid hp4; have HZ4 := hid hz4; have HO4 := hid hown4; clear hbel4 hblk4 hp4 hz4 hown4)
  have hz5 := HZ4.out.far (p := ⟨w.heap.size, 3, none⟩) (by show w.heap.size + 1 ≠ w.heap.size; omega) (.slice A (0 + aL) c)
  simp only [Nat.zero_add] at hz5 ⊢
  refine ret_l2Copy (w.heap.size + 1) rfl rfl (six_set hz5 _ _ _ _ _ _).cells6 ⟨A, c, rfl, ?_, ?_⟩
  · exact own_mono (six_own (ownsRow_setCell_below HO4.out (a := ⟨w.heap.size, 3, none⟩) (by show w.heap.size < w.heap.size + 1 + 1; omega) _) (by omega) _ _ _ _ _ _) (by omega)
  · exact six_below (HBW.out.setCell (p := ⟨w.heap.size, 3, none⟩) (Nat.le_refl _) _) (by omega) _ _ _ _ _ _

/-- Being a record of a name and a kind. -/
def atP (nm : Z.Str) (kd : Int) (x : Z.Rec) : Bool := decide (x.name = nm) && decide (x.kind = kd)
/-- How many records are of a name and a kind. -/
def atN (zs : List Z.Rec) (nm : Z.Str) (kd : Int) : Nat := zs.countP (atP nm kd)
theorem atN_take {zs : List Z.Rec} {k : Nat} {x : Z.Rec} (h : zs[k]? = some x) (nm : Z.Str) (kd : Int) : atN (zs.take (k + 1)) nm kd = atN (zs.take k) nm kd + (if atP nm kd x = true then 1 else 0) := by
  obtain ⟨hk, e⟩ := List.getElem?_eq_some_iff.1 h
  unfold atN
  rw [List.take_succ_eq_append_getElem hk, List.countP_append, e, List.countP_singleton]
theorem atN_le (zs : List Z.Rec) (nm : Z.Str) (kd : Int) : atN zs nm kd ≤ zs.length := List.countP_le_length
theorem own_sliceN {w : World} {base : Nat} {e : TypeId} {size : Nat} {v : Value} {n : Nat} {xs : List Value} (h : w.ownsRow base e size v n xs) : ∃ A c, v = .slice A n c := by
  rcases h.2 with ⟨e1, e2⟩ | ⟨g, cap, cur, hv, _⟩
  · rw [e1, e2]; exact ⟨none, 0, rfl⟩
  · exact ⟨_, _, hv⟩
theorem Held.past {w W W' : World} {b C : Nat} {cs : List Value} (h : Held w W b cs) (hb : Below C W W') (hC : b < C) : Held w W' b cs :=
  ⟨h.1.trans (hb.mono (by have := h.2.1; omega)), h.2.1, by have := hb.size; have := h.2.2.1; omega, fun j v hv => (hb.cell (p := ⟨b, j, none⟩) hC).trans (h.2.2.2 j v hv)⟩
theorem wpList_append6_any {P : Program} {ops : Array Oper} {rest : List Oper} {o : Oper} {a : Act} {Q : Exit → Act → World → Prop} (w : World) (cs : List Value) (tc : TypeId) (hgd : o.guard = none) (s y : Operand) (t : TypeId)
    (ho : o.op = .call { callee := .builtin .append, args := #[s, y], argTypes := #[t, t] })
    (base : Nat) (e : TypeId) (i : TypeInfo) (z : Value) (bytes : Nat) (ht : P.underlying t = some (.slice e)) (hi : P.info? e = some i) (hz : i.zero = some z)
    (hsize : i.size = 6) (hby : i.bytes = bytes) (hzs : z.cells.size = 6) (hcs : cs.length = 6) (hone : ∀ u ∈ cs, u.oneCell' = true)
    (v : Value) (n : Nat) (xs : List Value) (hs : a.eval s = v) (hown : w.ownsRow base e 6 v n xs) (hx : a.eval y = .slice (some ⟨w.heap.size, 0, none⟩) 1 1)
    (h63 : n + 1 ≤ maxLen) (hbytes : (n + 1) * bytes ≤ 140737488355328) (hbase : base ≤ w.heap.size)
    (h : ∀ v' w', w'.ownsRow base e 6 v' (n + 1) (xs ++ cs) → Below base w w' → wpList P ops Q rest (a.put o.dst v') w') :
    wpList P ops Q (o :: rest) a (w.alloc (.cells cs.toArray tc)) := by
  refine wpList_append_own _ hgd s y t ho base e i z 6 bytes ht hi hz hsize hby hzs (by omega) v n xs hs (hown.alloc _) ⟨w.heap.size, 0, none⟩ 1 1 cs hx hcs ?_ hone h63 hbytes (by simp; omega) ?_
  · intro j u hu
    rw [Addr.add_lit, (Blk.new w tc cs).cell]
    simpa using hu
  · intro v' w' ho' hg _
    exact h v' w' ho' (Below.grown ((Below.refl _ _).alloc hbase _) hg (by simp; omega) fun k hk => (hown.lt k hk).1)
theorem wpList_append6_at {P : Program} {ops : Array Oper} {rest : List Oper} {o : Oper} {a : Act} {Q : Exit → Act → World → Prop} (w : World) (g : Nat) (hgw : w.heap.size = g) (cs : List Value) (tc : TypeId) (hgd : o.guard = none) (s y : Operand) (t : TypeId)
    (ho : o.op = .call { callee := .builtin .append, args := #[s, y], argTypes := #[t, t] })
    (base : Nat) (e : TypeId) (i : TypeInfo) (z : Value) (bytes : Nat) (ht : P.underlying t = some (.slice e)) (hi : P.info? e = some i) (hz : i.zero = some z)
    (hsize : i.size = 6) (hby : i.bytes = bytes) (hzs : z.cells.size = 6) (hcs : cs.length = 6) (hone : ∀ u ∈ cs, u.oneCell' = true)
    (v : Value) (n : Nat) (xs : List Value) (hs : a.eval s = v) (hown : w.ownsRow base e 6 v n xs) (hx : a.eval y = .slice (some ⟨g, 0, none⟩) 1 1)
    (h63 : n + 1 ≤ maxLen) (hbytes : (n + 1) * bytes ≤ 140737488355328) (hbase : base ≤ w.heap.size)
    (h : ∀ v' w', w'.ownsRow base e 6 v' (n + 1) (xs ++ cs) → Below base w w' → wpList P ops Q rest (a.put o.dst v') w') :
    wpList P ops Q (o :: rest) a (w.alloc (.cells cs.toArray tc)) := by
  subst hgw
  exact wpList_append6_any w cs tc hgd s y t ho base e i z bytes ht hi hz hsize hby hzs hcs hone v n xs hs hown hx h63 hbytes hbase h

set_option maxHeartbeats 8000000 in
theorem l4At_w (o nm : ByteArray) (kd : Int) (rs : List RV) (B : Nat) (A : Option Addr) (n c : Nat) (w : World) (hr : Recs w B A n rs) (hB : B ≤ w.heap.size) (hn : n ≤ 67108864) (hf : Hid (∀ r ∈ rs, r.fine)) (N : Nat) (hN : Hid (atN (rs.map RV.z) (lst nm) kd = N)) :
    Calls Try.prog 61 #[.agg #[.string o, .slice A n c], .string nm, .int .i64 kd] w fun e w' => ∃ A' c', e = .returned (.slice A' N c') ∧ Below w.heap.size w w' := by
  obtain ⟨i0, hi0, hz0, hz1, hz2⟩ := info_parts infoRec
  have hlen := hid hr.2.1
  have hx0 := Held.box w [.string o, .slice A n c] 30
  go_enter Try.func61, Try.ntmps61
  have hown0 : ((w.alloc (.cells [.string o, .slice A n c].toArray 30)).alloc (.cells #[] 54)).ownsRow (w.heap.size + 1) 54 6 (.slice (some ⟨w.heap.size + 1, 0, none⟩) 0 0) 0 [] := by
    have := World.ownsRow_made (base := w.heap.size + 1) (e := 54) (size := 6) (w.alloc (.cells #[.string o, .slice A n c] 30)) #[] 0 (by simp) (by decide) (by simp)
    simpa using this
  have hx1 := hx0.alloc (.cells #[] 54)
  clear hx0
  go_wp2_with fail
  go_loopw [7, 8] (fun v s wr => ∃ (k : Nat) (xs : List Value), k ≤ n ∧ s = .int .i64 (k : Int) ∧ wr.ownsRow (w.heap.size + 1) 54 6 v (atN ((rs.map RV.z).take k) (lst nm) kd) xs ∧ Held w wr w.heap.size [.string o, .slice A n c]) (fun _ s _ => n - (intOf s).toNat)
  case atStart => exact ⟨0, [], Nat.zero_le _, rfl, hown0, hx1⟩
  case round =>
    obtain ⟨k, xs, hk, rfl, hown, hx⟩ := hrel
    clear hx1 hown0
    obtain ⟨s0, s1⟩ := hx.cells2
    obtain ⟨A5, e5, rfl⟩ := own_sliceN hown
    by_cases hlt : k < n
    · obtain ⟨ad, r, p, rfl, hp, hab, hrk, hrr, c0, c1, c2, c3, c4, c5⟩ := (hr.below hx.1 hB).at_ hlt
      have HZK := hid (zat hrk)
      have hfn := (hf.out r (List.mem_of_getElem? hrk))
      have p1 : 0 ≤ (k : Int) := by omega
      have p2 : (k : Int) < n := by omega
      have hcn := atN_le ((rs.map RV.z).take k) (lst nm) kd
      rw [List.length_take, List.length_map, hlen.out] at hcn
      have hst := hid (atN_take HZK.out (lst nm) kd)
      obtain ⟨M, hM⟩ : ∃ M, atN ((rs.map RV.z).take k) (lst nm) kd = M := ⟨_, rfl⟩
      have HN5 := hid hM
      rw [hM] at hcn
      clear hrk hM
      by_cases he : r.N = nm
      · by_cases hk2 : r.K = kd
        · have hst2 : atN ((rs.map RV.z).take (k + 1)) (lst nm) kd = atN ((rs.map RV.z).take k) (lst nm) kd + 1 := by
            rw [hst.out, if_pos]
            show (decide (lst r.N = lst nm) && decide (r.K = kd)) = true
            rw [he, hk2]
            simp
          go_wp2_with fail
          refine (l2Copy_w nm r.T kd r.A r.L r.C r.G r.X r.Z B _ hrr (hx.up hB) hfn.2.1 hfn.2.1).mono ?_
          rintro e w4 ⟨A4, c4, rfl, _, hb4⟩
          have hown4 := own_next hown hb4
          have hx4 := hx.next hb4
          have hbs := hx4.2.2.1
          rw [HN5.out] at hown4 hst2 ⊢
          have hone : ∀ u ∈ [Value.string nm, .int .i64 r.T, .int .i64 kd, .slice A4 r.L c4, .string r.G, .string r.X], u.oneCell' = true := by
            intro u hu
            simp only [List.mem_cons, List.not_mem_nil, or_false] at hu
            rcases hu with rfl | rfl | rfl | rfl | rfl | rfl <;> rfl
          have HONE := hid hone
          clear hone
          go_wp2_with (at_builtin; refine wpList_append6_any w4 [Value.string nm, .int .i64 r.T, .int .i64 kd, .slice A4 r.L c4, .string r.G, .string r.X] _ rfl (.tmp 35) (.tmp 42) _ rfl (w.heap.size + 1) 54 i0 _ 88 Try.underlying28 hi0 hz0 hz1 hz2 rfl rfl HONE.out _ _ _ rfl hown4 rfl (by unfold maxLen; omega) (by omega) (by omega) ?_; intro v6 w6 hown6 hb6)
          exact ⟨⟨k + 1, _, by omega, by go_num, by rw [hst2]; exact hown6, hx4.past hb6 (Nat.lt_succ_self _)⟩, by simp [intOf]; omega⟩
        · have hst2 : atN ((rs.map RV.z).take (k + 1)) (lst nm) kd = atN ((rs.map RV.z).take k) (lst nm) kd := by
            rw [hst.out, if_neg (show ¬ atP (lst nm) kd r.z = true from (show ¬ (decide (lst r.N = lst nm) && decide (r.K = kd)) = true by simp [hk2])), Nat.add_zero]
          go_wp2_with fail
          exact ⟨⟨k + 1, xs, by omega, by go_num, by rw [hst2]; exact hown, hx⟩, by simp [intOf]; omega⟩
      · have hst2 : atN ((rs.map RV.z).take (k + 1)) (lst nm) kd = atN ((rs.map RV.z).take k) (lst nm) kd := by
          have hneg : ¬ (decide (lst r.N = lst nm) && decide (r.K = kd)) = true := by
            rw [show decide (lst r.N = lst nm) = false from decide_eq_false fun h => he (lst_inj h)]
            simp
          rw [hst.out, if_neg (show ¬ atP (lst nm) kd r.z = true from hneg), Nat.add_zero]
        have he2 : (r.N.toList == nm.toList) = false := by rw [eq_toList]; simpa using fun h => he (lst_inj h)
        go_wp2_with fail
        exact ⟨⟨k + 1, xs, by omega, by go_num, by rw [hst2]; exact hown, hx⟩, by simp [intOf]; omega⟩
    · obtain rfl : k = n := by omega
      have hfin : atN ((rs.map RV.z).take k) (lst nm) kd = N := by rw [← hN.out, List.take_of_length_le (by rw [List.length_map, hlen.out]; omega)]
      rw [hfin] at hown ⊢
      go_wp2_with fail
      go_ret
      exact ⟨_, _, rfl, hx.1⟩

set_option maxHeartbeats 8000000 in
theorem recordsAs_w (o ow nm : ByteArray) (kd : Int) (rs : List RV) (B : Nat) (A : Option Addr) (n c : Nat) (w : World) (hr : Recs w B A n rs) (hB : B ≤ w.heap.size) (hn : n ≤ 67108864) (hf : Hid (∀ r ∈ rs, r.fine)) (N : Nat) (hN : Hid (atN (rs.map RV.z) (lst ow) kd = N)) :
    Calls Try.prog 65 #[.agg #[.string o, .slice A n c], .string ow, .int .i64 kd, .string nm] w fun e w' => ∃ A' c', e = .returned (.slice A' N c') ∧ Below w.heap.size w w' := by
  obtain ⟨i0, hi0, hz0, hz1, hz2⟩ := info_parts infoRec
  have hlen := hid hr.2.1
  have hx0 := Held.box w [.string o, .slice A n c] 30
  obtain ⟨s0, s1⟩ := hx0.cells2
  go_enter Try.func65, Try.ntmps65
  clear s0 s1
  have hown0 : (w.alloc (.cells [.string o, .slice A n c].toArray 30)).ownsRow w.heap.size 54 6 (.slice none 0 0) 0 [] := World.ownsRow_nil _ _ _ 6
  obtain ⟨s0, s1⟩ := hx0.cells2
  go_wp2_with fail
  clear s0 s1
  go_loopw [9, 16] (fun v s wr => ∃ (k : Nat) (xs : List Value), k ≤ n ∧ s = .int .i64 (k : Int) ∧ wr.ownsRow (w.heap.size + 1) 54 6 v (atN ((rs.map RV.z).take k) (lst ow) kd) xs ∧ Held w wr w.heap.size [.string o, .slice A n c]) (fun _ s _ => n - (intOf s).toNat)
  case atStart => exact ⟨0, [], Nat.zero_le _, rfl, World.ownsRow_nil _ _ _ 6, hx0⟩
  case round =>
    obtain ⟨k, xs, hk, rfl, hown, hx⟩ := hrel
    clear hx0 hown0
    obtain ⟨A5, e5, rfl⟩ := own_sliceN hown
    have hwr := hx.2.2.1
    by_cases hlt : k < n
    · obtain ⟨ad, r, p, rfl, hp, hab, hrk, hrr, c0, c1, c2, c3, c4, c5⟩ := (hr.below hx.1 hB).at_ hlt
      have HZK := hid (zat hrk)
      have hfn := (hf.out r (List.mem_of_getElem? hrk))
      have p1 : 0 ≤ (k : Int) := by omega
      have p2 : (k : Int) < n := by omega
      have hcn := atN_le ((rs.map RV.z).take k) (lst ow) kd
      rw [List.length_take, List.length_map, hlen.out] at hcn
      have hst := hid (atN_take HZK.out (lst ow) kd)
      obtain ⟨M, hM⟩ : ∃ M, atN ((rs.map RV.z).take k) (lst ow) kd = M := ⟨_, rfl⟩
      have HN5 := hid hM
      rw [hM] at hcn
      clear hrk hM
      by_cases he : r.N = ow
      · by_cases hk2 : r.K = kd
        · have hst2 : atN ((rs.map RV.z).take (k + 1)) (lst ow) kd = atN ((rs.map RV.z).take k) (lst ow) kd + 1 := by
            rw [hst.out, if_pos]
            show (decide (lst r.N = lst ow) && decide (r.K = kd)) = true
            rw [he, hk2]
            simp
          go_wp2_with fail
          refine (copyRecord_any ow r.T kd r.A r.L r.C r.G r.X r.Z B _ (hrr.alloc (hx.up hB) _) (by simp; have := hx.up hB; omega) hfn.2.1 hfn.2.1).mono ?_
          rintro e w4 ⟨A4, c4, rfl, _, hb4⟩
          have hown4 := own_next (hown.alloc _) hb4
          have hx4 := (hx.alloc _).next hb4
          have hbs := hx4.2.2.1
          rw [HN5.out] at hown4 hst2 ⊢
          have hone : ∀ u ∈ [Value.string nm, .int .i64 r.T, .int .i64 kd, .slice A4 r.L c4, .string r.G, .string r.X], u.oneCell' = true := by
            intro u hu
            simp only [List.mem_cons, List.not_mem_nil, or_false] at hu
            rcases hu with rfl | rfl | rfl | rfl | rfl | rfl <;> rfl
          have HONE := hid hone
          have hown5 := hown4.alloc (.cells #[.string nm, .int .i64 r.T, .int .i64 kd, .slice A4 r.L c4, .string r.G, .string r.X] 54)
          have hx5 := hx4.alloc (.cells #[.string nm, .int .i64 r.T, .int .i64 kd, .slice A4 r.L c4, .string r.G, .string r.X] 54)
          clear hone
          go_wp2_with (at_builtin; refine wpList_append6_at (w4.alloc (.cells #[.string nm, .int .i64 r.T, .int .i64 kd, .slice A4 r.L c4, .string r.G, .string r.X] 54)) (w4.heap.size + 1) (by simp) [Value.string nm, .int .i64 r.T, .int .i64 kd, .slice A4 r.L c4, .string r.G, .string r.X] _ rfl (.tmp 34) (.tmp 36) _ rfl (w.heap.size + 1) 54 i0 _ 88 Try.underlying28 hi0 hz0 hz1 hz2 rfl rfl HONE.out _ _ _ rfl hown5 rfl (by unfold maxLen; omega) (by omega) (by simp; omega) ?_; intro v6 w6 hown6 hb6)
          exact ⟨⟨k + 1, _, by omega, by go_num, by rw [hst2]; exact hown6, hx5.past hb6 (Nat.lt_succ_self _)⟩, by simp [intOf]; omega⟩
        · have hst2 : atN ((rs.map RV.z).take (k + 1)) (lst ow) kd = atN ((rs.map RV.z).take k) (lst ow) kd := by
            rw [hst.out, if_neg (show ¬ atP (lst ow) kd r.z = true from (show ¬ (decide (lst r.N = lst ow) && decide (r.K = kd)) = true by simp [hk2])), Nat.add_zero]
          go_wp2_with fail
          exact ⟨⟨k + 1, xs, by omega, by go_num, by rw [hst2]; exact hown.alloc _, hx.alloc _⟩, by simp [intOf]; omega⟩
      · have hst2 : atN ((rs.map RV.z).take (k + 1)) (lst ow) kd = atN ((rs.map RV.z).take k) (lst ow) kd := by
          have hneg : ¬ (decide (lst r.N = lst ow) && decide (r.K = kd)) = true := by
            rw [show decide (lst r.N = lst ow) = false from decide_eq_false fun h => he (lst_inj h)]
            simp
          rw [hst.out, if_neg (show ¬ atP (lst ow) kd r.z = true from hneg), Nat.add_zero]
        have he2 : (r.N.toList == ow.toList) = false := by rw [eq_toList]; simpa using fun h => he (lst_inj h)
        go_wp2_with fail
        exact ⟨⟨k + 1, xs, by omega, by go_num, by rw [hst2]; exact hown.alloc _, hx.alloc _⟩, by simp [intOf]; omega⟩
    · obtain rfl : k = n := by omega
      have hfin : atN ((rs.map RV.z).take k) (lst ow) kd = N := by rw [← hN.out, List.take_of_length_le (by rw [List.length_map, hlen.out]; omega)]
      rw [hfin] at hown ⊢
      go_wp2_with fail
      go_ret
      exact ⟨_, _, rfl, hx.1⟩
end Go.Proofs.Ytgglakonkphbgaa

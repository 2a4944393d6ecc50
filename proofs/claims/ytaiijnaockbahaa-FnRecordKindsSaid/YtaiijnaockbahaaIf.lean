/- What withData of the program returns: a record with nothing but the data of its kind. -/
import Derived.Test.YtaiijnaockbahaaIe
namespace Go.Proofs.Ytaiijnaockbahaa
open Go.RowKit
set_option maxRecDepth 100000
set_option linter.unusedVariables false

theorem clone_any (zs : List Int) (b off n c : Nat) (w : World) (hl : zs.length = n) (hn : n ≤ 1000000) (hc : ∀ j v, (zs.map iv)[j]? = some v → w.cell? ⟨b, off + j, none⟩ = some v) :
    Calls Try.prog 66 #[.slice (some ⟨b, off, none⟩) n c] w fun e w' => ∃ A c', e = .returned (.slice A n c') ∧ w'.ownsRow w.heap.size 3 1 (.slice A n c') n (zs.map iv) ∧ Below w.heap.size w w' := by
  refine (Try.slices_Clone_int b off n c zs w (by omega) (by omega) ?_).mono ?_
  · intro j hj
    exact hc j _ (by rw [List.getElem?_map, List.getElem?_eq_getElem hj]; simp [iv, hj])
  · rintro e w' ⟨v', rfl, hown, _, hb⟩
    rw [List.take_of_length_le (by omega)] at hown
    obtain ⟨A, c', rfl⟩ := own_slice hown
    exact ⟨A, c', rfl, hown, hb⟩
theorem cell_new' (w : World) (cs : List Value) (T : TypeId) (b j : Nat) (v : Value) (hb : b = w.heap.size) (h : cs[j]? = some v) : (w.alloc (.cells cs.toArray T)).cell? ⟨b, j, none⟩ = some v := by
  subst hb; exact cell_new w cs T j v h
theorem ret_with {a : Act} {W : World} {post : Ending → World → Prop} (b : Nat) {c0 c1 c2 c3 c4 c5 : Value} (hp : a.tmps[4]?.getD undef = .pointer (some ⟨b, 0, none⟩)) (hd : a.defers = [])
    (h0 : W.cell? ⟨b, 0, none⟩ = some c0) (h1 : W.cell? ⟨b, 1, none⟩ = some c1) (h2 : W.cell? ⟨b, 2, none⟩ = some c2) (h3 : W.cell? ⟨b, 3, none⟩ = some c3) (h4 : W.cell? ⟨b, 4, none⟩ = some c4) (h5 : W.cell? ⟨b, 5, none⟩ = some c5)
    (h : post (.returned (.agg #[c0, c1, c2, c3, c4, c5])) W) : bodyPost Try.prog Try.f60 post Exit.ret a W :=
  bodyPost_ret (by simp [results, Try.results60, go_sem, hp, h0, h1, h2, h3, h4, h5]) hd h
theorem own_reads {w : World} {base n : Nat} {e : TypeId} {A : Option Addr} {c : Nat} {xs : List Value} (h : w.ownsRow base e 1 (.slice A n c) n xs) {W : World} (hb : Below w.heap.size w W) : Reads W W.heap.size A n xs :=
  ((Reads.of_own h).below hb (Nat.le_refl _)).more hb.size
theorem ta_AA (v : Value) (W : World) : (Instr.typeAssert (.iface 76 v) 37 76 true).run Try.prog W = .ok (.tuple #[v, .bool true]) W := by kernel_rfl
theorem ta_TA (v : Value) (W : World) : (Instr.typeAssert (.iface 78 v) 37 76 true).run Try.prog W = .ok (.tuple #[.agg #[.int .i64 0, .int .i64 0, .int .i64 0, .int .i64 0], .bool false]) W := by kernel_rfl
theorem ta_TT (v : Value) (W : World) : (Instr.typeAssert (.iface 78 v) 37 78 true).run Try.prog W = .ok (.tuple #[v, .bool true]) W := by kernel_rfl
theorem ta_SA (v : Value) (W : World) : (Instr.typeAssert (.iface 81 v) 37 76 true).run Try.prog W = .ok (.tuple #[.agg #[.int .i64 0, .int .i64 0, .int .i64 0, .int .i64 0], .bool false]) W := by kernel_rfl
theorem ta_ST (v : Value) (W : World) : (Instr.typeAssert (.iface 81 v) 37 78 true).run Try.prog W = .ok (.tuple #[.agg #[.string ⟨#[]⟩], .bool false]) W := by kernel_rfl
theorem ta_SS (v : Value) (W : World) : (Instr.typeAssert (.iface 81 v) 37 81 true).run Try.prog W = .ok (.tuple #[v, .bool true]) W := by kernel_rfl
theorem ta_MA (v : Value) (W : World) : (Instr.typeAssert (.iface 84 v) 37 76 true).run Try.prog W = .ok (.tuple #[.agg #[.int .i64 0, .int .i64 0, .int .i64 0, .int .i64 0], .bool false]) W := by kernel_rfl
theorem ta_MT (v : Value) (W : World) : (Instr.typeAssert (.iface 84 v) 37 78 true).run Try.prog W = .ok (.tuple #[.agg #[.string ⟨#[]⟩], .bool false]) W := by kernel_rfl
theorem ta_MS (v : Value) (W : World) : (Instr.typeAssert (.iface 84 v) 37 81 true).run Try.prog W = .ok (.tuple #[.agg #[.string ⟨#[]⟩, .int .i64 0, .int .i64 0, .int .i64 0, .int .i64 0, .int .i64 0], .bool false]) W := by kernel_rfl
theorem ta_MM (v : Value) (W : World) : (Instr.typeAssert (.iface 84 v) 37 84 true).run Try.prog W = .ok (.tuple #[v, .bool true]) W := by kernel_rfl
theorem ta_XA (v : Value) (W : World) : (Instr.typeAssert (.iface 86 v) 37 76 true).run Try.prog W = .ok (.tuple #[.agg #[.int .i64 0, .int .i64 0, .int .i64 0, .int .i64 0], .bool false]) W := by kernel_rfl
theorem ta_XT (v : Value) (W : World) : (Instr.typeAssert (.iface 86 v) 37 78 true).run Try.prog W = .ok (.tuple #[.agg #[.string ⟨#[]⟩], .bool false]) W := by kernel_rfl
theorem ta_XS (v : Value) (W : World) : (Instr.typeAssert (.iface 86 v) 37 81 true).run Try.prog W = .ok (.tuple #[.agg #[.string ⟨#[]⟩, .int .i64 0, .int .i64 0, .int .i64 0, .int .i64 0, .int .i64 0], .bool false]) W := by kernel_rfl
theorem ta_XM (v : Value) (W : World) : (Instr.typeAssert (.iface 86 v) 37 84 true).run Try.prog W = .ok (.tuple #[.agg #[.int .i64 0, .string ⟨#[]⟩], .bool false]) W := by kernel_rfl
theorem ta_XX (v : Value) (W : World) : (Instr.typeAssert (.iface 86 v) 37 86 true).run Try.prog W = .ok (.tuple #[v, .bool true]) W := by kernel_rfl

set_option maxHeartbeats 4000000 in
theorem with_A (aN : ByteArray) (aT aK : Int) (aA : Option Addr) (aL aC : Nat) (aG aX : ByteArray) (n0 n1 n2 n3 : Int) (w : World) :
    Calls Try.prog 60 #[.agg #[.string aN, .int .i64 aT, .int .i64 aK, .slice aA aL aC, .string aG, .string aX], .iface 76 (.agg #[.int .i64 n0, .int .i64 n1, .int .i64 n2, .int .i64 n3])] w fun e w' => ∃ A c, e = .returned (.agg #[.string aN, .int .i64 aT, .int .i64 aK, .slice A 4 c, .string ⟨#[]⟩, .string ⟨#[]⟩]) ∧ Reads w' w'.heap.size A 4 ([n0, n1, n2, n3].map iv) ∧ Below w.heap.size w w' := by
  have tA := ta_AA
  go_enter Try.func60, Try.ntmps60
  go_wp2_with fail
  refine (clone_any [n0, n1, n2, n3] _ 0 4 _ _ rfl (by omega) ?_).mono ?_
  · intro j v hv
    exact cell_new' _ [.int .i64 n0, .int .i64 n1, .int .i64 n2, .int .i64 n3] 76 _ (0 + j) v (by simp) (by rw [Nat.zero_add]; simpa [iv] using hv)
  · rintro e w3 ⟨A, c, rfl, hown, hb3⟩
    obtain ⟨hc3, hf3⟩ := bcell hb3
    go_wp2
    have r0 : w3.cell? ⟨w.heap.size + 1, 0, none⟩ = some (.string ⟨#[]⟩) := (hc3 _ _ (by simp)).trans (by go_simp)
    have r1 : w3.cell? ⟨w.heap.size + 1, 1, none⟩ = some (.int .i64 0) := (hc3 _ _ (by simp)).trans (by go_simp)
    have r2 : w3.cell? ⟨w.heap.size + 1, 2, none⟩ = some (.int .i64 0) := (hc3 _ _ (by simp)).trans (by go_simp)
    have r3 : w3.cell? ⟨w.heap.size + 1, 3, none⟩ = some (.slice none 0 0) := (hc3 _ _ (by simp)).trans (by go_simp)
    have r4 : w3.cell? ⟨w.heap.size + 1, 4, none⟩ = some (.string ⟨#[]⟩) := (hc3 _ _ (by simp)).trans (by go_simp)
    have r5 : w3.cell? ⟨w.heap.size + 1, 5, none⟩ = some (.string ⟨#[]⟩) := (hc3 _ _ (by simp)).trans (by go_simp)
    refine ret_with (w.heap.size + 1) rfl rfl (c0 := .string aN) (c1 := .int .i64 aT) (c2 := .int .i64 aK) (c3 := .slice A 4 c) (c4 := .string ⟨#[]⟩) (c5 := .string ⟨#[]⟩) (by go_simp) (by go_simp) (by go_simp) (by go_simp) (by go_simp) (by go_simp) ⟨A, c, rfl, ?_, ?_⟩
    have o1 := ownsRow_setCell_below hown (a := ⟨w.heap.size + 1 + 1, 3, none⟩) (by first | (simp; done) | (simp; omega)) (.slice A 4 c)
    have o2 := ownsRow_setCell_below o1 (a := ⟨w.heap.size + 1, 0, none⟩) (by first | (simp; done) | (simp; omega)) (.string aN)
    have o3 := ownsRow_setCell_below o2 (a := ⟨w.heap.size + 1, 1, none⟩) (by first | (simp; done) | (simp; omega)) (.int .i64 aT)
    have o4 := ownsRow_setCell_below o3 (a := ⟨w.heap.size + 1, 2, none⟩) (by first | (simp; done) | (simp; omega)) (.int .i64 aK)
    have o5 := ownsRow_setCell_below o4 (a := ⟨w.heap.size + 1, 3, none⟩) (by first | (simp; done) | (simp; omega)) (.slice A 4 c)
    have o6 := ownsRow_setCell_below o5 (a := ⟨w.heap.size + 1, 4, none⟩) (by first | (simp; done) | (simp; omega)) (.string ⟨#[]⟩)
    have o7 := ownsRow_setCell_below o6 (a := ⟨w.heap.size + 1, 5, none⟩) (by first | (simp; done) | (simp; omega)) (.string ⟨#[]⟩)
    · exact Reads.of_own o7
    · have hbw : Below w.heap.size w w3 := Below.trans (by go_grown) (hb3.mono (by simp; omega))
      clear hb3 hc3 hf3
      go_grown

set_option maxHeartbeats 4000000 in
theorem with_T (aN : ByteArray) (aT aK : Int) (aA : Option Addr) (aL aC : Nat) (aG aX : ByteArray) (t : ByteArray) (w : World) :
    Calls Try.prog 60 #[.agg #[.string aN, .int .i64 aT, .int .i64 aK, .slice aA aL aC, .string aG, .string aX], .iface 78 (.agg #[.string t])] w fun e w' => e = .returned (.agg #[.string aN, .int .i64 aT, .int .i64 aK, .slice none 0 0, .string t, .string ⟨#[]⟩]) ∧ Below w.heap.size w w' := by
  have tA := ta_TA
  have tT := ta_TT
  go_enter Try.func60, Try.ntmps60
  go_wp2
  exact bodyPost_ret (by simp [results, Try.results60, go_sem]) rfl ⟨rfl, by go_grown⟩

set_option maxHeartbeats 4000000 in
theorem with_X (aN : ByteArray) (aT aK : Int) (aA : Option Addr) (aL aC : Nat) (aG aX : ByteArray) (t : ByteArray) (w : World) :
    Calls Try.prog 60 #[.agg #[.string aN, .int .i64 aT, .int .i64 aK, .slice aA aL aC, .string aG, .string aX], .iface 86 (.agg #[.string t])] w fun e w' => e = .returned (.agg #[.string aN, .int .i64 aT, .int .i64 aK, .slice none 0 0, .string ⟨#[]⟩, .string t]) ∧ Below w.heap.size w w' := by
  have tA := ta_XA
  have tT := ta_XT
  have tS := ta_XS
  have tM := ta_XM
  have tX := ta_XX
  go_enter Try.func60, Try.ntmps60
  go_wp2
  exact bodyPost_ret (by simp [results, Try.results60, go_sem]) rfl ⟨rfl, by go_grown⟩

set_option maxHeartbeats 4000000 in
theorem with_S (aN : ByteArray) (aT aK : Int) (aA : Option Addr) (aL aC : Nat) (aG aX : ByteArray) (t : ByteArray) (n0 n1 n2 n3 n4 : Int) (w : World) :
    Calls Try.prog 60 #[.agg #[.string aN, .int .i64 aT, .int .i64 aK, .slice aA aL aC, .string aG, .string aX], .iface 81 (.agg #[.string t, .int .i64 n0, .int .i64 n1, .int .i64 n2, .int .i64 n3, .int .i64 n4])] w fun e w' => ∃ A c, e = .returned (.agg #[.string aN, .int .i64 aT, .int .i64 aK, .slice A 5 c, .string t, .string ⟨#[]⟩]) ∧ Reads w' w'.heap.size A 5 ([n0, n1, n2, n3, n4].map iv) ∧ Below w.heap.size w w' := by
  have tA := ta_SA
  have tT := ta_ST
  have tS := ta_SS
  go_enter Try.func60, Try.ntmps60
  go_wp2_with fail
  refine (clone_any [n0, n1, n2, n3, n4] _ 1 5 _ _ rfl (by omega) ?_).mono ?_
  · intro j v hv
    exact cell_new' _ [.string t, .int .i64 n0, .int .i64 n1, .int .i64 n2, .int .i64 n3, .int .i64 n4] 81 _ (1 + j) v (by simp) (by rw [Nat.add_comm 1 j]; simpa [iv] using hv)
  · rintro e w3 ⟨A, c, rfl, hown, hb3⟩
    obtain ⟨hc3, hf3⟩ := bcell hb3
    go_wp2
    have r0 : w3.cell? ⟨w.heap.size + 1, 0, none⟩ = some (.string ⟨#[]⟩) := (hc3 _ _ (by simp)).trans (by go_simp)
    have r1 : w3.cell? ⟨w.heap.size + 1, 1, none⟩ = some (.int .i64 0) := (hc3 _ _ (by simp)).trans (by go_simp)
    have r2 : w3.cell? ⟨w.heap.size + 1, 2, none⟩ = some (.int .i64 0) := (hc3 _ _ (by simp)).trans (by go_simp)
    have r3 : w3.cell? ⟨w.heap.size + 1, 3, none⟩ = some (.slice none 0 0) := (hc3 _ _ (by simp)).trans (by go_simp)
    have r4 : w3.cell? ⟨w.heap.size + 1, 4, none⟩ = some (.string ⟨#[]⟩) := (hc3 _ _ (by simp)).trans (by go_simp)
    have r5 : w3.cell? ⟨w.heap.size + 1, 5, none⟩ = some (.string ⟨#[]⟩) := (hc3 _ _ (by simp)).trans (by go_simp)
    refine ret_with (w.heap.size + 1) rfl rfl (c0 := .string aN) (c1 := .int .i64 aT) (c2 := .int .i64 aK) (c3 := .slice A 5 c) (c4 := .string t) (c5 := .string ⟨#[]⟩) (by go_simp) (by go_simp) (by go_simp) (by go_simp) (by go_simp) (by go_simp) ⟨A, c, rfl, ?_, ?_⟩
    have o1 := ownsRow_setCell_below hown (a := ⟨w.heap.size + 1 + 1, 3, none⟩) (by first | (simp; done) | (simp; omega)) (.slice A 5 c)
    have o2 := ownsRow_setCell_below o1 (a := ⟨w.heap.size + 1 + 1, 4, none⟩) (by first | (simp; done) | (simp; omega)) (.string t)
    have o3 := ownsRow_setCell_below o2 (a := ⟨w.heap.size + 1, 0, none⟩) (by first | (simp; done) | (simp; omega)) (.string aN)
    have o4 := ownsRow_setCell_below o3 (a := ⟨w.heap.size + 1, 1, none⟩) (by first | (simp; done) | (simp; omega)) (.int .i64 aT)
    have o5 := ownsRow_setCell_below o4 (a := ⟨w.heap.size + 1, 2, none⟩) (by first | (simp; done) | (simp; omega)) (.int .i64 aK)
    have o6 := ownsRow_setCell_below o5 (a := ⟨w.heap.size + 1, 3, none⟩) (by first | (simp; done) | (simp; omega)) (.slice A 5 c)
    have o7 := ownsRow_setCell_below o6 (a := ⟨w.heap.size + 1, 4, none⟩) (by first | (simp; done) | (simp; omega)) (.string t)
    have o8 := ownsRow_setCell_below o7 (a := ⟨w.heap.size + 1, 5, none⟩) (by first | (simp; done) | (simp; omega)) (.string ⟨#[]⟩)
    · exact Reads.of_own o8
    · have hbw : Below w.heap.size w w3 := Below.trans (by go_grown) (hb3.mono (by simp; omega))
      clear hb3 hc3 hf3
      go_grown

set_option maxHeartbeats 4000000 in
theorem with_M (aN : ByteArray) (aT aK : Int) (aA : Option Addr) (aL aC : Nat) (aG aX : ByteArray) (n0 : Int) (t : ByteArray) (w : World) :
    Calls Try.prog 60 #[.agg #[.string aN, .int .i64 aT, .int .i64 aK, .slice aA aL aC, .string aG, .string aX], .iface 84 (.agg #[.int .i64 n0, .string t])] w fun e w' => ∃ A c, e = .returned (.agg #[.string aN, .int .i64 aT, .int .i64 aK, .slice A 1 c, .string t, .string ⟨#[]⟩]) ∧ Reads w' w'.heap.size A 1 ([n0].map iv) ∧ Below w.heap.size w w' := by
  have tA := ta_MA
  have tT := ta_MT
  have tS := ta_MS
  have tM := ta_MM
  go_enter Try.func60, Try.ntmps60
  go_wp2_with fail
  refine (clone_any [n0] _ 0 1 _ _ rfl (by omega) ?_).mono ?_
  · intro j v hv
    exact cell_new' _ [.int .i64 n0, .string t] 84 _ (0 + j) v (by simp) (by rw [Nat.zero_add]; match j, hv with | 0, hv => simpa [iv] using hv)
  · rintro e w3 ⟨A, c, rfl, hown, hb3⟩
    obtain ⟨hc3, hf3⟩ := bcell hb3
    go_wp2
    have r0 : w3.cell? ⟨w.heap.size + 1, 0, none⟩ = some (.string ⟨#[]⟩) := (hc3 _ _ (by simp)).trans (by go_simp)
    have r1 : w3.cell? ⟨w.heap.size + 1, 1, none⟩ = some (.int .i64 0) := (hc3 _ _ (by simp)).trans (by go_simp)
    have r2 : w3.cell? ⟨w.heap.size + 1, 2, none⟩ = some (.int .i64 0) := (hc3 _ _ (by simp)).trans (by go_simp)
    have r3 : w3.cell? ⟨w.heap.size + 1, 3, none⟩ = some (.slice none 0 0) := (hc3 _ _ (by simp)).trans (by go_simp)
    have r4 : w3.cell? ⟨w.heap.size + 1, 4, none⟩ = some (.string ⟨#[]⟩) := (hc3 _ _ (by simp)).trans (by go_simp)
    have r5 : w3.cell? ⟨w.heap.size + 1, 5, none⟩ = some (.string ⟨#[]⟩) := (hc3 _ _ (by simp)).trans (by go_simp)
    refine ret_with (w.heap.size + 1) rfl rfl (c0 := .string aN) (c1 := .int .i64 aT) (c2 := .int .i64 aK) (c3 := .slice A 1 c) (c4 := .string t) (c5 := .string ⟨#[]⟩) (by go_simp) (by go_simp) (by go_simp) (by go_simp) (by go_simp) (by go_simp) ⟨A, c, rfl, ?_, ?_⟩
    have o1 := ownsRow_setCell_below hown (a := ⟨w.heap.size + 1 + 1, 3, none⟩) (by first | (simp; done) | (simp; omega)) (.slice A 1 c)
    have o2 := ownsRow_setCell_below o1 (a := ⟨w.heap.size + 1 + 1, 4, none⟩) (by first | (simp; done) | (simp; omega)) (.string t)
    have o3 := ownsRow_setCell_below o2 (a := ⟨w.heap.size + 1, 0, none⟩) (by first | (simp; done) | (simp; omega)) (.string aN)
    have o4 := ownsRow_setCell_below o3 (a := ⟨w.heap.size + 1, 1, none⟩) (by first | (simp; done) | (simp; omega)) (.int .i64 aT)
    have o5 := ownsRow_setCell_below o4 (a := ⟨w.heap.size + 1, 2, none⟩) (by first | (simp; done) | (simp; omega)) (.int .i64 aK)
    have o6 := ownsRow_setCell_below o5 (a := ⟨w.heap.size + 1, 3, none⟩) (by first | (simp; done) | (simp; omega)) (.slice A 1 c)
    have o7 := ownsRow_setCell_below o6 (a := ⟨w.heap.size + 1, 4, none⟩) (by first | (simp; done) | (simp; omega)) (.string t)
    have o8 := ownsRow_setCell_below o7 (a := ⟨w.heap.size + 1, 5, none⟩) (by first | (simp; done) | (simp; omega)) (.string ⟨#[]⟩)
    · exact Reads.of_own o8
    · have hbw : Below w.heap.size w w3 := Below.trans (by go_grown) (hb3.mono (by simp; omega))
      clear hb3 hc3 hf3
      go_grown
end Go.Proofs.Ytaiijnaockbahaa

/- What PackName of the model returns. -/
import Derived.Test.YthbeecgfikcfdaaS
import Derived.IntWalk
import Derived.Test.YthbeecgfikcfdaaBk
namespace Go.Proofs.Ythbeecgfikcfdaa
open Go.RowKit
set_option maxRecDepth 100000
set_option linter.unusedVariables false
set_option linter.unusedSimpArgs false

/-- The bytes of a label: how many there are, and they. -/
def labB (l : Z.Str) : List UInt8 := UInt8.ofNat l.length :: l
def packL (ls : List Z.Str) : List UInt8 := ls.flatMap labB
theorem packL_length : ∀ ls : List Z.Str, (packL ls).length = (ls.map (fun l => l.length + 1)).sum
  | [] => rfl
  | l :: r => by
    have h := packL_length r
    show (labB l ++ packL r).length = _
    rw [List.length_append, h, List.map_cons, List.sum_cons]
    rfl
theorem packL_take {ls : List Z.Str} {k : Nat} {l : Z.Str} (h : ls[k]? = some l) : packL (ls.take (k + 1)) = packL (ls.take k) ++ labB l := by
  obtain ⟨hk, e⟩ := List.getElem?_eq_some_iff.1 h
  unfold packL
  rw [List.take_succ_eq_append_getElem hk, e, List.flatMap_append]
  simp
theorem packL_le : ∀ {ls : List Z.Str} {k : Nat}, (packL (ls.take k)).length ≤ (packL ls).length := by
  intro ls k
  have h : packL ls = packL (ls.take k) ++ packL (ls.drop k) := by
    unfold packL
    rw [← List.flatMap_append, List.take_append_drop]
  rw [h, List.length_append]
  omega
theorem byte_len (n : Nat) (h : n ≤ 255) : bv (UInt8.ofNat n) = .int .u8 (n : Int) := by
  unfold bv
  congr 1
  rw [UInt8.toNat_ofNat']
  omega
theorem u8_wrap (n : Nat) (h : n ≤ 255) : IntKind.u8.wrap (n : Int) = n := by
  have h1 : IntKind.u8.wrap (n : Int) = (n : Int) := by
    unfold IntKind.wrap
    simp [IntKind.signed, IntKind.bits]
    omega
  exact h1

/-- Blocks from lo to hi are as they were. -/
def Same (lo hi : Nat) (w w' : World) : Prop := ∀ k, lo ≤ k → k < hi → w'.heap[k]? = w.heap[k]?
theorem Same.refl (lo hi : Nat) (w : World) : Same lo hi w w := fun _ _ _ => rfl
theorem Same.trans {lo hi : Nat} {a b c : World} (h : Same lo hi a b) (k : Same lo hi b c) : Same lo hi a c := fun j h1 h2 => (k j h1 h2).trans (h j h1 h2)
theorem Same.below {lo hi B : Nat} {w w' : World} (h : Below B w w') (hB : hi ≤ B) : Same lo hi w w' := fun k _ h2 => h.block k (by omega)
theorem reads_same {w w' : World} {B n : Nat} {A : Option Addr} {xs : List Value} (h : Reads w B A n xs) (hb : ∀ ad, A = some ad → w'.heap[ad.block]? = w.heap[ad.block]?) : Reads w' B A n xs := by
  refine ⟨h.1, fun hn => ?_⟩
  obtain ⟨ad, e, h1, h2⟩ := h.2 hn
  refine ⟨ad, e, h1, fun j u hu => ?_⟩
  have e2 : w'.heap[(ad.add j).block]? = w.heap[(ad.add j).block]? := by rw [block_of_add]; exact hb ad e
  exact (World.cell?_of_block e2).trans (h2 j u hu)
/-- The row lies not between lo and hi. -/
def Off (v : Value) (lo hi : Nat) : Prop := ∀ g, v.ownBlock = some g → g < lo ∨ hi ≤ g

theorem wpList_append1_off {P : Program} {ops : Array Oper} {rest : List Oper} {o : Oper} {a : Act} {Q : Exit → Act → World → Prop} (lo hi9 : Nat) (w : World) (y : Value) (tc : TypeId) (hgd : o.guard = none) (s x : Operand) (t : TypeId)
    (ho : o.op = .call { callee := .builtin .append, args := #[s, x], argTypes := #[t, t] })
    (base : Nat) (e : TypeId) (i : TypeInfo) (z : Value) (bytes : Nat) (ht : P.underlying t = some (.slice e)) (hi : P.info? e = some i) (hz : i.zero = some z)
    (hsize : i.size = 1) (hby : i.bytes = bytes) (hzs : z.cells.size = 1)
    (v : Value) (n : Nat) (xs : List Value) (hs : a.eval s = v) (hown : w.ownsRow base e 1 v n xs) (hx : a.eval x = .slice (some ⟨w.heap.size, 0, none⟩) 1 1) (hy : y.oneCell' = true)
    (h63 : n + 1 ≤ maxLen) (hbytes : (n + 1) * bytes ≤ 140737488355328) (hbase : base ≤ w.heap.size) (hhi : hi9 ≤ w.heap.size) (hoff : Off v lo hi9)
    (h : ∀ v' w', w'.ownsRow base e 1 v' (n + 1) (xs ++ [y]) → Below base w w' → Same lo hi9 w w' → Off v' lo hi9 → wpList P ops Q rest (a.put o.dst v') w') :
    wpList P ops Q (o :: rest) a (w.alloc (.cells #[y] tc)) := by
  refine wpList_append_lies _ hgd s x t ho base e i z 1 bytes ht hi hz hsize hby hzs (by omega) v n xs hs (hown.alloc _) ⟨w.heap.size, 0, none⟩ 1 1 [y] hx rfl one_cell ?_ (by omega) h63 hbytes (by simp; omega) (w.heap.size + 1) (by simp) ?_
  · intro u hu; simp at hu; subst hu; exact hy
  · intro g cap w' ho' hg hat hlt
    refine h _ w' ho' (Below.grown ((Below.refl _ _).alloc hbase _) hg (by simp; omega) fun k hk => (hown.lt k hk).1) (fun k h1 h2 => ?_) (fun g' hg' => ?_)
    · have hne : some k ≠ v.ownBlock := fun e => by
        rcases hoff k e.symm with h3 | h3 <;> omega
      exact (hg.block k (by simp; omega) hne).trans (Below.heap_alloc w _ k (by omega))
    · have e1 : g' = g := by simpa [Value.ownBlock] using hg'.symm
      subst e1
      rcases hat with h3 | h3
      · exact hoff _ h3
      · right; omega

set_option maxHeartbeats 4000000 in
theorem l6Label_any (lo hi : Nat) (xs : List UInt8) (base : Nat) (A : Option Addr) (n c : Nat) (s : ByteArray) (w : World) (hown : w.ownsRow base 5 1 (.slice A n c) n (xs.map bv)) (hbase : base ≤ w.heap.size) (hs : s.size ≤ 60) (hn : n ≤ 1000) (hhi : hi ≤ w.heap.size) (hoff : Off (.slice A n c) lo hi) :
    Calls Try.prog 27 #[.slice A n c, .string s] w fun e w' => ∃ A' c', e = .returned (.slice A' (n + (s.size + 1)) c') ∧ w'.ownsRow base 5 1 (.slice A' (n + (s.size + 1)) c') (n + (s.size + 1)) ((xs ++ labB (lst s)).map bv) ∧ Below base w w' ∧ Same lo hi w w' ∧ Off (.slice A' (n + (s.size + 1)) c') lo hi := by
  obtain ⟨i0, hi0, hz0, hz1, hz2⟩ := info_parts infoByte
  have hwr := u8_wrap s.size (by omega)
  have hbl := hid (byte_len s.size (by omega))
  go_enter Try.func27, Try.ntmps27
  go_wp2_with (at_builtin; refine wpList_append1_off lo hi w (.int .u8 (s.size : Int)) _ rfl (.tmp 6) (.tmp 10) _ rfl base 5 i0 _ 1 Try.underlying22 hi0 hz0 hz1 hz2 rfl _ _ _ rfl hown rfl rfl (by unfold maxLen; omega) (by omega) hbase hhi hoff ?_; intro v1 w1 hown1 hb1 hsm1 hof1)
  have hown2 : w1.ownsRow base 5 1 v1 (n + 1 + 0) ((xs ++ UInt8.ofNat s.size :: (lst s).take 0).map bv) := by
    rw [List.map_append, List.map_cons, hbl.out]
    exact hown1
  clear hown1 hwr
  go_loopw [0, 5] (fun v i wr => ∃ k : Nat, k ≤ s.size ∧ i = .int .i64 k ∧ wr.ownsRow base 5 1 v (n + 1 + k) ((xs ++ UInt8.ofNat s.size :: (lst s).take k).map bv) ∧ Below base w wr ∧ Same lo hi w wr ∧ Off v lo hi) (fun _ i _ => s.size - (intOf i).toNat)
  case atStart => exact ⟨0, Nat.zero_le _, rfl, hown2, hb1, hsm1, hof1⟩
  case round =>
    clear hown2 hb1 hsm1 hof1
    obtain ⟨k, hk, rfl, ho, hb, hsm, hof⟩ := hrel
    have hbs := hb.size
    by_cases hlt : k < s.size
    · have hst : xs ++ UInt8.ofNat s.size :: (lst s).take (k + 1) = (xs ++ UInt8.ofNat s.size :: (lst s).take k) ++ [s[k]] := by
        rw [lst_take_succ s k hlt]
        simp
      have HST := hid hst
      clear hst
      go_wp2_with (at_builtin; refine wpList_append1_off lo hi wr (.int .u8 (s[k].toNat : Int)) _ rfl (.tmp 18) (.tmp 22) _ rfl base 5 i0 _ 1 Try.underlying22 hi0 hz0 hz1 hz2 rfl _ _ _ rfl ho rfl rfl (by unfold maxLen; omega) (by omega) (by omega) (by omega) hof ?_; intro v2 w2 hown2 hb2 hsm2 hof2)
      have hown3 : w2.ownsRow base 5 1 v2 (n + 1 + (k + 1)) ((xs ++ UInt8.ofNat s.size :: (lst s).take (k + 1)).map bv) := by
        rw [HST.out, List.map_append, List.map_singleton]
        exact hown2
      exact ⟨⟨k + 1, by omega, by go_num, hown3, hb.trans hb2, hsm.trans hsm2, hof2⟩, by simp [intOf]; omega⟩
    · obtain rfl : k = s.size := by omega
      have hfull : (lst s).take s.size = lst s := List.take_of_length_le (by rw [lst_length]; omega)
      rw [hfull] at ho
      obtain ⟨A', c', rfl⟩ := own_slice ho
      have ho2 : wr.ownsRow base 5 1 (.slice A' (n + (s.size + 1)) c') (n + (s.size + 1)) ((xs ++ labB (lst s)).map bv) := by
        have e : n + 1 + s.size = n + (s.size + 1) := by omega
        unfold labB
        rw [lst_length]
        rw [e] at ho
        exact ho
      have e9 : Value.slice A' (n + 1 + s.size) c' = .slice A' (n + (s.size + 1)) c' := by congr 1; omega
      rw [e9] at hof ⊢
      clear ho e9 hfull
      go_wp2_with fail
      go_ret
      exact ⟨A', c', rfl, ho2, hb, hsm, hof⟩

/-- The bytes of a name. -/
def packN (s : Z.Str) : List UInt8 := packL (Z.labs s) ++ [0]
def packOut (s : Z.Str) : List UInt8 := if Z.valid s = true then packN s else []
theorem packN_length {s : Z.Str} (h : Z.valid s = true) : (packN s).length = if s = [46] then 1 else s.length + 1 := by
  unfold packN
  rw [List.length_append, packL_length]
  by_cases e : s = [46]
  · rw [if_pos e, e]
    rfl
  · rw [if_neg e]
    rcases Z.name_sum h with h1 | h1
    · rw [h1]; rfl
    · exact absurd h1 e

set_option maxHeartbeats 4000000 in
theorem PackName_any (s : ByteArray) (hs : s.size ≤ 67108864) (w : World) :
    Calls Try.prog 12 #[.string s] w fun e w' => ∃ A c, e = .returned (.tuple #[.slice A (packOut (lst s)).length c, .bool (Z.valid (lst s))]) ∧ w'.ownsRow w.heap.size 5 1 (.slice A (packOut (lst s)).length c) (packOut (lst s)).length ((packOut (lst s)).map bv) ∧ Below w.heap.size w w' := by
  obtain ⟨i0, hi0, hz0, hz1, hz2⟩ := info_parts infoByte
  have hown0 := World.ownsRow_made (e := 5) (size := 1) w #[] 0 (Nat.le_refl _) (by decide) (by simp)
  have hb0 : Below w.heap.size w (w.alloc (.cells #[] 5)) := (Below.refl _ _).alloc (Nat.le_refl _) _
  cases hv : Z.valid (lst s) with
  | false =>
    have hpo : packOut (lst s) = [] := by unfold packOut; rw [if_neg (by simp [hv])]
    rw [hpo]
    have HV := hid hv
    clear hv hpo
    go_enter Try.func12, Try.ntmps12
    go_wp2_with fail
    refine (NameValid_any s (by unfold maxLen; omega) _).mono ?_
    rintro e w2 ⟨rfl, hb2⟩
    rw [HV.out]
    have hown2 := own_next hown0 hb2
    go_wp2_with fail
    go_ret2
    exact ⟨_, _, rfl, hown2, hb0.trans (hb2.mono (by simp))⟩
  | true =>
    have hpo : packOut (lst s) = packN (lst s) := by unfold packOut; rw [if_pos hv]
    rw [hpo]
    have hok := Z.valid_iff.1 hv
    have h8 : (Z.labs (lst s)).length ≤ 8 := hok.2.2.2.2
    have hpos := Z.okLabs_pos hok.2.2.2.1
    have hpl : (packL (Z.labs (lst s))).length ≤ 88 := by
      rw [packL_length]
      have : ∀ ls : List Z.Str, (∀ l ∈ ls, l.length ≤ 10) → (ls.map (fun l => l.length + 1)).sum ≤ 11 * ls.length := by
        intro ls
        induction ls with
        | nil => intro _; simp
        | cons a r ih =>
          intro h
          have h1 := h a (by simp)
          have h2 := ih (fun l hl => h l (by simp [hl]))
          simp only [List.map_cons, List.sum_cons, List.length_cons]
          omega
      have h9 := this _ (fun l hl => (hpos l hl).2)
      omega
    have HV := hid hv
    have HP := hid hpos
    have HPL := hid hpl
    clear hv hpo hok hpos hpl
    go_enter Try.func12, Try.ntmps12
    go_wp2_with fail
    refine (NameValid_any s (by unfold maxLen; omega) _).mono ?_
    rintro e w2 ⟨rfl, hb2⟩
    rw [HV.out]
    have hown2 := own_next hown0 hb2
    have hb2' := hb0.trans (hb2.mono (by simp))
    have hw2 : w.heap.size < w2.heap.size := by have := hb2.size; simp at this; omega
    clear hown0 hb0 hb2
    go_wp2_with fail
    refine (l1Labels_any s hs _).mono ?_
    rintro e w3 ⟨A3, c3, rfl, hown3, hb3⟩
    have hout3 := own_next hown2 hb3
    have hrd := (Reads.of_own hown3)
    have hlab : ∀ ad, A3 = some ad → 0 < (Z.labs (lst s)).length → w2.heap.size ≤ ad.block := fun ad e h0 => by
      obtain ⟨g, cap, hv, hbg, hgl⟩ := hown3.form h0
      injection hv with hA
      rw [e] at hA
      injection hA with hA
      rw [hA]
      exact hbg
    have HLAB := hid hlab
    clear hlab
    have hb3' := hb2'.trans (hb3.mono hb2'.size)
    clear hown2 hown3 hb3 hb2'
    have hout4 : w3.ownsRow w.heap.size 5 1 (.slice (some ⟨w.heap.size, 0, none⟩) 0 0) (packL ((Z.labs (lst s)).take 0)).length ((packL ((Z.labs (lst s)).take 0)).map bv) := hout3
    have hoff3 : Off (.slice (some ⟨w.heap.size, 0, none⟩) 0 0) w2.heap.size w3.heap.size := fun g hg => by
      have e : g = w.heap.size := by simpa [Value.ownBlock] using hg.symm
      omega
    clear hout3
    go_wp2_with fail
    go_loopw [4, 6] (fun v i wr => ∃ k : Nat, k ≤ (Z.labs (lst s)).length ∧ i = .int .i64 k ∧ wr.ownsRow w.heap.size 5 1 v (packL ((Z.labs (lst s)).take k)).length ((packL ((Z.labs (lst s)).take k)).map bv) ∧ Below w.heap.size w wr ∧ Reads wr w3.heap.size A3 (Z.labs (lst s)).length ((Z.labs (lst s)).map sv) ∧ w3.heap.size ≤ wr.heap.size ∧ Off v w2.heap.size w3.heap.size) (fun _ i _ => (Z.labs (lst s)).length - (intOf i).toNat)
    case atStart => exact ⟨0, Nat.zero_le _, rfl, hout4, hb3', hrd, Nat.le_refl _, hoff3⟩
    case round =>
      obtain ⟨k, hk, rfl, ho, hb, hr, hsz, hof⟩ := hrel
      have hbs := hb.size
      obtain ⟨A4, c4, rfl⟩ := own_slice ho
      by_cases hlt : k < (Z.labs (lst s)).length
      · obtain ⟨ad, x, rfl, hab, hx, hcell⟩ := reads_str hr hlt
        have hxm : lst x ∈ Z.labs (lst s) := by rw [hx]; simp [hlt]
        have hxl := (HP.out _ hxm).2
        rw [lst_length] at hxl
        have hpk : packL ((Z.labs (lst s)).take (k + 1)) = packL ((Z.labs (lst s)).take k) ++ labB (lst x) := packL_take (by
          rw [hx, List.getElem?_eq_getElem hlt]
          simp [hlt])
        have HPK := hid hpk
        have hle := Nat.le_trans (packL_le (ls := Z.labs (lst s)) (k := k)) HPL.out
        obtain ⟨m, hm⟩ : ∃ m, m = (packL ((Z.labs (lst s)).take k)).length := ⟨_, rfl⟩
        rw [← hm] at ho hle hof ⊢
        have HM := hid hm
        have hcell0 : k = 0 → wr.cell? ad = some (.string x) := fun e => by subst e; simpa [Addr.add] using hcell
        clear hx hxm hpk hm
        go_wp2_with fail
        refine (l6Label_any w2.heap.size w3.heap.size _ w.heap.size A4 m c4 x _ ho hbs (by omega) (by omega) hsz hof).mono ?_
        rintro e w5 ⟨A5, c5, rfl, ho5, hb5, hsm5, hof5⟩
        have ho6 : w5.ownsRow w.heap.size 5 1 (.slice A5 (m + (x.size + 1)) c5) (packL ((Z.labs (lst s)).take (k + 1))).length ((packL ((Z.labs (lst s)).take (k + 1))).map bv) := by
          rw [HPK.out]
          have e : (packL ((Z.labs (lst s)).take k) ++ labB (lst x)).length = m + (x.size + 1) := by
            rw [List.length_append, HM.out]
            unfold labB
            rw [List.length_cons, lst_length]
          rw [e]
          exact ho5
        have hr6 := reads_same hr (fun ad9 e9 => hsm5 _ (HLAB.out ad9 e9 (by omega)) (by obtain rfl := Option.some.inj e9; exact hab))
        have hsz6 : w3.heap.size ≤ w5.heap.size := Nat.le_trans hsz hb5.size
        have hb6 := hb.trans hb5
        clear ho ho5
        go_wp2_with fail
        exact ⟨⟨k + 1, by omega, by go_num, ho6, hb6, hr6, hsz6, hof5⟩, by simp [intOf]; omega⟩
      · obtain rfl : k = (Z.labs (lst s)).length := by omega
        rw [List.take_of_length_le (Nat.le_refl _)] at ho hof ⊢
        obtain ⟨m, hm⟩ : ∃ m, m = (packL (Z.labs (lst s))).length := ⟨_, rfl⟩
        have hml : m ≤ 88 := by rw [hm]; exact HPL.out
        rw [← hm] at ho hof ⊢
        have HM := hid hm
        clear hm
        go_wp2_with (at_builtin; refine wpList_append1 wr (.int .u8 0) _ rfl (.tmp 26) (.tmp 27) _ rfl w.heap.size 5 i0 _ 1 Try.underlying22 hi0 hz0 hz1 hz2 rfl _ _ _ rfl ho rfl rfl (by unfold maxLen; omega) (by omega) hbs ?_; intro v7 w7 hown7 hb7)
        obtain ⟨A7, c7, rfl⟩ := own_slice hown7
        have e7 : (packN (lst s)).length = m + 1 := by unfold packN; rw [List.length_append, ← HM.out]; rfl
        have ho8 : w7.ownsRow w.heap.size 5 1 (.slice A7 (m + 1) c7) (m + 1) ((packN (lst s)).map bv) := by
          unfold packN
          rw [List.map_append]
          exact hown7
        clear hown7 ho
        go_wp2_with fail
        go_ret2
        rw [e7]
        exact ⟨A7, c7, rfl, ho8, hb.trans hb7⟩
end Go.Proofs.Ythbeecgfikcfdaa

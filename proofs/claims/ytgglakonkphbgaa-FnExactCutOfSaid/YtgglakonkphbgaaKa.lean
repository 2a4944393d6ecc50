/- What PackName of the model returns. -/
import Derived.Test.YtgglakonkphbgaaS
import Derived.IntWalk
import Derived.Test.YtgglakonkphbgaaBk
namespace Go.Proofs.Ytgglakonkphbgaa
open Go.RowKit
set_option maxRecDepth 100000
set_option linter.unusedVariables false
set_option linter.unusedSimpArgs false

/-- The bytes of a label: how many there are, and they. -/
def labB (l : Z.Str) : List UInt8 := UInt8.ofNat l.length :: l
def packL (ls : List Z.Str) : List UInt8 := ls.flatMap labB
theorem packL_length : ∀ ls : List Z.Str, (packL ls).length = (ls.map (fun l => l.length + 1)).sum
  | [] => rfl
  | l :: r => by
    have h := packL_length r
    show (labB l ++ packL r).length = _
    rw [List.length_append, h, List.map_cons, List.sum_cons]
    rfl
theorem packL_take {ls : List Z.Str} {k : Nat} {l : Z.Str} (h : ls[k]? = some l) : packL (ls.take (k + 1)) = packL (ls.take k) ++ labB l := by
  obtain ⟨hk, e⟩ := List.getElem?_eq_some_iff.1 h
  unfold packL
  rw [List.take_succ_eq_append_getElem hk, e, List.flatMap_append]
  simp
theorem packL_le : ∀ {ls : List Z.Str} {k : Nat}, (packL (ls.take k)).length ≤ (packL ls).length := by
  intro ls k
  have h : packL ls = packL (ls.take k) ++ packL (ls.drop k) := by
    unfold packL
    rw [← List.flatMap_append, List.take_append_drop]
  rw [h, List.length_append]
  omega
theorem byte_len (n : Nat) (h : n ≤ 255) : bv (UInt8.ofNat n) = .int .u8 (n : Int) := by
  unfold bv
  congr 1
  rw [UInt8.toNat_ofNat']
  omega
theorem u8_wrap (n : Nat) (h : n ≤ 255) : IntKind.u8.wrap (n : Int) = n := by
  have h1 : IntKind.u8.wrap (n : Int) = (n : Int) := by
    unfold IntKind.wrap
    simp [IntKind.signed, IntKind.bits]
    omega
  exact h1

/-- Blocks from lo to hi are as they were. -/
def Same (lo hi : Nat) (w w' : World) : Prop := ∀ k, lo ≤ k → k < hi → w'.heap[k]? = w.heap[k]?
theorem Same.refl (lo hi : Nat) (w : World) : Same lo hi w w := fun _ _ _ => rfl
theorem Same.trans {lo hi : Nat} {a b c : World} (h : Same lo hi a b) (k : Same lo hi b c) : Same lo hi a c := fun j h1 h2 => (k j h1 h2).trans (h j h1 h2)
theorem Same.below {lo hi B : Nat} {w w' : World} (h : Below B w w') (hB : hi ≤ B) : Same lo hi w w' := fun k _ h2 => h.block k (by omega)
theorem reads_same {w w' : World} {B n : Nat} {A : Option Addr} {xs : List Value} (h : Reads w B A n xs) (hb : ∀ ad, A = some ad → w'.heap[ad.block]? = w.heap[ad.block]?) : Reads w' B A n xs := by
  refine ⟨h.1, fun hn => ?_⟩
  obtain ⟨ad, e, h1, h2⟩ := h.2 hn
  refine ⟨ad, e, h1, fun j u hu => ?_⟩
  have e2 : w'.heap[(ad.add j).block]? = w.heap[(ad.add j).block]? := by rw [block_of_add]; exact hb ad e
  exact (World.cell?_of_block e2).trans (h2 j u hu)
/-- The row lies not between lo and hi. -/
def Off (v : Value) (lo hi : Nat) : Prop := ∀ g, v.ownBlock = some g → g < lo ∨ hi ≤ g

theorem wpList_append1_off {P : Program} {ops : Array Oper} {rest : List Oper} {o : Oper} {a : Act} {Q : Exit → Act → World → Prop} (lo hi9 : Nat) (w : World) (y : Value) (tc : TypeId) (hgd : o.guard = none) (s x : Operand) (t : TypeId)
    (ho : o.op = .call { callee := .builtin .append, args := #[s, x], argTypes := #[t, t] })
    (base : Nat) (e : TypeId) (i : TypeInfo) (z : Value) (bytes : Nat) (ht : P.underlying t = some (.slice e)) (hi : P.info? e = some i) (hz : i.zero = some z)
    (hsize : i.size = 1) (hby : i.bytes = bytes) (hzs : z.cells.size = 1)
    (v : Value) (n : Nat) (xs : List Value) (hs : a.eval s = v) (hown : w.ownsRow base e 1 v n xs) (hx : a.eval x = .slice (some ⟨w.heap.size, 0, none⟩) 1 1) (hy : y.oneCell' = true)
    (h63 : n + 1 ≤ maxLen) (hbytes : (n + 1) * bytes ≤ 140737488355328) (hbase : base ≤ w.heap.size) (hhi : hi9 ≤ w.heap.size) (hoff : Off v lo hi9)
    (h : ∀ v' w', w'.ownsRow base e 1 v' (n + 1) (xs ++ [y]) → Below base w w' → Same lo hi9 w w' → Off v' lo hi9 → wpList P ops Q rest (a.put o.dst v') w') :
    wpList P ops Q (o :: rest) a (w.alloc (.cells #[y] tc)) := by
  refine wpList_append_lies _ hgd s x t ho base e i z 1 bytes ht hi hz hsize hby hzs (by omega) v n xs hs (hown.alloc _) ⟨w.heap.size, 0, none⟩ 1 1 [y] hx rfl one_cell ?_ (by omega) h63 hbytes (by simp; omega) (w.heap.size + 1) (by simp) ?_
  · intro u hu; simp at hu; subst hu; exact hy
  · intro g cap w' ho' hg hat hlt
    refine h _ w' ho' (Below.grown ((Below.refl _ _).alloc hbase _) hg (by simp; omega) fun k hk => (hown.lt k hk).1) (fun k h1 h2 => ?_) (fun g' hg' => ?_)
    · have hne : some k ≠ v.ownBlock := fun e => by
        rcases hoff k e.symm with h3 | h3 <;> omega
      exact (hg.block k (by simp; omega) hne).trans (Below.heap_alloc w _ k (by omega))
    · have e1 : g' = g := by simpa [Value.ownBlock] using hg'.symm
      subst e1
      rcases hat with h3 | h3
      · exact hoff _ h3
      · right; omega

/-- The bytes of a name. -/
def packN (s : Z.Str) : List UInt8 := packL (Z.labs s) ++ [0]
def packOut (s : Z.Str) : List UInt8 := if Z.valid s = true then packN s else []
theorem packN_length {s : Z.Str} (h : Z.valid s = true) : (packN s).length = if s = [46] then 1 else s.length + 1 := by
  unfold packN
  rw [List.length_append, packL_length]
  by_cases e : s = [46]
  · rw [if_pos e, e]
    rfl
  · rw [if_neg e]
    rcases Z.name_sum h with h1 | h1
    · rw [h1]; rfl
    · exact absurd h1 e

end Go.Proofs.Ytgglakonkphbgaa

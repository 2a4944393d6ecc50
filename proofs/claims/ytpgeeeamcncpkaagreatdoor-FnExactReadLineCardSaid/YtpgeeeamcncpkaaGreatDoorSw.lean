/- The scanner of master files: what readRecord does. -/
import Derived.Test.YtpgeeeamcncpkaaGreatDoorSv
import Derived.Test.YtpgeeeamcncpkaaGreatDoorRs
import Derived.Test.YtpgeeeamcncpkaaGreatDoorPd
import Derived.Deep.RegionWith
import Derived.Deep.AppendLies
import Derived.Deep.Cut
namespace Go.Proofs.YtpgeeeamcncpkaaGreatDoor.Z
theorem num_no {s : Str} {n : Int} (a : num s = none) (b : num s = some n) : False := by rw [a] at b; cases b
theorem kindOf_num {f : Str} {n : Int} (h : num f = some n) : kindOf f = none := by
  unfold kindOf
  repeat' split
  all_goals first
    | rfl
    | (rename_i e; subst e; exact (num_no (by decide) h).elim)
/-- The record of a line, its fields looked at one by one. -/
def recKind (o : Str) (ow : Str) (t : Int) (f : Str) (r : List Str) : Option Rec := (kindOf f).bind fun k => readData ow t k r o
def recWord (o : Str) (ow : Str) (t : Int) (f : Str) (r : List Str) : Option Rec :=
  if f = inWord then (match r with | [] => none | g :: q => recKind o ow t g q) else recKind o ow t f r
def recOf (o : Str) (t : Int) (ow : Str) (fs : List Str) : Option Rec :=
  match fs with
  | [] => none
  | f :: r => match readNum f 100000 with
    | some n => (match r with | [] => none | g :: q => recWord o ow n g q)
    | none => recWord o ow t f r
theorem recKind_eq (o ow : Str) (t : Int) (f : Str) (r : List Str) : (match kindOf f with | none => none | some k => readData ow t k r o) = recKind o ow t f r := by
  unfold recKind
  cases kindOf f <;> rfl
theorem recWord_eq (o ow : Str) (t : Int) (f : Str) (r : List Str) : (match takeIn (f :: r) with | [] => none | g :: q => match kindOf g with | none => none | some k => readData ow t k q o) = recWord o ow t f r := by
  unfold takeIn recWord
  by_cases h : f = inWord
  · simp only [h, if_true]
    cases r with
    | nil => rfl
    | cons g q => exact recKind_eq o ow t g q
  · simp only [h, if_false]
    exact recKind_eq o ow t f r
theorem recOf_eq (o : Str) (t : Int) (ow : Str) (fs : List Str) : record ⟨o, t, ow⟩ fs = recOf o t ow fs := by
  unfold record recOf
  cases fs with
  | nil => rfl
  | cons f r =>
    cases hn : num f with
    | none =>
      have h2 : readNum f 100000 = none := by
        cases h : readNum f 100000 with
        | none => rfl
        | some m => rw [((readNum_iff (by decide)).1 h).1] at hn; cases hn
      simp only [takeTtl, hn, h2]
      exact recWord_eq o ow t f r
    | some n =>
      by_cases hr : 0 ≤ n ∧ n ≤ 100000
      · have h2 : readNum f 100000 = some n := (readNum_iff (by decide)).2 ⟨hn, hr⟩
        simp only [takeTtl, hn, h2]
        cases r with
        | nil => rfl
        | cons g q => exact recWord_eq o ow n g q
      · have h2 : readNum f 100000 = none := by
          cases h : readNum f 100000 with
          | none => rfl
          | some m =>
            obtain ⟨a, b, c⟩ := (readNum_iff (by decide)).1 h
            rw [hn] at a
            injection a with a
            subst a
            exact absurd ⟨b, c⟩ hr
        simp only [takeTtl, hn, h2]
        have hi : f ≠ inWord := fun e => by subst e; exact num_no (by decide) hn
        unfold recWord
        rw [if_neg hi]
        unfold recKind
        rw [kindOf_num hn]
        have hbad : ∀ (q : List Str) (k : Int), readData ow n k q o = none := fun q k => by
          cases hd : readData ow n k q o with
          | none => rfl
          | some x =>
            obtain ⟨hv, _, ht, _⟩ := readData_some hd
            obtain ⟨_, h0, h1, _⟩ := recValid_iff.1 hv
            rw [ht] at h0 h1
            exact absurd ⟨h0, h1⟩ hr
        show (match takeIn r with | [] => none | g :: q => match kindOf g with | none => none | some k => readData ow n k q o) = none
        cases takeIn r with
        | nil => rfl
        | cons g q =>
          show (match kindOf g with | none => none | some k => readData ow n k q o) = none
          cases kindOf g with
          | none => rfl
          | some k => exact hbad q k
end Go.Proofs.YtpgeeeamcncpkaaGreatDoor.Z
namespace Go.Proofs.YtpgeeeamcncpkaaGreatDoor
open Go.RowKit
set_option maxRecDepth 100000
set_option linter.unusedVariables false
set_option linter.unusedSimpArgs false

def TR : TypeId := 25
/-- The records that were read, each with numbers of its own. -/
def Lst (b : Nat) (w : World) (LV : Value) (os : List RV) : Prop :=
  w.ownsRow (b + 1) TR 6 LV os.length (flat os) ∧ ∀ x ∈ os, w.ownsRow (b + 1) 3 1 (.slice x.A x.L x.C) x.L (x.Z.map iv)
theorem own_farB {b : Nat} {w w' : World} {base : Nat} {e : TypeId} {size : Nat} {v : Value} {n : Nat} {xs : List Value} (h : w.ownsRow base e size v n xs) (hb : b < base) (k : FarB b w w') : w'.ownsRow base e size v n xs := by
  obtain ⟨h1, h2⟩ := h
  refine ⟨h1, ?_⟩
  rcases h2 with h2 | ⟨g, cap, cur, hv, hg, hh, r⟩
  · exact Or.inl h2
  · exact Or.inr ⟨g, cap, cur, hv, hg, k.keep g e cur.toList (by omega) hh, r⟩
theorem Lst.far {b : Nat} {w w' : World} {LV : Value} {os : List RV} (h : Lst b w LV os) (k : FarB b w w') : Lst b w' LV os :=
  ⟨own_farB h.1 (Nat.lt_succ_self b) k, fun x hx => own_farB (h.2 x hx) (Nat.lt_succ_self b) k⟩
theorem Lst.slice {b : Nat} {w : World} {LV : Value} {os : List RV} (h : Lst b w LV os) : ∃ A c, LV = .slice A os.length c := by
  rcases h.1.2 with ⟨e1, e2⟩ | ⟨g, cap, cur, hv, _⟩
  · rw [e1, e2]; exact ⟨none, 0, rfl⟩
  · exact ⟨_, _, hv⟩
theorem TSR : TS ≠ TR := by unfold TS TR; decide
theorem own_types {w : World} {b1 b2 : Nat} {e1 e2 : TypeId} {s1 s2 : Nat} {v1 v2 : Value} {n1 n2 : Nat} {x1 x2 : List Value} (h : w.ownsRow b1 e1 s1 v1 n1 x1) (k : w.ownsRow b2 e2 s2 v2 n2 x2) (hne : e1 ≠ e2) : v1.ownBlock = none ∨ v1.ownBlock ≠ v2.ownBlock := by
  rcases h.2 with ⟨e, _⟩ | ⟨g, cap, cur, hv, hg, hh, r⟩
  · left; rw [e]; rfl
  · right
    rcases k.2 with ⟨e, _⟩ | ⟨g2, cap2, cur2, hv2, hg2, hh2, r2⟩
    · rw [hv, e]; simp [Value.ownBlock]
    · rw [hv, hv2]
      simp only [Value.ownBlock, ne_eq, Option.some.injEq]
      intro e
      subst e
      rw [hh] at hh2
      injection hh2 with h9
      injection h9 with h10 h11
      exact hne h11
theorem FarB.putNew {b g : Nat} {w w' : World} (h : FarB b w w') (hg : w.heap.size ≤ g) (hbg : b ≤ g) (i : Nat) (v : Value) : FarB b w (w'.setCell ⟨g, i, none⟩ v) :=
  ⟨h.below.setCell (p := ⟨g, i, none⟩) hbg v, fun k t cs hk hb => (h.keep k t cs hk hb).far (p := ⟨g, i, none⟩) (by show k ≠ g; have := hb.lt; omega) v⟩
theorem FarB.drew {b : Nat} {w w' : World} (h : FarB b w w') : FarB b w w'.drew := h.trans ⟨below_drewN (Below.refl _ _) 1, fun _ _ _ _ k => k⟩
theorem FarB.alloc {b : Nat} {w w' : World} (h : FarB b w w') (hb : b ≤ w'.heap.size) (o : Obj) : FarB b w (w'.alloc o) := h.trans (FarB.of ((Below.refl _ _).alloc (Nat.le_refl _) o) hb)
theorem Flds.put {b : Nat} {w : World} {A : Option Addr} {c g : Nat} {fs : List Z.Str} {cs : List Value} (h : Flds b w A c fs) (hx : Blk w g TR cs) (i : Nat) (v : Value) : Flds b (w.setCell ⟨g, i, none⟩ v) A c fs :=
  ⟨h.1, fun hn => by
    obtain ⟨g2, off, cs2, e, hg, hb, hc⟩ := h.2 hn
    refine ⟨g2, off, cs2, e, hg, hb.far (p := ⟨g, i, none⟩) (fun e => ?_) v, hc⟩
    subst e
    unfold Blk at hb hx
    rw [hb] at hx
    injection hx with h9
    injection h9 with h10 h11
    exact absurd h11 (by unfold TR; decide)⟩
theorem Flds.below {b : Nat} {w w' : World} {A : Option Addr} {c : Nat} {fs : List Z.Str} (h : Flds b w A c fs) (hb : Below w.heap.size w w') : Flds b w' A c fs :=
  ⟨h.1, fun hn => by
    obtain ⟨g2, off, cs2, e, hg, hk, hc⟩ := h.2 hn
    exact ⟨g2, off, cs2, e, hg, hk.next hb, hc⟩⟩
theorem Flds.drew {b : Nat} {w : World} {A : Option Addr} {c : Nat} {fs : List Z.Str} (h : Flds b w A c fs) : Flds b w.drew A c fs := h
/-- What is kept over a line: all but the scanner and the records that were read. -/
def KeepT (b : Nat) (w w' : World) : Prop := Below b w w' ∧ ∀ k t cs, t ≠ TR → k ≠ b → Blk w k t cs → Blk w' k t cs
theorem FarB.keepT {b : Nat} {w w' : World} (h : FarB b w w') : KeepT b w w' := ⟨h.below, fun k t cs _ hk hb => h.keep k t cs hk hb⟩
theorem KeepT.trans {b : Nat} {w w' w'' : World} (h : KeepT b w w') (k : KeepT b w' w'') : KeepT b w w'' := ⟨h.1.trans k.1, fun i t cs ht hi hb => k.2 i t cs ht hi (h.2 i t cs ht hi hb)⟩
def FailsL (b : Nat) (l : Int) (w : World) (e : Ending) (w' : World) : Prop :=
  e = .panicked [{ v := lineErr l, recovered := false }] ∧ KeepT b w w' ∧ ∃ (o ow : ByteArray) (t : Int) (A : Option Addr) (n c : Nat) (A2 : Option Addr) (n2 c2 : Nat), Blk w' b TS [.string o, .int .i64 t, .string ow, .int .i64 l, .slice A n c, .slice A2 n2 c2]
def DoneL (b : Nat) (l : Int) (os : List RV) (s : Z.St) (x : Option Z.Rec) (w : World) (e : Ending) (w' : World) : Prop :=
  e = .returned (.tuple #[]) ∧ KeepT b w w' ∧ ∃ (o ow : ByteArray) (A : Option Addr) (n c : Nat) (LV : Value) (ys : List RV), s = ⟨lst o, s.ttl, lst ow⟩ ∧ Blk w' b TS [.string o, .int .i64 s.ttl, .string ow, .int .i64 l, .slice A n c, LV] ∧ Lst b w' LV (os ++ ys) ∧ ys.map RV.z = x.toList
/-- What a line leaves. -/
def LineOut (b : Nat) (l : Int) (os : List RV) (w : World) (res : Option (Z.St × Option Z.Rec)) (e : Ending) (w' : World) : Prop :=
  match res with
  | none => FailsL b l w e w'
  | some (s, x) => DoneL b l os s x w e w'
theorem line_fails {b : Nat} {l : Int} {os : List RV} {w w' : World} {res : Option (Z.St × Option Z.Rec)} {e : Ending} (h : res = none) (k : FailsL b l w e w') : LineOut b l os w res e w' := by subst h; exact k
theorem line_done {b : Nat} {l : Int} {os : List RV} {w w' : World} {res : Option (Z.St × Option Z.Rec)} {e : Ending} {s : Z.St} {x : Option Z.Rec} (h : res = some (s, x)) (k : DoneL b l os s x w e w') : LineOut b l os w res e w' := by subst h; exact k
theorem line_panic {b : Nat} {l : Int} {os : List RV} {w w' : World} {res : Option (Z.St × Option Z.Rec)} {o ow : ByteArray} {t : Int} {A : Option Addr} {n c : Nat} {A2 : Option Addr} {n2 c2 : Nat} (h : res = none) (hr : FarB b w w') (hs : Blk w' b TS [.string o, .int .i64 t, .string ow, .int .i64 l, .slice A n c, .slice A2 n2 c2]) : LineOut b l os w res (.panicked [{ v := lineErr l, recovered := false }]) w' := line_fails h ⟨rfl, hr.keepT, _, _, _, _, _, _, _, _, _, hs⟩
/-- 'append(list, r)': the record lies in a new block of six cells. -/
theorem wpList_append6 {P : Program} {ops : Array Oper} {rest : List Oper} {o : Oper} {a : Act} {Q : Exit → Act → World → Prop} (w : World) (x : RV) (tc : TypeId) (hgd : o.guard = none) (s y : Operand) (t : TypeId)
    (ho : o.op = .call { callee := .builtin .append, args := #[s, y], argTypes := #[t, t] })
    (base : Nat) (e : TypeId) (i : TypeInfo) (z : Value) (bytes : Nat) (ht : P.underlying t = some (.slice e)) (hi : P.info? e = some i) (hz : i.zero = some z)
    (hsize : i.size = 6) (hby : i.bytes = bytes) (hzs : z.cells.size = 6)
    (v : Value) (n : Nat) (xs : List Value) (hs : a.eval s = v) (hown : w.ownsRow base e 6 v n xs) (hx : a.eval y = .slice (some ⟨w.heap.size, 0, none⟩) 1 1)
    (h63 : n + 1 ≤ maxLen) (hbytes : (n + 1) * bytes ≤ 140737488355328) (hbase : base ≤ w.heap.size)
    (h : ∀ v' w', w'.ownsRow base e 6 v' (n + 1) (xs ++ x.cells) → (w.alloc (.cells x.cells.toArray tc)).grownBy w' v.ownBlock → wpList P ops Q rest (a.put o.dst v') w') :
    wpList P ops Q (o :: rest) a (w.alloc (.cells x.cells.toArray tc)) := by
  refine wpList_append_own _ hgd s y t ho base e i z 6 bytes ht hi hz hsize hby hzs (by omega) v n xs hs (hown.alloc _) ⟨w.heap.size, 0, none⟩ 1 1 x.cells hx rfl ?_ ?_ h63 hbytes (by simp; omega) ?_
  · intro j u hu
    rw [Addr.add_lit, (Blk.new w tc x.cells).cell]
    simpa using hu
  · intro u hu
    simp only [RV.cells, List.mem_cons, List.not_mem_nil, or_false] at hu
    rcases hu with rfl | rfl | rfl | rfl | rfl | rfl <;> rfl
  · intro v' w' ho' hg _
    exact h v' w' ho' hg
theorem flat_snoc (os : List RV) (x : RV) : flat (os ++ [x]) = flat os ++ x.cells := by simp [flat]
theorem grown_other {b : Nat} {w5 w6 : World} {LV : Value} {os : List RV} {x : RV} (hL : Lst b w5 LV os) (hg : (w5.alloc (.cells x.cells.toArray TR)).grownBy w6 LV.ownBlock) {k : Nat} {t' : TypeId} {cs : List Value} (ht : t' ≠ TR) (hb : Blk w5 k t' cs) : Blk w6 k t' cs := by
  have hb' := hb.alloc (.cells x.cells.toArray TR)
  refine Eq.trans (hg.block k hb'.lt ?_) hb'
  intro e
  rcases hL.1.2 with ⟨e2, _⟩ | ⟨g, cap, cur, hv, hg2, hh, r⟩
  · rw [e2] at e; cases e
  · rw [hv] at e
    simp only [Value.ownBlock, Option.some.injEq] at e
    subst e
    unfold Blk at hb
    rw [hh] at hb
    injection hb with h9
    injection h9 with h10 h11
    exact ht h11.symm
/-- The record is behind the others. -/
theorem took {b : Nat} {l t : Int} {o ow : ByteArray} {os : List RV} {x : RV} {w w5 w6 : World} {LV LV' : Value} {FA : Option Addr} {Fn Fc : Nat} (hL : Lst b w5 LV os) (hr : FarB b w w5) (hs : Blk w5 b TS [.string o, .int .i64 t, .string ow, .int .i64 l, .slice FA Fn Fc, LV])
    (hx : w5.ownsRow (b + 1) 3 1 (.slice x.A x.L x.C) x.L (x.Z.map iv)) (ho : w6.ownsRow (b + 1) TR 6 LV' (os.length + 1) (flat os ++ x.cells)) (hg : (w5.alloc (.cells x.cells.toArray TR)).grownBy w6 LV.ownBlock) :
    DoneL b l os ⟨lst o, t, lst ow⟩ (some x.z) w (.returned (.tuple #[])) (w6.setCell ⟨b, 5, none⟩ LV') := by
  have hne : ∀ k t' cs, t' ≠ TR → Blk w5 k t' cs → Blk w6 k t' cs := fun k t' cs ht hb => grown_other hL hg ht hb
  have hbelow : Below b w5 w6 := Below.grown ((Below.refl _ _).alloc (Nat.le_of_lt hs.lt) _) hg (by have := hs.lt; simp; omega) (fun k hk => by
    rcases hL.1.2 with ⟨e2, _⟩ | ⟨g, cap, cur, hv, hg2, hh, r⟩
    · rw [e2] at hk; cases hk
    · rw [hv] at hk
      simp only [Value.ownBlock, Option.some.injEq] at hk
      omega)
  have hown : ∀ y : RV, w5.ownsRow (b + 1) 3 1 (.slice y.A y.L y.C) y.L (y.Z.map iv) → (w6.setCell ⟨b, 5, none⟩ LV').ownsRow (b + 1) 3 1 (.slice y.A y.L y.C) y.L (y.Z.map iv) := fun y hy =>
    ownsRow_setCell_below ((hy.alloc _).kept hg (own_types hy hL.1 (by unfold TR; decide))) (a := ⟨b, 5, none⟩) (Nat.lt_succ_self b) LV'
  refine ⟨rfl, ⟨(hr.below.trans hbelow).setCell (p := ⟨b, 5, none⟩) (Nat.le_refl _) _, fun k t' cs ht hk hb => (hne k t' cs ht (hr.keep k t' cs hk hb)).far (p := ⟨b, 5, none⟩) hk _⟩, o, ow, FA, Fn, Fc, LV', [x], rfl, (hne b TS _ (by unfold TS TR; decide) hs).put 5 LV', ⟨?_, ?_⟩, rfl⟩
  · rw [List.length_append, flat_snoc]
    exact ownsRow_setCell_below ho (a := ⟨b, 5, none⟩) (Nat.lt_succ_self b) LV'
  · intro y hy
    rcases List.mem_append.1 hy with hy | hy
    · exact hown y (hL.2 y hy)
    · rw [List.mem_singleton.1 hy]
      exact hown x hx

theorem iReadData_s (aN : ByteArray) (aT aK : Int) (rA : Option Addr) (rL rC : Nat) (rG rX : ByteArray) (fs : List Z.Str) (B : Nat) (A : Option Addr) (c : Nat) (or : ByteArray) (w : World) (hm : MX w) (hr : Reads w B A fs.length (fs.map sv)) (hB : B ≤ w.heap.size) (hcap : fs.length ≤ c) (hlen : fs.length ≤ 67108864) (hor : or.size ≤ 67108863) (hnm : aN.size ≤ 67108863) (hsz : Hid (∀ l ∈ fs, l.length ≤ 67108863)) (o : Option Z.Rec) (ho : Hid (Z.readData (lst aN) aT aK fs (lst or) = o)) (ok : Bool) (hok : Hid (o.isSome = ok)) :
    Calls Tryz.prog 15 #[.agg #[.string aN, .int .i64 aT, .int .i64 aK, .slice rA rL rC, .string rG, .string rX], .slice A fs.length c, .string or] w fun e w' => ∃ (N : ByteArray) (T K : Int) (A : Option Addr) (L c : Nat) (x y : ByteArray) (ns : List Int), e = .returned (.tuple #[.agg #[.string N, .int .i64 T, .int .i64 K, .slice A L c, .string x, .string y], .bool ok]) ∧ w'.ownsRow w.heap.size 3 1 (.slice A L c) L (ns.map iv) ∧ o.getD noRec = ⟨lst N, T, K, ns, lst x, lst y⟩ ∧ L ≤ 7 ∧ Below w.heap.size w w' := by
  have h := iReadData_any aN aT aK rA rL rC rG rX fs B A c or w hm hr hB hcap hlen hor hnm hsz
  unfold ParseOut at h
  rw [ho.out, hok.out] at h
  exact h

set_option maxHeartbeats 16000000 in
theorem rr_p (W0 : World) (hm : MX W0) (hk : KT W0) (b : Nat) (hb0 : W0.heap.size ≤ b) (o ow : ByteArray) (t l : Int) (A : Option Addr) (c : Nat) (LV : Value) (os : List RV) (w : World) (h0 : Below W0.heap.size W0 w) (fs : List Z.Str) (hs : Blk w b TS [.string o, .int .i64 t, .string ow, .int .i64 l, .slice A fs.length c, LV]) (hf : Flds b w A c fs) (hL : Lst b w LV os) (hos : os.length ≤ 60)
    (ho : o.size ≤ 67108860) (how : ow.size ≤ 67108860) (hsz : Hid (∀ f ∈ fs, f.length ≤ 67108860)) (hql : fs.length ≤ 67108860) :
    Calls Tryz.prog 148 #[.pointer (some ⟨b, 0, none⟩), .bool false] w (LineOut b l os w ((Z.recOf (lst o) t (lst ow) fs).bind fun r => if os.length < 60 then some (⟨lst o, t, lst ow⟩, some r) else none)) := by
  have hMX : ∀ w', FarB b w w' → MX w' := fun w' h => hm.below (h0.trans (h.below.mono hb0))
  have hKT : ∀ w', FarB b w w' → KT w' := fun w' h => hk.below (h0.trans (h.below.mono hb0))
  obtain ⟨i0, hi0, iz0, iz1, iz2⟩ := info_parts infoRec
  have hr := FarB.refl b w
  obtain ⟨LA, Lc, rfl⟩ := hL.slice
  obtain ⟨RS, hRS⟩ : ∃ RS : Option (Z.St × Option Z.Rec), ((Z.recOf (lst o) t (lst ow) fs).bind fun r => if os.length < 60 then some (⟨lst o, t, lst ow⟩, some r) else none) = RS := ⟨_, rfl⟩
  rw [hRS]
  have HRS := hid hRS
  clear hRS
  go_enter Tryz.func148, Tryz.ntmps148
  obtain ⟨d0, d1, d2, d3, d4, d5⟩ := hs.cells6
  have hgb : w.heap.size ≠ b := by have := hs.lt; omega
  have hwg : w.heap.size ≤ w.heap.size := hr.size
  have hbg : b ≤ w.heap.size := Nat.le_of_lt hs.lt
  have HGB := hid hgb
  have hx := (Blk.new w 25 [.string ow, .int .i64 t, .int .i64 0, .slice none 0 0, .string ⟨#[]⟩, .string ⟨#[]⟩]).drew
  have hr0 := (hr.alloc hbg (.cells #[.string ow, .int .i64 t, .int .i64 0, .slice none 0 0, .string ⟨#[]⟩, .string ⟨#[]⟩] 25)).drew
  have hf0 := (hf.below ((Below.refl w.heap.size w).alloc (Nat.le_refl _) (.cells #[.string ow, .int .i64 t, .int .i64 0, .slice none 0 0, .string ⟨#[]⟩, .string ⟨#[]⟩] 25))).drew
  have hs0 := (hs.alloc (.cells #[.string ow, .int .i64 t, .int .i64 0, .slice none 0 0, .string ⟨#[]⟩, .string ⟨#[]⟩] 25)).drew
  have hz9 := (hs.alloc (.cells #[.string ⟨#[]⟩, .int .i64 0, .int .i64 0, .slice none 0 0, .string ⟨#[]⟩, .string ⟨#[]⟩] 25)).drew
  obtain ⟨e0, e1, e2, e3, e4, e5⟩ := hz9.cells6
  go_wp2_with fail
  go_region
  obtain ⟨wa, hwa⟩ : ∃ wa, (w.alloc (.cells #[.string ow, .int .i64 t, .int .i64 0, .slice none 0 0, .string ⟨#[]⟩, .string ⟨#[]⟩] 25)).drew = wa := ⟨_, rfl⟩
  rw [hwa] at hx hr0 hf0 hs0 ⊢
  clear hwa d0 d1 d2 d3 d4 d5 e0 e1 e2 e3 e4 e5 hz9 hs hf hr
  have hs := hs0
  have hf := hf0
  have hr := hr0
  clear hs0 hf0 hr0
  obtain ⟨d0, d1, d2, d3, d4, d5⟩ := hs.cells6
  cases fs with
  | nil =>
    go_wp2_with fail
    refine (next_none b o ow t l _ _ _ _ hs).mono ?_
    rintro e w10 ⟨rfl, rfl⟩
    go_wp2
    exact ⟨rfl, line_panic (by rw [← HRS.out]; rfl) hr hs⟩
  | cons f r1 =>
    have HSZ : Hid (∀ x ∈ f :: r1, x.length ≤ 67108860) := hsz
    have hq1 : r1.length ≤ 67108860 := by simp at hql; omega
    have hsf := HSZ.out f (by simp)
    have HS1 := hid (show ∀ x ∈ r1, x.length ≤ 67108860 from fun x hx => HSZ.out x (List.mem_cons_of_mem _ hx))
    go_wp2_with fail
    refine (next_some b o ow t l _ _ _ _ f r1 hs hf).mono ?_
    rintro e w10 ⟨z1, A10, c10, rfl, hz1, hs10, hf10, k10⟩
    have hr10 := hr.trans k10
    have hx10 := k10.keep _ _ _ hgb hx
    rw [← hz1, lst_length] at hsf
    clear hs hf hr hx k10 d0 d1 d2 d3 d4 d5
    have hs := hs10
    have hf := hf10
    have hr := hr10
    have hx := hx10
    clear hs10 hf10 hr10 hx10
    obtain ⟨n, hn⟩ : ∃ n, (Z.readNum f 100000).getD 0 = n := ⟨_, rfl⟩
    obtain ⟨ok, hok⟩ : ∃ ok, (Z.readNum f 100000).isSome = ok := ⟨_, rfl⟩
    have HN := hid hn
    have HT := hid hok
    clear hn hok
    go_wp2_with fail
    refine (readNumber_v z1 (by omega) 100000 (by omega) (by omega) n ok (by rw [hz1]; exact HN) (by rw [hz1]; exact HT) _).mono ?_
    rintro e v1 ⟨rfl, rfl⟩
    go_upto_if 50 with fail
    go_cut [7] from 45 (fun v7 wc => ∃ (z : ByteArray) (T : Int) (A9 : Option Addr) (c9 : Nat) (q : List Z.Str), v7 = .string z ∧ z.size ≤ 67108860 ∧ Blk wc b TS [.string o, .int .i64 t, .string ow, .int .i64 l, .slice A9 q.length c9, .slice LA os.length Lc] ∧ Flds b wc A9 c9 q ∧ FarB b w wc ∧ Blk wc w.heap.size TR [.string ow, .int .i64 T, .int .i64 0, .slice none 0 0, .string ⟨#[]⟩, .string ⟨#[]⟩] ∧ Hid (∀ x ∈ q, x.length ≤ 67108860) ∧ q.length ≤ 67108860 ∧ Hid (Z.recOf (lst o) t (lst ow) (f :: r1) = Z.recWord (lst o) (lst ow) T (lst z) q))
    case first =>
      cases ok with
      | false =>
        have HE := hid (show Z.recOf (lst o) t (lst ow) (f :: r1) = Z.recWord (lst o) (lst ow) t (lst z1) r1 by
          have h9 : Z.readNum f 100000 = none := by
            cases h : Z.readNum f 100000 with
            | none => rfl
            | some m => have := HT.out; rw [h] at this; cases this
          unfold Z.recOf
          simp only [h9]
          rw [hz1])
        go_wp2
        go_meet
        exact ⟨z1, t, _, _, r1, rfl, hsf, hs, hf, hr, hx, HS1, hq1, HE⟩
      | true =>
        have h9 : Z.readNum f 100000 = some n := by
          cases h : Z.readNum f 100000 with
          | none => have := HT.out; rw [h] at this; cases this
          | some m => have := HN.out; rw [h] at this; exact congrArg some this
        obtain ⟨x0, x1, x2, x3, x4, x5⟩ := hx.cells6
        obtain ⟨y0, y1, y2, y3, y4, y5⟩ := hx.free6
        have hx9 := hx.put 1 (.int .i64 n)
        have hr9 := hr.putNew hwg hbg 1 (.int .i64 n)
        have hf9 := hf.put hx 1 (.int .i64 n)
        have hs9 := hs.far (p := ⟨w.heap.size, 1, none⟩) hgb.symm (.int .i64 n)
        clear hs hf hr hx
        cases r1 with
        | nil =>
          have HE := hid (show Z.recOf (lst o) t (lst ow) [f] = none by unfold Z.recOf; simp only [h9])
          clear h9
          go_wp2_with fail
          refine (next_none b o ow t l _ _ _ _ hs9).mono ?_
          rintro e w11 ⟨rfl, rfl⟩
          go_wp2
          exact ⟨rfl, line_panic (by rw [← HRS.out, HE.out]; rfl) hr9 hs9⟩
        | cons g r2 =>
          have HE := hid (show Z.recOf (lst o) t (lst ow) (f :: g :: r2) = Z.recWord (lst o) (lst ow) n g r2 by unfold Z.recOf; simp only [h9])
          have hsg := HS1.out g (by simp)
          have HS2 := hid (show ∀ x ∈ r2, x.length ≤ 67108860 from fun x hx => HS1.out x (List.mem_cons_of_mem _ hx))
          have hq2 : r2.length ≤ 67108860 := by simp at hq1; omega
          clear h9
          go_wp2_with fail
          refine (next_some b o ow t l _ _ _ _ g r2 hs9 hf9).mono ?_
          rintro e w11 ⟨z2, A11, c11, rfl, hz2, hs11, hf11, k11⟩
          rw [← hz2, lst_length] at hsg
          go_wp2
          go_meet
          exact ⟨z2, n, _, _, r2, rfl, hsg, hs11, hf11, hr9.trans k11, k11.keep _ _ _ hgb hx9, HS2, hq2, by rw [hz2]; exact HE⟩
    case rest =>
    obtain ⟨z, T, A9, c9, q, rfl, hsz9, hs9, hf9, hr9, hx9, HSQ9, hq9, HE9⟩ := hcut
    rename World => wd
    clear hs hf hr hx HN HT hz1 hsf HS1 hq1
    go_upto_if 56 with fail
    go_cut [7] from 55 (fun v7 wc => ∃ (y : ByteArray) (A8 : Option Addr) (c8 : Nat) (p : List Z.Str), v7 = .string y ∧ y.size ≤ 67108860 ∧ Blk wc b TS [.string o, .int .i64 t, .string ow, .int .i64 l, .slice A8 p.length c8, .slice LA os.length Lc] ∧ Flds b wc A8 c8 p ∧ FarB b w wc ∧ Blk wc w.heap.size TR [.string ow, .int .i64 T, .int .i64 0, .slice none 0 0, .string ⟨#[]⟩, .string ⟨#[]⟩] ∧ Hid (∀ x ∈ p, x.length ≤ 67108860) ∧ p.length ≤ 67108860 ∧ Hid (Z.recOf (lst o) t (lst ow) (f :: r1) = Z.recKind (lst o) (lst ow) T (lst y) p))
    case first =>
      by_cases hi : lst z = Z.inWord
      · have qi : (z.toList == [73, 78]) = true := word_true hi
        simp only [qi]
        obtain ⟨d0, d1, d2, d3, d4, d5⟩ := hs9.cells6
        cases q with
        | nil =>
          have HE := hid (show Z.recOf (lst o) t (lst ow) (f :: r1) = none by rw [HE9.out]; unfold Z.recWord; rw [if_pos hi])
          clear hi
          go_wp2_with fail
          refine (next_none b o ow t l _ _ _ _ hs9).mono ?_
          rintro e w11 ⟨rfl, rfl⟩
          go_wp2
          exact ⟨rfl, line_panic (by rw [← HRS.out, HE.out]; rfl) hr9 hs9⟩
        | cons g r2 =>
          have HE := hid (show Z.recOf (lst o) t (lst ow) (f :: r1) = Z.recKind (lst o) (lst ow) T g r2 by rw [HE9.out]; unfold Z.recWord; rw [if_pos hi])
          have hsg := HSQ9.out g (by simp)
          have HS2 := hid (show ∀ x ∈ r2, x.length ≤ 67108860 from fun x hx => HSQ9.out x (List.mem_cons_of_mem _ hx))
          have hq2 : r2.length ≤ 67108860 := by simp at hq9; omega
          clear hi
          go_wp2_with fail
          refine (next_some b o ow t l _ _ _ _ g r2 hs9 hf9).mono ?_
          rintro e w11 ⟨z2, A11, c11, rfl, hz2, hs11, hf11, k11⟩
          rw [← hz2, lst_length] at hsg
          go_wp2
          go_meet
          exact ⟨z2, _, _, r2, rfl, hsg, hs11, hf11, hr9.trans k11, k11.keep _ _ _ hgb hx9, HS2, hq2, by rw [hz2]; exact HE⟩
      · have qi : (z.toList == [73, 78]) = false := word_false hi
        simp only [qi]
        have HE := hid (show Z.recOf (lst o) t (lst ow) (f :: r1) = Z.recKind (lst o) (lst ow) T (lst z) q by rw [HE9.out]; unfold Z.recWord; rw [if_neg hi])
        clear hi
        go_wp2
        go_meet
        exact ⟨z, _, _, q, rfl, hsz9, hs9, hf9, hr9, hx9, HSQ9, hq9, HE⟩
    case rest =>
    obtain ⟨y, A8, c8, p, rfl, hsz8, hs, hf, hr, hx, HSP, hqp, HE⟩ := hcut
    rename World => we
    clear hs9 hf9 hr9 hx9 HSQ9 hq9 HE9 hsz9
    obtain ⟨d0, d1, d2, d3, d4, d5⟩ := hs.cells6
    obtain ⟨x0, x1, x2, x3, x4, x5⟩ := hx.cells6
    obtain ⟨y0, y1, y2, y3, y4, y5⟩ := hx.free6
    cases hkk : Z.kindOf (lst y) with
    | none =>
      have HKK := hid (show Z.kindOf (lst y) = none by exact hkk)
      go_wp2_with fail
      refine (iKindOf_none y HKK _ (hKT _ hr)).mono ?_
      rintro e vv1 ⟨rfl, hb1⟩
      have hr1 := hr.trans (FarB.of hb1 (Nat.le_of_lt hs.lt))
      have hs1 := hs.next hb1
      clear d0 d1 d2 d3 d4 d5 x0 x1 x2 x3 x4 x5 y0 y1 y2 y3 y4 y5
      obtain ⟨d0, d1, d2, d3, d4, d5⟩ := hs1.cells6
      go_wp2_with fail
      refine (need_no b l _ d3).mono ?_
      rintro e vv2 ⟨rfl, rfl⟩
      go_wp2
      exact ⟨rfl, line_panic (by rw [← HRS.out, HE.out]; unfold Z.recKind; rw [hkk]; rfl) hr1 hs1⟩
    | some k =>
      have HKK := hid (show Z.kindOf (lst y) = some k by exact hkk)
      go_wp2_with fail
      refine (iKindOf_some y HKK _ (hKT _ hr)).mono ?_
      rintro e vv1 ⟨rfl, hb1⟩
      have hr1 := hr.trans (FarB.of hb1 (Nat.le_of_lt hs.lt))
      have hs1 := hs.next hb1
      have hf1 := hf.below hb1
      have hx1 := hx.next hb1
      clear d0 d1 d2 d3 d4 d5 x0 x1 x2 x3 x4 x5 y0 y1 y2 y3 y4 y5
      clear hs hf hr hx hb1
      have hs := hs1
      have hf := hf1
      have hr := hr1
      have hx := hx1
      clear hs1 hf1 hr1 hx1
      obtain ⟨d0, d1, d2, d3, d4, d5⟩ := hs.cells6
      obtain ⟨x0, x1, x2, x3, x4, x5⟩ := hx.cells6
      obtain ⟨y0, y1, y2, y3, y4, y5⟩ := hx.free6
      go_wp2_with fail
      refine (need_yes ⟨b, 0, none⟩ _).mono ?_
      rintro e vv2 ⟨rfl, rfl⟩
      have hx9 := (hx.put 2 (.int .i64 k)).drew
      have hr9 := (hr.putNew hwg hbg 2 (.int .i64 k)).drew
      have hf9 := (hf.put hx 2 (.int .i64 k)).drew
      have hs9 := (hs.far (p := ⟨w.heap.size, 2, none⟩) hgb.symm (.int .i64 k)).drew
      obtain ⟨res, hres⟩ : ∃ res, Z.readData (lst ow) T k p (lst o) = res := ⟨_, rfl⟩
      obtain ⟨ok, hok⟩ : ∃ ok, res.isSome = ok := ⟨_, rfl⟩
      have HRES := hid hres
      have HOK := hid hok
      have HSQ : Hid (∀ f ∈ p, f.length ≤ 67108863) := hid (fun f hf => by have := HSP.out f hf; omega)
      have HR2 : Hid (RS = res.bind (fun r => if os.length < 60 then some ((⟨lst o, t, lst ow⟩ : Z.St), some r) else none)) := hid (by rw [← HRS.out, HE.out]; unfold Z.recKind; rw [hkk, ← hres]; rfl)
      clear hres hok
      have hrd := hf9.reads
      have hcq := hf9.1
      have hMX9 := hMX _ hr9
      have HGB := hid hgb
      have hgl := hx.lt
      clear hs hf hr hx
      go_upto_region 15 with fail
      obtain ⟨W4, hW4⟩ : ∃ W4, vv1.setCell ⟨w.heap.size, 2, none⟩ (.int .i64 k) = W4 := ⟨_, rfl⟩
      rw [hW4] at hx9 hs9 hr9 hf9 hrd hMX9 ⊢
      clear hW4 d0 d1 d2 d3 d4 d5 x0 x1 x2 x3 x4 x5 y0 y1 y2 y3 y4 y5
      obtain ⟨c0, c1', c2, c3, c4, c5⟩ := hs9.cells6
      obtain ⟨g0, g1, g2, g3, g4, g5⟩ := hx9.cells6
      go_cut [11] from 64 (fun okv wc => okv = .bool ok ∧ ∃ (N : ByteArray) (T9 K9 : Int) (A9 : Option Addr) (L9 C9 : Nat) (G9 X9 : ByteArray) (ns : List Int), Blk wc w.heap.size TR [.string N, .int .i64 T9, .int .i64 K9, .slice A9 L9 C9, .string G9, .string X9] ∧ Blk wc b TS [.string o, .int .i64 t, .string ow, .int .i64 l, .slice A8 p.length c8, .slice LA os.length Lc] ∧ wc.ownsRow (b + 1) 3 1 (.slice A9 L9 C9) L9 (ns.map iv) ∧ FarB b w wc ∧ res.getD noRec = ⟨lst N, T9, K9, ns, lst G9, lst X9⟩)
      case first =>
        go_wp2_with fail
        go_region_with (first
          | (go_at_call 15; refine (iReadData_s ow T k none 0 0 ⟨#[]⟩ ⟨#[]⟩ p _ _ _ o _ hMX9 hrd (Nat.le_refl _) hcq (by omega) (by omega) (by omega) HSQ res HRES ok HOK).mono ?_; rintro e vv3 ⟨N, T9, K9, A9, L9, C9, G9, X9, ns, rfl, hown, hq9, hl9, hb3⟩; have hs3 := hs9.next hb3; have hx3 := hx9.next hb3; obtain ⟨m0, m1, m2, m3, m4, m5⟩ := hx3.cells6; obtain ⟨v0, v1, v2, v3, v4, v5⟩ := hx3.free6))
        all_goals have hr3 := hr9.trans (FarB.of hb3 (Nat.le_of_lt hs9.lt))
        all_goals have hl3 := hx9.lt
        all_goals clear c0 c1' c2 c3 c4 c5 g0 g1 g2 g3 g4 g5 m0 m1 m2 m3 m4 m5
        all_goals have hx4 := six_set hx3 (.string N) (.int .i64 T9) (.int .i64 K9) (.slice A9 L9 C9) (.string G9) (.string X9)
        all_goals have hs4 := six_apart hs3 (g := w.heap.size) HGB.out.symm (.string N) (.int .i64 T9) (.int .i64 K9) (.slice A9 L9 C9) (.string G9) (.string X9)
        all_goals have hown4 := six_own hown (g := w.heap.size) hl3 (.string N) (.int .i64 T9) (.int .i64 K9) (.slice A9 L9 C9) (.string G9) (.string X9)
        all_goals have hr4 := (((((hr3.putNew hwg hbg 0 (.string N)).putNew hwg hbg 1 (.int .i64 T9)).putNew hwg hbg 2 (.int .i64 K9)).putNew hwg hbg 3 (.slice A9 L9 C9)).putNew hwg hbg 4 (.string G9)).putNew hwg hbg 5 (.string X9)
        all_goals have hown5 := own_mono hown4 (show b + 1 ≤ _ from by have := HGB.out; omega)
        all_goals go_wp2
        all_goals go_meet
        all_goals exact ⟨rfl, N, T9, K9, A9, L9, C9, G9, X9, ns, hx4, hs4, hown5, hr4, hq9⟩
      case rest =>
      obtain ⟨rfl, N, T9, K9, A9, L9, C9, G9, X9, ns, hx4, hs4, hown5, hr4, hq9⟩ := hcut
      rename World => W5
      clear hx9 hs9 hf9 hr9 hrd hMX9 c0 c1' c2 c3 c4 c5 g0 g1 g2 g3 g4 g5
      have hL5 := hL.far hr4
      obtain ⟨d0, d1, d2, d3, d4, d5⟩ := hs4.cells6
      cases res with
      | none =>
          obtain rfl : ok = false := HOK.out.symm
          go_wp2_with fail
          refine (need_no b l _ d3).mono ?_
          rintro e vv4 ⟨rfl, rfl⟩
          go_wp2
          exact ⟨rfl, line_panic (by rw [HR2.out]; rfl) hr4 hs4⟩
      | some r =>
          obtain rfl : ok = true := HOK.out.symm
          have hr9 : r = (⟨lst N, T9, K9, ns, lst G9, lst X9⟩ : Z.Rec) := hq9
          by_cases h60 : os.length < 60
          · have q60 : (os.length : Int) < 60 := by omega
            have HRR : (some r).bind (fun r => if os.length < 60 then some ((⟨lst o, t, lst ow⟩ : Z.St), some r) else none) = some (⟨lst o, t, lst ow⟩, some (RV.z ⟨N, T9, K9, A9, L9, C9, G9, X9, ns⟩)) := by rw [hr9]; simp [h60, RV.z]
            go_wp2_with fail
            refine (need_yes ⟨b, 0, none⟩ _).mono ?_
            rintro e vv4 ⟨rfl, rfl⟩
            obtain ⟨x0, x1, x2, x3, x4, x5⟩ := hx4.cells6
            obtain ⟨f0, f1, f2, f3, f4, f5⟩ := hs4.free6
            obtain ⟨e0, e1, e2, e3, e4, e5⟩ := (hs4.alloc (.cells #[.string N, .int .i64 T9, .int .i64 K9, .slice A9 L9 C9, .string G9, .string X9] 25)).cells6
            obtain ⟨m0, m1, m2, m3, m4, m5⟩ := (hx4.alloc (.cells #[.string N, .int .i64 T9, .int .i64 K9, .slice A9 L9 C9, .string G9, .string X9] 25)).cells6
            go_wp2_with fail
            go_region_law (first
              | (refine step_append_lies _ (by rfl) (.tmp 98) (.tmp 100) 50 (by rfl) (b + 1) 25 i0 _ 6 88 Tryz.underlying50 hi0 iz0 iz1 iz2 rfl (by omega) (.slice LA os.length Lc) os.length (flat os) (by rfl) (by first | exact hL5.1.alloc _ | exact (hL5.1.alloc _).drew) ⟨W5.heap.size, 0, none⟩ 1 1 [.string N, .int .i64 T9, .int .i64 K9, .slice A9 L9 C9, .string G9, .string X9] (by rfl) (by rfl) (World.news_of_block (cs := #[.string N, .int .i64 T9, .int .i64 K9, .slice A9 L9 C9, .string G9, .string X9]) (t := 25) (fr := (0, 0)) (heap_alloc_new W5 _)) (by simp [Value.oneCell']) (by omega) (by unfold maxLen; omega) (by omega) (by have := hs4.lt; simp; omega) (W5.heap.size + 1) (by simp) ?_; intro gg cap w7 hown7 hgrow hat hlt; have hgr : (W5.alloc (.cells #[.string N, .int .i64 T9, .int .i64 K9, .slice A9 L9 C9, .string G9, .string X9] 25)).grownBy w7 (Value.ownBlock (.slice LA os.length Lc)) := (by first | exact hgrow | exact ⟨hgrow.os, hgrow.tape, hgrow.output, hgrow.size, hgrow.block⟩); have hs7 := grown_other hL5 (x := ⟨N, T9, K9, A9, L9, C9, G9, X9, ns⟩) hgr TSR hs4; obtain ⟨d0, d1, d2, d3, d4, d5⟩ := hs7.cells6; obtain ⟨f0, f1, f2, f3, f4, f5⟩ := hs7.free6))
            all_goals go_wp2
            all_goals go_end0
            all_goals exact line_done (by rw [HR2.out]; exact HRR) (took (x := ⟨N, T9, K9, A9, L9, C9, G9, X9, ns⟩) hL5 hr4 hs4 hown5 hown7 hgr)
          · have q60 : ¬ (os.length : Int) < 60 := by omega
            have HRR : (some r).bind (fun r => if os.length < 60 then some ((⟨lst o, t, lst ow⟩ : Z.St), some r) else none) = none := by simp [h60]
            go_wp2_with fail
            refine (need_no b l _ d3).mono ?_
            rintro e vv4 ⟨rfl, rfl⟩
            go_wp2
            exact ⟨rfl, line_panic (by rw [HR2.out]; exact HRR) hr4 hs4⟩
end Go.Proofs.YtpgeeeamcncpkaaGreatDoor

/- What DrawReadData returns. -/
import Derived.Test.YtpgeeeamcncpkaaGreatDoorNw
import Derived.Test.YtpgeeeamcncpkaaGreatDoorSr
import Derived.Test.YtpgeeeamcncpkaaGreatDoorWm
import Derived.Test.YtpgeeeamcncpkaaGreatDoorTc
import Derived.Deep.Cut
import Derived.ArgAppend
import Derived.Laws.IdiomCopy
namespace Go.Proofs.YtpgeeeamcncpkaaGreatDoor
open Go.RowKit
set_option maxRecDepth 100000
set_option linter.unusedVariables false
set_option linter.unusedSimpArgs false

theorem fieldsN_short : ∀ (n : Nat) (s : Z.Str) (fs : List Z.Str), Z.fieldsN n s = some fs → ∀ f ∈ fs, f.length ≤ s.length := by
  intro n
  induction n with
  | zero =>
    intro s fs h
    match s with
    | [] => simp [Z.fieldsN] at h; subst h; intro f hf; cases hf
    | _ :: _ => simp [Z.fieldsN] at h
  | succ n ih =>
    intro s fs h
    match s with
    | [] => simp [Z.fieldsN] at h; subst h; intro f hf; cases hf
    | c :: r =>
      simp only [Z.fieldsN] at h
      split at h
      · intro f hf
        have := ih _ _ h f hf
        simp; omega
      · split at h
        · split at h
          · cases h
          · split at h
            · rename_i x t hd _
              have hl : (r.takeWhile (· != 34)).length + (t.length + 1) = r.length := by
                have := congrArg List.length (List.takeWhile_append_dropWhile (p := (· != 34)) (l := r))
                rw [hd] at this
                simpa using this
              cases e : Z.fieldsN n t with
              | none => rw [e] at h; cases h
              | some gs =>
                rw [e] at h
                simp at h
                subst h
                intro f hf
                rcases List.mem_cons.1 hf with rfl | hf
                · simp; omega
                · have := ih _ _ e f hf
                  simp; omega
            · cases h
        · split at h
          · cases h
          · have hl : (r.takeWhile (fun x => !Z.isSep x)).length + (r.dropWhile (fun x => !Z.isSep x)).length = r.length := by
              have := congrArg List.length (List.takeWhile_append_dropWhile (p := fun x => !Z.isSep x) (l := r))
              rw [List.length_append] at this
              exact this
            cases e : Z.fieldsN n (r.dropWhile (fun x => !Z.isSep x)) with
            | none => rw [e] at h; cases h
            | some gs =>
              rw [e] at h
              simp at h
              subst h
              intro f hf
              rcases List.mem_cons.1 hf with rfl | hf
              · simp; omega
              · have := ih _ _ e f hf
                simp; omega
theorem Flds.but {b : Nat} {w w' : World} {A : Option Addr} {c : Nat} {fs : List Z.Str} (h : Flds b w A c fs) (k : But b w w') : Flds b w' A c fs :=
  ⟨h.1, fun hn => by
    obtain ⟨g, off, cs, e, hg, hb, hc⟩ := h.2 hn
    exact ⟨g, off, cs, e, hg, hb.but k (by omega), hc⟩⟩
theorem Flds.drop2 {b : Nat} {w : World} {A : Option Addr} {c : Nat} {f g : Z.Str} {fs : List Z.Str} (h : Flds b w A c (f :: g :: fs)) : Flds b w (if c = 2 then A else A.map (·.add 2)) (c - 2) fs := by
  have hc := h.1
  simp only [List.length_cons] at hc
  refine ⟨by omega, fun hn => ?_⟩
  obtain ⟨k, off, cs, e, hg, hb, hx⟩ := h.2 (by simp)
  rw [if_neg (by omega), e]
  refine ⟨k, off + 2, cs, by simp [Addr.add_lit], hg, hb, fun j u hu => ?_⟩
  rw [Nat.add_assoc, Nat.add_comm 2 j]
  exact hx (j + 2) u (by simpa using hu)
/-- A slice of strings in a block behind b, with the room behind it; or none. -/
def RowAt (b : Nat) (w : World) (A : Option Addr) (c : Nat) (fs : List Z.Str) : Prop :=
  fs.length ≤ c ∧ ((A = none ∧ fs = [] ∧ c = 0) ∨ ∃ g off cs, A = some ⟨g, off, none⟩ ∧ b < g ∧ Blk w g 9 cs ∧ off + c ≤ cs.length ∧ ∀ j u, (fs.map sv)[j]? = some u → cs[off + j]? = some u)
theorem RowAt.flds {b : Nat} {w : World} {A : Option Addr} {c : Nat} {fs : List Z.Str} (h : RowAt b w A c fs) : Flds b w A c fs :=
  ⟨h.1, fun hn => by
    rcases h.2 with ⟨_, e, _⟩ | ⟨g, off, cs, e, hg, hb, _, hc⟩
    · subst e; simp at hn
    · exact ⟨g, off, cs, e, hg, hb, hc⟩⟩
theorem RowAt.but {b : Nat} {w w' : World} {A : Option Addr} {c : Nat} {fs : List Z.Str} (h : RowAt b w A c fs) (k : But b w w') : RowAt b w' A c fs :=
  ⟨h.1, by
    rcases h.2 with h2 | ⟨g, off, cs, e, hg, hb, hl, hc⟩
    · exact Or.inl h2
    · exact Or.inr ⟨g, off, cs, e, hg, hb.but k (by omega), hl, hc⟩⟩
theorem RowAt.next {b : Nat} {w w' : World} {A : Option Addr} {c : Nat} {fs : List Z.Str} (h : RowAt b w A c fs) (k : Below w.heap.size w w') : RowAt b w' A c fs := h.but (But.of_below k)
theorem RowAt.of_own {b base : Nat} {w : World} {A : Option Addr} {c : Nat} {fs : List Z.Str} (h : w.ownsRow base 9 1 (.slice A fs.length c) fs.length (fs.map sv)) (hb : b < base) : RowAt b w A c fs := by
  refine ⟨(own_cap h).1, ?_⟩
  rcases h.2 with ⟨h1, h2⟩ | ⟨g, cap, cur, hv, hg, hh, h3, h4, h5, h6⟩
  · injection h1 with hA _ hC
    exact Or.inl ⟨hA, List.eq_nil_of_length_eq_zero h2, hC⟩
  · injection hv with hA _ hC
    refine Or.inr ⟨g, 0, cur.toList, hA, by omega, hh, by rw [Array.length_toList]; omega, fun j u hu => ?_⟩
    have hj := (List.getElem?_eq_some_iff.1 hu).1
    rw [List.length_map] at hj
    rw [← h6] at hu
    rw [List.getElem?_take, if_pos (by omega)] at hu
    rw [Nat.zero_add]
    exact hu
theorem RowAt.drop2 {b : Nat} {w : World} {g off c : Nat} {f1 f2 : Z.Str} {fs : List Z.Str} (h : RowAt b w (some ⟨g, off, none⟩) c (f1 :: f2 :: fs)) : RowAt b w (some ⟨g, off + 2, none⟩) (c - 2) fs := by
  have hc := h.1
  simp only [List.length_cons] at hc
  refine ⟨by omega, ?_⟩
  rcases h.2 with ⟨e, _⟩ | ⟨k, of', cs, e, hg, hb, hl, hx⟩
  · cases e
  · injection e with e
    injection e with e1 e2
    subst e1 e2
    refine Or.inr ⟨_, _, cs, rfl, hg, hb, by omega, fun j u hu => ?_⟩
    rw [Nat.add_assoc, Nat.add_comm 2 j]
    exact hx (j + 2) u (by simpa using hu)
theorem wpList_app_at {P : Program} {ops : Array Oper} {rest : List Oper} {o : Oper} {a : Act} {Q : Exit → Act → World → Prop} (w : World) (b : Nat) (x : ByteArray) (hgd : o.guard = none) (s y : Operand) (t : TypeId)
    (ho : o.op = .call { callee := .builtin .append, args := #[s, y], argTypes := #[t, t] })
    (i : TypeInfo) (z : Value) (bytes : Nat) (ht : P.underlying t = some (.slice 9)) (hi : P.info? 9 = some i) (hz : i.zero = some z)
    (hsize : i.size = 1) (hby : i.bytes = bytes) (hzs : z.cells.size = 1)
    (A : Option Addr) (c : Nat) (fs : List Z.Str) (hs : a.eval s = .slice A fs.length c) (hy : a.eval y = .slice (some ⟨w.heap.size, 0, none⟩) 1 1) (hrow : RowAt b w A c fs) (hb : b < w.heap.size) (hlen : fs.length ≤ 1000) (hbytes : (fs.length + 1) * bytes ≤ 140737488355328)
    (h : ∀ A' c' w', RowAt b w' A' c' (fs ++ [lst x]) → (∀ k t' cs, t' ≠ 9 → Blk (w.alloc (.cells #[.string x] 9)) k t' cs → Blk w' k t' cs) → Below (b + 1) w w' → wpList P ops Q rest (a.put o.dst (.slice A' (fs.length + 1) c')) w') :
    wpList P ops Q (o :: rest) a (w.alloc (.cells #[.string x] 9)) := by
  have hone : ∀ u ∈ [Value.string x], u.oneCell' = true := by intro u hu; simp at hu; subst hu; rfl
  have hba : Below (b + 1) w (w.alloc (.cells #[.string x] 9)) := (Below.refl _ _).alloc hb _
  have grow : ∀ v' w', w'.ownsRow (w.alloc (.cells #[.string x] 9)).heap.size 9 1 v' (fs.length + 1) (fs.map sv ++ [.string x]) → (w.alloc (.cells #[.string x] 9)).grownBy w' none → wpList P ops Q rest (a.put o.dst v') w' := by
    intro v' w' ho' hg
    obtain ⟨A', c', rfl⟩ := own_slice ho'
    have e : fs.map sv ++ [.string x] = (fs ++ [lst x]).map sv := by simp [sv_lst]
    have hl : (fs ++ [lst x]).length = fs.length + 1 := by simp
    refine h A' c' w' (RowAt.of_own (base := (w.alloc (.cells #[.string x] 9)).heap.size) (by rw [hl, ← e]; exact ho') (by simp; omega)) (fun k t' cs _ hk => (hg.block k hk.lt (by simp)).trans hk) (hba.grown hg (by simp; omega) (fun k hk => by cases hk))
  rcases hrow.2 with ⟨rfl, rfl, rfl⟩ | ⟨g, off, cs, rfl, hgb, hblk, hcl, hc⟩
  · exact wpList_append_grows _ hgd s y t ho 9 i z 1 bytes ht hi hz hsize hby hzs (by omega) none 0 0 [] hs (fun _ => ⟨rfl, rfl⟩) rfl (fun b hb => by cases hb) ⟨w.heap.size, 0, none⟩ 1 1 [.string x] hy rfl one_cell hone (by omega) (by decide) (by simpa using hbytes) (fun v' w' ho' hg => grow v' w' (by simpa using ho') hg)
  · have hb1 := hblk.alloc (.cells #[.string x] 9)
    refine wpList_append_arg _ hgd s y t ho 9 i z 1 bytes ht hi hz hsize hby hzs (by omega) g off fs.length c (fs.map sv) hs (by simp) (fun j u hu => by rw [hb1.cell]; exact hc j u hu) ⟨w.heap.size, 0, none⟩ 1 1 [.string x] hy rfl one_cell hone ?_ (by unfold maxLen; omega) hbytes ?_ (fun hlt v' w' ho' hg => grow v' w' ho' hg)
    · intro hcap j hj
      simp only [List.length_cons, List.length_nil] at hj
      obtain rfl : j = 0 := by omega
      rw [hb1.cell, hb1.frozen]
      exact ⟨by simp; omega, rfl⟩
    · intro hcap
      have hset := hb1.put (off + fs.length * 1) (.string x)
      refine h _ _ _ ⟨by simpa using hcap, Or.inr ⟨g, off, _, rfl, hgb, hset, by simpa using hcl, fun j u hu => ?_⟩⟩ (fun k t' cs' ht' hk => hk.far (p := ⟨g, off + fs.length * 1, none⟩) (fun e => ?_) _) (hba.setCell (p := ⟨g, off + fs.length * 1, none⟩) hgb _)
      · rcases Nat.lt_or_ge j fs.length with hj | hj
        · rw [List.getElem?_set_ne (by omega)]
          refine hc j u ?_
          rw [List.map_append, List.getElem?_append_left (by simpa using hj)] at hu
          exact hu
        · rw [List.map_append, List.getElem?_append_right (by simpa using hj), List.length_map] at hu
          have hj2 : j = fs.length := by
            have := (List.getElem?_eq_some_iff.1 hu).1
            simp at this
            omega
          subst hj2
          simp [sv_lst] at hu
          subst hu
          rw [Nat.mul_one, List.getElem?_set_self (by omega)]
      · subst e
        unfold Blk at hk hb1
        rw [hb1] at hk
        injection hk with h9
        injection h9 with h10 h11
        exact ht' h11.symm
/-- Some record, fields of data and an origin. -/
def DataDrawn (w : World) (e : Ending) (w' : World) : Prop :=
  ∃ (N : ByteArray) (T K : Int) (A : Option Addr) (L c : Nat) (x y : ByteArray) (ns : List Int) (FA : Option Addr) (fc : Nat) (fs : List Z.Str) (o : ByteArray), e = .returned (.tuple #[.agg #[.string N, .int .i64 T, .int .i64 K, .slice A L c, .string x, .string y], .slice FA fs.length fc, .string o]) ∧
    w'.ownsRow w.heap.size 3 1 (.slice A L c) L (ns.map iv) ∧ L ≤ 200 ∧ N.size ≤ 100 ∧ x.size ≤ 100 ∧ y.size ≤ 100 ∧ Reads w' w'.heap.size FA fs.length (fs.map sv) ∧ fs.length ≤ fc ∧ fs.length ≤ 400 ∧ Hid (∀ f ∈ fs, f.length ≤ 400) ∧ o.size ≤ 100 ∧ Below w.heap.size w w'
theorem WriteLine_d (aN : ByteArray) (aT aK : Int) (aA : Option Addr) (aL aC : Nat) (aG aX : ByteArray) (aZ : List Int) (aB : Nat) (or ow : ByteArray) (w : World) (hra : Reads w aB aA aL (aZ.map iv)) (hba : aB ≤ w.heap.size) (hla : aL ≤ 67108864) (hsa : aN.size ≤ 67108864) (hga : aG.size ≤ 67108864) (hxa : aX.size ≤ 67108864) (hors : or.size ≤ 67108864) (how : ow.size ≤ 67108864) :
    Calls Tryz.prog 42 #[.agg #[.string aN, .int .i64 aT, .int .i64 aK, .slice aA aL aC, .string aG, .string aX], .string or, .string ow] w fun e w' => ∃ (D : ByteArray) (ok : Bool), e = .returned (.tuple #[.string D, .bool ok]) ∧ D.size ≤ 300 ∧ Below w.heap.size w w' := by
  refine (WriteLine_any aN aT aK aA aL aC aG aX aZ aB or ow w hra hba hla hsa hga hxa hors how).mono ?_
  rintro e w' ⟨rfl, hb⟩
  refine ⟨bs ((Z.writeLine (⟨lst aN, aT, aK, aZ, lst aG, lst aX⟩ : Z.Rec) (lst or) (lst ow)).getD []), (Z.writeLine (⟨lst aN, aT, aK, aZ, lst aG, lst aX⟩ : Z.Rec) (lst or) (lst ow)).isSome, rfl, ?_, hb⟩
  rw [bs_size]
  unfold Z.writeLine
  split
  · rename_i h
    simp only [Bool.and_eq_true] at h
    exact Z.line_len h.1.1 h.1.2 _
  · simp
theorem FieldsOf_d (s : ByteArray) (hs : s.size ≤ 300) (w : World) :
    Calls Tryz.prog 43 #[.string s] w fun e w' => ∃ (A : Option Addr) (c : Nat) (fs : List Z.Str) (ok : Bool), e = .returned (.tuple #[.slice A fs.length c, .bool ok]) ∧ w'.ownsRow w.heap.size 9 1 (.slice A fs.length c) fs.length (fs.map sv) ∧ fs.length ≤ 300 ∧ Hid (∀ f ∈ fs, f.length ≤ 300) ∧ Below w.heap.size w w' := by
  refine (FieldsOf_any s (by omega) w).mono ?_
  rintro e w' ⟨A, n, q, rfl, rfl, ho, hb⟩
  refine ⟨A, q, _, _, rfl, ho, ?_, hid ?_, hb⟩
  · cases h : Z.fields (lst s) with
    | none => simp
    | some fs =>
      have := fieldsN_length _ _ _ h
      rw [lst_length] at this
      simp only [Option.getD_some]
      omega
  · cases h : Z.fields (lst s) with
    | none => simp
    | some fs =>
      intro f hf
      have := fieldsN_short _ _ _ h f (by simpa using hf)
      rw [lst_length] at this
      omega
/-! ### the draw -/
theorem RowAt.far {b : Nat} {w : World} {A : Option Addr} {c k : Nat} {fs : List Z.Str} {t : TypeId} {cs : List Value} (h : RowAt b w A c fs) (hx : Blk w k t cs) (ht : t ≠ 9) (i : Nat) (v : Value) : RowAt b (w.setCell ⟨k, i, none⟩ v) A c fs :=
  ⟨h.1, by
    rcases h.2 with h2 | ⟨g, off, cs2, e, hg, hb, hl, hc⟩
    · exact Or.inl h2
    · refine Or.inr ⟨g, off, cs2, e, hg, hb.far (p := ⟨k, i, none⟩) (fun e9 => ?_) v, hl, hc⟩
      subst e9
      unfold Blk at hb hx
      rw [hb] at hx
      injection hx with h9
      injection h9 with h10 h11
      exact ht h11.symm⟩
theorem RowAt.far6 {b : Nat} {w : World} {A : Option Addr} {c k : Nat} {fs : List Z.Str} {t : TypeId} {cs : List Value} (h : RowAt b w A c fs) (hx : Blk w k t cs) (ht : t ≠ 9) (d0 d1 d2 d3 d4 d5 : Value) : RowAt b ((((((w.setCell ⟨k, 0, none⟩ d0).setCell ⟨k, 1, none⟩ d1).setCell ⟨k, 2, none⟩ d2).setCell ⟨k, 3, none⟩ d3).setCell ⟨k, 4, none⟩ d4).setCell ⟨k, 5, none⟩ d5) A c fs :=
  (((((h.far hx ht 0 d0).far (hx.put 0 d0) ht 1 d1).far ((hx.put 0 d0).put 1 d1) ht 2 d2).far (((hx.put 0 d0).put 1 d1).put 2 d2) ht 3 d3).far ((((hx.put 0 d0).put 1 d1).put 2 d2).put 3 d3) ht 4 d4).far (((((hx.put 0 d0).put 1 d1).put 2 d2).put 3 d3).put 4 d4) ht 5 d5
theorem own_keep {w w' : World} {base : Nat} {e : TypeId} {size : Nat} {v : Value} {n : Nat} {xs : List Value} {s : TypeId} (h : w.ownsRow base e size v n xs) (hne : e ≠ s) (hk : ∀ k t' cs, t' ≠ s → Blk w k t' cs → Blk w' k t' cs) : w'.ownsRow base e size v n xs := by
  obtain ⟨h1, h2⟩ := h
  refine ⟨h1, ?_⟩
  rcases h2 with h2 | ⟨g, cap, cur, hv, hg, hh, r⟩
  · exact Or.inl h2
  · exact Or.inr ⟨g, cap, cur, hv, hg, hk g e cur.toList hne hh, r⟩
theorem own_putx {w : World} {base : Nat} {e : TypeId} {size : Nat} {v : Value} {n : Nat} {xs : List Value} {g : Nat} {t : TypeId} {cs : List Value} (h : w.ownsRow base e size v n xs) (hx : Blk w g t cs) (hne : t ≠ e) (i : Nat) (u : Value) : (w.setCell ⟨g, i, none⟩ u).ownsRow base e size v n xs :=
  own_keep (s := t) h (Ne.symm hne) (fun k t' cs' ht' hk => hk.far (p := ⟨g, i, none⟩) (fun e9 => by
    subst e9
    unfold Blk at hk hx
    rw [hk] at hx
    injection hx with h9
    injection h9 with h10 h11
    exact ht' h11) u)
theorem Rd.low {w w' : World} {g p : Nat} (h : Rd w g p) (hb : Below (g + 1) w w') : Rd w' g p := by
  obtain ⟨A, c, zs, hz, hg, hr⟩ := h
  exact ⟨A, c, zs, hz, (hb.block g (Nat.lt_succ_self g)).trans hg, hr.keep fun q hq => World.cell?_of_block (hb.block _ (by omega))⟩
theorem ret_dataDrawn {a : Act} {W : World} {post : Ending → World → Prop} (b : Nat) {c0 c1 c2 c3 c4 c5 h3 h4 : Value} (hp : a.tmps[2]?.getD undef = .pointer (some ⟨b, 0, none⟩)) (k3 : a.tmps[3]?.getD undef = h3) (k4 : a.tmps[4]?.getD undef = h4) (hd : a.defers = [])
    (hB : W.cell? ⟨b, 0, none⟩ = some c0 ∧ W.cell? ⟨b, 1, none⟩ = some c1 ∧ W.cell? ⟨b, 2, none⟩ = some c2 ∧ W.cell? ⟨b, 3, none⟩ = some c3 ∧ W.cell? ⟨b, 4, none⟩ = some c4 ∧ W.cell? ⟨b, 5, none⟩ = some c5)
    (h : post (.returned (.tuple #[.agg #[c0, c1, c2, c3, c4, c5], h3, h4])) W) : bodyPost Tryz.prog Tryz.f14 post Exit.ret a W := by
  obtain ⟨h0, h1, h2, h33, h44, h5⟩ := hB
  exact bodyPost_ret (by simp [results, Tryz.results14, go_sem, hp, k3, k4, h0, h1, h2, h33, h44, h5]) hd h
def rKinds : List Int := [1, 16, 2, 6, 99]
def rOrig : List Z.Str := [[97, 46, 98, 46], [98, 46], [97, 46, 98, 46], [120]]
theorem rOrig_le : ∀ l ∈ rOrig, l.length ≤ 100 := by decide
def rMore : List Z.Str := [[49], [98, 46]]
theorem rMore_le : ∀ l ∈ rMore, l.length ≤ 100 := by decide
end Go.Proofs.YtpgeeeamcncpkaaGreatDoor

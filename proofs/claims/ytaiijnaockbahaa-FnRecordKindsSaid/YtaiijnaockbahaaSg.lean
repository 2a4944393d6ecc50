/- What the model's cutter and its reader of lists of numbers return. -/
import Derived.Test.YtaiijnaockbahaaSf
import Derived.Test.YtaiijnaockbahaaIa
import Derived.ArgAppend
namespace Go.Proofs.Ytaiijnaockbahaa
open Go.RowKit
set_option maxRecDepth 100000
set_option linter.unusedVariables false

/-- One more cell behind an empty slice that has no room: the row is new. -/
theorem wpList_append1_new {P : Program} {ops : Array Oper} {rest : List Oper} {o : Oper} {a : Act} {Q : Exit → Act → World → Prop} (w : World) (y : Value) (tc : TypeId) (hgd : o.guard = none) (s x : Operand) (t : TypeId)
    (ho : o.op = .call { callee := .builtin .append, args := #[s, x], argTypes := #[t, t] })
    (e : TypeId) (i : TypeInfo) (z : Value) (bytes : Nat) (ht : P.underlying t = some (.slice e)) (hi : P.info? e = some i) (hz : i.zero = some z)
    (hsize : i.size = 1) (hby : i.bytes = bytes) (hzs : z.cells.size = 1)
    (ao : Option Addr) (hs : a.eval s = .slice ao 0 0) (hx : a.eval x = .slice (some ⟨w.heap.size, 0, none⟩) 1 1) (hy : y.oneCell' = true) (hbytes : bytes ≤ 140737488355328)
    (h : ∀ v' w', w'.ownsRow w.heap.size e 1 v' 1 [y] → Below w.heap.size w w' → wpList P ops Q rest (a.put o.dst v') w') :
    wpList P ops Q (o :: rest) a (w.alloc (.cells #[y] tc)) := by
  refine wpList_append_grows (w.alloc (.cells #[y] tc)) hgd s x t ho e i z 1 bytes ht hi hz hsize hby hzs (by omega) ao 0 0 [] hs (fun _ => ⟨rfl, rfl⟩) rfl (fun b _ j u hu => by simp at hu) ⟨w.heap.size, 0, none⟩ 1 1 [y] hx rfl one_cell ?_ (by omega) (by decide) (by omega) ?_
  · intro u hu; simp at hu; subst hu; exact hy
  · intro v' w' ho' hg
    exact h v' w' (own_mono ho' (by simp)) (Below.grown ((Below.refl _ _).alloc (Nat.le_refl _) _) hg (by simp) fun k hk => by cases hk)

/-- The pieces that are done, and the place where the next one starts. -/
def CutP (c : UInt8) (s : ByteArray) (k st : Nat) (done : List Z.Str) : Prop := st ≤ k ∧ Z.pieces c (lst s) [] = done ++ Z.pieces c ((lst s).drop k) (((lst s).drop st).take (k - st))
theorem pieces_length (c : UInt8) (s cur : Z.Str) : (Z.pieces c s cur).length = s.count c + 1 := by
  induction s generalizing cur with
  | nil => simp [Z.pieces]
  | cons x r ih =>
    simp only [Z.pieces]
    by_cases h : x = c
    · rw [if_pos h, List.length_cons, ih, h]; simp
    · rw [if_neg h, ih, List.count_cons_of_ne h]
theorem cutP_start (c : UInt8) (s : ByteArray) : CutP c s 0 0 [] := ⟨Nat.le_refl _, by simp⟩
theorem cutP_sign {c : UInt8} {s : ByteArray} {k st : Nat} {done : List Z.Str} (h : CutP c s k st done) (hk : k < s.size) (hd : s[k] = c) : CutP c s (k + 1) (k + 1) (done ++ [lst (s.extract st k)]) := by
  refine ⟨Nat.le_refl _, ?_⟩
  rw [h.2, lst_drop s k hk, hd, lst_extract]
  simp [Z.pieces]
theorem cutP_other {c : UInt8} {s : ByteArray} {k st : Nat} {done : List Z.Str} (h : CutP c s k st done) (hk : k < s.size) (hd : s[k] ≠ c) : CutP c s (k + 1) st done := by
  refine ⟨by have := h.1; omega, ?_⟩
  rw [h.2, lst_drop s k hk, drop_take_snoc _ _ _ h.1 (by rw [lst_length]; exact hk)]
  have : (lst s)[k]'(by rw [lst_length]; exact hk) = s[k] := rfl
  rw [this]
  simp [Z.pieces, hd]
theorem cutP_end {c : UInt8} {s : ByteArray} {st : Nat} {done : List Z.Str} (h : CutP c s s.size st done) : Z.pieces c (lst s) [] = done ++ [lst (s.extract st s.size)] := by
  rw [h.2, List.drop_of_length_le (by rw [lst_length]; omega), lst_extract]
  simp [Z.pieces]
theorem cutP_length {c : UInt8} {s : ByteArray} {k st : Nat} {done : List Z.Str} (h : CutP c s k st done) : done.length ≤ s.size := by
  have h1 := congrArg List.length h.2
  rw [pieces_length, List.length_append, pieces_length] at h1
  have h2 := List.count_le_length (a := c) (l := lst s)
  rw [lst_length] at h2
  omega

set_option maxHeartbeats 1000000 in
theorem l13Cut_any (s : ByteArray) (hs : s.size ≤ 67108864) (c : UInt8) (z : Int) (hz : z = (c.toNat : Int)) (w : World) :
    Calls Try.prog 76 #[.string s, .int .u8 z] w fun e w' => ∃ A q, e = .returned (.slice A (Z.pieces c (lst s) []).length q) ∧ w'.ownsRow w.heap.size 9 1 (.slice A (Z.pieces c (lst s) []).length q) (Z.pieces c (lst s) []).length ((Z.pieces c (lst s) []).map sv) ∧ Below w.heap.size w w' := by
  obtain ⟨i0, hi0, hz0, hz1, hz2⟩ := info_parts infoStr
  have HZ := hid hz
  clear hz
  go_enter Try.func76, Try.ntmps76
  go_wp2
  go_loopw [5, 6, 7] (fun v st i wr => ∃ (k a : Nat) (done : List Z.Str), i = .int .i64 k ∧ st = .int .i64 a ∧ Hid (k ≤ s.size ∧ a ≤ k ∧ CutP c s k a done ∨ k = s.size + 1 ∧ Z.pieces c (lst s) [] = done) ∧
      wr.ownsRow w.heap.size 9 1 v done.length (done.map sv) ∧ Below w.heap.size w wr) (fun _ _ i _ => s.size + 1 - (intOf i).toNat)
  case atStart => exact ⟨0, 0, [], rfl, rfl, hid (.inl ⟨Nat.zero_le _, Nat.le_refl _, cutP_start c s⟩), World.ownsRow_made w #[] 0 (Nat.le_refl _) (by decide) (by simp), (Below.refl _ _).alloc (Nat.le_refl _) _⟩
  case round =>
    obtain ⟨k, a, done, rfl, rfl, hc, hown, hb⟩ := hrel
    have hbs := hb.size
    rcases hc.out with ⟨hk, ha, hcut⟩ | ⟨hk, hdone⟩
    · have Hcut := hid hcut
      clear hc
      have hdl := cutP_length hcut
      clear hcut
      by_cases hlt : k < s.size
      · by_cases hd : (s[k].toNat : Int) = z
        · have hc1 := hid (cutP_sign Hcut.out hlt (by rw [← UInt8.toNat_inj]; have := HZ.out; omega))
          go_wp2_with (at_builtin; refine wpList_append1 wr (.string (s.extract a k)) _ rfl (.tmp 26) (.tmp 31) _ rfl w.heap.size 9 i0 _ 16 Try.underlying40 hi0 hz0 hz1 hz2 rfl _ _ _ rfl hown rfl rfl (by unfold maxLen; omega) (by omega) hbs ?_; intro v1 w1 hown1 hb1)
          go_roundw
          case rel => exact ⟨k + 1, k + 1, _, by go_num, by go_num, hid (.inl ⟨by omega, by omega, hc1.out⟩), by simpa [sv_lst] using hown1, hb.trans hb1⟩
          case measure => simp [intOf]; omega
        · have hq1 : ((k : Int) == (s.size : Int)) = false := by simp; omega
          have hq2 : ((s[k].toNat : Int) == z) = false := by simpa using hd
          have hc1 := hid (cutP_other Hcut.out hlt (fun e => hd (by rw [e, ← HZ.out])))
          go_wp2_with (at_builtin; refine wpList_append1 wr (.string (s.extract a k)) _ rfl (.tmp 26) (.tmp 31) _ rfl w.heap.size 9 i0 _ 16 Try.underlying40 hi0 hz0 hz1 hz2 rfl _ _ _ rfl hown rfl rfl (by unfold maxLen; omega) (by omega) hbs ?_; intro v1 w1 hown1 hb1)
          go_roundw
          case rel => exact ⟨k + 1, a, _, by go_num, rfl, hid (.inl ⟨by omega, by omega, hc1.out⟩), hown, hb⟩
          case measure => simp [intOf]; try omega
      · have hks : k = s.size := by omega
        subst hks
        have hce := hid (cutP_end Hcut.out)
        go_wp2_with (at_builtin; refine wpList_append1 wr (.string (s.extract a s.size)) _ rfl (.tmp 26) (.tmp 31) _ rfl w.heap.size 9 i0 _ 16 Try.underlying40 hi0 hz0 hz1 hz2 rfl _ _ _ rfl hown rfl rfl (by unfold maxLen; omega) (by omega) hbs ?_; intro v1 w1 hown1 hb1)
        go_roundw
        case rel => exact ⟨s.size + 1, s.size + 1, _, by go_num, by go_num, hid (.inr ⟨rfl, hce.out⟩), by simpa [sv_lst] using hown1, hb.trans hb1⟩
        case measure => simp [intOf]; try omega
    · subst hk
      have HD := hid hdone
      clear hc hdone
      obtain ⟨A, q, rfl⟩ := own_slice hown
      go_wp2
      all_goals go_ret
      all_goals rw [HD.out]
      all_goals exact ⟨A, q, rfl, hown, hb⟩

/-! ### lists of numbers -/

theorem infoIntz : (Try.prog.info? 3).map (fun i => (i.zero, i.size, i.bytes)) = some (some (.int .i64 0), 1, 8) := by kernel_rfl
/-- The numbers that are read, and those that are left. -/
def NumsAt (ls : List Z.Str) (k : Nat) (ns : List Int) : Prop := ns.length = k ∧ (ls.take 7).mapM Z.num = (((ls.take 7).drop k).mapM Z.num).map (ns ++ ·)
theorem numsAt_start (ls : List Z.Str) : NumsAt ls 0 [] := ⟨rfl, by simp⟩
theorem numsAt_split {ls : List Z.Str} {k : Nat} (hk : k < ls.length) (h7 : k < 7) : (ls.take 7).drop k = ls.getD k [] :: (ls.take 7).drop (k + 1) := by
  have hL : k < (ls.take 7).length := by rw [List.length_take]; omega
  rw [List.drop_eq_getElem_cons hL, List.getElem_take]
  simp [hk]
theorem numsAt_next {ls : List Z.Str} {k : Nat} {ns : List Int} {n : Int} (h : NumsAt ls k ns) (hk : k < ls.length) (h7 : k < 7) (hn : Z.num (ls.getD k []) = some n) : NumsAt ls (k + 1) (ns ++ [n]) := by
  refine ⟨by rw [List.length_append, h.1]; rfl, ?_⟩
  rw [h.2, numsAt_split hk h7, List.mapM_cons, hn]
  cases ((ls.take 7).drop (k + 1)).mapM Z.num with
  | none => rfl
  | some r => simp
theorem numsAt_fail {ls : List Z.Str} {k : Nat} {ns : List Int} (h : NumsAt ls k ns) (hk : k < ls.length) (h7 : k < 7) (hn : Z.num (ls.getD k []) = none) : (ls.take 7).mapM Z.num = none := by
  rw [h.2, numsAt_split hk h7, List.mapM_cons, hn]
  rfl
theorem numsAt_end {ls : List Z.Str} {k : Nat} {ns : List Int} (h : NumsAt ls k ns) (hk : ¬ (k < ls.length ∧ k < 7)) : (ls.take 7).mapM Z.num = some ns := by
  rw [h.2, List.drop_eq_nil_of_le (by rw [List.length_take]; omega)]
  simp

theorem l13Cut_ls (s : ByteArray) (hs : s.size ≤ 67108864) (c : UInt8) (z : Int) (hz : Hid (z = (c.toNat : Int))) (ls : List Z.Str) (hls : Hid (Z.pieces c (lst s) [] = ls)) (w : World) :
    Calls Try.prog 76 #[.string s, .int .u8 z] w fun e w' => ∃ A q, e = .returned (.slice A ls.length q) ∧ Reads w' w'.heap.size A ls.length (ls.map sv) ∧ Below w.heap.size w w' := by
  have h := l13Cut_any s hs c z hz.out w
  rw [hls.out] at h
  exact h.mono fun e w' ⟨A, q, h1, h2, h3⟩ => ⟨A, q, h1, Reads.of_own h2, h3⟩
theorem own_below' {w w' : World} {base : Nat} {e : TypeId} {v : Value} {n : Nat} {xs : List Value} (h : w.ownsRow base e 1 v n xs) (hb : Below w.heap.size w w') : w'.ownsRow base e 1 v n xs := by
  obtain ⟨h1, h2⟩ := h
  refine ⟨h1, ?_⟩
  rcases h2 with h2 | ⟨g, cap, cur, hv, hg, hh, r⟩
  · exact Or.inl h2
  · have hlt : g < w.heap.size := by
      rcases Nat.lt_or_ge g w.heap.size with h | h
      · exact h
      · rw [Array.getElem?_eq_none h] at hh; cases hh
    exact Or.inr ⟨g, cap, cur, hv, hg, by rw [hb.block g hlt]; exact hh, r⟩
def numVal (o : Option Int) : Int := o.getD 0
theorem l13Num_some (s : ByteArray) (hs : s.size ≤ 67108864) {n : Int} (hn : Hid (Z.num (lst s) = some n)) (w : World) :
    Calls Try.prog 69 #[.string s] w fun e w' => e = .returned (.tuple #[.int .i64 n, .bool true]) ∧ w = w' := by
  have h := l13Num_any s hs w
  rw [hn.out] at h
  exact h
theorem l13Num_none (s : ByteArray) (hs : s.size ≤ 67108864) (hn : Hid (Z.num (lst s) = none)) (w : World) :
    Calls Try.prog 69 #[.string s] w fun e w' => e = .returned (.tuple #[.int .i64 0, .bool false]) ∧ w = w' := by
  have h := l13Num_any s hs w
  rw [hn.out] at h
  exact h

/-- What the reader of numbers finds in the pieces. -/
def NumsAre (ls : List Z.Str) (ns : List Int) (b : Bool) : Prop := ((ls.take 7).mapM Z.num).getD [] = ns ∧ ((ls.take 7).mapM Z.num).isSome = b
theorem piece_size {s : ByteArray} {c : UInt8} {x : ByteArray} {ls : List Z.Str} (hls : Z.pieces c (lst s) [] = ls) {k : Nat} (hk : k < ls.length) (hx : lst x = ls.getD k []) : x.size ≤ s.size := by
  have key : ∀ (l cur : Z.Str), ∀ p ∈ Z.pieces c l cur, p.length ≤ cur.length + l.length := by
    intro l
    induction l with
    | nil => intro cur p hp; simp [Z.pieces] at hp; subst hp; simp
    | cons y r ih =>
      intro cur p hp
      simp only [Z.pieces] at hp
      split at hp
      · rcases List.mem_cons.1 hp with rfl | hp
        · simp
        · have := ih [] p hp; simp at this ⊢; omega
      · have := ih _ p hp; simp at this ⊢; omega
  have hm : lst x ∈ Z.pieces c (lst s) [] := by
    rw [hx, hls, show ls.getD k [] = ls[k] by simp [hk]]
    exact List.getElem_mem _
  have := key _ _ _ hm
  rw [lst_length, lst_length] at this
  simpa using this

set_option maxHeartbeats 1000000 in
theorem l2Numbers_ls (s : ByteArray) (hs : s.size ≤ 67108864) (c : UInt8) (z : Int) (hz : Hid (z = (c.toNat : Int))) (ls : List Z.Str) (hls : Hid (Z.pieces c (lst s) [] = ls)) (hlen : ls.length ≤ 67108865) (xns : List Int) (xb : Bool) (hres : Hid (NumsAre ls xns xb)) (w : World) :
    Calls Try.prog 73 #[.string s, .int .u8 z] w fun e w' => ∃ A q, e = .returned (.tuple #[.slice A xns.length q, .bool xb]) ∧ w'.ownsRow w.heap.size 3 1 (.slice A xns.length q) xns.length (xns.map iv) ∧ Below w.heap.size w w' := by
  obtain ⟨i0, hi0, hz0, hz1, hz2⟩ := info_parts infoIntz
  go_enter Try.func73, Try.ntmps73
  go_wp2_with fail
  refine (l13Cut_ls s hs c z hz ls hls _).mono ?_
  rintro e w1 ⟨A, q, rfl, hrd, hb1⟩
  have hb0 : Below w.heap.size w w1 := ((Below.refl _ _).alloc (Nat.le_refl _) _).trans (hb1.mono (by simp))
  have hgr := hb1.size
  simp only [World.alloc, Array.size_push] at hgr
  have hown0 := (World.ownsRow_made (base := w.heap.size) (e := 3) (size := 1) w #[] 0 (Nat.le_refl _) (by decide) (by simp))
  have hown1 : w1.ownsRow w.heap.size 3 1 (.slice (some ⟨w.heap.size, 0, none⟩) 0 0) 0 [] := own_below' hown0 hb1
  clear hb1 hown0
  go_wp2_with fail
  go_loopw [6, 8] (fun v i wr => ∃ (k : Nat) (ns : List Int), i = .int .i64 k ∧ k ≤ ls.length ∧ k ≤ 7 ∧ Hid (NumsAt ls k ns) ∧ Below w1.heap.size w1 wr ∧
      ((k = 0 ∧ ns = [] ∧ v = .slice (some ⟨w.heap.size, 0, none⟩) 0 0) ∨ 0 < k ∧ wr.ownsRow w1.heap.size 3 1 v k (ns.map iv))) (fun _ i _ => 8 - (intOf i).toNat)
  case atStart => exact ⟨0, [], rfl, Nat.zero_le _, by omega, hid (numsAt_start ls), Below.refl _ _, .inl ⟨rfl, rfl, rfl⟩⟩
  case round =>
    obtain ⟨k, ns, rfl, hk, hk7, hat, hbr, hv⟩ := hrel
    have hbrs := hbr.size
    by_cases hlt : k < ls.length ∧ k < 7
    · obtain ⟨hlt, hlt7⟩ := hlt
      obtain ⟨ad, x, rfl, hab, hx, hcell⟩ := reads_str (hrd.below hbr (Nat.le_refl _)) hlt
      have hxs := piece_size hls.out hlt hx
      have Hx := hid hx
      clear hx
      cases hn : Z.num (lst x) with
      | none =>
        have HF := numsAt_fail hat.out hlt hlt7 (by rw [← Hx.out]; exact hn)
        obtain ⟨rfl, rfl⟩ : xns = [] ∧ xb = false := by have := hres.out; unfold NumsAre at this; rw [HF] at this; exact ⟨this.1.symm, this.2.symm⟩
        have HN := hid hn
        clear hn hres HF hv
        go_wp2_with (first | (go_at_call 69; refine (l13Num_none _ (by omega) HN _).mono ?_; rintro e w2 ⟨rfl, rfl⟩))
        all_goals go_ret2
        all_goals exact ⟨_, 0, rfl, World.ownsRow_made _ #[] 0 (by omega) (by decide) (by simp), (hb0.trans (hbr.mono (by omega))).alloc (by omega) _⟩
      | some n =>
        have HF := hid (numsAt_next hat.out hlt hlt7 (by rw [← Hx.out]; exact hn))
        have HN := hid hn
        clear hn
        rcases hv with ⟨hk0, hns0, rfl⟩ | ⟨hk0, hown⟩
        · have HK := hid hk0
          have HNS := hid hns0
          clear hk0 hns0
          go_wp2_with (first | (go_at_call 69; refine (l13Num_some _ (by omega) HN _).mono ?_; rintro e w2 ⟨rfl, rfl⟩) | (at_builtin; refine wpList_append1_new wr (.int .i64 n) _ rfl (.tmp 36) (.tmp 38) _ rfl 3 i0 _ 8 Try.underlying23 hi0 hz0 hz1 hz2 rfl _ rfl rfl rfl (by omega) ?_; intro v1 w2 hown2 hb2))
          go_roundw
          case rel => exact ⟨k + 1, ns ++ [n], by go_num, by omega, by omega, HF, hbr.trans (hb2.mono (by omega)), .inr ⟨by omega, by rw [HK.out, HNS.out]; exact own_mono hown2 hbrs⟩⟩
          case measure => simp [intOf]; try omega
        · go_wp2_with (first | (go_at_call 69; refine (l13Num_some _ (by omega) HN _).mono ?_; rintro e w2 ⟨rfl, rfl⟩) | (at_builtin; refine wpList_append1 wr (.int .i64 n) _ rfl (.tmp 36) (.tmp 38) _ rfl w1.heap.size 3 i0 _ 8 Try.underlying23 hi0 hz0 hz1 hz2 rfl _ _ _ rfl hown rfl rfl (by unfold maxLen; omega) (by omega) hbrs ?_; intro v1 w2 hown2 hb2))
          go_roundw
          case rel => exact ⟨k + 1, ns ++ [n], by go_num, by omega, by omega, HF, hbr.trans hb2, .inr ⟨by omega, by rw [List.map_append]; exact hown2⟩⟩
          case measure => simp [intOf]; try omega
    · have HE := numsAt_end hat.out hlt
      obtain ⟨rfl, rfl⟩ : xns = ns ∧ xb = true := by have := hres.out; unfold NumsAre at this; rw [HE] at this; exact ⟨this.1.symm, this.2.symm⟩
      obtain rfl := hat.out.1
      have hb9 := hb0.trans (hbr.mono (by omega : w.heap.size ≤ w1.heap.size))
      clear HE hres hat
      rcases hv with ⟨hk0, rfl, rfl⟩ | ⟨hk0, hown⟩
      · go_wp2
        all_goals go_ret2
        all_goals exact ⟨_, 0, rfl, own_below' hown1 hbr, hb9⟩
      · obtain ⟨A2, q2, rfl⟩ := own_slice hown
        go_wp2
        all_goals go_ret2
        all_goals exact ⟨A2, q2, rfl, own_mono hown (by omega), hb9⟩
theorem numbers_len (s : ByteArray) (hs : s.size ≤ 67108864) (c : UInt8) : (Z.pieces c (lst s) []).length ≤ 67108865 := by
  rw [pieces_length]
  have h2 := List.count_le_length (a := c) (l := lst s)
  rw [lst_length] at h2
  omega
theorem l2Numbers_some (s : ByteArray) (hs : s.size ≤ 67108864) (c : UInt8) (z : Int) (hz : z = (c.toNat : Int)) {ns : List Int} (h : Z.numbers c (lst s) = some ns) (w : World) :
    Calls Try.prog 73 #[.string s, .int .u8 z] w fun e w' => ∃ A q, e = .returned (.tuple #[.slice A ns.length q, .bool true]) ∧ w'.ownsRow w.heap.size 3 1 (.slice A ns.length q) ns.length (ns.map iv) ∧ Below w.heap.size w w' :=
  l2Numbers_ls s hs c z (hid hz) _ (hid rfl) (numbers_len s hs c) ns true (hid ⟨by unfold Z.numbers at h; rw [h]; rfl, by unfold Z.numbers at h; rw [h]; rfl⟩) w
theorem l2Numbers_none (s : ByteArray) (hs : s.size ≤ 67108864) (c : UInt8) (z : Int) (hz : z = (c.toNat : Int)) (h : Z.numbers c (lst s) = none) (w : World) :
    Calls Try.prog 73 #[.string s, .int .u8 z] w fun e w' => ∃ A q, e = .returned (.tuple #[.slice A 0 q, .bool false]) ∧ w'.ownsRow w.heap.size 3 1 (.slice A 0 q) 0 [] ∧ Below w.heap.size w w' :=
  l2Numbers_ls s hs c z (hid hz) _ (hid rfl) (numbers_len s hs c) [] false (hid ⟨by unfold Z.numbers at h; rw [h]; rfl, by unfold Z.numbers at h; rw [h]; rfl⟩) w
end Go.Proofs.Ytaiijnaockbahaa

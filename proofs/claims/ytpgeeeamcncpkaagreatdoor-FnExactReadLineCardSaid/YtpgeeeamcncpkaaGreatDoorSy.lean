/- The scanner of master files: what readRecord and readLine do. -/
import Derived.Test.YtpgeeeamcncpkaaGreatDoorSx
import Derived.Test.YtpgeeeamcncpkaaGreatDoorTc
import Derived.Test.YtpgeeeamcncpkaaGreatDoorTa
namespace Go.Proofs.YtpgeeeamcncpkaaGreatDoor
open Go.RowKit
set_option maxRecDepth 100000
set_option linter.unusedVariables false
set_option linter.unusedSimpArgs false

theorem fieldsN_le : ∀ (n : Nat) (s : Z.Str) (fs : List Z.Str), Z.fieldsN n s = some fs → ∀ f ∈ fs, f.length ≤ s.length := by
  intro n
  induction n with
  | zero =>
    intro s fs h
    match s with
    | [] => simp [Z.fieldsN] at h; subst h; intro f hf; cases hf
    | _ :: _ => simp [Z.fieldsN] at h
  | succ n ih =>
    intro s fs h
    match s with
    | [] => simp [Z.fieldsN] at h; subst h; intro f hf; cases hf
    | c :: r =>
      simp only [Z.fieldsN] at h
      split at h
      · intro f hf
        have := ih _ _ h f hf
        simp; omega
      · split at h
        · split at h
          · cases h
          · split at h
            · rename_i x t hd _
              have hl : (r.takeWhile (· != 34)).length + (t.length + 1) = r.length := by
                have := congrArg List.length (List.takeWhile_append_dropWhile (p := (· != 34)) (l := r))
                rw [hd] at this
                simpa using this
              cases e : Z.fieldsN n t with
              | none => rw [e] at h; cases h
              | some gs =>
                rw [e] at h
                simp at h
                subst h
                intro f hf
                rcases List.mem_cons.1 hf with rfl | hf
                · simp; omega
                · have := ih _ _ e f hf
                  simp; omega
            · cases h
        · split at h
          · cases h
          · have hl : (r.takeWhile (fun x => !Z.isSep x)).length + (r.dropWhile (fun x => !Z.isSep x)).length = r.length := by
              have := congrArg List.length (List.takeWhile_append_dropWhile (p := fun x => !Z.isSep x) (l := r))
              rw [List.length_append] at this
              exact this
            cases e : Z.fieldsN n (r.dropWhile (fun x => !Z.isSep x)) with
            | none => rw [e] at h; cases h
            | some gs =>
              rw [e] at h
              simp at h
              subst h
              intro f hf
              rcases List.mem_cons.1 hf with rfl | hf
              · simp; omega
              · have := ih _ _ e f hf
                simp; omega

set_option maxHeartbeats 1000000 in
theorem rr_plain (W0 : World) (hm : MX W0) (hk : KT W0) (b : Nat) (hb0 : W0.heap.size ≤ b) (o ow : ByteArray) (t l : Int) (A : Option Addr) (c : Nat) (LV : Value) (os : List RV) (w : World) (h0 : Below W0.heap.size W0 w) (fs : List Z.Str) (hs : Blk w b TS [.string o, .int .i64 t, .string ow, .int .i64 l, .slice A fs.length c, LV]) (hf : Flds b w A c fs) (hL : Lst b w LV os) (hos : os.length ≤ 60) (ho : o.size ≤ 67108860) (how : ow.size ≤ 67108860) (hsz : Hid (∀ f ∈ fs, f.length ≤ 67108860)) (hql : fs.length ≤ 67108860) :
    Calls Tryz.prog 148 #[.pointer (some ⟨b, 0, none⟩), .bool false] w (LineOut b l os w ((Z.record ⟨lst o, t, lst ow⟩ fs).bind fun r => if os.length < 60 then some (⟨lst o, t, lst ow⟩, some r) else none)) := by
  rw [Z.recOf_eq]
  exact rr_p W0 hm hk b hb0 o ow t l A c LV os w h0 fs hs hf hL hos ho how hsz hql
set_option maxHeartbeats 4000000 in
theorem rr_nbad (W0 : World) (hm : MX W0) (hk : KT W0) (b : Nat) (hb0 : W0.heap.size ≤ b) (o ow : ByteArray) (t l : Int) (A : Option Addr) (c : Nat) (LV : Value) (os : List RV) (w : World) (h0 : Below W0.heap.size W0 w) (fa : Z.Str) (fs : List Z.Str) (hs : Blk w b TS [.string o, .int .i64 t, .string ow, .int .i64 l, .slice A (fa :: fs).length c, LV]) (hf : Flds b w A c (fa :: fs)) (hL : Lst b w LV os) (ho : o.size ≤ 67108860) (hsz : fa.length ≤ 67108860) (hna : Hid (bs ((Z.readName fa (lst o)).getD []) = ⟨#[]⟩)) (hnb : Hid ((Z.readName fa (lst o)).isSome = false)) :
    Calls Tryz.prog 148 #[.pointer (some ⟨b, 0, none⟩), .bool true] w (LineOut b l os w none) := by
  obtain ⟨LA, Lc, rfl⟩ := hL.slice
  have hr := FarB.refl b w
  have hsd := hs.drew
  have hfd : Flds b w.drew A c (fa :: fs) := hf
  obtain ⟨d0, d1, d2, d3, d4, d5⟩ := hs.cells6
  go_enter Tryz.func148, Tryz.ntmps148
  go_wp2_with fail
  go_region_with (first
    | (go_at_call 171; refine (next_some b o ow t l _ _ _ _ fa fs hsd hfd).mono ?_; rintro e w1 ⟨ya, A1, c1, rfl, hya, hs1, hf1, k1⟩; obtain ⟨d0, d1, d2, d3, d4, d5⟩ := hs1.cells6)
    | (go_at_call 48; refine (iReadName_v ya o (by have := congrArg List.length hya; rw [lst_length] at this; omega) (by omega) ⟨#[]⟩ false (by rw [hya]; exact hna) (by rw [hya]; exact hnb) _).mono ?_; rintro e w2 ⟨rfl, hb2⟩))
  all_goals have hlt2 := Nat.le_of_lt hs1.lt
  all_goals have hr2 := (hr.drew.trans k1).trans (FarB.of hb2 hlt2)
  all_goals have hs2 := hs1.next hb2
  all_goals clear hsd hfd hs1 hf1 k1 d0 d1 d2 d3 d4 d5 hya hb2 hlt2
  all_goals obtain ⟨d0, d1, d2, d3, d4, d5⟩ := hs2.cells6
  all_goals go_wp2_with fail
  all_goals refine (need_no b l _ d3).mono ?_
  all_goals rintro e w3 ⟨rfl, rfl⟩
  all_goals go_wp2
  all_goals exact ⟨rfl, line_panic rfl hr2 hs2⟩
set_option maxHeartbeats 1000000 in
theorem rr_named (W0 : World) (hm : MX W0) (hk : KT W0) (b : Nat) (hb0 : W0.heap.size ≤ b) (o ow : ByteArray) (t l : Int) (A : Option Addr) (c : Nat) (LV : Value) (os : List RV) (w : World) (h0 : Below W0.heap.size W0 w) (fa : Z.Str) (fs : List Z.Str) (hs : Blk w b TS [.string o, .int .i64 t, .string ow, .int .i64 l, .slice A (fa :: fs).length c, LV]) (hf : Flds b w A c (fa :: fs)) (hL : Lst b w LV os) (hos : os.length ≤ 60) (ho : o.size ≤ 67108860) (how : ow.size ≤ 67108860) (hsz : Hid (∀ f ∈ fa :: fs, f.length ≤ 67108860)) (hql : (fa :: fs).length ≤ 67108860) :
    Calls Tryz.prog 148 #[.pointer (some ⟨b, 0, none⟩), .bool true] w (LineOut b l os w ((Z.readName fa (lst o)).bind fun n => (Z.record ⟨lst o, t, n⟩ fs).bind fun r => if os.length < 60 then some (⟨lst o, t, n⟩, some r) else none)) := by
  cases hx : Z.readName fa (lst o) with
  | none =>
    exact rr_nbad W0 hm hk b hb0 o ow t l A c LV os w h0 fa fs hs hf hL ho (hsz.out fa (by simp)) (hid (by rw [hx]; rfl)) (hid (by rw [hx]; rfl))
  | some nl =>
    obtain ⟨na, rfl⟩ : ∃ na, lst na = nl := ⟨bs nl, lst_bs _⟩
    have hns : na.size ≤ 67108860 := by have := (Z.valid_len (Z.readName_some hx).2.2.2.2).2; rw [lst_length] at this; omega
    have hna := hid (show bs ((Z.readName fa (lst o)).getD []) = na by rw [hx]; exact bs_lst na)
    have hnb := hid (show (Z.readName fa (lst o)).isSome = true by rw [hx]; rfl)
    rw [Option.bind_some, Z.recOf_eq]
    clear hx
    exact rr_n W0 hm hk b hb0 o ow t l A c LV os w h0 fa fs hs hf hL hos ho how hsz hql na hna hnb hns

theorem lineOut_from {b : Nat} {l : Int} {os : List RV} {w w1 : World} {res : Option (Z.St × Option Z.Rec)} {e : Ending} {w' : World} (hr : FarB b w w1) (h : LineOut b l os w1 res e w') : LineOut b l os w res e w' := by
  cases res with
  | none => exact ⟨h.1, hr.keepT.trans h.2.1, h.2.2⟩
  | some p => exact ⟨h.1, hr.keepT.trans h.2.1, h.2.2⟩
theorem dirOut_line {b : Nat} {l : Int} {LV : Value} {os : List RV} {w w' : World} {e : Ending} {res : Option Z.St} (hL : Lst b w LV os) (h : DirOut b l LV w res e w') : LineOut b l os w (res.map fun s => (s, none)) e w' := by
  cases res with
  | none =>
    obtain ⟨LA, Lc, rfl⟩ := hL.slice
    obtain ⟨he, hr, o, ow, t, A, n, c, hb⟩ := h
    exact ⟨he, hr.keepT, o, ow, t, A, n, c, _, _, _, hb⟩
  | some s =>
    obtain ⟨he, hr, o, ow, A, c, hs, hb⟩ := h
    exact ⟨he, hr.keepT, o, ow, _, _, _, LV, [], hs, hb, by rw [List.append_nil]; exact hL.far hr, rfl⟩
theorem dollar_one (s : Z.St) (f : Z.Str) : Z.dollar s [f] = none := rfl
theorem readDirective_any (b : Nat) (o ow : ByteArray) (t l : Int) (A : Option Addr) (c : Nat) (LV : Value) (os : List RV) (w : World) (f : Z.Str) (fs : List Z.Str) (hs : Blk w b TS [.string o, .int .i64 t, .string ow, .int .i64 l, .slice A (f :: fs).length c, LV]) (hf : Flds b w A c (f :: fs)) (hL : Lst b w LV os) (ho : o.size ≤ 67108860) (hsz : Hid (∀ x ∈ f :: fs, x.length ≤ 67108860)) :
    Calls Tryz.prog 147 #[.pointer (some ⟨b, 0, none⟩)] w (LineOut b l os w ((Z.dollar ⟨lst o, t, lst ow⟩ (f :: fs)).map fun s => (s, none))) := by
  cases fs with
  | nil => exact (dir_one b o ow t l A c LV w f hs hf).mono fun e w' h => dirOut_line (res := none) hL h
  | cons g r => exact (dir_more b trivial o ow t l A c LV w f g r hs hf ho (hsz.out g (by simp))).mono fun e w' h => dirOut_line hL h

theorem iStrip_v (s : ByteArray) (hs : s.size ≤ 67108864) (x : ByteArray) (hx : Hid (bs (Z.strip false (lst s)) = x)) (w : World) :
    Calls Tryz.prog 145 #[.string s] w fun e w' => e = .returned (.string x) ∧ w = w' := by
  have h := iStripComment_any s hs w
  rw [hx.out] at h
  exact h
theorem iFields_v (s : ByteArray) (hs : s.size ≤ 67108860) (fs : List Z.Str) (b : Bool) (hfs : Hid ((Z.fields (lst s)).getD [] = fs)) (hb : Hid ((Z.fields (lst s)).isSome = b)) (w : World) (hm : MX w) :
    Calls Tryz.prog 19 #[.string s] w fun e w' => ∃ A q, e = .returned (.tuple #[.slice A fs.length q, .bool b]) ∧ w'.ownsRow w.heap.size 9 1 (.slice A fs.length q) fs.length (fs.map sv) ∧ Below w.heap.size w w' := by
  refine (iFieldsOf_any s hs w hm).mono ?_
  rintro e w' ⟨A, n, q, rfl, rfl, ho, hw⟩
  rw [hfs.out] at ho ⊢
  rw [hb.out]
  exact ⟨A, q, rfl, ho, hw⟩
/-- What a line says behind a state, with so many records read before. -/
def lineRes (s : Z.St) (m : Nat) (line : Z.Str) : Option (Z.St × Option Z.Rec) :=
  (Z.fields (Z.strip false line)).bind fun fs => (Z.readFields s (Z.strip false line) fs).bind fun p => match p.2 with
    | none => some (p.1, none)
    | some r => if m < 60 then some (p.1, some r) else none

set_option maxHeartbeats 4000000 in
theorem readLine_any (W0 : World) (hm : MX W0) (hk : KT W0) (b : Nat) (hb0 : W0.heap.size ≤ b) (o ow line : ByteArray) (t l : Int) (FA : Option Addr) (Fn Fc : Nat) (LV : Value) (os : List RV) (w : World) (h0 : Below W0.heap.size W0 w) (hs : Blk w b TS [.string o, .int .i64 t, .string ow, .int .i64 l, .slice FA Fn Fc, LV]) (hL : Lst b w LV os) (hos : os.length ≤ 60) (ho : o.size ≤ 67108860) (how : ow.size ≤ 67108860) (hline : line.size ≤ 67108860) :
    Calls Tryz.prog 116 #[.pointer (some ⟨b, 0, none⟩), .string line] w (LineOut b l os w (lineRes ⟨lst o, t, lst ow⟩ os.length (lst line))) := by
  have hMX : ∀ w', FarB b w w' → MX w' := fun w' h => hm.below (h0.trans (h.below.mono hb0))
  obtain ⟨LA, Lc, rfl⟩ := hL.slice
  obtain ⟨x, hx⟩ : ∃ x, bs (Z.strip false (lst line)) = x := ⟨_, rfl⟩
  have hxl : lst x = Z.strip false (lst line) := by rw [← hx, lst_bs]
  have hxs : x.size ≤ 67108860 := by
    have h9 := (Z.strip_prefix false (lst line)).length_le
    rw [← hxl, lst_length, lst_length] at h9
    omega
  unfold lineRes
  rw [← hxl]
  have HX := hid hx
  clear hxl hx
  obtain ⟨RS, hRS⟩ : ∃ RS : Option (Z.St × Option Z.Rec), ((Z.fields (lst x)).bind fun fs => (Z.readFields ⟨lst o, t, lst ow⟩ (lst x) fs).bind fun p => match p.2 with
    | none => some (p.1, none)
    | some r => if os.length < 60 then some (p.1, some r) else none) = RS := ⟨_, rfl⟩
  rw [hRS]
  have hr := FarB.refl b w
  have hlt := hs.lt
  obtain ⟨d0, d1, d2, d3, d4, d5⟩ := hs.cells6
  cases hfx : Z.fields (lst x) with
  | none =>
    have HRS := hid (show RS = none by rw [← hRS, hfx]; rfl)
    have HF := hid (show (Z.fields (lst x)).getD [] = [] by rw [hfx]; rfl)
    have HB := hid (show (Z.fields (lst x)).isSome = false by rw [hfx]; rfl)
    clear hRS hfx
    go_enter Tryz.func116, Tryz.ntmps116
    go_wp2_with fail
    refine (iStrip_v line (by omega) x HX _).mono ?_
    rintro e w1 ⟨rfl, rfl⟩
    go_wp2_with fail
    refine (iFields_v x (by omega) [] false HF HB _ (hMX _ hr)).mono ?_
    rintro e w2 ⟨A2, c2, rfl, hown2, hb2⟩
    have hr2 := hr.trans (FarB.of hb2 (Nat.le_of_lt hlt))
    have hs2 := hs.next hb2
    clear d0 d1 d2 d3 d4 d5
    obtain ⟨d0, d1, d2, d3, d4, d5⟩ := hs2.cells6
    go_wp2_with fail
    refine (need_no b l _ d3).mono ?_
    rintro e w3 ⟨rfl, rfl⟩
    go_wp2
    exact ⟨rfl, line_panic HRS.out hr2 hs2⟩
  | some fs =>
    have HF := hid (show (Z.fields (lst x)).getD [] = fs by rw [hfx]; rfl)
    have HB := hid (show (Z.fields (lst x)).isSome = true by rw [hfx]; rfl)
    have HSZ := hid (show ∀ f ∈ fs, f.length ≤ 67108860 from fun f hf => by have := fieldsN_le _ _ _ hfx f hf; rw [lst_length] at this; omega)
    have hql : fs.length ≤ 67108860 := by have := fieldsN_length _ _ _ hfx; rw [lst_length] at this; omega
    have HRS2 : Hid (RS = (Z.readFields ⟨lst o, t, lst ow⟩ (lst x) fs).bind fun p => match p.2 with
      | none => some (p.1, none)
      | some r => if os.length < 60 then some (p.1, some r) else none) := hid (by rw [← hRS, hfx]; rfl)
    clear hRS hfx
    go_enter Tryz.func116, Tryz.ntmps116
    go_wp2_with fail
    refine (iStrip_v line (by omega) x HX _).mono ?_
    rintro e w1 ⟨rfl, rfl⟩
    go_wp2_with fail
    refine (iFields_v x (by omega) fs true HF HB _ (hMX _ hr)).mono ?_
    rintro e w2 ⟨A2, c2, rfl, hown2, hb2⟩
    have hr2 := hr.trans (FarB.of hb2 (Nat.le_of_lt hlt))
    have hs2 := hs.next hb2
    have hf2 := Flds.of_own hown2 hlt
    clear d0 d1 d2 d3 d4 d5 hb2 hown2 hr hs
    obtain ⟨d0, d1, d2, d3, d4, d5⟩ := hs2.cells6
    obtain ⟨f0, f1, f2, f3, f4, f5⟩ := hs2.free6
    go_wp2_with fail
    refine (need_yes ⟨b, 0, none⟩ _).mono ?_
    rintro e w3 ⟨rfl, rfl⟩
    have hr3 := hr2.trans (FarB.put b w2 4 (.slice A2 fs.length c2))
    have hf3 := hf2.far (FarB.put b w2 4 (.slice A2 fs.length c2))
    have hs3 := hs2.put 4 (.slice A2 fs.length c2)
    have hL3 := hL.far hr3
    have h03 : Below W0.heap.size W0 (w2.setCell ⟨b, 4, none⟩ (.slice A2 fs.length c2)) := h0.trans (hr3.below.mono hb0)
    clear hr2 hf2 hs2
    cases fs with
    | nil =>
      have HRS := hid (show RS = some (⟨lst o, t, lst ow⟩, none) by rw [HRS2.out]; rfl)
      clear HRS2
      go_wp2
      go_end0
      exact line_done HRS.out ⟨rfl, hr3.keepT, o, ow, _, _, _, _, [], rfl, hs3, by rw [List.append_nil]; exact hL3, rfl⟩
    | cons f r =>
      have p1 : ((((f :: r).length : Nat) : Int) == 0) = false := by simp; omega
      by_cases h36 : (lst x).head? = some 36
      · have H36 := hid (decide_eq_true h36)
        have HRS := hid (show RS = (Z.dollar ⟨lst o, t, lst ow⟩ (f :: r)).map fun s => (s, none) by
          have e : Z.readFields ⟨lst o, t, lst ow⟩ (lst x) (f :: r) = (Z.dollar ⟨lst o, t, lst ow⟩ (f :: r)).map (fun s' => (s', none)) := by unfold Z.readFields; exact if_pos h36
          rw [HRS2.out, e]
          cases Z.dollar ⟨lst o, t, lst ow⟩ (f :: r) <;> rfl)
        clear HRS2
        go_wp2_with fail
        refine (HasPrefix_eq x 36 true H36 _).mono ?_
        rintro e w4 ⟨rfl, rfl⟩
        go_wp2_with fail
        refine (readDirective_any b o ow t l A2 c2 _ os _ f r hs3 hf3 hL3 ho HSZ).mono ?_
        rintro e w5 h5
        rw [← HRS.out] at h5
        have h6 := lineOut_from hr3 h5
        clear h5 HRS
        cases RS with
        | none =>
          obtain ⟨rfl, hrest⟩ := h6
          go_wp2
          exact ⟨rfl, rfl, hrest⟩
        | some p =>
          obtain ⟨rfl, hrest⟩ := h6
          go_wp2
          go_end0
          exact ⟨rfl, hrest⟩
      · have H36 := hid (decide_eq_false h36)
        by_cases h32 : (lst x).head? = some 32
        · have H32 := hid (decide_eq_true h32)
          have HRS := hid (show RS = (Z.record ⟨lst o, t, lst ow⟩ (f :: r)).bind fun y => if os.length < 60 then some (⟨lst o, t, lst ow⟩, some y) else none by
            have e : Z.readFields ⟨lst o, t, lst ow⟩ (lst x) (f :: r) = (Z.record ⟨lst o, t, lst ow⟩ (f :: r)).map (fun y => (⟨lst o, t, lst ow⟩, some y)) := by unfold Z.readFields; exact (if_neg h36).trans (if_pos h32)
            rw [HRS2.out, e]
            cases Z.record ⟨lst o, t, lst ow⟩ (f :: r) <;> rfl)
          clear HRS2
          go_wp2_with fail
          refine (HasPrefix_eq x 36 false H36 _).mono ?_
          rintro e w4 ⟨rfl, rfl⟩
          go_wp2_with fail
          refine (HasPrefix_eq x 32 true H32 _).mono ?_
          rintro e w4 ⟨rfl, rfl⟩
          go_wp2_with fail
          refine (rr_plain W0 hm hk b hb0 o ow t l A2 c2 _ os _ h03 (f :: r) hs3 hf3 hL3 hos ho how HSZ hql).mono ?_
          rintro e w5 h5
          rw [← HRS.out] at h5
          have h6 := lineOut_from hr3 h5
          clear h5 HRS
          cases RS with
          | none =>
            obtain ⟨rfl, hrest⟩ := h6
            go_wp2
            exact ⟨rfl, rfl, hrest⟩
          | some p =>
            obtain ⟨rfl, hrest⟩ := h6
            go_wp2
            go_end0
            exact ⟨rfl, hrest⟩
        · have H32 := hid (decide_eq_false h32)
          have HRS := hid (show RS = (Z.readName f (lst o)).bind fun n => (Z.record ⟨lst o, t, n⟩ r).bind fun y => if os.length < 60 then some (⟨lst o, t, n⟩, some y) else none by
            have e : Z.readFields ⟨lst o, t, lst ow⟩ (lst x) (f :: r) = (Z.readName f (lst o)).bind fun n => (Z.record ⟨lst o, t, n⟩ r).map (fun y => (⟨lst o, t, n⟩, some y)) := by unfold Z.readFields; exact (if_neg h36).trans (if_neg h32)
            rw [HRS2.out, e]
            cases Z.readName f (lst o) with
            | none => rfl
            | some n =>
              rw [Option.bind_some, Option.bind_some]
              cases Z.record ⟨lst o, t, n⟩ r <;> rfl)
          clear HRS2
          go_wp2_with fail
          refine (HasPrefix_eq x 36 false H36 _).mono ?_
          rintro e w4 ⟨rfl, rfl⟩
          go_wp2_with fail
          refine (HasPrefix_eq x 32 false H32 _).mono ?_
          rintro e w4 ⟨rfl, rfl⟩
          go_wp2_with fail
          refine (rr_named W0 hm hk b hb0 o ow t l A2 c2 _ os _ h03 f r hs3 hf3 hL3 hos ho how HSZ hql).mono ?_
          rintro e w5 h5
          rw [← HRS.out] at h5
          have h6 := lineOut_from hr3 h5
          clear h5 HRS
          cases RS with
          | none =>
            obtain ⟨rfl, hrest⟩ := h6
            go_wp2
            exact ⟨rfl, rfl, hrest⟩
          | some p =>
            obtain ⟨rfl, hrest⟩ := h6
            go_wp2
            go_end0
            exact ⟨rfl, hrest⟩
end Go.Proofs.YtpgeeeamcncpkaaGreatDoor

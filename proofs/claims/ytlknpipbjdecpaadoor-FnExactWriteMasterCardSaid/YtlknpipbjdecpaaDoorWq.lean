/- What WriteMaster of the model and of the program return. -/
import Derived.Test.YtlknpipbjdecpaaDoorRs
import Derived.Test.YtlknpipbjdecpaaDoorWm
import Derived.Test.YtlknpipbjdecpaaDoorWl
namespace Go.Proofs.YtlknpipbjdecpaaDoor
open Go.RowKit
set_option maxRecDepth 100000
set_option linter.unusedVariables false
set_option linter.unusedSimpArgs false

theorem head_text : (⟨#[36, 79, 82, 73, 71, 73, 78, 32]⟩ : ByteArray).size = 8 := rfl
theorem nl_size : (⟨#[10]⟩ : ByteArray).size = 1 := rfl
theorem mhead_lst (o : ByteArray) : lst (⟨#[36, 79, 82, 73, 71, 73, 78, 32]⟩ ++ o ++ ⟨#[10]⟩) = Z.originWord ++ 32 :: (lst o ++ [10]) := by
  simp only [lst_append]
  simp [lst, Z.originWord]
theorem more_lst {t d : ByteArray} {l : List Z.Rec} {o ow : Z.Str} {k : Nat} (h : Z.MasterAt l o k (lst t) ow) {r : Z.Rec} (hk : l[k]? = some r) (hv : Z.recValid r = true) (hd : bs (Z.lineText r o ow) = d) : Z.MasterAt l o (k + 1) (lst (t ++ d ++ ⟨#[10]⟩)) r.name := by
  have h2 := Z.masterAt_next h hk hv
  have e : lst (t ++ d ++ ⟨#[10]⟩) = lst t ++ (Z.lineText r o ow ++ [10]) := by
    simp only [lst_append, ← hd, lst_bs, List.append_assoc]
    rfl
  rw [e]
  exact h2
theorem more_lst2 {t d : ByteArray} {l : List Z.Rec} {o ow : Z.Str} {k : Nat} (h : Z.MasterAt l o k (lst t) ow) {r : Z.Rec} (hk : l[k]? = some r) (hv : Z.recValid r = true) (hd : bs (Z.lineText r o ow) = d) : Z.MasterAt l o (k + 1) (lst (t ++ (d ++ ⟨#[10]⟩))) r.name := by
  have h2 := Z.masterAt_next h hk hv
  have e : lst (t ++ (d ++ ⟨#[10]⟩)) = lst t ++ (Z.lineText r o ow ++ [10]) := by
    simp only [lst_append, ← hd, lst_bs]
    rfl
  rw [e]
  exact h2
/-- The sizes of records that are small. -/
def RV.fine (r : RV) : Prop := r.N.size ≤ 67108864 ∧ r.L ≤ 67108864 ∧ r.G.size ≤ 67108864 ∧ r.X.size ≤ 67108864
theorem zmap_at {rs : List RV} {k : Nat} {r : RV} (h : rs[k]? = some r) : (rs.map RV.z)[k]? = some r.z := by rw [List.getElem?_map, h]; rfl

theorem iWriteLine_as (aN : ByteArray) (aT aK : Int) (aA : Option Addr) (aL aC : Nat) (aG aX : ByteArray) (aZ : List Int) (aB : Nat) (or ow : ByteArray) (w : World) (hra : Reads w aB aA aL (aZ.map iv)) (hba : aB ≤ w.heap.size) (hla : aL ≤ 67108864) (hsa : aN.size ≤ 67108864) (hga : aG.size ≤ 67108864) (hxa : aX.size ≤ 67108864) (hors : or.size ≤ 67108864) (how : ow.size ≤ 67108864) (hkt : KT w) (hpt : PT w) (D : ByteArray) (ok : Bool) (hD : Hid (bs ((Z.writeLine (⟨lst aN, aT, aK, aZ, lst aG, lst aX⟩ : Z.Rec) (lst or) (lst ow)).getD []) = D)) (hok : Hid ((Z.writeLine (⟨lst aN, aT, aK, aZ, lst aG, lst aX⟩ : Z.Rec) (lst or) (lst ow)).isSome = ok)) :
    Calls Tryd.prog 20 #[.agg #[.string aN, .int .i64 aT, .int .i64 aK, .slice aA aL aC, .string aG, .string aX], .string or, .string ow] w fun e w' => e = .returned (.tuple #[.string D, .bool ok]) ∧ Below w.heap.size w w' := by
  have h := iWriteLine_any aN aT aK aA aL aC aG aX aZ aB or ow w hra hba hla hsa hga hxa hors how hkt hpt
  unfold rOpt at h
  rw [hD.out, hok.out] at h
  exact h
theorem master_none {l : List Z.Rec} {o t ow : Z.Str} {k : Nat} (h : Z.MasterAt l o k t ow) (hv : Z.valid o = true) {r : Z.Rec} (hok : (Z.writeLine r o ow).isSome = false) : Z.recValid r = false := by
  cases hr : Z.recValid r with
  | false => rfl
  | true =>
    exfalso
    have ho := Z.masterAt_owner h
    unfold Z.writeLine at hok
    rcases ho with e | e <;> simp [hr, hv, e] at hok
theorem master_some {r : Z.Rec} {o ow : Z.Str} {D : ByteArray} (hok : (Z.writeLine r o ow).isSome = true) (hD : bs ((Z.writeLine r o ow).getD []) = D) : Z.recValid r = true ∧ bs (Z.lineText r o ow) = D := by
  unfold Z.writeLine at hok hD
  split at hok
  · rename_i h
    rw [if_pos h] at hD
    simp at h
    exact ⟨h.1.1, hD⟩
  · simp at hok

set_option maxHeartbeats 4000000 in
theorem WriteMaster_any (rs : List RV) (B : Nat) (A : Option Addr) (n c : Nat) (or : ByteArray) (w : World) (hr : Recs w B A n rs) (hB : B ≤ w.heap.size) (hn : n ≤ 1048576) (hors : or.size ≤ 67108864) (hf : Hid (∀ r ∈ rs, r.fine)) :
    Calls Tryd.prog 6 #[.slice A n c, .string or] w fun e w' => e = .returned (rOpt (Z.writeMaster (rs.map RV.z) (lst or))) ∧ Below w.heap.size w w' := by
  have hlen := hr.2.1
  cases hvo : Z.valid (lst or) with
  | false =>
    have HO : Hid (Z.writeMaster (rs.map RV.z) (lst or) = none) := hid (Z.writeMaster_bad (Or.inl hvo))
    have HV := hid hvo
    clear hvo
    go_enter Tryd.func6, Tryd.ntmps6
    go_wp2_with fail
    refine (wNameValid_v or hors false HV _).mono ?_
    rintro e w2 ⟨rfl, hb2⟩
    go_wp2
    all_goals go_ret2
    all_goals exact ⟨rOpt_none HO.out, hb2⟩
  | true =>
    have HV := hid hvo
    by_cases h60 : n ≤ 60
    · have hos : or.size ≤ 60 := by have := (Z.valid_len hvo).2; rwa [lst_length] at this
      have a1 := add_run ⟨#[36, 79, 82, 73, 71, 73, 78, 32]⟩ or (by rw [head_text]; omega)
      have a2 := add_run (⟨#[36, 79, 82, 73, 71, 73, 78, 32]⟩ ++ or) ⟨#[10]⟩ (by rw [ByteArray.size_append, head_text, nl_size]; omega)
      have hst : Hid (Z.MasterAt (rs.map RV.z) (lst or) 0 (lst (⟨#[36, 79, 82, 73, 71, 73, 78, 32]⟩ ++ or ++ ⟨#[10]⟩)) []) := hid (by rw [mhead_lst]; exact Z.masterAt_start _ _)
      clear hvo
      go_enter Tryd.func6, Tryd.ntmps6
      go_wp2_with fail
      refine (wNameValid_v or hors true HV _).mono ?_
      rintro e w2 ⟨rfl, hb2⟩
      go_wp2_with fail
      go_loopw [6, 7, 8] (fun v u i wr => ∃ (k : Nat) (o ow : ByteArray), k ≤ n ∧ i = .int .i64 k ∧ v = .string o ∧ u = .string ow ∧ Hid (Z.MasterAt (rs.map RV.z) (lst or) k (lst o) (lst ow)) ∧ Below w.heap.size w wr) (fun _ _ i _ => n - (intOf i).toNat)
      case atStart => exact ⟨0, _, ⟨#[]⟩, Nat.zero_le _, rfl, rfl, rfl, hst, hb2⟩
      case round =>
        obtain ⟨k, o, ow, hk, rfl, rfl, rfl, hat, hb⟩ := hrel
        by_cases hlt : k < n
        · obtain ⟨ad, r, p, rfl, hp, hab, hrk, hrr, c0, c1, c2, c3, c4, c5⟩ := (hr.below hb hB).at_ hlt
          obtain ⟨f1, f2, f3, f4⟩ := hf.out r (List.mem_of_getElem? hrk)
          have hbs := hb.size
          have hsz := Z.masterAt_len hat.out HV.out
          have hows : ow.size ≤ 67108864 := by
            rcases Z.masterAt_owner hat.out with h | h
            · rw [← lst_length, h]; exact Nat.zero_le _
            · have := (Z.valid_len h).2; rw [lst_length] at this; omega
          rw [lst_length] at hsz
          have p1 : 0 ≤ (k : Int) := by omega
          have p2 : (k : Int) < n := by omega
          have HRK := hid hrk
          clear hrk
          cases hv : Z.recValid r.z with
          | false =>
            have HRV : Hid (Z.recValid (⟨lst r.N, r.T, r.K, r.Z, lst r.G, lst r.X⟩ : Z.Rec) = false) := hid hv
            have HO : Hid (Z.writeMaster (rs.map RV.z) (lst or) = none) := hid (Z.writeMaster_rec (List.mem_of_getElem? (zmap_at HRK.out)) hv)
            clear hv
            go_wp2_with fail
            refine (RecordValid_eq r.N r.T r.K r.A r.L r.C r.G r.X r.Z B _ hrr (by omega) f2 f1 f3 f4 false HRV).mono ?_
            rintro e w3 ⟨rfl, hb3⟩
            have hb4 := hb.trans (hb3.mono hbs)
            clear c0 c1 c2 c3 c4 c5 hrr
            go_wp2
            all_goals go_ret2
            all_goals exact ⟨rOpt_none HO.out, hb4⟩
          | true =>
            have HRV : Hid (Z.recValid (⟨lst r.N, r.T, r.K, r.Z, lst r.G, lst r.X⟩ : Z.Rec) = true) := hid hv
            obtain ⟨D, hD⟩ : ∃ D, bs (Z.lineText r.z (lst or) (lst ow)) = D := ⟨_, rfl⟩
            have hDs : D.size ≤ 300 := by rw [← hD, bs_size]; exact Z.line_len hv HV.out _
            have HD : Hid (bs (Z.lineText (⟨lst r.N, r.T, r.K, r.Z, lst r.G, lst r.X⟩ : Z.Rec) (lst or) (lst ow)) = D) := hid hD
            have HN := hid (more_lst hat.out (zmap_at HRK.out) hv hD)
            have b1 := add_run o D (by omega)
            have b2 := add_run (o ++ D) ⟨#[10]⟩ (by rw [ByteArray.size_append, nl_size]; omega)
            clear hv hD
            go_wp2_with fail
            refine (RecordValid_eq r.N r.T r.K r.A r.L r.C r.G r.X r.Z B _ hrr (by omega) f2 f1 f3 f4 true HRV).mono ?_
            rintro e w3 ⟨rfl, hb3⟩
            have hb4 := hb.trans (hb3.mono hbs)
            have hrr3 := hrr.below hb3 (by omega)
            have hbs3 := hb3.size
            have hp3 : p.block < wr.heap.size := by omega
            replace c0 := (hb3.cell (p := p) hp3).trans c0
            replace c1 := (hb3.cell (p := ⟨p.block, p.off + 1, none⟩) hp3).trans c1
            replace c2 := (hb3.cell (p := ⟨p.block, p.off + 2, none⟩) hp3).trans c2
            replace c3 := (hb3.cell (p := ⟨p.block, p.off + 3, none⟩) hp3).trans c3
            replace c4 := (hb3.cell (p := ⟨p.block, p.off + 4, none⟩) hp3).trans c4
            replace c5 := (hb3.cell (p := ⟨p.block, p.off + 5, none⟩) hp3).trans c5
            clear hrr hb
            go_wp2_with fail
            refine (l3Line_eq r.N r.T r.K r.A r.L r.C r.G r.X r.Z B or ow _ hrr3 (by omega) f2 f1 f3 f4 HRV HV hows D HD).mono ?_
            rintro e w5 ⟨rfl, hb5⟩
            have hb6 := hb4.trans (hb5.mono hb4.size)
            have hp5 : p.block < w3.heap.size := by omega
            replace c0 := (hb5.cell (p := p) hp5).trans c0
            clear c1 c2 c3 c4 c5 hrr3 hb3 hb4 hb5
            go_wp2_with fail
            all_goals exact ⟨⟨k + 1, _, _, by omega, by go_num, rfl, rfl, HN, hb6⟩, by simp [intOf]; omega⟩
        · obtain rfl : k = n := by omega
          have hend := Z.writeMaster_end (l := rs.map RV.z) (o := lst or) (t := lst o) (ow := lst ow) (by rw [List.length_map, hlen]; exact hat.out) HV.out (by rw [List.length_map, hlen]; exact h60)
          rw [lst_length] at hend
          by_cases h4 : o.size ≤ 4000
          · rw [if_pos h4] at hend
            have HO := hid hend
            clear hend
            go_wp2_with fail
            all_goals go_ret2
            all_goals exact ⟨rOpt_some HO.out, hb⟩
          · rw [if_neg h4] at hend
            have HO := hid hend
            clear hend
            go_wp2_with fail
            all_goals go_ret2
            all_goals exact ⟨rOpt_none HO.out, hb⟩
    · have HO : Hid (Z.writeMaster (rs.map RV.z) (lst or) = none) := hid (Z.writeMaster_bad (Or.inr (by rw [List.length_map, hlen]; omega)))
      clear hvo
      go_enter Tryd.func6, Tryd.ntmps6
      go_wp2_with fail
      refine (wNameValid_v or hors true HV _).mono ?_
      rintro e w2 ⟨rfl, hb2⟩
      go_wp2
      all_goals go_ret2
      all_goals exact ⟨rOpt_none HO.out, hb2⟩
set_option maxHeartbeats 4000000 in
theorem iWriteMaster_any (rs : List RV) (B : Nat) (A : Option Addr) (n c : Nat) (or : ByteArray) (w : World) (hr : Recs w B A n rs) (hB : B ≤ w.heap.size) (hn : n ≤ 1048576) (hors : or.size ≤ 67108864) (hf : Hid (∀ r ∈ rs, r.fine)) (hkt : KT w) (hpt : PT w) :
    Calls Tryd.prog 8 #[.slice A n c, .string or] w fun e w' => e = .returned (rOpt (Z.writeMaster (rs.map RV.z) (lst or))) ∧ Below w.heap.size w w' := by
  have hlen := hr.2.1
  cases hvo : Z.valid (lst or) with
  | false =>
    have HO : Hid (Z.writeMaster (rs.map RV.z) (lst or) = none) := hid (Z.writeMaster_bad (Or.inl hvo))
    have HV := hid hvo
    clear hvo
    go_enter Tryd.func8, Tryd.ntmps8
    go_wp2_with fail
    refine (lNameValid_v or hors false HV _).mono ?_
    rintro e w2 ⟨rfl, hb2⟩
    go_wp2
    all_goals go_ret2
    all_goals exact ⟨rOpt_none HO.out, hb2⟩
  | true =>
    have HV := hid hvo
    by_cases h60 : n ≤ 60
    · have hos : or.size ≤ 60 := by have := (Z.valid_len hvo).2; rwa [lst_length] at this
      have a1 := add_run ⟨#[36, 79, 82, 73, 71, 73, 78, 32]⟩ or (by rw [head_text]; omega)
      have a2 := add_run (⟨#[36, 79, 82, 73, 71, 73, 78, 32]⟩ ++ or) ⟨#[10]⟩ (by rw [ByteArray.size_append, head_text, nl_size]; omega)
      have hst : Hid (Z.MasterAt (rs.map RV.z) (lst or) 0 (lst (⟨#[36, 79, 82, 73, 71, 73, 78, 32]⟩ ++ or ++ ⟨#[10]⟩)) []) := hid (by rw [mhead_lst]; exact Z.masterAt_start _ _)
      clear hvo
      go_enter Tryd.func8, Tryd.ntmps8
      go_wp2_with fail
      refine (lNameValid_v or hors true HV _).mono ?_
      rintro e w2 ⟨rfl, hb2⟩
      go_wp2_with fail
      go_loopw [6, 7, 25] (fun v u i wr => ∃ (k : Nat) (o ow : ByteArray), k ≤ n ∧ i = .int .i64 k ∧ v = .string o ∧ u = .string ow ∧ Hid (Z.MasterAt (rs.map RV.z) (lst or) k (lst o) (lst ow)) ∧ Below w.heap.size w wr) (fun _ _ i _ => n - (intOf i).toNat)
      case atStart => exact ⟨0, _, ⟨#[]⟩, Nat.zero_le _, rfl, rfl, rfl, hst, hb2⟩
      case round =>
        obtain ⟨k, o, ow, hk, rfl, rfl, rfl, hat, hb⟩ := hrel
        by_cases hlt : k < n
        · obtain ⟨ad, r, p, rfl, hp, hab, hrk, hrr, c0, c1, c2, c3, c4, c5⟩ := (hr.below hb hB).at_ hlt
          obtain ⟨f1, f2, f3, f4⟩ := hf.out r (List.mem_of_getElem? hrk)
          have hbs := hb.size
          have hsz := Z.masterAt_len hat.out HV.out
          have hows : ow.size ≤ 67108864 := by
            rcases Z.masterAt_owner hat.out with h | h
            · rw [← lst_length, h]; exact Nat.zero_le _
            · have := (Z.valid_len h).2; rw [lst_length] at this; omega
          rw [lst_length] at hsz
          have p1 : 0 ≤ (k : Int) := by omega
          have p2 : (k : Int) < n := by omega
          have HRK := hid hrk
          clear hrk
          obtain ⟨ok, hok⟩ : ∃ ok, (Z.writeLine r.z (lst or) (lst ow)).isSome = ok := ⟨_, rfl⟩
          obtain ⟨D, hD⟩ : ∃ D, bs ((Z.writeLine r.z (lst or) (lst ow)).getD []) = D := ⟨_, rfl⟩
          have HOK := hid hok
          have HD := hid hD
          have hbb : B ≤ wr.heap.size := by omega
          have hx0 := Held.box wr [.string r.N, .int .i64 r.T, .int .i64 r.K, .slice r.A r.L r.C, .string r.G, .string r.X] 43
          have hkr := hkt.below hb
          have hpr := hpt.below hb
          cases ok with
          | false =>
            have hv : Z.recValid r.z = false := master_none hat.out HV.out hok
            have HO : Hid (Z.writeMaster (rs.map RV.z) (lst or) = none) := hid (Z.writeMaster_rec (List.mem_of_getElem? (zmap_at HRK.out)) hv)
            clear hv hok hD
            go_wp2_with fail
            refine (iWriteLine_as r.N r.T r.K r.A r.L r.C r.G r.X r.Z B or ow _ (hrr.held hbb hx0) (hx0.up hbb) f2 f1 f3 f4 hors hows (KT.held hkr hx0) (PT.held hpr hx0) D false HD HOK).mono ?_
            rintro e w3 ⟨rfl, hb3⟩
            have hx1 := hx0.next hb3
            have hb4 := hb.trans (hx1.1.mono hbs)
            clear c0 c1 c2 c3 c4 c5 hrr hx0 hb3
            go_wp2
            all_goals go_ret2
            all_goals exact ⟨rOpt_none HO.out, hb4⟩
          | true =>
            obtain ⟨hv, hD2⟩ := master_some hok hD
            have hDs : D.size ≤ 300 := by rw [← hD2, bs_size]; exact Z.line_len hv HV.out _
            have HN := hid (more_lst2 hat.out (zmap_at HRK.out) hv hD2)
            have hd10 : (D ++ ⟨#[10]⟩).size ≤ 301 := by rw [ByteArray.size_append, nl_size]; omega
            have b1 := add_run D ⟨#[10]⟩ (by rw [nl_size]; omega)
            have b2 := add_run o (D ++ ⟨#[10]⟩) (by omega)
            clear hv hok hD hD2
            go_wp2_with fail
            refine (iWriteLine_as r.N r.T r.K r.A r.L r.C r.G r.X r.Z B or ow _ (hrr.held hbb hx0) (hx0.up hbb) f2 f1 f3 f4 hors hows (KT.held hkr hx0) (PT.held hpr hx0) D true HD HOK).mono ?_
            rintro e w3 ⟨rfl, hb3⟩
            have hx1 := hx0.next hb3
            have hb6 := hb.trans (hx1.1.mono hbs)
            obtain ⟨q0, q1, q2, q3, q4, q5⟩ := hx1.cells6
            clear c0 c1 c2 c3 c4 c5 hrr hb3 hx0
            go_wp2_with fail
            all_goals exact ⟨⟨k + 1, _, _, by omega, by go_num, rfl, rfl, HN, hb6⟩, by simp [intOf]; omega⟩
        · obtain rfl : k = n := by omega
          have hend := Z.writeMaster_end (l := rs.map RV.z) (o := lst or) (t := lst o) (ow := lst ow) (by rw [List.length_map, hlen]; exact hat.out) HV.out (by rw [List.length_map, hlen]; exact h60)
          rw [lst_length] at hend
          by_cases h4 : o.size ≤ 4000
          · rw [if_pos h4] at hend
            have HO := hid hend
            clear hend
            go_wp2_with fail
            all_goals go_ret2
            all_goals exact ⟨rOpt_some HO.out, hb⟩
          · rw [if_neg h4] at hend
            have HO := hid hend
            clear hend
            go_wp2_with fail
            all_goals go_ret2
            all_goals exact ⟨rOpt_none HO.out, hb⟩
    · have HO : Hid (Z.writeMaster (rs.map RV.z) (lst or) = none) := hid (Z.writeMaster_bad (Or.inr (by rw [List.length_map, hlen]; omega)))
      clear hvo
      go_enter Tryd.func8, Tryd.ntmps8
      go_wp2_with fail
      refine (lNameValid_v or hors true HV _).mono ?_
      rintro e w2 ⟨rfl, hb2⟩
      go_wp2
      all_goals go_ret2
      all_goals exact ⟨rOpt_none HO.out, hb2⟩
end Go.Proofs.YtlknpipbjdecpaaDoor

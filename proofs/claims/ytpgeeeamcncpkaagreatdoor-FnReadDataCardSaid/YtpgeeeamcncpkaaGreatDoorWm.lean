/- What WriteLine of the model returns. -/
import Derived.Test.YtpgeeeamcncpkaaGreatDoorMl
import Derived.Test.YtpgeeeamcncpkaaGreatDoorSi
import Derived.Deep.RegionHeld3
namespace Go.Proofs.YtpgeeeamcncpkaaGreatDoor
open Go.RowKit
set_option maxRecDepth 100000
set_option linter.unusedVariables false
set_option linter.unusedSimpArgs false

theorem ShortName_v (s o : ByteArray) (hs : s.size ≤ 67108864) (ho : o.size ≤ 67108864) (x : ByteArray) (hv : Hid (Z.valid (lst s) = true)) (hvo : Hid (Z.valid (lst o) = true)) (hx : Hid (bs (Z.short (lst s) (lst o)) = x)) (w : World) :
    Calls Tryz.prog 149 #[.string s, .string o] w fun e w' => e = .returned (.tuple #[.string x, .bool true]) ∧ Below w.heap.size w w' := by
  have h := ShortName_any s o hs ho w
  rw [Z.short_some hv.out hvo.out] at h
  unfold rOpt at h
  rw [show (some (Z.short (lst s) (lst o))).getD [] = Z.short (lst s) (lst o) from rfl, hx.out] at h
  exact h
set_option maxHeartbeats 400000 in
theorem l3Short_eq (s o : ByteArray) (hs : s.size ≤ 67108864) (ho : o.size ≤ 67108864) (x : ByteArray) (hv : Hid (Z.valid (lst s) = true)) (hvo : Hid (Z.valid (lst o) = true)) (hx : Hid (bs (Z.short (lst s) (lst o)) = x)) (w : World) :
    Calls Tryz.prog 118 #[.string s, .string o] w fun e w' => e = .returned (.string x) ∧ Below w.heap.size w w' := by
  go_enter Tryz.func118, Tryz.ntmps118
  go_wp2_with fail
  refine (ShortName_v s o hs ho x hv hvo hx _).mono ?_
  rintro e w2 ⟨rfl, hb2⟩
  go_wp2
  go_ret
  exact ⟨rfl, hb2⟩
theorem z_one : (⟨#[32]⟩ : ByteArray).size = 1 := rfl

set_option maxHeartbeats 8000000 in
theorem l3Line_1_same (aN : ByteArray) (aT aK : Int) (aA : Option Addr) (aL aC : Nat) (aG aX : ByteArray) (aZ : List Int) (aB : Nat) (or ow : ByteArray) (w : World) (hra : Reads w aB aA aL (aZ.map iv)) (hba : aB ≤ w.heap.size) (hla : aL ≤ 67108864) (hsa : aN.size ≤ 67108864) (hga : aG.size ≤ 67108864) (hxa : aX.size ≤ 67108864) (hv : Z.recValid (⟨lst aN, aT, aK, aZ, lst aG, lst aX⟩ : Z.Rec) = true) (hvo : Z.valid (lst or) = true) (how : ow.size ≤ 67108864) (heq : lst aN = lst ow) (hk : aK = 1) :
    Calls Tryz.prog 75 #[.agg #[.string aN, .int .i64 aT, .int .i64 aK, .slice aA aL aC, .string aG, .string aX], .string or, .string ow] w fun e w' => e = .returned (.string (bs (Z.lineText (⟨lst aN, aT, aK, aZ, lst aG, lst aX⟩ : Z.Rec) (lst or) (lst ow)))) ∧ Below w.heap.size w w' := by
  have hx0 := Held.box w [.string aN, .int .i64 aT, .int .i64 aK, .slice aA aL aC, .string aG, .string aX] 25
  obtain ⟨hvn, hT0, hT1, hkk, hnn9, hrest⟩ := Z.recValid_iff.1 hv
  have hsz := Z.valid_sizes hv
  have hrange := Z.okNums_range hnn9 (Z.lims_le _)
  have hcount := Z.okNums_length hnn9
  have htarget := Z.okRest_target hrest
  have htl := Z.shortT_len hrest hvo
  dsimp only at hvn hT0 hT1 hkk hnn9 hrest hsz hrange hcount htarget htl
  obtain ⟨T, hT⟩ := Int.eq_ofNat_of_zero_le hT0
  subst hT
  have hors : or.size ≤ 60 := by have := (Z.valid_len hvo).2; rwa [lst_length] at this
  obtain ⟨nS, hnS⟩ : ∃ s, bs (Z.short (lst aN) (lst or)) = s := ⟨_, rfl⟩
  obtain ⟨kS, hkS⟩ : ∃ s, bs (Z.kindName aK) = s := ⟨_, rfl⟩
  obtain ⟨gS, hgS⟩ : ∃ s, bs (Z.short (lst aG) (lst or)) = s := ⟨_, rfl⟩
  have s1 : nS.size ≤ 60 := by rw [← hnS, bs_size]; exact Z.short_len hvn hvo
  have s2 := numS_size T (by omega)
  have s3 : kS.size ≤ 10 := by
    rw [← hkS, bs_size]
    unfold Z.kindName
    repeat' split
    all_goals simp
  have hlt := Z.line_text hv (lst or) (lst ow)
  have hlead : Z.lead (⟨lst aN, (T : Int), aK, aZ, lst aG, lst aX⟩ : Z.Rec) (lst or) (lst ow) = lst ⟨#[]⟩ := by
    unfold Z.lead
    rw [if_pos heq]; rfl
  rw [hlead] at hlt
  dsimp only at hlt
  have hnn : (aN.toList == ow.toList) = true := by rw [eq_toList]; simpa using heq
  have a1 := add_run ⟨#[]⟩ ⟨#[32]⟩ (by decide)
  have a2 := add_run (⟨#[]⟩ ++ ⟨#[32]⟩) (numS T) (by simp only [ByteArray.size_append, z_one]; show 0 + 1 + _ ≤ _; omega)
  have a3 := add_run (⟨#[]⟩ ++ ⟨#[32]⟩ ++ numS T) ⟨#[32]⟩ (by simp only [ByteArray.size_append, z_one]; show 0 + 1 + _ + 1 ≤ _; omega)
  have a4 := add_run (⟨#[]⟩ ++ ⟨#[32]⟩ ++ numS T ++ ⟨#[32]⟩) kS (by simp only [ByteArray.size_append, z_one]; show 0 + 1 + _ + 1 + _ ≤ _; omega)
  have a5 := add_run (⟨#[]⟩ ++ ⟨#[32]⟩ ++ numS T ++ ⟨#[32]⟩ ++ kS) ⟨#[32]⟩ (by simp only [ByteArray.size_append, z_one]; show 0 + 1 + _ + 1 + _ + 1 ≤ _; omega)
  obtain ⟨Q, hQ⟩ : ∃ Q, ⟨#[]⟩ ++ ⟨#[32]⟩ ++ numS T ++ ⟨#[32]⟩ ++ kS ++ ⟨#[32]⟩ = Q := ⟨_, rfl⟩
  have hQl : lst Q = lst ⟨#[]⟩ ++ 32 :: (Lib.itoa T ++ 32 :: (Z.kindName aK ++ [32])) := by
    rw [← hQ]
    simp only [lst_append, numS_lst, ← hkS, lst_bs]
    simp [lst]
  have hQs : Q.size ≤ 200 := by rw [← hQ]; simp only [ByteArray.size_append, z_one]; show 0 + 1 + _ + 1 + _ + 1 ≤ _; omega
  rw [hQ] at a5
  have HV := hid hv
  have HVN := hid hvn
  have HVO := hid hvo
  have HN := hid hnS
  have HK := hid hkS
  have HG := hid hgS
  subst hk
  obtain ⟨dS, hdS⟩ : ∃ s, bs (Z.dataText 1 aZ (lst aG) (lst aX)) = s := ⟨_, rfl⟩
  have s4 : dS.size ≤ 200 := by rw [← hdS, bs_size]; exact data_len hv
  have HD := hid hdS
  have a6 := add_run Q dS (by omega)
  have hfin : Hid (Q ++ dS = bs (Z.lineText (⟨lst aN, (T : Int), 1, aZ, lst aG, lst aX⟩ : Z.Rec) (lst or) (lst ow))) := hid (by
    apply lst_inj
    rcases htarget with ⟨_, hg0⟩ | ⟨h9, _⟩
    · rw [lst_bs, hlt, lst_append, hQl, ← hdS, lst_bs, Z.shortT, if_pos hg0, hg0]
      simp
    · exact absurd (by first | exact Or.inl rfl | exact Or.inr rfl) h9)
  clear hv hvn hvo hnS hkS hgS hlt hlead hQ hQl hT0 hkk hnn9 hrest hrange hcount htarget htl heq hdS
  obtain ⟨q0, q1, q2, q3, q4, q5⟩ := hx0.cells6
  go_enter Tryz.func75, Tryz.ntmps75
  go_wp2_with fail
  refine (l3Short_eq aN or hsa (by omega) nS HVN HVO HN _).mono ?_
  rintro e w2 ⟨rfl, hb2⟩
  have hx2 := hx0.next hb2
  clear hb2 q0 q1 q2 q3 q4 q5
  obtain ⟨q0, q1, q2, q3, q4, q5⟩ := hx2.cells6
  go_wp2_with fail
  go_region_held3 (fun w' => Held w w' w.heap.size [.string aN, .int .i64 (T : Int), .int .i64 1, .slice aA aL aC, .string aG, .string aX] ∧ w'.cell? ⟨w.heap.size, 0, none⟩ = some (.string aN) ∧ w'.cell? ⟨w.heap.size, 1, none⟩ = some (.int .i64 (T : Int)) ∧ w'.cell? ⟨w.heap.size, 2, none⟩ = some (.int .i64 1) ∧ w'.cell? ⟨w.heap.size, 3, none⟩ = some (.slice aA aL aC) ∧ w'.cell? ⟨w.heap.size, 4, none⟩ = some (.string aG) ∧ w'.cell? ⟨w.heap.size, 5, none⟩ = some (.string aX))
    (first
      | (exact ⟨hx2, hx2.cells6⟩)
      | (exact ⟨hx2.drewN 1, (hx2.drewN 1).cells6⟩)
      | (go_split_ands; have hx := Held.next (by assumption) hb9; exact ⟨hx, hx.cells6⟩)
      | go_keep)
    (first
      | (go_at_call 119; refine (l13Dec_num _ (by omega) _).mono ?_; rintro e w9 ⟨rfl, hb9⟩)
      | (go_at_call 92; refine (KindName_eq _ kS HK _).mono ?_; rintro e w9 ⟨rfl, hb9⟩))
  all_goals go_split_ands
  all_goals (have hx3 : Held w w9 w.heap.size [.string aN, .int .i64 (T : Int), .int .i64 1, .slice aA aL aC, .string aG, .string aX] := by assumption)
  all_goals go_wp2_with fail
  all_goals refine (l2Data_eq aN (T : Int) 1 aA aL aC aG aX aZ aB w9 (hra.held hba hx3) (hx3.up hba) hla hsa hga hxa HV dS HD).mono ?_
  all_goals rintro e w10 ⟨rfl, hb10⟩
  all_goals go_wp2
  all_goals go_ret
  all_goals exact ⟨ret_str hfin.out, (hx3.next hb10).1⟩

set_option maxHeartbeats 8000000 in
theorem l3Line_16_same (aN : ByteArray) (aT aK : Int) (aA : Option Addr) (aL aC : Nat) (aG aX : ByteArray) (aZ : List Int) (aB : Nat) (or ow : ByteArray) (w : World) (hra : Reads w aB aA aL (aZ.map iv)) (hba : aB ≤ w.heap.size) (hla : aL ≤ 67108864) (hsa : aN.size ≤ 67108864) (hga : aG.size ≤ 67108864) (hxa : aX.size ≤ 67108864) (hv : Z.recValid (⟨lst aN, aT, aK, aZ, lst aG, lst aX⟩ : Z.Rec) = true) (hvo : Z.valid (lst or) = true) (how : ow.size ≤ 67108864) (heq : lst aN = lst ow) (hk : aK = 16) :
    Calls Tryz.prog 75 #[.agg #[.string aN, .int .i64 aT, .int .i64 aK, .slice aA aL aC, .string aG, .string aX], .string or, .string ow] w fun e w' => e = .returned (.string (bs (Z.lineText (⟨lst aN, aT, aK, aZ, lst aG, lst aX⟩ : Z.Rec) (lst or) (lst ow)))) ∧ Below w.heap.size w w' := by
  have hx0 := Held.box w [.string aN, .int .i64 aT, .int .i64 aK, .slice aA aL aC, .string aG, .string aX] 25
  obtain ⟨hvn, hT0, hT1, hkk, hnn9, hrest⟩ := Z.recValid_iff.1 hv
  have hsz := Z.valid_sizes hv
  have hrange := Z.okNums_range hnn9 (Z.lims_le _)
  have hcount := Z.okNums_length hnn9
  have htarget := Z.okRest_target hrest
  have htl := Z.shortT_len hrest hvo
  dsimp only at hvn hT0 hT1 hkk hnn9 hrest hsz hrange hcount htarget htl
  obtain ⟨T, hT⟩ := Int.eq_ofNat_of_zero_le hT0
  subst hT
  have hors : or.size ≤ 60 := by have := (Z.valid_len hvo).2; rwa [lst_length] at this
  obtain ⟨nS, hnS⟩ : ∃ s, bs (Z.short (lst aN) (lst or)) = s := ⟨_, rfl⟩
  obtain ⟨kS, hkS⟩ : ∃ s, bs (Z.kindName aK) = s := ⟨_, rfl⟩
  obtain ⟨gS, hgS⟩ : ∃ s, bs (Z.short (lst aG) (lst or)) = s := ⟨_, rfl⟩
  have s1 : nS.size ≤ 60 := by rw [← hnS, bs_size]; exact Z.short_len hvn hvo
  have s2 := numS_size T (by omega)
  have s3 : kS.size ≤ 10 := by
    rw [← hkS, bs_size]
    unfold Z.kindName
    repeat' split
    all_goals simp
  have hlt := Z.line_text hv (lst or) (lst ow)
  have hlead : Z.lead (⟨lst aN, (T : Int), aK, aZ, lst aG, lst aX⟩ : Z.Rec) (lst or) (lst ow) = lst ⟨#[]⟩ := by
    unfold Z.lead
    rw [if_pos heq]; rfl
  rw [hlead] at hlt
  dsimp only at hlt
  have hnn : (aN.toList == ow.toList) = true := by rw [eq_toList]; simpa using heq
  have a1 := add_run ⟨#[]⟩ ⟨#[32]⟩ (by decide)
  have a2 := add_run (⟨#[]⟩ ++ ⟨#[32]⟩) (numS T) (by simp only [ByteArray.size_append, z_one]; show 0 + 1 + _ ≤ _; omega)
  have a3 := add_run (⟨#[]⟩ ++ ⟨#[32]⟩ ++ numS T) ⟨#[32]⟩ (by simp only [ByteArray.size_append, z_one]; show 0 + 1 + _ + 1 ≤ _; omega)
  have a4 := add_run (⟨#[]⟩ ++ ⟨#[32]⟩ ++ numS T ++ ⟨#[32]⟩) kS (by simp only [ByteArray.size_append, z_one]; show 0 + 1 + _ + 1 + _ ≤ _; omega)
  have a5 := add_run (⟨#[]⟩ ++ ⟨#[32]⟩ ++ numS T ++ ⟨#[32]⟩ ++ kS) ⟨#[32]⟩ (by simp only [ByteArray.size_append, z_one]; show 0 + 1 + _ + 1 + _ + 1 ≤ _; omega)
  obtain ⟨Q, hQ⟩ : ∃ Q, ⟨#[]⟩ ++ ⟨#[32]⟩ ++ numS T ++ ⟨#[32]⟩ ++ kS ++ ⟨#[32]⟩ = Q := ⟨_, rfl⟩
  have hQl : lst Q = lst ⟨#[]⟩ ++ 32 :: (Lib.itoa T ++ 32 :: (Z.kindName aK ++ [32])) := by
    rw [← hQ]
    simp only [lst_append, numS_lst, ← hkS, lst_bs]
    simp [lst]
  have hQs : Q.size ≤ 200 := by rw [← hQ]; simp only [ByteArray.size_append, z_one]; show 0 + 1 + _ + 1 + _ + 1 ≤ _; omega
  rw [hQ] at a5
  have HV := hid hv
  have HVN := hid hvn
  have HVO := hid hvo
  have HN := hid hnS
  have HK := hid hkS
  have HG := hid hgS
  subst hk
  obtain ⟨dS, hdS⟩ : ∃ s, bs (Z.dataText 16 aZ (lst aG) (lst aX)) = s := ⟨_, rfl⟩
  have s4 : dS.size ≤ 200 := by rw [← hdS, bs_size]; exact data_len hv
  have HD := hid hdS
  have a6 := add_run Q dS (by omega)
  have hfin : Hid (Q ++ dS = bs (Z.lineText (⟨lst aN, (T : Int), 16, aZ, lst aG, lst aX⟩ : Z.Rec) (lst or) (lst ow))) := hid (by
    apply lst_inj
    rcases htarget with ⟨_, hg0⟩ | ⟨h9, _⟩
    · rw [lst_bs, hlt, lst_append, hQl, ← hdS, lst_bs, Z.shortT, if_pos hg0, hg0]
      simp
    · exact absurd (by first | exact Or.inl rfl | exact Or.inr rfl) h9)
  clear hv hvn hvo hnS hkS hgS hlt hlead hQ hQl hT0 hkk hnn9 hrest hrange hcount htarget htl heq hdS
  obtain ⟨q0, q1, q2, q3, q4, q5⟩ := hx0.cells6
  go_enter Tryz.func75, Tryz.ntmps75
  go_wp2_with fail
  refine (l3Short_eq aN or hsa (by omega) nS HVN HVO HN _).mono ?_
  rintro e w2 ⟨rfl, hb2⟩
  have hx2 := hx0.next hb2
  clear hb2 q0 q1 q2 q3 q4 q5
  obtain ⟨q0, q1, q2, q3, q4, q5⟩ := hx2.cells6
  go_wp2_with fail
  go_region_held3 (fun w' => Held w w' w.heap.size [.string aN, .int .i64 (T : Int), .int .i64 16, .slice aA aL aC, .string aG, .string aX] ∧ w'.cell? ⟨w.heap.size, 0, none⟩ = some (.string aN) ∧ w'.cell? ⟨w.heap.size, 1, none⟩ = some (.int .i64 (T : Int)) ∧ w'.cell? ⟨w.heap.size, 2, none⟩ = some (.int .i64 16) ∧ w'.cell? ⟨w.heap.size, 3, none⟩ = some (.slice aA aL aC) ∧ w'.cell? ⟨w.heap.size, 4, none⟩ = some (.string aG) ∧ w'.cell? ⟨w.heap.size, 5, none⟩ = some (.string aX))
    (first
      | (exact ⟨hx2, hx2.cells6⟩)
      | (exact ⟨hx2.drewN 1, (hx2.drewN 1).cells6⟩)
      | (go_split_ands; have hx := Held.next (by assumption) hb9; exact ⟨hx, hx.cells6⟩)
      | go_keep)
    (first
      | (go_at_call 119; refine (l13Dec_num _ (by omega) _).mono ?_; rintro e w9 ⟨rfl, hb9⟩)
      | (go_at_call 92; refine (KindName_eq _ kS HK _).mono ?_; rintro e w9 ⟨rfl, hb9⟩))
  all_goals go_split_ands
  all_goals (have hx3 : Held w w9 w.heap.size [.string aN, .int .i64 (T : Int), .int .i64 16, .slice aA aL aC, .string aG, .string aX] := by assumption)
  all_goals go_wp2_with fail
  all_goals refine (l2Data_eq aN (T : Int) 16 aA aL aC aG aX aZ aB w9 (hra.held hba hx3) (hx3.up hba) hla hsa hga hxa HV dS HD).mono ?_
  all_goals rintro e w10 ⟨rfl, hb10⟩
  all_goals go_wp2
  all_goals go_ret
  all_goals exact ⟨ret_str hfin.out, (hx3.next hb10).1⟩

set_option maxHeartbeats 8000000 in
theorem l3Line_mx_same (aN : ByteArray) (aT aK : Int) (aA : Option Addr) (aL aC : Nat) (aG aX : ByteArray) (aZ : List Int) (aB : Nat) (or ow : ByteArray) (w : World) (hra : Reads w aB aA aL (aZ.map iv)) (hba : aB ≤ w.heap.size) (hla : aL ≤ 67108864) (hsa : aN.size ≤ 67108864) (hga : aG.size ≤ 67108864) (hxa : aX.size ≤ 67108864) (hv : Z.recValid (⟨lst aN, aT, aK, aZ, lst aG, lst aX⟩ : Z.Rec) = true) (hvo : Z.valid (lst or) = true) (how : ow.size ≤ 67108864) (heq : lst aN = lst ow) (hk : aK = 15) :
    Calls Tryz.prog 75 #[.agg #[.string aN, .int .i64 aT, .int .i64 aK, .slice aA aL aC, .string aG, .string aX], .string or, .string ow] w fun e w' => e = .returned (.string (bs (Z.lineText (⟨lst aN, aT, aK, aZ, lst aG, lst aX⟩ : Z.Rec) (lst or) (lst ow)))) ∧ Below w.heap.size w w' := by
  have hx0 := Held.box w [.string aN, .int .i64 aT, .int .i64 aK, .slice aA aL aC, .string aG, .string aX] 25
  obtain ⟨hvn, hT0, hT1, hkk, hnn9, hrest⟩ := Z.recValid_iff.1 hv
  have hsz := Z.valid_sizes hv
  have hrange := Z.okNums_range hnn9 (Z.lims_le _)
  have hcount := Z.okNums_length hnn9
  have htarget := Z.okRest_target hrest
  have htl := Z.shortT_len hrest hvo
  dsimp only at hvn hT0 hT1 hkk hnn9 hrest hsz hrange hcount htarget htl
  obtain ⟨T, hT⟩ := Int.eq_ofNat_of_zero_le hT0
  subst hT
  have hors : or.size ≤ 60 := by have := (Z.valid_len hvo).2; rwa [lst_length] at this
  obtain ⟨nS, hnS⟩ : ∃ s, bs (Z.short (lst aN) (lst or)) = s := ⟨_, rfl⟩
  obtain ⟨kS, hkS⟩ : ∃ s, bs (Z.kindName aK) = s := ⟨_, rfl⟩
  obtain ⟨gS, hgS⟩ : ∃ s, bs (Z.short (lst aG) (lst or)) = s := ⟨_, rfl⟩
  have s1 : nS.size ≤ 60 := by rw [← hnS, bs_size]; exact Z.short_len hvn hvo
  have s2 := numS_size T (by omega)
  have s3 : kS.size ≤ 10 := by
    rw [← hkS, bs_size]
    unfold Z.kindName
    repeat' split
    all_goals simp
  have hlt := Z.line_text hv (lst or) (lst ow)
  have hlead : Z.lead (⟨lst aN, (T : Int), aK, aZ, lst aG, lst aX⟩ : Z.Rec) (lst or) (lst ow) = lst ⟨#[]⟩ := by
    unfold Z.lead
    rw [if_pos heq]; rfl
  rw [hlead] at hlt
  dsimp only at hlt
  have hnn : (aN.toList == ow.toList) = true := by rw [eq_toList]; simpa using heq
  have a1 := add_run ⟨#[]⟩ ⟨#[32]⟩ (by decide)
  have a2 := add_run (⟨#[]⟩ ++ ⟨#[32]⟩) (numS T) (by simp only [ByteArray.size_append, z_one]; show 0 + 1 + _ ≤ _; omega)
  have a3 := add_run (⟨#[]⟩ ++ ⟨#[32]⟩ ++ numS T) ⟨#[32]⟩ (by simp only [ByteArray.size_append, z_one]; show 0 + 1 + _ + 1 ≤ _; omega)
  have a4 := add_run (⟨#[]⟩ ++ ⟨#[32]⟩ ++ numS T ++ ⟨#[32]⟩) kS (by simp only [ByteArray.size_append, z_one]; show 0 + 1 + _ + 1 + _ ≤ _; omega)
  have a5 := add_run (⟨#[]⟩ ++ ⟨#[32]⟩ ++ numS T ++ ⟨#[32]⟩ ++ kS) ⟨#[32]⟩ (by simp only [ByteArray.size_append, z_one]; show 0 + 1 + _ + 1 + _ + 1 ≤ _; omega)
  obtain ⟨Q, hQ⟩ : ∃ Q, ⟨#[]⟩ ++ ⟨#[32]⟩ ++ numS T ++ ⟨#[32]⟩ ++ kS ++ ⟨#[32]⟩ = Q := ⟨_, rfl⟩
  have hQl : lst Q = lst ⟨#[]⟩ ++ 32 :: (Lib.itoa T ++ 32 :: (Z.kindName aK ++ [32])) := by
    rw [← hQ]
    simp only [lst_append, numS_lst, ← hkS, lst_bs]
    simp [lst]
  have hQs : Q.size ≤ 200 := by rw [← hQ]; simp only [ByteArray.size_append, z_one]; show 0 + 1 + _ + 1 + _ + 1 ≤ _; omega
  rw [hQ] at a5
  have HV := hid hv
  have HVN := hid hvn
  have HVO := hid hvo
  have HN := hid hnS
  have HK := hid hkS
  have HG := hid hgS
  subst hk
  have hvg : Z.valid (lst aG) = true := by
    rcases htarget with ⟨h9 | h9, _⟩ | ⟨_, h9, _⟩
    · exact absurd h9 (by decide)
    · exact absurd h9 (by decide)
    · exact h9
  have s5 : gS.size ≤ 60 := by rw [← hgS, bs_size]; exact Z.short_len hvg hvo
  obtain ⟨n0, rfl⟩ : ∃ n0, aZ = [n0] := List.length_eq_one_iff.1 (by rw [hcount]; decide)
  obtain ⟨m0, rfl⟩ := Int.eq_ofNat_of_zero_le (hrange n0 (by simp)).1
  have hm0 := (hrange m0 (by simp)).2
  obtain rfl : aL = 1 := by have := reads_len hra; simpa using this.symm
  obtain ⟨ad, rfl, hab, c0⟩ := reads_int hra (k := 0) (by omega)
  have s6 := numS_size m0 (by omega)
  have HVG := hid hvg
  have a6 := add_run Q (numS m0) (by omega)
  have a7 := add_run (Q ++ numS m0) ⟨#[32]⟩ (by simp only [ByteArray.size_append, z_one]; omega)
  have a8 := add_run (Q ++ numS m0 ++ ⟨#[32]⟩) gS (by simp only [ByteArray.size_append, z_one]; omega)
  have hfin : Hid (Q ++ numS m0 ++ ⟨#[32]⟩ ++ gS = bs (Z.lineText (⟨lst aN, T, 15, [(m0 : Int)], lst aG, lst aX⟩ : Z.Rec) (lst or) (lst ow))) := hid (by
    apply lst_inj
    rw [lst_bs, hlt]
    simp only [lst_append, hQl, numS_lst, ← hgS, lst_bs]
    unfold Z.shortT
    rw [if_neg (Z.valid_ne hvg)]
    simp [Z.dataText, lst])
  have hd0 : ∀ W b cs, Held w W b cs → W.cell? ad = some (.int .i64 m0) := fun W b cs h => (h.1.cell (p := ad) (by omega)).trans c0
  have HDC := hid hd0
  clear hd0 c0
  clear hv hvn hvo hnS hkS hgS hlt hlead hQ hQl hT0 hkk hnn9 hrest hrange hcount htarget htl heq hvg
  obtain ⟨q0, q1, q2, q3, q4, q5⟩ := hx0.cells6
  go_enter Tryz.func75, Tryz.ntmps75
  go_wp2_with fail
  refine (l3Short_eq aN or hsa (by omega) nS HVN HVO HN _).mono ?_
  rintro e w2 ⟨rfl, hb2⟩
  have hx2 := hx0.next hb2
  clear hb2 q0 q1 q2 q3 q4 q5
  obtain ⟨q0, q1, q2, q3, q4, q5⟩ := hx2.cells6
  go_wp2_with fail
  go_region_held3 (fun w' => Held w w' w.heap.size [.string aN, .int .i64 (T : Int), .int .i64 15, .slice (some ad) 1 aC, .string aG, .string aX] ∧ w'.cell? ⟨w.heap.size, 0, none⟩ = some (.string aN) ∧ w'.cell? ⟨w.heap.size, 1, none⟩ = some (.int .i64 (T : Int)) ∧ w'.cell? ⟨w.heap.size, 2, none⟩ = some (.int .i64 15) ∧ w'.cell? ⟨w.heap.size, 3, none⟩ = some (.slice (some ad) 1 aC) ∧ w'.cell? ⟨w.heap.size, 4, none⟩ = some (.string aG) ∧ w'.cell? ⟨w.heap.size, 5, none⟩ = some (.string aX))
    (first
      | (exact ⟨hx2, hx2.cells6⟩)
      | (exact ⟨hx2.drewN 1, (hx2.drewN 1).cells6⟩)
      | (go_split_ands; have hx := Held.next (by assumption) hb9; exact ⟨hx, hx.cells6⟩)
      | go_keep)
    (first
      | (go_at_call 119; refine (l13Dec_num _ (by omega) _).mono ?_; rintro e w9 ⟨rfl, hb9⟩)
      | (go_at_call 92; refine (KindName_eq _ kS HK _).mono ?_; rintro e w9 ⟨rfl, hb9⟩))
  all_goals go_split_ands
  all_goals (have hx3 : Held w w9 w.heap.size [.string aN, .int .i64 (T : Int), .int .i64 15, .slice (some ad) 1 aC, .string aG, .string aX] := by assumption)
  all_goals (have hdc := HDC.out _ _ _ hx3)
  all_goals obtain ⟨q0, q1, q2, q3, q4, q5⟩ := hx3.cells6
  all_goals go_wp2_with fail
  all_goals go_region_held3 (fun w' => Held w w' w.heap.size [.string aN, .int .i64 (T : Int), .int .i64 15, .slice (some ad) 1 aC, .string aG, .string aX] ∧ w'.cell? ⟨w.heap.size, 3, none⟩ = some (.slice (some ad) 1 aC) ∧ w'.cell? ⟨w.heap.size, 4, none⟩ = some (.string aG) ∧ w'.cell? ad = some (.int .i64 m0))
    (first
      | (exact ⟨hx3, q3, q4, hdc⟩)
      | (exact ⟨hx3.drewN 1, (hx3.drewN 1).cells6.2.2.2.1, (hx3.drewN 1).cells6.2.2.2.2.1, HDC.out _ _ _ (hx3.drewN 1)⟩)
      | (go_split_ands; have hx := Held.next (by assumption) hb9; exact ⟨hx, hx.cells6.2.2.2.1, hx.cells6.2.2.2.2.1, HDC.out _ _ _ hx⟩)
      | go_keep)
    (first
      | (go_at_call 119; refine (l13Dec_num _ (by omega) _).mono ?_; rintro e w9 ⟨rfl, hb9⟩)
      | (go_at_call 118; refine (l3Short_eq aG or hga (by omega) gS HVG HVO HG _).mono ?_; rintro e w9 ⟨rfl, hb9⟩))
  all_goals go_split_ands
  all_goals go_wp2
  all_goals go_ret
  all_goals exact ⟨ret_str hfin.out, And.left (show Held w _ w.heap.size _ from by assumption)⟩

set_option maxHeartbeats 8000000 in
theorem l3Line_else_same (aN : ByteArray) (aT aK : Int) (aA : Option Addr) (aL aC : Nat) (aG aX : ByteArray) (aZ : List Int) (aB : Nat) (or ow : ByteArray) (w : World) (hra : Reads w aB aA aL (aZ.map iv)) (hba : aB ≤ w.heap.size) (hla : aL ≤ 67108864) (hsa : aN.size ≤ 67108864) (hga : aG.size ≤ 67108864) (hxa : aX.size ≤ 67108864) (hv : Z.recValid (⟨lst aN, aT, aK, aZ, lst aG, lst aX⟩ : Z.Rec) = true) (hvo : Z.valid (lst or) = true) (how : ow.size ≤ 67108864) (heq : lst aN = lst ow) (k1 : ¬ aK = 1) (k16 : ¬ aK = 16) (k15 : ¬ aK = 15) :
    Calls Tryz.prog 75 #[.agg #[.string aN, .int .i64 aT, .int .i64 aK, .slice aA aL aC, .string aG, .string aX], .string or, .string ow] w fun e w' => e = .returned (.string (bs (Z.lineText (⟨lst aN, aT, aK, aZ, lst aG, lst aX⟩ : Z.Rec) (lst or) (lst ow)))) ∧ Below w.heap.size w w' := by
  have hx0 := Held.box w [.string aN, .int .i64 aT, .int .i64 aK, .slice aA aL aC, .string aG, .string aX] 25
  obtain ⟨hvn, hT0, hT1, hkk, hnn9, hrest⟩ := Z.recValid_iff.1 hv
  have hsz := Z.valid_sizes hv
  have hrange := Z.okNums_range hnn9 (Z.lims_le _)
  have hcount := Z.okNums_length hnn9
  have htarget := Z.okRest_target hrest
  have htl := Z.shortT_len hrest hvo
  dsimp only at hvn hT0 hT1 hkk hnn9 hrest hsz hrange hcount htarget htl
  obtain ⟨T, hT⟩ := Int.eq_ofNat_of_zero_le hT0
  subst hT
  have hors : or.size ≤ 60 := by have := (Z.valid_len hvo).2; rwa [lst_length] at this
  obtain ⟨nS, hnS⟩ : ∃ s, bs (Z.short (lst aN) (lst or)) = s := ⟨_, rfl⟩
  obtain ⟨kS, hkS⟩ : ∃ s, bs (Z.kindName aK) = s := ⟨_, rfl⟩
  obtain ⟨gS, hgS⟩ : ∃ s, bs (Z.short (lst aG) (lst or)) = s := ⟨_, rfl⟩
  have s1 : nS.size ≤ 60 := by rw [← hnS, bs_size]; exact Z.short_len hvn hvo
  have s2 := numS_size T (by omega)
  have s3 : kS.size ≤ 10 := by
    rw [← hkS, bs_size]
    unfold Z.kindName
    repeat' split
    all_goals simp
  have hlt := Z.line_text hv (lst or) (lst ow)
  have hlead : Z.lead (⟨lst aN, (T : Int), aK, aZ, lst aG, lst aX⟩ : Z.Rec) (lst or) (lst ow) = lst ⟨#[]⟩ := by
    unfold Z.lead
    rw [if_pos heq]; rfl
  rw [hlead] at hlt
  dsimp only at hlt
  have hnn : (aN.toList == ow.toList) = true := by rw [eq_toList]; simpa using heq
  have a1 := add_run ⟨#[]⟩ ⟨#[32]⟩ (by decide)
  have a2 := add_run (⟨#[]⟩ ++ ⟨#[32]⟩) (numS T) (by simp only [ByteArray.size_append, z_one]; show 0 + 1 + _ ≤ _; omega)
  have a3 := add_run (⟨#[]⟩ ++ ⟨#[32]⟩ ++ numS T) ⟨#[32]⟩ (by simp only [ByteArray.size_append, z_one]; show 0 + 1 + _ + 1 ≤ _; omega)
  have a4 := add_run (⟨#[]⟩ ++ ⟨#[32]⟩ ++ numS T ++ ⟨#[32]⟩) kS (by simp only [ByteArray.size_append, z_one]; show 0 + 1 + _ + 1 + _ ≤ _; omega)
  have a5 := add_run (⟨#[]⟩ ++ ⟨#[32]⟩ ++ numS T ++ ⟨#[32]⟩ ++ kS) ⟨#[32]⟩ (by simp only [ByteArray.size_append, z_one]; show 0 + 1 + _ + 1 + _ + 1 ≤ _; omega)
  obtain ⟨Q, hQ⟩ : ∃ Q, ⟨#[]⟩ ++ ⟨#[32]⟩ ++ numS T ++ ⟨#[32]⟩ ++ kS ++ ⟨#[32]⟩ = Q := ⟨_, rfl⟩
  have hQl : lst Q = lst ⟨#[]⟩ ++ 32 :: (Lib.itoa T ++ 32 :: (Z.kindName aK ++ [32])) := by
    rw [← hQ]
    simp only [lst_append, numS_lst, ← hkS, lst_bs]
    simp [lst]
  have hQs : Q.size ≤ 200 := by rw [← hQ]; simp only [ByteArray.size_append, z_one]; show 0 + 1 + _ + 1 + _ + 1 ≤ _; omega
  rw [hQ] at a5
  have HV := hid hv
  have HVN := hid hvn
  have HVO := hid hvo
  have HN := hid hnS
  have HK := hid hkS
  have HG := hid hgS
  have hvg : Z.valid (lst aG) = true := by
    rcases htarget with ⟨h9 | h9, _⟩ | ⟨_, h9, _⟩
    · exact absurd h9 k1
    · exact absurd h9 k16
    · exact h9
  have s5 : gS.size ≤ 60 := by rw [← hgS, bs_size]; exact Z.short_len hvg hvo
  have HVG := hid hvg
  have hlen := hid (reads_len hra)
  have hl7 : aL ≤ 7 := by have := hlen.out; omega
  have hz : Hid (∀ z ∈ aZ, 0 ≤ z ∧ z ≤ 4294967295) := hid hrange
  have a6 := add_run Q gS (by omega)
  obtain ⟨Q2, hQ2⟩ : ∃ Q2, Q ++ gS = Q2 := ⟨_, rfl⟩
  rw [hQ2] at a6
  have hQ2s : Q2.size ≤ 67108864 := by rw [← hQ2, ByteArray.size_append]; omega
  have hfin : Hid (∀ o : ByteArray, NumsOut Q2 aZ aL o → o = bs (Z.lineText (⟨lst aN, (T : Int), aK, aZ, lst aG, lst aX⟩ : Z.Rec) (lst or) (lst ow))) := hid (fun o h => by
    apply lst_inj
    unfold NumsOut at h
    rw [lst_bs, hlt, h, List.take_of_length_le (by rw [hlen.out]; exact Nat.le_refl _), ← hQ2]
    simp only [lst_append, hQl, ← hgS, lst_bs]
    unfold Z.shortT
    rw [if_neg (Z.valid_ne hvg)]
    simp [Z.dataText, k1, k16, k15])
  have b1 : (aK == 1) = false := by simpa using k1
  have b2 : (aK == 16) = false := by simpa using k16
  have b3 : (aK == 15) = false := by simpa using k15
  clear hv hvn hvo hnS hkS hgS hlt hlead hQ hQl hT0 hkk hnn9 hrest hrange hcount htarget htl heq hvg k1 k16 k15 hQ2
  obtain ⟨q0, q1, q2, q3, q4, q5⟩ := hx0.cells6
  go_enter Tryz.func75, Tryz.ntmps75
  go_wp2_with fail
  refine (l3Short_eq aN or hsa (by omega) nS HVN HVO HN _).mono ?_
  rintro e w2 ⟨rfl, hb2⟩
  have hx2 := hx0.next hb2
  clear hb2 q0 q1 q2 q3 q4 q5
  obtain ⟨q0, q1, q2, q3, q4, q5⟩ := hx2.cells6
  go_wp2_with fail
  go_region_held3 (fun w' => Held w w' w.heap.size [.string aN, .int .i64 (T : Int), .int .i64 aK, .slice aA aL aC, .string aG, .string aX] ∧ w'.cell? ⟨w.heap.size, 0, none⟩ = some (.string aN) ∧ w'.cell? ⟨w.heap.size, 1, none⟩ = some (.int .i64 (T : Int)) ∧ w'.cell? ⟨w.heap.size, 2, none⟩ = some (.int .i64 aK) ∧ w'.cell? ⟨w.heap.size, 3, none⟩ = some (.slice aA aL aC) ∧ w'.cell? ⟨w.heap.size, 4, none⟩ = some (.string aG) ∧ w'.cell? ⟨w.heap.size, 5, none⟩ = some (.string aX))
    (first
      | (exact ⟨hx2, hx2.cells6⟩)
      | (exact ⟨hx2.drewN 1, (hx2.drewN 1).cells6⟩)
      | (go_split_ands; have hx := Held.next (by assumption) hb9; exact ⟨hx, hx.cells6⟩)
      | go_keep)
    (first
      | (go_at_call 119; refine (l13Dec_num _ (by omega) _).mono ?_; rintro e w9 ⟨rfl, hb9⟩)
      | (go_at_call 92; refine (KindName_eq _ kS HK _).mono ?_; rintro e w9 ⟨rfl, hb9⟩))
  all_goals go_split_ands
  all_goals (have hx3 : Held w w9 w.heap.size [.string aN, .int .i64 (T : Int), .int .i64 aK, .slice aA aL aC, .string aG, .string aX] := by assumption)
  all_goals go_wp2_with fail
  all_goals refine (l3Short_eq aG or hga (by omega) gS HVG HVO HG _).mono ?_
  all_goals rintro e w10 ⟨rfl, hb10⟩
  all_goals (have hx4 := hx3.next hb10)
  all_goals clear hx3 hb10 q0 q1 q2 q3 q4 q5
  all_goals obtain ⟨q0, q1, q2, q3, q4, q5⟩ := hx4.cells6
  all_goals go_wp2_with fail
  all_goals go_loopw [7, 8] (fun v i wr => ∃ (k : Nat) (o : ByteArray), k ≤ aL ∧ i = .int .i64 k ∧ v = .string o ∧ o.size ≤ 67108864 + 20 * k ∧ Hid (NumsOut Q2 aZ k o) ∧ Held w wr w.heap.size [.string aN, .int .i64 (T : Int), .int .i64 aK, .slice aA aL aC, .string aG, .string aX]) (fun _ i _ => aL - (intOf i).toNat)
  case atStart => exact ⟨0, Q2, Nat.zero_le _, rfl, rfl, by omega, hid (numsOut_start Q2 aZ), hx4⟩
  case round =>
    obtain ⟨k, o, hk, rfl, rfl, hos, hd, hh⟩ := hrel
    obtain ⟨q0, q1, q2, q3, q4, q5⟩ := hh.cells6
    by_cases hlt : k < aL
    · obtain ⟨ad, rfl, hab, hcell⟩ := reads_int (hra.held hba hh) hlt
      have hkl : k < aZ.length := by rw [hlen.out]; exact hlt
      have hzk := hz.out (aZ.getD k 0) (by simp [hkl])
      obtain ⟨M, hM⟩ := Int.eq_ofNat_of_zero_le hzk.1
      have HS := hid (numsOut_succ hd.out hkl hM)
      rw [hM] at hcell hzk
      have hMb : M ≤ 4294967295 := by omega
      have sM := numS_size M (by omega)
      have hos2 : (o ++ ⟨#[32]⟩ ++ numS M).size ≤ 67108864 + 20 * (k + 1) := by simp only [ByteArray.size_append, z_one]; omega
      have b1 := add_run o ⟨#[32]⟩ (by rw [z_one]; omega)
      have b2 := add_run (o ++ ⟨#[32]⟩) (numS M) (by simp only [ByteArray.size_append, z_one]; omega)
      have HO := hid hos2
      clear hos2 sM hM hzk hkl
      go_wp2_with (go_at_call 119; refine (l13Dec_num M (by omega) _).mono ?_; rintro e w9 ⟨rfl, hb9⟩)
      go_roundw
      case rel => exact ⟨k + 1, _, by omega, by go_num, rfl, HO.out, HS, hh.next hb9⟩
      case measure => simp [intOf]; omega
    · have hks : k = aL := by omega
      subst hks
      have HF := hid (hfin.out o hd.out)
      go_wp2
      all_goals go_ret
      all_goals exact ⟨ret_str HF.out, hh.1⟩

set_option maxHeartbeats 8000000 in
theorem l3Line_1_other (aN : ByteArray) (aT aK : Int) (aA : Option Addr) (aL aC : Nat) (aG aX : ByteArray) (aZ : List Int) (aB : Nat) (or ow : ByteArray) (w : World) (hra : Reads w aB aA aL (aZ.map iv)) (hba : aB ≤ w.heap.size) (hla : aL ≤ 67108864) (hsa : aN.size ≤ 67108864) (hga : aG.size ≤ 67108864) (hxa : aX.size ≤ 67108864) (hv : Z.recValid (⟨lst aN, aT, aK, aZ, lst aG, lst aX⟩ : Z.Rec) = true) (hvo : Z.valid (lst or) = true) (how : ow.size ≤ 67108864) (heq : lst aN ≠ lst ow) (hk : aK = 1) :
    Calls Tryz.prog 75 #[.agg #[.string aN, .int .i64 aT, .int .i64 aK, .slice aA aL aC, .string aG, .string aX], .string or, .string ow] w fun e w' => e = .returned (.string (bs (Z.lineText (⟨lst aN, aT, aK, aZ, lst aG, lst aX⟩ : Z.Rec) (lst or) (lst ow)))) ∧ Below w.heap.size w w' := by
  have hx0 := Held.box w [.string aN, .int .i64 aT, .int .i64 aK, .slice aA aL aC, .string aG, .string aX] 25
  obtain ⟨hvn, hT0, hT1, hkk, hnn9, hrest⟩ := Z.recValid_iff.1 hv
  have hsz := Z.valid_sizes hv
  have hrange := Z.okNums_range hnn9 (Z.lims_le _)
  have hcount := Z.okNums_length hnn9
  have htarget := Z.okRest_target hrest
  have htl := Z.shortT_len hrest hvo
  dsimp only at hvn hT0 hT1 hkk hnn9 hrest hsz hrange hcount htarget htl
  obtain ⟨T, hT⟩ := Int.eq_ofNat_of_zero_le hT0
  subst hT
  have hors : or.size ≤ 60 := by have := (Z.valid_len hvo).2; rwa [lst_length] at this
  obtain ⟨nS, hnS⟩ : ∃ s, bs (Z.short (lst aN) (lst or)) = s := ⟨_, rfl⟩
  obtain ⟨kS, hkS⟩ : ∃ s, bs (Z.kindName aK) = s := ⟨_, rfl⟩
  obtain ⟨gS, hgS⟩ : ∃ s, bs (Z.short (lst aG) (lst or)) = s := ⟨_, rfl⟩
  have s1 : nS.size ≤ 60 := by rw [← hnS, bs_size]; exact Z.short_len hvn hvo
  have s2 := numS_size T (by omega)
  have s3 : kS.size ≤ 10 := by
    rw [← hkS, bs_size]
    unfold Z.kindName
    repeat' split
    all_goals simp
  have hlt := Z.line_text hv (lst or) (lst ow)
  have hlead : Z.lead (⟨lst aN, (T : Int), aK, aZ, lst aG, lst aX⟩ : Z.Rec) (lst or) (lst ow) = lst nS := by
    unfold Z.lead
    rw [if_neg heq, ← hnS, lst_bs]
  rw [hlead] at hlt
  dsimp only at hlt
  have hnn : (aN.toList == ow.toList) = false := by rw [eq_toList]; simpa using heq
  have a1 := add_run nS ⟨#[32]⟩ (by rw [z_one]; omega)
  have a2 := add_run (nS ++ ⟨#[32]⟩) (numS T) (by simp only [ByteArray.size_append, z_one]; omega)
  have a3 := add_run (nS ++ ⟨#[32]⟩ ++ numS T) ⟨#[32]⟩ (by simp only [ByteArray.size_append, z_one]; omega)
  have a4 := add_run (nS ++ ⟨#[32]⟩ ++ numS T ++ ⟨#[32]⟩) kS (by simp only [ByteArray.size_append, z_one]; omega)
  have a5 := add_run (nS ++ ⟨#[32]⟩ ++ numS T ++ ⟨#[32]⟩ ++ kS) ⟨#[32]⟩ (by simp only [ByteArray.size_append, z_one]; omega)
  obtain ⟨Q, hQ⟩ : ∃ Q, nS ++ ⟨#[32]⟩ ++ numS T ++ ⟨#[32]⟩ ++ kS ++ ⟨#[32]⟩ = Q := ⟨_, rfl⟩
  have hQl : lst Q = lst nS ++ 32 :: (Lib.itoa T ++ 32 :: (Z.kindName aK ++ [32])) := by
    rw [← hQ]
    simp only [lst_append, numS_lst, ← hkS, lst_bs]
    simp [lst]
  have hQs : Q.size ≤ 200 := by rw [← hQ]; simp only [ByteArray.size_append, z_one]; omega
  rw [hQ] at a5
  have HV := hid hv
  have HVN := hid hvn
  have HVO := hid hvo
  have HN := hid hnS
  have HK := hid hkS
  have HG := hid hgS
  subst hk
  obtain ⟨dS, hdS⟩ : ∃ s, bs (Z.dataText 1 aZ (lst aG) (lst aX)) = s := ⟨_, rfl⟩
  have s4 : dS.size ≤ 200 := by rw [← hdS, bs_size]; exact data_len hv
  have HD := hid hdS
  have a6 := add_run Q dS (by omega)
  have hfin : Hid (Q ++ dS = bs (Z.lineText (⟨lst aN, (T : Int), 1, aZ, lst aG, lst aX⟩ : Z.Rec) (lst or) (lst ow))) := hid (by
    apply lst_inj
    rcases htarget with ⟨_, hg0⟩ | ⟨h9, _⟩
    · rw [lst_bs, hlt, lst_append, hQl, ← hdS, lst_bs, Z.shortT, if_pos hg0, hg0]
      simp
    · exact absurd (by first | exact Or.inl rfl | exact Or.inr rfl) h9)
  clear hv hvn hvo hnS hkS hgS hlt hlead hQ hQl hT0 hkk hnn9 hrest hrange hcount htarget htl heq hdS
  obtain ⟨q0, q1, q2, q3, q4, q5⟩ := hx0.cells6
  go_enter Tryz.func75, Tryz.ntmps75
  go_wp2_with fail
  refine (l3Short_eq aN or hsa (by omega) nS HVN HVO HN _).mono ?_
  rintro e w2 ⟨rfl, hb2⟩
  have hx2 := hx0.next hb2
  clear hb2 q0 q1 q2 q3 q4 q5
  obtain ⟨q0, q1, q2, q3, q4, q5⟩ := hx2.cells6
  go_wp2_with fail
  go_region_held3 (fun w' => Held w w' w.heap.size [.string aN, .int .i64 (T : Int), .int .i64 1, .slice aA aL aC, .string aG, .string aX] ∧ w'.cell? ⟨w.heap.size, 0, none⟩ = some (.string aN) ∧ w'.cell? ⟨w.heap.size, 1, none⟩ = some (.int .i64 (T : Int)) ∧ w'.cell? ⟨w.heap.size, 2, none⟩ = some (.int .i64 1) ∧ w'.cell? ⟨w.heap.size, 3, none⟩ = some (.slice aA aL aC) ∧ w'.cell? ⟨w.heap.size, 4, none⟩ = some (.string aG) ∧ w'.cell? ⟨w.heap.size, 5, none⟩ = some (.string aX))
    (first
      | (exact ⟨hx2, hx2.cells6⟩)
      | (exact ⟨hx2.drewN 1, (hx2.drewN 1).cells6⟩)
      | (go_split_ands; have hx := Held.next (by assumption) hb9; exact ⟨hx, hx.cells6⟩)
      | go_keep)
    (first
      | (go_at_call 119; refine (l13Dec_num _ (by omega) _).mono ?_; rintro e w9 ⟨rfl, hb9⟩)
      | (go_at_call 92; refine (KindName_eq _ kS HK _).mono ?_; rintro e w9 ⟨rfl, hb9⟩))
  all_goals go_split_ands
  all_goals (have hx3 : Held w w9 w.heap.size [.string aN, .int .i64 (T : Int), .int .i64 1, .slice aA aL aC, .string aG, .string aX] := by assumption)
  all_goals go_wp2_with fail
  all_goals refine (l2Data_eq aN (T : Int) 1 aA aL aC aG aX aZ aB w9 (hra.held hba hx3) (hx3.up hba) hla hsa hga hxa HV dS HD).mono ?_
  all_goals rintro e w10 ⟨rfl, hb10⟩
  all_goals go_wp2
  all_goals go_ret
  all_goals exact ⟨ret_str hfin.out, (hx3.next hb10).1⟩

set_option maxHeartbeats 8000000 in
theorem l3Line_16_other (aN : ByteArray) (aT aK : Int) (aA : Option Addr) (aL aC : Nat) (aG aX : ByteArray) (aZ : List Int) (aB : Nat) (or ow : ByteArray) (w : World) (hra : Reads w aB aA aL (aZ.map iv)) (hba : aB ≤ w.heap.size) (hla : aL ≤ 67108864) (hsa : aN.size ≤ 67108864) (hga : aG.size ≤ 67108864) (hxa : aX.size ≤ 67108864) (hv : Z.recValid (⟨lst aN, aT, aK, aZ, lst aG, lst aX⟩ : Z.Rec) = true) (hvo : Z.valid (lst or) = true) (how : ow.size ≤ 67108864) (heq : lst aN ≠ lst ow) (hk : aK = 16) :
    Calls Tryz.prog 75 #[.agg #[.string aN, .int .i64 aT, .int .i64 aK, .slice aA aL aC, .string aG, .string aX], .string or, .string ow] w fun e w' => e = .returned (.string (bs (Z.lineText (⟨lst aN, aT, aK, aZ, lst aG, lst aX⟩ : Z.Rec) (lst or) (lst ow)))) ∧ Below w.heap.size w w' := by
  have hx0 := Held.box w [.string aN, .int .i64 aT, .int .i64 aK, .slice aA aL aC, .string aG, .string aX] 25
  obtain ⟨hvn, hT0, hT1, hkk, hnn9, hrest⟩ := Z.recValid_iff.1 hv
  have hsz := Z.valid_sizes hv
  have hrange := Z.okNums_range hnn9 (Z.lims_le _)
  have hcount := Z.okNums_length hnn9
  have htarget := Z.okRest_target hrest
  have htl := Z.shortT_len hrest hvo
  dsimp only at hvn hT0 hT1 hkk hnn9 hrest hsz hrange hcount htarget htl
  obtain ⟨T, hT⟩ := Int.eq_ofNat_of_zero_le hT0
  subst hT
  have hors : or.size ≤ 60 := by have := (Z.valid_len hvo).2; rwa [lst_length] at this
  obtain ⟨nS, hnS⟩ : ∃ s, bs (Z.short (lst aN) (lst or)) = s := ⟨_, rfl⟩
  obtain ⟨kS, hkS⟩ : ∃ s, bs (Z.kindName aK) = s := ⟨_, rfl⟩
  obtain ⟨gS, hgS⟩ : ∃ s, bs (Z.short (lst aG) (lst or)) = s := ⟨_, rfl⟩
  have s1 : nS.size ≤ 60 := by rw [← hnS, bs_size]; exact Z.short_len hvn hvo
  have s2 := numS_size T (by omega)
  have s3 : kS.size ≤ 10 := by
    rw [← hkS, bs_size]
    unfold Z.kindName
    repeat' split
    all_goals simp
  have hlt := Z.line_text hv (lst or) (lst ow)
  have hlead : Z.lead (⟨lst aN, (T : Int), aK, aZ, lst aG, lst aX⟩ : Z.Rec) (lst or) (lst ow) = lst nS := by
    unfold Z.lead
    rw [if_neg heq, ← hnS, lst_bs]
  rw [hlead] at hlt
  dsimp only at hlt
  have hnn : (aN.toList == ow.toList) = false := by rw [eq_toList]; simpa using heq
  have a1 := add_run nS ⟨#[32]⟩ (by rw [z_one]; omega)
  have a2 := add_run (nS ++ ⟨#[32]⟩) (numS T) (by simp only [ByteArray.size_append, z_one]; omega)
  have a3 := add_run (nS ++ ⟨#[32]⟩ ++ numS T) ⟨#[32]⟩ (by simp only [ByteArray.size_append, z_one]; omega)
  have a4 := add_run (nS ++ ⟨#[32]⟩ ++ numS T ++ ⟨#[32]⟩) kS (by simp only [ByteArray.size_append, z_one]; omega)
  have a5 := add_run (nS ++ ⟨#[32]⟩ ++ numS T ++ ⟨#[32]⟩ ++ kS) ⟨#[32]⟩ (by simp only [ByteArray.size_append, z_one]; omega)
  obtain ⟨Q, hQ⟩ : ∃ Q, nS ++ ⟨#[32]⟩ ++ numS T ++ ⟨#[32]⟩ ++ kS ++ ⟨#[32]⟩ = Q := ⟨_, rfl⟩
  have hQl : lst Q = lst nS ++ 32 :: (Lib.itoa T ++ 32 :: (Z.kindName aK ++ [32])) := by
    rw [← hQ]
    simp only [lst_append, numS_lst, ← hkS, lst_bs]
    simp [lst]
  have hQs : Q.size ≤ 200 := by rw [← hQ]; simp only [ByteArray.size_append, z_one]; omega
  rw [hQ] at a5
  have HV := hid hv
  have HVN := hid hvn
  have HVO := hid hvo
  have HN := hid hnS
  have HK := hid hkS
  have HG := hid hgS
  subst hk
  obtain ⟨dS, hdS⟩ : ∃ s, bs (Z.dataText 16 aZ (lst aG) (lst aX)) = s := ⟨_, rfl⟩
  have s4 : dS.size ≤ 200 := by rw [← hdS, bs_size]; exact data_len hv
  have HD := hid hdS
  have a6 := add_run Q dS (by omega)
  have hfin : Hid (Q ++ dS = bs (Z.lineText (⟨lst aN, (T : Int), 16, aZ, lst aG, lst aX⟩ : Z.Rec) (lst or) (lst ow))) := hid (by
    apply lst_inj
    rcases htarget with ⟨_, hg0⟩ | ⟨h9, _⟩
    · rw [lst_bs, hlt, lst_append, hQl, ← hdS, lst_bs, Z.shortT, if_pos hg0, hg0]
      simp
    · exact absurd (by first | exact Or.inl rfl | exact Or.inr rfl) h9)
  clear hv hvn hvo hnS hkS hgS hlt hlead hQ hQl hT0 hkk hnn9 hrest hrange hcount htarget htl heq hdS
  obtain ⟨q0, q1, q2, q3, q4, q5⟩ := hx0.cells6
  go_enter Tryz.func75, Tryz.ntmps75
  go_wp2_with fail
  refine (l3Short_eq aN or hsa (by omega) nS HVN HVO HN _).mono ?_
  rintro e w2 ⟨rfl, hb2⟩
  have hx2 := hx0.next hb2
  clear hb2 q0 q1 q2 q3 q4 q5
  obtain ⟨q0, q1, q2, q3, q4, q5⟩ := hx2.cells6
  go_wp2_with fail
  go_region_held3 (fun w' => Held w w' w.heap.size [.string aN, .int .i64 (T : Int), .int .i64 16, .slice aA aL aC, .string aG, .string aX] ∧ w'.cell? ⟨w.heap.size, 0, none⟩ = some (.string aN) ∧ w'.cell? ⟨w.heap.size, 1, none⟩ = some (.int .i64 (T : Int)) ∧ w'.cell? ⟨w.heap.size, 2, none⟩ = some (.int .i64 16) ∧ w'.cell? ⟨w.heap.size, 3, none⟩ = some (.slice aA aL aC) ∧ w'.cell? ⟨w.heap.size, 4, none⟩ = some (.string aG) ∧ w'.cell? ⟨w.heap.size, 5, none⟩ = some (.string aX))
    (first
      | (exact ⟨hx2, hx2.cells6⟩)
      | (exact ⟨hx2.drewN 1, (hx2.drewN 1).cells6⟩)
      | (go_split_ands; have hx := Held.next (by assumption) hb9; exact ⟨hx, hx.cells6⟩)
      | go_keep)
    (first
      | (go_at_call 119; refine (l13Dec_num _ (by omega) _).mono ?_; rintro e w9 ⟨rfl, hb9⟩)
      | (go_at_call 92; refine (KindName_eq _ kS HK _).mono ?_; rintro e w9 ⟨rfl, hb9⟩))
  all_goals go_split_ands
  all_goals (have hx3 : Held w w9 w.heap.size [.string aN, .int .i64 (T : Int), .int .i64 16, .slice aA aL aC, .string aG, .string aX] := by assumption)
  all_goals go_wp2_with fail
  all_goals refine (l2Data_eq aN (T : Int) 16 aA aL aC aG aX aZ aB w9 (hra.held hba hx3) (hx3.up hba) hla hsa hga hxa HV dS HD).mono ?_
  all_goals rintro e w10 ⟨rfl, hb10⟩
  all_goals go_wp2
  all_goals go_ret
  all_goals exact ⟨ret_str hfin.out, (hx3.next hb10).1⟩

set_option maxHeartbeats 8000000 in
theorem l3Line_mx_other (aN : ByteArray) (aT aK : Int) (aA : Option Addr) (aL aC : Nat) (aG aX : ByteArray) (aZ : List Int) (aB : Nat) (or ow : ByteArray) (w : World) (hra : Reads w aB aA aL (aZ.map iv)) (hba : aB ≤ w.heap.size) (hla : aL ≤ 67108864) (hsa : aN.size ≤ 67108864) (hga : aG.size ≤ 67108864) (hxa : aX.size ≤ 67108864) (hv : Z.recValid (⟨lst aN, aT, aK, aZ, lst aG, lst aX⟩ : Z.Rec) = true) (hvo : Z.valid (lst or) = true) (how : ow.size ≤ 67108864) (heq : lst aN ≠ lst ow) (hk : aK = 15) :
    Calls Tryz.prog 75 #[.agg #[.string aN, .int .i64 aT, .int .i64 aK, .slice aA aL aC, .string aG, .string aX], .string or, .string ow] w fun e w' => e = .returned (.string (bs (Z.lineText (⟨lst aN, aT, aK, aZ, lst aG, lst aX⟩ : Z.Rec) (lst or) (lst ow)))) ∧ Below w.heap.size w w' := by
  have hx0 := Held.box w [.string aN, .int .i64 aT, .int .i64 aK, .slice aA aL aC, .string aG, .string aX] 25
  obtain ⟨hvn, hT0, hT1, hkk, hnn9, hrest⟩ := Z.recValid_iff.1 hv
  have hsz := Z.valid_sizes hv
  have hrange := Z.okNums_range hnn9 (Z.lims_le _)
  have hcount := Z.okNums_length hnn9
  have htarget := Z.okRest_target hrest
  have htl := Z.shortT_len hrest hvo
  dsimp only at hvn hT0 hT1 hkk hnn9 hrest hsz hrange hcount htarget htl
  obtain ⟨T, hT⟩ := Int.eq_ofNat_of_zero_le hT0
  subst hT
  have hors : or.size ≤ 60 := by have := (Z.valid_len hvo).2; rwa [lst_length] at this
  obtain ⟨nS, hnS⟩ : ∃ s, bs (Z.short (lst aN) (lst or)) = s := ⟨_, rfl⟩
  obtain ⟨kS, hkS⟩ : ∃ s, bs (Z.kindName aK) = s := ⟨_, rfl⟩
  obtain ⟨gS, hgS⟩ : ∃ s, bs (Z.short (lst aG) (lst or)) = s := ⟨_, rfl⟩
  have s1 : nS.size ≤ 60 := by rw [← hnS, bs_size]; exact Z.short_len hvn hvo
  have s2 := numS_size T (by omega)
  have s3 : kS.size ≤ 10 := by
    rw [← hkS, bs_size]
    unfold Z.kindName
    repeat' split
    all_goals simp
  have hlt := Z.line_text hv (lst or) (lst ow)
  have hlead : Z.lead (⟨lst aN, (T : Int), aK, aZ, lst aG, lst aX⟩ : Z.Rec) (lst or) (lst ow) = lst nS := by
    unfold Z.lead
    rw [if_neg heq, ← hnS, lst_bs]
  rw [hlead] at hlt
  dsimp only at hlt
  have hnn : (aN.toList == ow.toList) = false := by rw [eq_toList]; simpa using heq
  have a1 := add_run nS ⟨#[32]⟩ (by rw [z_one]; omega)
  have a2 := add_run (nS ++ ⟨#[32]⟩) (numS T) (by simp only [ByteArray.size_append, z_one]; omega)
  have a3 := add_run (nS ++ ⟨#[32]⟩ ++ numS T) ⟨#[32]⟩ (by simp only [ByteArray.size_append, z_one]; omega)
  have a4 := add_run (nS ++ ⟨#[32]⟩ ++ numS T ++ ⟨#[32]⟩) kS (by simp only [ByteArray.size_append, z_one]; omega)
  have a5 := add_run (nS ++ ⟨#[32]⟩ ++ numS T ++ ⟨#[32]⟩ ++ kS) ⟨#[32]⟩ (by simp only [ByteArray.size_append, z_one]; omega)
  obtain ⟨Q, hQ⟩ : ∃ Q, nS ++ ⟨#[32]⟩ ++ numS T ++ ⟨#[32]⟩ ++ kS ++ ⟨#[32]⟩ = Q := ⟨_, rfl⟩
  have hQl : lst Q = lst nS ++ 32 :: (Lib.itoa T ++ 32 :: (Z.kindName aK ++ [32])) := by
    rw [← hQ]
    simp only [lst_append, numS_lst, ← hkS, lst_bs]
    simp [lst]
  have hQs : Q.size ≤ 200 := by rw [← hQ]; simp only [ByteArray.size_append, z_one]; omega
  rw [hQ] at a5
  have HV := hid hv
  have HVN := hid hvn
  have HVO := hid hvo
  have HN := hid hnS
  have HK := hid hkS
  have HG := hid hgS
  subst hk
  have hvg : Z.valid (lst aG) = true := by
    rcases htarget with ⟨h9 | h9, _⟩ | ⟨_, h9, _⟩
    · exact absurd h9 (by decide)
    · exact absurd h9 (by decide)
    · exact h9
  have s5 : gS.size ≤ 60 := by rw [← hgS, bs_size]; exact Z.short_len hvg hvo
  obtain ⟨n0, rfl⟩ : ∃ n0, aZ = [n0] := List.length_eq_one_iff.1 (by rw [hcount]; decide)
  obtain ⟨m0, rfl⟩ := Int.eq_ofNat_of_zero_le (hrange n0 (by simp)).1
  have hm0 := (hrange m0 (by simp)).2
  obtain rfl : aL = 1 := by have := reads_len hra; simpa using this.symm
  obtain ⟨ad, rfl, hab, c0⟩ := reads_int hra (k := 0) (by omega)
  have s6 := numS_size m0 (by omega)
  have HVG := hid hvg
  have a6 := add_run Q (numS m0) (by omega)
  have a7 := add_run (Q ++ numS m0) ⟨#[32]⟩ (by simp only [ByteArray.size_append, z_one]; omega)
  have a8 := add_run (Q ++ numS m0 ++ ⟨#[32]⟩) gS (by simp only [ByteArray.size_append, z_one]; omega)
  have hfin : Hid (Q ++ numS m0 ++ ⟨#[32]⟩ ++ gS = bs (Z.lineText (⟨lst aN, T, 15, [(m0 : Int)], lst aG, lst aX⟩ : Z.Rec) (lst or) (lst ow))) := hid (by
    apply lst_inj
    rw [lst_bs, hlt]
    simp only [lst_append, hQl, numS_lst, ← hgS, lst_bs]
    unfold Z.shortT
    rw [if_neg (Z.valid_ne hvg)]
    simp [Z.dataText, lst])
  have hd0 : ∀ W b cs, Held w W b cs → W.cell? ad = some (.int .i64 m0) := fun W b cs h => (h.1.cell (p := ad) (by omega)).trans c0
  have HDC := hid hd0
  clear hd0 c0
  clear hv hvn hvo hnS hkS hgS hlt hlead hQ hQl hT0 hkk hnn9 hrest hrange hcount htarget htl heq hvg
  obtain ⟨q0, q1, q2, q3, q4, q5⟩ := hx0.cells6
  go_enter Tryz.func75, Tryz.ntmps75
  go_wp2_with fail
  refine (l3Short_eq aN or hsa (by omega) nS HVN HVO HN _).mono ?_
  rintro e w2 ⟨rfl, hb2⟩
  have hx2 := hx0.next hb2
  clear hb2 q0 q1 q2 q3 q4 q5
  obtain ⟨q0, q1, q2, q3, q4, q5⟩ := hx2.cells6
  go_wp2_with fail
  go_region_held3 (fun w' => Held w w' w.heap.size [.string aN, .int .i64 (T : Int), .int .i64 15, .slice (some ad) 1 aC, .string aG, .string aX] ∧ w'.cell? ⟨w.heap.size, 0, none⟩ = some (.string aN) ∧ w'.cell? ⟨w.heap.size, 1, none⟩ = some (.int .i64 (T : Int)) ∧ w'.cell? ⟨w.heap.size, 2, none⟩ = some (.int .i64 15) ∧ w'.cell? ⟨w.heap.size, 3, none⟩ = some (.slice (some ad) 1 aC) ∧ w'.cell? ⟨w.heap.size, 4, none⟩ = some (.string aG) ∧ w'.cell? ⟨w.heap.size, 5, none⟩ = some (.string aX))
    (first
      | (exact ⟨hx2, hx2.cells6⟩)
      | (exact ⟨hx2.drewN 1, (hx2.drewN 1).cells6⟩)
      | (go_split_ands; have hx := Held.next (by assumption) hb9; exact ⟨hx, hx.cells6⟩)
      | go_keep)
    (first
      | (go_at_call 119; refine (l13Dec_num _ (by omega) _).mono ?_; rintro e w9 ⟨rfl, hb9⟩)
      | (go_at_call 92; refine (KindName_eq _ kS HK _).mono ?_; rintro e w9 ⟨rfl, hb9⟩))
  all_goals go_split_ands
  all_goals (have hx3 : Held w w9 w.heap.size [.string aN, .int .i64 (T : Int), .int .i64 15, .slice (some ad) 1 aC, .string aG, .string aX] := by assumption)
  all_goals (have hdc := HDC.out _ _ _ hx3)
  all_goals obtain ⟨q0, q1, q2, q3, q4, q5⟩ := hx3.cells6
  all_goals go_wp2_with fail
  all_goals go_region_held3 (fun w' => Held w w' w.heap.size [.string aN, .int .i64 (T : Int), .int .i64 15, .slice (some ad) 1 aC, .string aG, .string aX] ∧ w'.cell? ⟨w.heap.size, 3, none⟩ = some (.slice (some ad) 1 aC) ∧ w'.cell? ⟨w.heap.size, 4, none⟩ = some (.string aG) ∧ w'.cell? ad = some (.int .i64 m0))
    (first
      | (exact ⟨hx3, q3, q4, hdc⟩)
      | (exact ⟨hx3.drewN 1, (hx3.drewN 1).cells6.2.2.2.1, (hx3.drewN 1).cells6.2.2.2.2.1, HDC.out _ _ _ (hx3.drewN 1)⟩)
      | (go_split_ands; have hx := Held.next (by assumption) hb9; exact ⟨hx, hx.cells6.2.2.2.1, hx.cells6.2.2.2.2.1, HDC.out _ _ _ hx⟩)
      | go_keep)
    (first
      | (go_at_call 119; refine (l13Dec_num _ (by omega) _).mono ?_; rintro e w9 ⟨rfl, hb9⟩)
      | (go_at_call 118; refine (l3Short_eq aG or hga (by omega) gS HVG HVO HG _).mono ?_; rintro e w9 ⟨rfl, hb9⟩))
  all_goals go_split_ands
  all_goals go_wp2
  all_goals go_ret
  all_goals exact ⟨ret_str hfin.out, And.left (show Held w _ w.heap.size _ from by assumption)⟩

set_option maxHeartbeats 8000000 in
theorem l3Line_else_other (aN : ByteArray) (aT aK : Int) (aA : Option Addr) (aL aC : Nat) (aG aX : ByteArray) (aZ : List Int) (aB : Nat) (or ow : ByteArray) (w : World) (hra : Reads w aB aA aL (aZ.map iv)) (hba : aB ≤ w.heap.size) (hla : aL ≤ 67108864) (hsa : aN.size ≤ 67108864) (hga : aG.size ≤ 67108864) (hxa : aX.size ≤ 67108864) (hv : Z.recValid (⟨lst aN, aT, aK, aZ, lst aG, lst aX⟩ : Z.Rec) = true) (hvo : Z.valid (lst or) = true) (how : ow.size ≤ 67108864) (heq : lst aN ≠ lst ow) (k1 : ¬ aK = 1) (k16 : ¬ aK = 16) (k15 : ¬ aK = 15) :
    Calls Tryz.prog 75 #[.agg #[.string aN, .int .i64 aT, .int .i64 aK, .slice aA aL aC, .string aG, .string aX], .string or, .string ow] w fun e w' => e = .returned (.string (bs (Z.lineText (⟨lst aN, aT, aK, aZ, lst aG, lst aX⟩ : Z.Rec) (lst or) (lst ow)))) ∧ Below w.heap.size w w' := by
  have hx0 := Held.box w [.string aN, .int .i64 aT, .int .i64 aK, .slice aA aL aC, .string aG, .string aX] 25
  obtain ⟨hvn, hT0, hT1, hkk, hnn9, hrest⟩ := Z.recValid_iff.1 hv
  have hsz := Z.valid_sizes hv
  have hrange := Z.okNums_range hnn9 (Z.lims_le _)
  have hcount := Z.okNums_length hnn9
  have htarget := Z.okRest_target hrest
  have htl := Z.shortT_len hrest hvo
  dsimp only at hvn hT0 hT1 hkk hnn9 hrest hsz hrange hcount htarget htl
  obtain ⟨T, hT⟩ := Int.eq_ofNat_of_zero_le hT0
  subst hT
  have hors : or.size ≤ 60 := by have := (Z.valid_len hvo).2; rwa [lst_length] at this
  obtain ⟨nS, hnS⟩ : ∃ s, bs (Z.short (lst aN) (lst or)) = s := ⟨_, rfl⟩
  obtain ⟨kS, hkS⟩ : ∃ s, bs (Z.kindName aK) = s := ⟨_, rfl⟩
  obtain ⟨gS, hgS⟩ : ∃ s, bs (Z.short (lst aG) (lst or)) = s := ⟨_, rfl⟩
  have s1 : nS.size ≤ 60 := by rw [← hnS, bs_size]; exact Z.short_len hvn hvo
  have s2 := numS_size T (by omega)
  have s3 : kS.size ≤ 10 := by
    rw [← hkS, bs_size]
    unfold Z.kindName
    repeat' split
    all_goals simp
  have hlt := Z.line_text hv (lst or) (lst ow)
  have hlead : Z.lead (⟨lst aN, (T : Int), aK, aZ, lst aG, lst aX⟩ : Z.Rec) (lst or) (lst ow) = lst nS := by
    unfold Z.lead
    rw [if_neg heq, ← hnS, lst_bs]
  rw [hlead] at hlt
  dsimp only at hlt
  have hnn : (aN.toList == ow.toList) = false := by rw [eq_toList]; simpa using heq
  have a1 := add_run nS ⟨#[32]⟩ (by rw [z_one]; omega)
  have a2 := add_run (nS ++ ⟨#[32]⟩) (numS T) (by simp only [ByteArray.size_append, z_one]; omega)
  have a3 := add_run (nS ++ ⟨#[32]⟩ ++ numS T) ⟨#[32]⟩ (by simp only [ByteArray.size_append, z_one]; omega)
  have a4 := add_run (nS ++ ⟨#[32]⟩ ++ numS T ++ ⟨#[32]⟩) kS (by simp only [ByteArray.size_append, z_one]; omega)
  have a5 := add_run (nS ++ ⟨#[32]⟩ ++ numS T ++ ⟨#[32]⟩ ++ kS) ⟨#[32]⟩ (by simp only [ByteArray.size_append, z_one]; omega)
  obtain ⟨Q, hQ⟩ : ∃ Q, nS ++ ⟨#[32]⟩ ++ numS T ++ ⟨#[32]⟩ ++ kS ++ ⟨#[32]⟩ = Q := ⟨_, rfl⟩
  have hQl : lst Q = lst nS ++ 32 :: (Lib.itoa T ++ 32 :: (Z.kindName aK ++ [32])) := by
    rw [← hQ]
    simp only [lst_append, numS_lst, ← hkS, lst_bs]
    simp [lst]
  have hQs : Q.size ≤ 200 := by rw [← hQ]; simp only [ByteArray.size_append, z_one]; omega
  rw [hQ] at a5
  have HV := hid hv
  have HVN := hid hvn
  have HVO := hid hvo
  have HN := hid hnS
  have HK := hid hkS
  have HG := hid hgS
  have hvg : Z.valid (lst aG) = true := by
    rcases htarget with ⟨h9 | h9, _⟩ | ⟨_, h9, _⟩
    · exact absurd h9 k1
    · exact absurd h9 k16
    · exact h9
  have s5 : gS.size ≤ 60 := by rw [← hgS, bs_size]; exact Z.short_len hvg hvo
  have HVG := hid hvg
  have hlen := hid (reads_len hra)
  have hl7 : aL ≤ 7 := by have := hlen.out; omega
  have hz : Hid (∀ z ∈ aZ, 0 ≤ z ∧ z ≤ 4294967295) := hid hrange
  have a6 := add_run Q gS (by omega)
  obtain ⟨Q2, hQ2⟩ : ∃ Q2, Q ++ gS = Q2 := ⟨_, rfl⟩
  rw [hQ2] at a6
  have hQ2s : Q2.size ≤ 67108864 := by rw [← hQ2, ByteArray.size_append]; omega
  have hfin : Hid (∀ o : ByteArray, NumsOut Q2 aZ aL o → o = bs (Z.lineText (⟨lst aN, (T : Int), aK, aZ, lst aG, lst aX⟩ : Z.Rec) (lst or) (lst ow))) := hid (fun o h => by
    apply lst_inj
    unfold NumsOut at h
    rw [lst_bs, hlt, h, List.take_of_length_le (by rw [hlen.out]; exact Nat.le_refl _), ← hQ2]
    simp only [lst_append, hQl, ← hgS, lst_bs]
    unfold Z.shortT
    rw [if_neg (Z.valid_ne hvg)]
    simp [Z.dataText, k1, k16, k15])
  have b1 : (aK == 1) = false := by simpa using k1
  have b2 : (aK == 16) = false := by simpa using k16
  have b3 : (aK == 15) = false := by simpa using k15
  clear hv hvn hvo hnS hkS hgS hlt hlead hQ hQl hT0 hkk hnn9 hrest hrange hcount htarget htl heq hvg k1 k16 k15 hQ2
  obtain ⟨q0, q1, q2, q3, q4, q5⟩ := hx0.cells6
  go_enter Tryz.func75, Tryz.ntmps75
  go_wp2_with fail
  refine (l3Short_eq aN or hsa (by omega) nS HVN HVO HN _).mono ?_
  rintro e w2 ⟨rfl, hb2⟩
  have hx2 := hx0.next hb2
  clear hb2 q0 q1 q2 q3 q4 q5
  obtain ⟨q0, q1, q2, q3, q4, q5⟩ := hx2.cells6
  go_wp2_with fail
  go_region_held3 (fun w' => Held w w' w.heap.size [.string aN, .int .i64 (T : Int), .int .i64 aK, .slice aA aL aC, .string aG, .string aX] ∧ w'.cell? ⟨w.heap.size, 0, none⟩ = some (.string aN) ∧ w'.cell? ⟨w.heap.size, 1, none⟩ = some (.int .i64 (T : Int)) ∧ w'.cell? ⟨w.heap.size, 2, none⟩ = some (.int .i64 aK) ∧ w'.cell? ⟨w.heap.size, 3, none⟩ = some (.slice aA aL aC) ∧ w'.cell? ⟨w.heap.size, 4, none⟩ = some (.string aG) ∧ w'.cell? ⟨w.heap.size, 5, none⟩ = some (.string aX))
    (first
      | (exact ⟨hx2, hx2.cells6⟩)
      | (exact ⟨hx2.drewN 1, (hx2.drewN 1).cells6⟩)
      | (go_split_ands; have hx := Held.next (by assumption) hb9; exact ⟨hx, hx.cells6⟩)
      | go_keep)
    (first
      | (go_at_call 119; refine (l13Dec_num _ (by omega) _).mono ?_; rintro e w9 ⟨rfl, hb9⟩)
      | (go_at_call 92; refine (KindName_eq _ kS HK _).mono ?_; rintro e w9 ⟨rfl, hb9⟩))
  all_goals go_split_ands
  all_goals (have hx3 : Held w w9 w.heap.size [.string aN, .int .i64 (T : Int), .int .i64 aK, .slice aA aL aC, .string aG, .string aX] := by assumption)
  all_goals go_wp2_with fail
  all_goals refine (l3Short_eq aG or hga (by omega) gS HVG HVO HG _).mono ?_
  all_goals rintro e w10 ⟨rfl, hb10⟩
  all_goals (have hx4 := hx3.next hb10)
  all_goals clear hx3 hb10 q0 q1 q2 q3 q4 q5
  all_goals obtain ⟨q0, q1, q2, q3, q4, q5⟩ := hx4.cells6
  all_goals go_wp2_with fail
  all_goals go_loopw [7, 8] (fun v i wr => ∃ (k : Nat) (o : ByteArray), k ≤ aL ∧ i = .int .i64 k ∧ v = .string o ∧ o.size ≤ 67108864 + 20 * k ∧ Hid (NumsOut Q2 aZ k o) ∧ Held w wr w.heap.size [.string aN, .int .i64 (T : Int), .int .i64 aK, .slice aA aL aC, .string aG, .string aX]) (fun _ i _ => aL - (intOf i).toNat)
  case atStart => exact ⟨0, Q2, Nat.zero_le _, rfl, rfl, by omega, hid (numsOut_start Q2 aZ), hx4⟩
  case round =>
    obtain ⟨k, o, hk, rfl, rfl, hos, hd, hh⟩ := hrel
    obtain ⟨q0, q1, q2, q3, q4, q5⟩ := hh.cells6
    by_cases hlt : k < aL
    · obtain ⟨ad, rfl, hab, hcell⟩ := reads_int (hra.held hba hh) hlt
      have hkl : k < aZ.length := by rw [hlen.out]; exact hlt
      have hzk := hz.out (aZ.getD k 0) (by simp [hkl])
      obtain ⟨M, hM⟩ := Int.eq_ofNat_of_zero_le hzk.1
      have HS := hid (numsOut_succ hd.out hkl hM)
      rw [hM] at hcell hzk
      have hMb : M ≤ 4294967295 := by omega
      have sM := numS_size M (by omega)
      have hos2 : (o ++ ⟨#[32]⟩ ++ numS M).size ≤ 67108864 + 20 * (k + 1) := by simp only [ByteArray.size_append, z_one]; omega
      have b1 := add_run o ⟨#[32]⟩ (by rw [z_one]; omega)
      have b2 := add_run (o ++ ⟨#[32]⟩) (numS M) (by simp only [ByteArray.size_append, z_one]; omega)
      have HO := hid hos2
      clear hos2 sM hM hzk hkl
      go_wp2_with (go_at_call 119; refine (l13Dec_num M (by omega) _).mono ?_; rintro e w9 ⟨rfl, hb9⟩)
      go_roundw
      case rel => exact ⟨k + 1, _, by omega, by go_num, rfl, HO.out, HS, hh.next hb9⟩
      case measure => simp [intOf]; omega
    · have hks : k = aL := by omega
      subst hks
      have HF := hid (hfin.out o hd.out)
      go_wp2
      all_goals go_ret
      all_goals exact ⟨ret_str HF.out, hh.1⟩

theorem l3Line_any (aN : ByteArray) (aT aK : Int) (aA : Option Addr) (aL aC : Nat) (aG aX : ByteArray) (aZ : List Int) (aB : Nat) (or ow : ByteArray) (w : World) (hra : Reads w aB aA aL (aZ.map iv)) (hba : aB ≤ w.heap.size) (hla : aL ≤ 67108864) (hsa : aN.size ≤ 67108864) (hga : aG.size ≤ 67108864) (hxa : aX.size ≤ 67108864) (hv : Z.recValid (⟨lst aN, aT, aK, aZ, lst aG, lst aX⟩ : Z.Rec) = true) (hvo : Z.valid (lst or) = true) (how : ow.size ≤ 67108864) :
    Calls Tryz.prog 75 #[.agg #[.string aN, .int .i64 aT, .int .i64 aK, .slice aA aL aC, .string aG, .string aX], .string or, .string ow] w fun e w' => e = .returned (.string (bs (Z.lineText (⟨lst aN, aT, aK, aZ, lst aG, lst aX⟩ : Z.Rec) (lst or) (lst ow)))) ∧ Below w.heap.size w w' := by
  by_cases heq : lst aN = lst ow
  · by_cases k1 : aK = 1
    · exact l3Line_1_same aN aT aK aA aL aC aG aX aZ aB or ow w hra hba hla hsa hga hxa hv hvo how heq k1
    · by_cases k16 : aK = 16
      · exact l3Line_16_same aN aT aK aA aL aC aG aX aZ aB or ow w hra hba hla hsa hga hxa hv hvo how heq k16
      · by_cases k15 : aK = 15
        · exact l3Line_mx_same aN aT aK aA aL aC aG aX aZ aB or ow w hra hba hla hsa hga hxa hv hvo how heq k15
        · exact l3Line_else_same aN aT aK aA aL aC aG aX aZ aB or ow w hra hba hla hsa hga hxa hv hvo how heq k1 k16 k15
  · by_cases k1 : aK = 1
    · exact l3Line_1_other aN aT aK aA aL aC aG aX aZ aB or ow w hra hba hla hsa hga hxa hv hvo how heq k1
    · by_cases k16 : aK = 16
      · exact l3Line_16_other aN aT aK aA aL aC aG aX aZ aB or ow w hra hba hla hsa hga hxa hv hvo how heq k16
      · by_cases k15 : aK = 15
        · exact l3Line_mx_other aN aT aK aA aL aC aG aX aZ aB or ow w hra hba hla hsa hga hxa hv hvo how heq k15
        · exact l3Line_else_other aN aT aK aA aL aC aG aX aZ aB or ow w hra hba hla hsa hga hxa hv hvo how heq k1 k16 k15
theorem l3Line_eq (aN : ByteArray) (aT aK : Int) (aA : Option Addr) (aL aC : Nat) (aG aX : ByteArray) (aZ : List Int) (aB : Nat) (or ow : ByteArray) (w : World) (hra : Reads w aB aA aL (aZ.map iv)) (hba : aB ≤ w.heap.size) (hla : aL ≤ 67108864) (hsa : aN.size ≤ 67108864) (hga : aG.size ≤ 67108864) (hxa : aX.size ≤ 67108864) (hv : Hid (Z.recValid (⟨lst aN, aT, aK, aZ, lst aG, lst aX⟩ : Z.Rec) = true)) (hvo : Hid (Z.valid (lst or) = true)) (how : ow.size ≤ 67108864) (D : ByteArray) (hD : Hid (bs (Z.lineText (⟨lst aN, aT, aK, aZ, lst aG, lst aX⟩ : Z.Rec) (lst or) (lst ow)) = D)) :
    Calls Tryz.prog 75 #[.agg #[.string aN, .int .i64 aT, .int .i64 aK, .slice aA aL aC, .string aG, .string aX], .string or, .string ow] w fun e w' => e = .returned (.string D) ∧ Below w.heap.size w w' := by
  have h := l3Line_any aN aT aK aA aL aC aG aX aZ aB or ow w hra hba hla hsa hga hxa hv.out hvo.out how
  rw [hD.out] at h
  exact h
theorem wNameValid_v (s : ByteArray) (hs : s.size ≤ 67108864) (v : Bool) (hv : Hid (Z.valid (lst s) = v)) (w : World) :
    Calls Tryz.prog 50 #[.string s] w fun e w' => e = .returned (.bool v) ∧ Below w.heap.size w w' := by
  have h := NameValid_any s (by unfold maxLen; omega) w
  rw [hv.out] at h
  exact h
theorem wEmpty {x : ByteArray} {b : Bool} (h : decide (lst x = []) = b) : x.toList.isEmpty = b := by
  rw [toList_lst, ← h]
  cases lst x <;> rfl
/-- What the writer of a line leaves. -/
theorem writeLine_is {r : Z.Rec} {o ow : Z.Str} {v1 v2 oe v3 : Bool} (h1 : Z.recValid r = v1) (h2 : Z.valid o = v2) (h3 : decide (ow = []) = oe) (h4 : Z.valid ow = v3) : Z.writeLine r o ow = if v1 && v2 && (oe || v3) then some (Z.lineText r o ow) else none := by
  unfold Z.writeLine
  rw [h1, h2, h3, h4]

set_option maxHeartbeats 4000000 in
theorem WriteLine_any (aN : ByteArray) (aT aK : Int) (aA : Option Addr) (aL aC : Nat) (aG aX : ByteArray) (aZ : List Int) (aB : Nat) (or ow : ByteArray) (w : World) (hra : Reads w aB aA aL (aZ.map iv)) (hba : aB ≤ w.heap.size) (hla : aL ≤ 67108864) (hsa : aN.size ≤ 67108864) (hga : aG.size ≤ 67108864) (hxa : aX.size ≤ 67108864) (hors : or.size ≤ 67108864) (how : ow.size ≤ 67108864) :
    Calls Tryz.prog 42 #[.agg #[.string aN, .int .i64 aT, .int .i64 aK, .slice aA aL aC, .string aG, .string aX], .string or, .string ow] w fun e w' => e = .returned (rOpt (Z.writeLine (⟨lst aN, aT, aK, aZ, lst aG, lst aX⟩ : Z.Rec) (lst or) (lst ow))) ∧ Below w.heap.size w w' := by
  have hx0 := Held.box w [.string aN, .int .i64 aT, .int .i64 aK, .slice aA aL aC, .string aG, .string aX] 25
  obtain ⟨v1, h1⟩ : ∃ v, Z.recValid (⟨lst aN, aT, aK, aZ, lst aG, lst aX⟩ : Z.Rec) = v := ⟨_, rfl⟩
  obtain ⟨v2, h2⟩ : ∃ v, Z.valid (lst or) = v := ⟨_, rfl⟩
  obtain ⟨oe, h3⟩ : ∃ v, decide (lst ow = []) = v := ⟨_, rfl⟩
  obtain ⟨v3, h4⟩ : ∃ v, Z.valid (lst ow) = v := ⟨_, rfl⟩
  obtain ⟨D, hD⟩ : ∃ D, bs (Z.lineText (⟨lst aN, aT, aK, aZ, lst aG, lst aX⟩ : Z.Rec) (lst or) (lst ow)) = D := ⟨_, rfl⟩
  have HO := hid (writeLine_is h1 h2 h3 h4)
  have hoe := wEmpty h3
  have H1 := hid h1
  have H2 := hid h2
  have H4 := hid h4
  have HD := hid hD
  clear h1 h2 h3 h4 hD
  obtain ⟨q0, q1, q2, q3, q4, q5⟩ := hx0.cells6
  go_enter Tryz.func42, Tryz.ntmps42
  go_wp2_with fail
  refine (RecordValid_eq aN aT aK aA aL aC aG aX aZ aB _ (hra.held hba hx0) (hx0.up hba) hla hsa hga hxa v1 H1).mono ?_
  rintro e w2 ⟨rfl, hb2⟩
  have hx2 := hx0.next hb2
  clear hb2 hx0 q0 q1 q2 q3 q4 q5
  obtain ⟨q0, q1, q2, q3, q4, q5⟩ := hx2.cells6
  cases v1 with
  | false =>
    go_wp2
    all_goals go_ret2
    all_goals exact ⟨rOpt_none HO.out, hx2.1⟩
  | true =>
    go_wp2_with fail
    refine (wNameValid_v or hors v2 H2 _).mono ?_
    rintro e w3 ⟨rfl, hb3⟩
    have hx3 := hx2.next hb3
    clear hb3 hx2 q0 q1 q2 q3 q4 q5
    obtain ⟨q0, q1, q2, q3, q4, q5⟩ := hx3.cells6
    cases v2 with
    | false =>
      go_wp2
      all_goals go_ret2
      all_goals exact ⟨rOpt_none HO.out, hx3.1⟩
    | true =>
      cases oe with
      | true =>
        have hfin : Hid (Z.writeLine (⟨lst aN, aT, aK, aZ, lst aG, lst aX⟩ : Z.Rec) (lst or) (lst ow) = some (lst D)) := hid (by rw [HO.out, ← HD.out, lst_bs]; rfl)
        go_wp2_with fail
        refine (l3Line_eq aN aT aK aA aL aC aG aX aZ aB or ow _ (hra.held hba hx3) (hx3.up hba) hla hsa hga hxa H1 H2 how D HD).mono ?_
        rintro e w4 ⟨rfl, hb4⟩
        go_wp2
        all_goals go_ret2
        all_goals exact ⟨rOpt_some hfin.out, (hx3.next hb4).1⟩
      | false =>
        go_wp2_with fail
        refine (wNameValid_v ow how v3 H4 _).mono ?_
        rintro e w4 ⟨rfl, hb4⟩
        have hx4 := hx3.next hb4
        clear hb4 hx3 q0 q1 q2 q3 q4 q5
        obtain ⟨q0, q1, q2, q3, q4, q5⟩ := hx4.cells6
        cases v3 with
        | false =>
          go_wp2
          all_goals go_ret2
          all_goals exact ⟨rOpt_none HO.out, hx4.1⟩
        | true =>
          have hfin : Hid (Z.writeLine (⟨lst aN, aT, aK, aZ, lst aG, lst aX⟩ : Z.Rec) (lst or) (lst ow) = some (lst D)) := hid (by rw [HO.out, ← HD.out, lst_bs]; rfl)
          go_wp2_with fail
          refine (l3Line_eq aN aT aK aA aL aC aG aX aZ aB or ow _ (hra.held hba hx4) (hx4.up hba) hla hsa hga hxa H1 H2 how D HD).mono ?_
          rintro e w5 ⟨rfl, hb5⟩
          go_wp2
          all_goals go_ret2
          all_goals exact ⟨rOpt_some hfin.out, (hx4.next hb5).1⟩
end Go.Proofs.YtpgeeeamcncpkaaGreatDoor

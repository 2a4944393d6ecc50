/- What FormatRecord of the program returns. -/
import Derived.Test.YtlknpipbjdecpaaGreatDoorTx
import Derived.Test.YtlknpipbjdecpaaGreatDoorIg
namespace Go.Proofs.YtlknpipbjdecpaaGreatDoor
open Go.RowKit
set_option maxRecDepth 100000
set_option linter.unusedVariables false

theorem own_new (w : World) (xs : List Value) (t : TypeId) (hn : xs.length ≤ maxLen) : (w.alloc (.cells xs.toArray t)).ownsRow w.heap.size t 1 (.slice (some ⟨w.heap.size, 0, none⟩) xs.length xs.length) xs.length xs :=
  ⟨by simp, .inr ⟨w.heap.size, xs.length, xs.toArray, rfl, Nat.le_refl _, heap_alloc_new w _, Nat.le_refl _, hn, by simp, by simp⟩⟩
theorem held6_alloc {w W : World} {b : Nat} {c0 c1 c2 c3 c4 c5 : Value} (h : Held w W b [c0, c1, c2, c3, c4, c5]) (o : Obj) :
    Held w (W.alloc o) b [c0, c1, c2, c3, c4, c5] ∧ (W.alloc o).cell? ⟨b, 0, none⟩ = some c0 ∧ (W.alloc o).cell? ⟨b, 1, none⟩ = some c1 ∧ (W.alloc o).cell? ⟨b, 2, none⟩ = some c2 ∧ (W.alloc o).cell? ⟨b, 3, none⟩ = some c3 ∧ (W.alloc o).cell? ⟨b, 4, none⟩ = some c4 ∧ (W.alloc o).cell? ⟨b, 5, none⟩ = some c5 :=
  ⟨h.alloc o, (h.alloc o).cells6⟩
theorem KT.held {w W : World} {b : Nat} {cs : List Value} (h : KT w) (hh : Held w W b cs) : KT W := h.below hh.1
theorem iKindName_eq (x : Int) (s : ByteArray) (hs : Hid (bs (Z.kindName x) = s)) (w : World) (hk : KT w) :
    Calls Tryz.prog 35 #[.int .i64 x] w fun e w' => e = .returned (.string s) ∧ Below w.heap.size w w' := by
  have h := iKindName_any x w hk
  rw [hs.out] at h
  exact h
theorem validData_eq (aN : ByteArray) (aT aK : Int) (aA : Option Addr) (aL aC : Nat) (aG aX : ByteArray) (aZ : List Int) (aB : Nat) (w : World) (hra : Reads w aB aA aL (aZ.map iv)) (hba : aB ≤ w.heap.size) (hla : aL ≤ 67108864) (hsa : aN.size ≤ 67108864) (hga : aG.size ≤ 67108864) (hxa : aX.size ≤ 67108864) (ok : Bool) (hok : Hid (Z.recValid (⟨lst aN, aT, aK, aZ, lst aG, lst aX⟩ : Z.Rec) = ok)) (D : Value) (hD : Hid (dataV aK aZ aG aX = D)) :
    Calls Tryz.prog 33 #[.agg #[.string aN, .int .i64 aT, .int .i64 aK, .slice aA aL aC, .string aG, .string aX]] w fun e w' => e = .returned (dataOr ok D) ∧ Below w.heap.size w w' := by
  have h := validData_any aN aT aK aA aL aC aG aX aZ aB w hra hba hla hsa hga hxa
  rw [hok.out, hD.out] at h
  exact h
/-- The four parts of a record's text, put together. -/
theorem parts_text {N T K D : Z.Str} : Lib.join [N, T, K, D] [32] = N ++ 32 :: (T ++ 32 :: (K ++ 32 :: D)) := by
  rw [join_between]
  simp [Z.between]

set_option maxHeartbeats 1000000 in
theorem iFormat_bad (aN : ByteArray) (aT aK : Int) (aA : Option Addr) (aL aC : Nat) (aG aX : ByteArray) (aZ : List Int) (aB : Nat) (w : World) (hra : Reads w aB aA aL (aZ.map iv)) (hba : aB ≤ w.heap.size) (hla : aL ≤ 67108864) (hsa : aN.size ≤ 67108864) (hga : aG.size ≤ 67108864) (hxa : aX.size ≤ 67108864) (hv : Z.recValid (⟨lst aN, aT, aK, aZ, lst aG, lst aX⟩ : Z.Rec) = false) :
    Calls Tryz.prog 9 #[.agg #[.string aN, .int .i64 aT, .int .i64 aK, .slice aA aL aC, .string aG, .string aX]] w fun e w' => e = .returned (.string (bs (Z.format (⟨lst aN, aT, aK, aZ, lst aG, lst aX⟩ : Z.Rec)))) ∧ Below w.heap.size w w' := by
  have hx0 := Held.box w [.string aN, .int .i64 aT, .int .i64 aK, .slice aA aL aC, .string aG, .string aX] 25
  have hfin : Hid (⟨#[]⟩ = bs (Z.format (⟨lst aN, aT, aK, aZ, lst aG, lst aX⟩ : Z.Rec))) := hid (by unfold Z.format; rw [hv]; rfl)
  have HV := hid hv
  have HD := hid (show dataV aK aZ aG aX = dataV aK aZ aG aX from rfl)
  clear hv
  obtain ⟨D, hD⟩ : ∃ D, dataV aK aZ aG aX = D := ⟨_, rfl⟩
  have HD2 := hid hD
  clear HD hD
  obtain ⟨q0, q1, q2, q3, q4, q5⟩ := hx0.cells6
  go_enter Tryz.func9, Tryz.ntmps9
  go_wp2_with fail
  refine (validData_eq _ _ _ _ _ _ _ _ aZ aB _ (hra.held hba hx0) (hx0.up hba) hla hsa hga hxa false HV D HD2).mono ?_
  rintro e w2 ⟨rfl, hb2⟩
  rw [dataOr_false]
  go_wp2
  go_ret
  exact ⟨ret_str hfin.out, (hx0.next hb2).1⟩

set_option maxHeartbeats 8000000 in
theorem iFormat_A (aN : ByteArray) (aT : Int) (aA : Option Addr) (aL aC : Nat) (aG aX : ByteArray) (n0 n1 n2 n3 : Int) (aB : Nat) (w : World) (hra : Reads w aB aA aL ([n0, n1, n2, n3].map iv)) (hba : aB ≤ w.heap.size) (hla : aL ≤ 67108864) (hsa : aN.size ≤ 67108864) (hga : aG.size ≤ 67108864) (hxa : aX.size ≤ 67108864) (hk : KT w) (ht : PT w)
    (hv : Z.recValid (⟨lst aN, aT, 1, [n0, n1, n2, n3], lst aG, lst aX⟩ : Z.Rec) = true) (hD : dataV 1 [n0, n1, n2, n3] aG aX = .iface 154 (.agg #[.int .i64 n0, .int .i64 n1, .int .i64 n2, .int .i64 n3])) :
    Calls Tryz.prog 9 #[.agg #[.string aN, .int .i64 aT, .int .i64 1, .slice aA aL aC, .string aG, .string aX]] w fun e w' => e = .returned (.string (bs (Z.format (⟨lst aN, aT, 1, [n0, n1, n2, n3], lst aG, lst aX⟩ : Z.Rec)))) ∧ Below w.heap.size w w' := by
  have hx0 := Held.box w [.string aN, .int .i64 aT, .int .i64 1, .slice aA aL aC, .string aG, .string aX] 25
  obtain ⟨_, hT0, hT1, _, hn, _⟩ := Z.recValid_iff.1 hv
  dsimp only at hT0 hT1 hn
  have HZ : Hid (∀ z ∈ ([n0, n1, n2, n3] : List Int), 0 ≤ z ∧ z ≤ 4294967295) := hid (Z.okNums_range hn (Z.lims_le _))
  obtain ⟨tS, htS⟩ : ∃ s, bs (Lib.itoa aT) = s := ⟨_, rfl⟩
  obtain ⟨kS, hkS⟩ : ∃ s, bs (Z.kindName 1) = s := ⟨_, rfl⟩
  obtain ⟨dS, hdS⟩ : ∃ s, bs (Z.dataText 1 [n0, n1, n2, n3] (lst aG) (lst aX)) = s := ⟨_, rfl⟩
  have hdl := data_len hv
  have hnl := (Z.valid_sizes hv).1
  have htl := itoa_len (n := aT) hT0 (by omega)
  dsimp only at hdl hnl
  have hkl : (Z.kindName 1).length ≤ 5 := by
    unfold Z.kindName
    repeat' split
    all_goals simp
  have e1 : lst tS = Lib.itoa aT := by rw [← htS, lst_bs]
  have e2 : lst kS = Z.kindName 1 := by rw [← hkS, lst_bs]
  have e3 : lst dS = Z.dataText 1 [n0, n1, n2, n3] (lst aG) (lst aX) := by rw [← hdS, lst_bs]
  have hfin : Hid (bs (Lib.join [lst aN, lst tS, lst kS, lst dS] (lst ⟨#[32]⟩)) = bs (Z.format (⟨lst aN, aT, 1, [n0, n1, n2, n3], lst aG, lst aX⟩ : Z.Rec))) := hid (by
    rw [show lst ⟨#[32]⟩ = [32] from rfl, parts_text, e1, e2, e3]
    unfold Z.format
    rw [if_pos hv])
  have hjl : (Lib.join [lst aN, lst tS, lst kS, lst dS] (lst ⟨#[32]⟩)).length ≤ 67108864 := by
    rw [show lst ⟨#[32]⟩ = [32] from rfl, parts_text, e1, e2, e3]
    simp only [List.length_append, List.length_cons]
    omega
  have HJ := hid hjl
  have HV := hid hv
  have HD := hid hD
  have HT := hid htS
  have HK := hid hkS
  have HS := hid hdS
  clear hv hD htS hkS hdS e1 e2 e3 hjl hdl hnl htl hkl hn
  obtain ⟨q0, q1, q2, q3, q4, q5⟩ := hx0.cells6
  go_enter Tryz.func9, Tryz.ntmps9
  go_wp2_with fail
  refine (validData_eq aN aT 1 aA aL aC aG aX [n0, n1, n2, n3] aB _ (hra.held hba hx0) (hx0.up hba) hla hsa hga hxa true HV _ HD).mono ?_
  rintro e w2 ⟨rfl, hb2⟩
  rw [dataOr_true]
  have hx2 := hx0.next hb2
  clear hb2 q0 q1 q2 q3 q4 q5
  obtain ⟨q0, q1, q2, q3, q4, q5⟩ := hx2.cells6
  go_wp2_with fail
  go_region_held3 (fun w' => Held w w' w.heap.size [.string aN, .int .i64 aT, .int .i64 1, .slice aA aL aC, .string aG, .string aX] ∧ w'.cell? ⟨w.heap.size, 0, none⟩ = some (.string aN) ∧ w'.cell? ⟨w.heap.size, 1, none⟩ = some (.int .i64 aT) ∧ w'.cell? ⟨w.heap.size, 2, none⟩ = some (.int .i64 1) ∧ w'.cell? ⟨w.heap.size, 3, none⟩ = some (.slice aA aL aC) ∧ w'.cell? ⟨w.heap.size, 4, none⟩ = some (.string aG) ∧ w'.cell? ⟨w.heap.size, 5, none⟩ = some (.string aX))
    (first
      | (exact ⟨hx2, hx2.cells6⟩)
      | (exact ⟨hx2.drewN 1, (hx2.drewN 1).cells6⟩)
      | (go_split_ands; have hx := Held.next (by assumption) hb9; exact ⟨hx, hx.cells6⟩)
      | (go_split_ands; exact held6_alloc (by assumption) _)
      | go_keep)
    (first
      | (go_at_call 34; go_split_ands; refine (Itoa_eq aT hT0 (by omega) tS HT _ (PT.held ht (by assumption))).mono ?_; rintro e w9 ⟨rfl, hb9⟩)
      | (go_at_call 35; go_split_ands; refine (iKindName_eq _ kS HK _ (KT.held hk (by assumption))).mono ?_; rintro e w9 ⟨rfl, hb9⟩)
      | (go_at_call 191; go_split_ands; refine (aText_any n0 n1 n2 n3 _ (PT.held ht (by assumption)) HZ (lst aG) (lst aX)).mono ?_; rintro e w9 ⟨he9, hb9⟩; rw [HS.out] at he9; subst he9))
  all_goals go_split_ands
  have hh9 : Held w (w9.alloc (.cells #[.string aN, .string tS, .string kS, .string dS] 9)) w.heap.size [.string aN, .int .i64 aT, .int .i64 1, .slice aA aL aC, .string aG, .string aX] := by assumption
  have hjn : Calls Tryz.prog 36 #[.slice (some ⟨w9.heap.size, 0, none⟩) 4 4, .string ⟨#[32]⟩] (w9.alloc (.cells #[.string aN, .string tS, .string kS, .string dS] 9)) fun e w' => e = .returned (.string (bs (Z.format (⟨lst aN, aT, 1, [n0, n1, n2, n3], lst aG, lst aX⟩ : Z.Rec)))) ∧ Below (w9.alloc (.cells #[.string aN, .string tS, .string kS, .string dS] 9)).heap.size (w9.alloc (.cells #[.string aN, .string tS, .string kS, .string dS] 9)) w' := by
    have ho := own_new w9 [.string aN, .string tS, .string kS, .string dS] 9 (show 4 ≤ maxLen by decide)
    have h9 := Join_own [lst aN, lst tS, lst kS, lst dS] (some ⟨w9.heap.size, 0, none⟩) 4 ⟨#[32]⟩ w9.heap.size (w9.alloc (.cells #[.string aN, .string tS, .string kS, .string dS] 9)) (by simp only [List.map_cons, List.map_nil, sv_lst]; exact ho) (show 4 ≤ 67108864 by decide) HJ.out
    rw [hfin.out] at h9
    exact h9
  have HJN := hid hjn
  clear hjn hfin HJ HV HD HT HK HS HZ hx2 q0 q1 q2 q3 q4 q5
  go_wp2_with (go_at_call 36; refine HJN.out.mono ?_; rintro e w10 ⟨rfl, hb10⟩)
  go_ret
  exact ⟨rfl, (hh9.next hb10).1⟩

set_option maxHeartbeats 8000000 in
theorem iFormat_S (aN : ByteArray) (aT : Int) (aA : Option Addr) (aL aC : Nat) (aG aX : ByteArray) (n0 n1 n2 n3 n4 : Int) (aB : Nat) (w : World) (hra : Reads w aB aA aL ([n0, n1, n2, n3, n4].map iv)) (hba : aB ≤ w.heap.size) (hla : aL ≤ 67108864) (hsa : aN.size ≤ 67108864) (hga : aG.size ≤ 67108864) (hxa : aX.size ≤ 67108864) (hk : KT w) (ht : PT w)
    (hv : Z.recValid (⟨lst aN, aT, 6, [n0, n1, n2, n3, n4], lst aG, lst aX⟩ : Z.Rec) = true) (hD : dataV 6 [n0, n1, n2, n3, n4] aG aX = .iface 159 (.agg #[.string aG, .int .i64 n0, .int .i64 n1, .int .i64 n2, .int .i64 n3, .int .i64 n4])) :
    Calls Tryz.prog 9 #[.agg #[.string aN, .int .i64 aT, .int .i64 6, .slice aA aL aC, .string aG, .string aX]] w fun e w' => e = .returned (.string (bs (Z.format (⟨lst aN, aT, 6, [n0, n1, n2, n3, n4], lst aG, lst aX⟩ : Z.Rec)))) ∧ Below w.heap.size w w' := by
  have hx0 := Held.box w [.string aN, .int .i64 aT, .int .i64 6, .slice aA aL aC, .string aG, .string aX] 25
  obtain ⟨_, hT0, hT1, _, hn, _⟩ := Z.recValid_iff.1 hv
  dsimp only at hT0 hT1 hn
  have HZ : Hid (∀ z ∈ ([n0, n1, n2, n3, n4] : List Int), 0 ≤ z ∧ z ≤ 4294967295) := hid (Z.okNums_range hn (Z.lims_le _))
  obtain ⟨tS, htS⟩ : ∃ s, bs (Lib.itoa aT) = s := ⟨_, rfl⟩
  obtain ⟨kS, hkS⟩ : ∃ s, bs (Z.kindName 6) = s := ⟨_, rfl⟩
  obtain ⟨dS, hdS⟩ : ∃ s, bs (Z.dataText 6 [n0, n1, n2, n3, n4] (lst aG) (lst aX)) = s := ⟨_, rfl⟩
  have hdl := data_len hv
  have hnl := (Z.valid_sizes hv).1
  have htl := itoa_len (n := aT) hT0 (by omega)
  dsimp only at hdl hnl
  have hkl : (Z.kindName 6).length ≤ 5 := by
    unfold Z.kindName
    repeat' split
    all_goals simp
  have e1 : lst tS = Lib.itoa aT := by rw [← htS, lst_bs]
  have e2 : lst kS = Z.kindName 6 := by rw [← hkS, lst_bs]
  have e3 : lst dS = Z.dataText 6 [n0, n1, n2, n3, n4] (lst aG) (lst aX) := by rw [← hdS, lst_bs]
  have hfin : Hid (bs (Lib.join [lst aN, lst tS, lst kS, lst dS] (lst ⟨#[32]⟩)) = bs (Z.format (⟨lst aN, aT, 6, [n0, n1, n2, n3, n4], lst aG, lst aX⟩ : Z.Rec))) := hid (by
    rw [show lst ⟨#[32]⟩ = [32] from rfl, parts_text, e1, e2, e3]
    unfold Z.format
    rw [if_pos hv])
  have hjl : (Lib.join [lst aN, lst tS, lst kS, lst dS] (lst ⟨#[32]⟩)).length ≤ 67108864 := by
    rw [show lst ⟨#[32]⟩ = [32] from rfl, parts_text, e1, e2, e3]
    simp only [List.length_append, List.length_cons]
    omega
  have HJ := hid hjl
  have HV := hid hv
  have HD := hid hD
  have HT := hid htS
  have HK := hid hkS
  have HS := hid hdS
  clear hv hD htS hkS hdS e1 e2 e3 hjl hdl hnl htl hkl hn
  obtain ⟨q0, q1, q2, q3, q4, q5⟩ := hx0.cells6
  go_enter Tryz.func9, Tryz.ntmps9
  go_wp2_with fail
  refine (validData_eq aN aT 6 aA aL aC aG aX [n0, n1, n2, n3, n4] aB _ (hra.held hba hx0) (hx0.up hba) hla hsa hga hxa true HV _ HD).mono ?_
  rintro e w2 ⟨rfl, hb2⟩
  rw [dataOr_true]
  have hx2 := hx0.next hb2
  clear hb2 q0 q1 q2 q3 q4 q5
  obtain ⟨q0, q1, q2, q3, q4, q5⟩ := hx2.cells6
  go_wp2_with fail
  go_region_held3 (fun w' => Held w w' w.heap.size [.string aN, .int .i64 aT, .int .i64 6, .slice aA aL aC, .string aG, .string aX] ∧ w'.cell? ⟨w.heap.size, 0, none⟩ = some (.string aN) ∧ w'.cell? ⟨w.heap.size, 1, none⟩ = some (.int .i64 aT) ∧ w'.cell? ⟨w.heap.size, 2, none⟩ = some (.int .i64 6) ∧ w'.cell? ⟨w.heap.size, 3, none⟩ = some (.slice aA aL aC) ∧ w'.cell? ⟨w.heap.size, 4, none⟩ = some (.string aG) ∧ w'.cell? ⟨w.heap.size, 5, none⟩ = some (.string aX))
    (first
      | (exact ⟨hx2, hx2.cells6⟩)
      | (exact ⟨hx2.drewN 1, (hx2.drewN 1).cells6⟩)
      | (go_split_ands; have hx := Held.next (by assumption) hb9; exact ⟨hx, hx.cells6⟩)
      | (go_split_ands; exact held6_alloc (by assumption) _)
      | go_keep)
    (first
      | (go_at_call 34; go_split_ands; refine (Itoa_eq aT hT0 (by omega) tS HT _ (PT.held ht (by assumption))).mono ?_; rintro e w9 ⟨rfl, hb9⟩)
      | (go_at_call 35; go_split_ands; refine (iKindName_eq _ kS HK _ (KT.held hk (by assumption))).mono ?_; rintro e w9 ⟨rfl, hb9⟩)
      | (go_at_call 197; go_split_ands; refine (sText_any aG n0 n1 n2 n3 n4 hga _ (PT.held ht (by assumption)) HZ (lst aX)).mono ?_; rintro e w9 ⟨he9, hb9⟩; rw [HS.out] at he9; subst he9))
  all_goals go_split_ands
  have hh9 : Held w (w9.alloc (.cells #[.string aN, .string tS, .string kS, .string dS] 9)) w.heap.size [.string aN, .int .i64 aT, .int .i64 6, .slice aA aL aC, .string aG, .string aX] := by assumption
  have hjn : Calls Tryz.prog 36 #[.slice (some ⟨w9.heap.size, 0, none⟩) 4 4, .string ⟨#[32]⟩] (w9.alloc (.cells #[.string aN, .string tS, .string kS, .string dS] 9)) fun e w' => e = .returned (.string (bs (Z.format (⟨lst aN, aT, 6, [n0, n1, n2, n3, n4], lst aG, lst aX⟩ : Z.Rec)))) ∧ Below (w9.alloc (.cells #[.string aN, .string tS, .string kS, .string dS] 9)).heap.size (w9.alloc (.cells #[.string aN, .string tS, .string kS, .string dS] 9)) w' := by
    have ho := own_new w9 [.string aN, .string tS, .string kS, .string dS] 9 (show 4 ≤ maxLen by decide)
    have h9 := Join_own [lst aN, lst tS, lst kS, lst dS] (some ⟨w9.heap.size, 0, none⟩) 4 ⟨#[32]⟩ w9.heap.size (w9.alloc (.cells #[.string aN, .string tS, .string kS, .string dS] 9)) (by simp only [List.map_cons, List.map_nil, sv_lst]; exact ho) (show 4 ≤ 67108864 by decide) HJ.out
    rw [hfin.out] at h9
    exact h9
  have HJN := hid hjn
  clear hjn hfin HJ HV HD HT HK HS HZ hx2 q0 q1 q2 q3 q4 q5
  go_wp2_with (go_at_call 36; refine HJN.out.mono ?_; rintro e w10 ⟨rfl, hb10⟩)
  go_ret
  exact ⟨rfl, (hh9.next hb10).1⟩

set_option maxHeartbeats 8000000 in
theorem iFormat_M (aN : ByteArray) (aT : Int) (aA : Option Addr) (aL aC : Nat) (aG aX : ByteArray) (n0 : Int) (aB : Nat) (w : World) (hra : Reads w aB aA aL ([n0].map iv)) (hba : aB ≤ w.heap.size) (hla : aL ≤ 67108864) (hsa : aN.size ≤ 67108864) (hga : aG.size ≤ 67108864) (hxa : aX.size ≤ 67108864) (hk : KT w) (ht : PT w)
    (hv : Z.recValid (⟨lst aN, aT, 15, [n0], lst aG, lst aX⟩ : Z.Rec) = true) (hD : dataV 15 [n0] aG aX = .iface 162 (.agg #[.int .i64 n0, .string aG])) :
    Calls Tryz.prog 9 #[.agg #[.string aN, .int .i64 aT, .int .i64 15, .slice aA aL aC, .string aG, .string aX]] w fun e w' => e = .returned (.string (bs (Z.format (⟨lst aN, aT, 15, [n0], lst aG, lst aX⟩ : Z.Rec)))) ∧ Below w.heap.size w w' := by
  have hx0 := Held.box w [.string aN, .int .i64 aT, .int .i64 15, .slice aA aL aC, .string aG, .string aX] 25
  obtain ⟨_, hT0, hT1, _, hn, _⟩ := Z.recValid_iff.1 hv
  dsimp only at hT0 hT1 hn
  have HZ : Hid (∀ z ∈ ([n0] : List Int), 0 ≤ z ∧ z ≤ 4294967295) := hid (Z.okNums_range hn (Z.lims_le _))
  obtain ⟨tS, htS⟩ : ∃ s, bs (Lib.itoa aT) = s := ⟨_, rfl⟩
  obtain ⟨kS, hkS⟩ : ∃ s, bs (Z.kindName 15) = s := ⟨_, rfl⟩
  obtain ⟨dS, hdS⟩ : ∃ s, bs (Z.dataText 15 [n0] (lst aG) (lst aX)) = s := ⟨_, rfl⟩
  have hdl := data_len hv
  have hnl := (Z.valid_sizes hv).1
  have htl := itoa_len (n := aT) hT0 (by omega)
  dsimp only at hdl hnl
  have hkl : (Z.kindName 15).length ≤ 5 := by
    unfold Z.kindName
    repeat' split
    all_goals simp
  have e1 : lst tS = Lib.itoa aT := by rw [← htS, lst_bs]
  have e2 : lst kS = Z.kindName 15 := by rw [← hkS, lst_bs]
  have e3 : lst dS = Z.dataText 15 [n0] (lst aG) (lst aX) := by rw [← hdS, lst_bs]
  have hfin : Hid (bs (Lib.join [lst aN, lst tS, lst kS, lst dS] (lst ⟨#[32]⟩)) = bs (Z.format (⟨lst aN, aT, 15, [n0], lst aG, lst aX⟩ : Z.Rec))) := hid (by
    rw [show lst ⟨#[32]⟩ = [32] from rfl, parts_text, e1, e2, e3]
    unfold Z.format
    rw [if_pos hv])
  have hjl : (Lib.join [lst aN, lst tS, lst kS, lst dS] (lst ⟨#[32]⟩)).length ≤ 67108864 := by
    rw [show lst ⟨#[32]⟩ = [32] from rfl, parts_text, e1, e2, e3]
    simp only [List.length_append, List.length_cons]
    omega
  have HJ := hid hjl
  have HV := hid hv
  have HD := hid hD
  have HT := hid htS
  have HK := hid hkS
  have HS := hid hdS
  clear hv hD htS hkS hdS e1 e2 e3 hjl hdl hnl htl hkl hn
  obtain ⟨q0, q1, q2, q3, q4, q5⟩ := hx0.cells6
  go_enter Tryz.func9, Tryz.ntmps9
  go_wp2_with fail
  refine (validData_eq aN aT 15 aA aL aC aG aX [n0] aB _ (hra.held hba hx0) (hx0.up hba) hla hsa hga hxa true HV _ HD).mono ?_
  rintro e w2 ⟨rfl, hb2⟩
  rw [dataOr_true]
  have hx2 := hx0.next hb2
  clear hb2 q0 q1 q2 q3 q4 q5
  obtain ⟨q0, q1, q2, q3, q4, q5⟩ := hx2.cells6
  go_wp2_with fail
  go_region_held3 (fun w' => Held w w' w.heap.size [.string aN, .int .i64 aT, .int .i64 15, .slice aA aL aC, .string aG, .string aX] ∧ w'.cell? ⟨w.heap.size, 0, none⟩ = some (.string aN) ∧ w'.cell? ⟨w.heap.size, 1, none⟩ = some (.int .i64 aT) ∧ w'.cell? ⟨w.heap.size, 2, none⟩ = some (.int .i64 15) ∧ w'.cell? ⟨w.heap.size, 3, none⟩ = some (.slice aA aL aC) ∧ w'.cell? ⟨w.heap.size, 4, none⟩ = some (.string aG) ∧ w'.cell? ⟨w.heap.size, 5, none⟩ = some (.string aX))
    (first
      | (exact ⟨hx2, hx2.cells6⟩)
      | (exact ⟨hx2.drewN 1, (hx2.drewN 1).cells6⟩)
      | (go_split_ands; have hx := Held.next (by assumption) hb9; exact ⟨hx, hx.cells6⟩)
      | (go_split_ands; exact held6_alloc (by assumption) _)
      | go_keep)
    (first
      | (go_at_call 34; go_split_ands; refine (Itoa_eq aT hT0 (by omega) tS HT _ (PT.held ht (by assumption))).mono ?_; rintro e w9 ⟨rfl, hb9⟩)
      | (go_at_call 35; go_split_ands; refine (iKindName_eq _ kS HK _ (KT.held hk (by assumption))).mono ?_; rintro e w9 ⟨rfl, hb9⟩)
      | (go_at_call 199; go_split_ands; refine (mText_any n0 aG hga _ (PT.held ht (by assumption)) HZ (lst aX)).mono ?_; rintro e w9 ⟨he9, hb9⟩; rw [HS.out] at he9; subst he9))
  all_goals go_split_ands
  have hh9 : Held w (w9.alloc (.cells #[.string aN, .string tS, .string kS, .string dS] 9)) w.heap.size [.string aN, .int .i64 aT, .int .i64 15, .slice aA aL aC, .string aG, .string aX] := by assumption
  have hjn : Calls Tryz.prog 36 #[.slice (some ⟨w9.heap.size, 0, none⟩) 4 4, .string ⟨#[32]⟩] (w9.alloc (.cells #[.string aN, .string tS, .string kS, .string dS] 9)) fun e w' => e = .returned (.string (bs (Z.format (⟨lst aN, aT, 15, [n0], lst aG, lst aX⟩ : Z.Rec)))) ∧ Below (w9.alloc (.cells #[.string aN, .string tS, .string kS, .string dS] 9)).heap.size (w9.alloc (.cells #[.string aN, .string tS, .string kS, .string dS] 9)) w' := by
    have ho := own_new w9 [.string aN, .string tS, .string kS, .string dS] 9 (show 4 ≤ maxLen by decide)
    have h9 := Join_own [lst aN, lst tS, lst kS, lst dS] (some ⟨w9.heap.size, 0, none⟩) 4 ⟨#[32]⟩ w9.heap.size (w9.alloc (.cells #[.string aN, .string tS, .string kS, .string dS] 9)) (by simp only [List.map_cons, List.map_nil, sv_lst]; exact ho) (show 4 ≤ 67108864 by decide) HJ.out
    rw [hfin.out] at h9
    exact h9
  have HJN := hid hjn
  clear hjn hfin HJ HV HD HT HK HS HZ hx2 q0 q1 q2 q3 q4 q5
  go_wp2_with (go_at_call 36; refine HJN.out.mono ?_; rintro e w10 ⟨rfl, hb10⟩)
  go_ret
  exact ⟨rfl, (hh9.next hb10).1⟩

set_option maxHeartbeats 8000000 in
theorem iFormat_X (aN : ByteArray) (aT : Int) (aA : Option Addr) (aL aC : Nat) (aG aX : ByteArray)  (aB : Nat) (w : World) (hra : Reads w aB aA aL ([].map iv)) (hba : aB ≤ w.heap.size) (hla : aL ≤ 67108864) (hsa : aN.size ≤ 67108864) (hga : aG.size ≤ 67108864) (hxa : aX.size ≤ 67108864) (hk : KT w) (ht : PT w)
    (hv : Z.recValid (⟨lst aN, aT, 16, [], lst aG, lst aX⟩ : Z.Rec) = true) (hD : dataV 16 [] aG aX = .iface 164 (.agg #[.string aX])) :
    Calls Tryz.prog 9 #[.agg #[.string aN, .int .i64 aT, .int .i64 16, .slice aA aL aC, .string aG, .string aX]] w fun e w' => e = .returned (.string (bs (Z.format (⟨lst aN, aT, 16, [], lst aG, lst aX⟩ : Z.Rec)))) ∧ Below w.heap.size w w' := by
  have hx0 := Held.box w [.string aN, .int .i64 aT, .int .i64 16, .slice aA aL aC, .string aG, .string aX] 25
  obtain ⟨_, hT0, hT1, _, hn, _⟩ := Z.recValid_iff.1 hv
  dsimp only at hT0 hT1 hn
  have HZ : Hid (∀ z ∈ ([] : List Int), 0 ≤ z ∧ z ≤ 4294967295) := hid (Z.okNums_range hn (Z.lims_le _))
  obtain ⟨tS, htS⟩ : ∃ s, bs (Lib.itoa aT) = s := ⟨_, rfl⟩
  obtain ⟨kS, hkS⟩ : ∃ s, bs (Z.kindName 16) = s := ⟨_, rfl⟩
  obtain ⟨dS, hdS⟩ : ∃ s, bs (Z.dataText 16 [] (lst aG) (lst aX)) = s := ⟨_, rfl⟩
  have hdl := data_len hv
  have hnl := (Z.valid_sizes hv).1
  have htl := itoa_len (n := aT) hT0 (by omega)
  dsimp only at hdl hnl
  have hkl : (Z.kindName 16).length ≤ 5 := by
    unfold Z.kindName
    repeat' split
    all_goals simp
  have e1 : lst tS = Lib.itoa aT := by rw [← htS, lst_bs]
  have e2 : lst kS = Z.kindName 16 := by rw [← hkS, lst_bs]
  have e3 : lst dS = Z.dataText 16 [] (lst aG) (lst aX) := by rw [← hdS, lst_bs]
  have hfin : Hid (bs (Lib.join [lst aN, lst tS, lst kS, lst dS] (lst ⟨#[32]⟩)) = bs (Z.format (⟨lst aN, aT, 16, [], lst aG, lst aX⟩ : Z.Rec))) := hid (by
    rw [show lst ⟨#[32]⟩ = [32] from rfl, parts_text, e1, e2, e3]
    unfold Z.format
    rw [if_pos hv])
  have hjl : (Lib.join [lst aN, lst tS, lst kS, lst dS] (lst ⟨#[32]⟩)).length ≤ 67108864 := by
    rw [show lst ⟨#[32]⟩ = [32] from rfl, parts_text, e1, e2, e3]
    simp only [List.length_append, List.length_cons]
    omega
  have HJ := hid hjl
  have HV := hid hv
  have HD := hid hD
  have HT := hid htS
  have HK := hid hkS
  have HS := hid hdS
  clear hv hD htS hkS hdS e1 e2 e3 hjl hdl hnl htl hkl hn
  obtain ⟨q0, q1, q2, q3, q4, q5⟩ := hx0.cells6
  go_enter Tryz.func9, Tryz.ntmps9
  go_wp2_with fail
  refine (validData_eq aN aT 16 aA aL aC aG aX [] aB _ (hra.held hba hx0) (hx0.up hba) hla hsa hga hxa true HV _ HD).mono ?_
  rintro e w2 ⟨rfl, hb2⟩
  rw [dataOr_true]
  have hx2 := hx0.next hb2
  clear hb2 q0 q1 q2 q3 q4 q5
  obtain ⟨q0, q1, q2, q3, q4, q5⟩ := hx2.cells6
  go_wp2_with fail
  go_region_held3 (fun w' => Held w w' w.heap.size [.string aN, .int .i64 aT, .int .i64 16, .slice aA aL aC, .string aG, .string aX] ∧ w'.cell? ⟨w.heap.size, 0, none⟩ = some (.string aN) ∧ w'.cell? ⟨w.heap.size, 1, none⟩ = some (.int .i64 aT) ∧ w'.cell? ⟨w.heap.size, 2, none⟩ = some (.int .i64 16) ∧ w'.cell? ⟨w.heap.size, 3, none⟩ = some (.slice aA aL aC) ∧ w'.cell? ⟨w.heap.size, 4, none⟩ = some (.string aG) ∧ w'.cell? ⟨w.heap.size, 5, none⟩ = some (.string aX))
    (first
      | (exact ⟨hx2, hx2.cells6⟩)
      | (exact ⟨hx2.drewN 1, (hx2.drewN 1).cells6⟩)
      | (go_split_ands; have hx := Held.next (by assumption) hb9; exact ⟨hx, hx.cells6⟩)
      | (go_split_ands; exact held6_alloc (by assumption) _)
      | go_keep)
    (first
      | (go_at_call 34; go_split_ands; refine (Itoa_eq aT hT0 (by omega) tS HT _ (PT.held ht (by assumption))).mono ?_; rintro e w9 ⟨rfl, hb9⟩)
      | (go_at_call 35; go_split_ands; refine (iKindName_eq _ kS HK _ (KT.held hk (by assumption))).mono ?_; rintro e w9 ⟨rfl, hb9⟩)
      | (go_at_call 201; go_split_ands; refine (xText_any aX hxa _ [] (lst aG)).mono ?_; rintro e w9 ⟨he9, hb9⟩; rw [HS.out] at he9; subst he9))
  all_goals go_split_ands
  have hh9 : Held w (w9.alloc (.cells #[.string aN, .string tS, .string kS, .string dS] 9)) w.heap.size [.string aN, .int .i64 aT, .int .i64 16, .slice aA aL aC, .string aG, .string aX] := by assumption
  have hjn : Calls Tryz.prog 36 #[.slice (some ⟨w9.heap.size, 0, none⟩) 4 4, .string ⟨#[32]⟩] (w9.alloc (.cells #[.string aN, .string tS, .string kS, .string dS] 9)) fun e w' => e = .returned (.string (bs (Z.format (⟨lst aN, aT, 16, [], lst aG, lst aX⟩ : Z.Rec)))) ∧ Below (w9.alloc (.cells #[.string aN, .string tS, .string kS, .string dS] 9)).heap.size (w9.alloc (.cells #[.string aN, .string tS, .string kS, .string dS] 9)) w' := by
    have ho := own_new w9 [.string aN, .string tS, .string kS, .string dS] 9 (show 4 ≤ maxLen by decide)
    have h9 := Join_own [lst aN, lst tS, lst kS, lst dS] (some ⟨w9.heap.size, 0, none⟩) 4 ⟨#[32]⟩ w9.heap.size (w9.alloc (.cells #[.string aN, .string tS, .string kS, .string dS] 9)) (by simp only [List.map_cons, List.map_nil, sv_lst]; exact ho) (show 4 ≤ 67108864 by decide) HJ.out
    rw [hfin.out] at h9
    exact h9
  have HJN := hid hjn
  clear hjn hfin HJ HV HD HT HK HS HZ hx2 q0 q1 q2 q3 q4 q5
  go_wp2_with (go_at_call 36; refine HJN.out.mono ?_; rintro e w10 ⟨rfl, hb10⟩)
  go_ret
  exact ⟨rfl, (hh9.next hb10).1⟩

set_option maxHeartbeats 8000000 in
theorem iFormat_T (aN : ByteArray) (aT aK : Int) (aA : Option Addr) (aL aC : Nat) (aG aX : ByteArray) (hkk : aK = 2 ∨ aK = 5 ∨ aK = 12) (aB : Nat) (w : World) (hra : Reads w aB aA aL ([].map iv)) (hba : aB ≤ w.heap.size) (hla : aL ≤ 67108864) (hsa : aN.size ≤ 67108864) (hga : aG.size ≤ 67108864) (hxa : aX.size ≤ 67108864) (hk : KT w) (ht : PT w)
    (hv : Z.recValid (⟨lst aN, aT, aK, [], lst aG, lst aX⟩ : Z.Rec) = true) (hD : dataV aK [] aG aX = .iface 156 (.agg #[.string aG])) :
    Calls Tryz.prog 9 #[.agg #[.string aN, .int .i64 aT, .int .i64 aK, .slice aA aL aC, .string aG, .string aX]] w fun e w' => e = .returned (.string (bs (Z.format (⟨lst aN, aT, aK, [], lst aG, lst aX⟩ : Z.Rec)))) ∧ Below w.heap.size w w' := by
  have hx0 := Held.box w [.string aN, .int .i64 aT, .int .i64 aK, .slice aA aL aC, .string aG, .string aX] 25
  obtain ⟨_, hT0, hT1, _, hn, _⟩ := Z.recValid_iff.1 hv
  dsimp only at hT0 hT1 hn
  have HZ : Hid (∀ z ∈ ([] : List Int), 0 ≤ z ∧ z ≤ 4294967295) := hid (Z.okNums_range hn (Z.lims_le _))
  obtain ⟨tS, htS⟩ : ∃ s, bs (Lib.itoa aT) = s := ⟨_, rfl⟩
  obtain ⟨kS, hkS⟩ : ∃ s, bs (Z.kindName aK) = s := ⟨_, rfl⟩
  obtain ⟨dS, hdS⟩ : ∃ s, bs (Z.dataText aK [] (lst aG) (lst aX)) = s := ⟨_, rfl⟩
  have hdl := data_len hv
  have hnl := (Z.valid_sizes hv).1
  have htl := itoa_len (n := aT) hT0 (by omega)
  dsimp only at hdl hnl
  have hkl : (Z.kindName aK).length ≤ 5 := by
    unfold Z.kindName
    repeat' split
    all_goals simp
  have e1 : lst tS = Lib.itoa aT := by rw [← htS, lst_bs]
  have e2 : lst kS = Z.kindName aK := by rw [← hkS, lst_bs]
  have e3 : lst dS = Z.dataText aK [] (lst aG) (lst aX) := by rw [← hdS, lst_bs]
  have hfin : Hid (bs (Lib.join [lst aN, lst tS, lst kS, lst dS] (lst ⟨#[32]⟩)) = bs (Z.format (⟨lst aN, aT, aK, [], lst aG, lst aX⟩ : Z.Rec))) := hid (by
    rw [show lst ⟨#[32]⟩ = [32] from rfl, parts_text, e1, e2, e3]
    unfold Z.format
    rw [if_pos hv])
  have hjl : (Lib.join [lst aN, lst tS, lst kS, lst dS] (lst ⟨#[32]⟩)).length ≤ 67108864 := by
    rw [show lst ⟨#[32]⟩ = [32] from rfl, parts_text, e1, e2, e3]
    simp only [List.length_append, List.length_cons]
    omega
  have HJ := hid hjl
  have HV := hid hv
  have HD := hid hD
  have HT := hid htS
  have HK := hid hkS
  have HS := hid hdS
  clear hv hD htS hkS hdS e1 e2 e3 hjl hdl hnl htl hkl hn
  obtain ⟨q0, q1, q2, q3, q4, q5⟩ := hx0.cells6
  go_enter Tryz.func9, Tryz.ntmps9
  go_wp2_with fail
  refine (validData_eq aN aT aK aA aL aC aG aX [] aB _ (hra.held hba hx0) (hx0.up hba) hla hsa hga hxa true HV _ HD).mono ?_
  rintro e w2 ⟨rfl, hb2⟩
  rw [dataOr_true]
  have hx2 := hx0.next hb2
  clear hb2 q0 q1 q2 q3 q4 q5
  obtain ⟨q0, q1, q2, q3, q4, q5⟩ := hx2.cells6
  go_wp2_with fail
  go_region_held3 (fun w' => Held w w' w.heap.size [.string aN, .int .i64 aT, .int .i64 aK, .slice aA aL aC, .string aG, .string aX] ∧ w'.cell? ⟨w.heap.size, 0, none⟩ = some (.string aN) ∧ w'.cell? ⟨w.heap.size, 1, none⟩ = some (.int .i64 aT) ∧ w'.cell? ⟨w.heap.size, 2, none⟩ = some (.int .i64 aK) ∧ w'.cell? ⟨w.heap.size, 3, none⟩ = some (.slice aA aL aC) ∧ w'.cell? ⟨w.heap.size, 4, none⟩ = some (.string aG) ∧ w'.cell? ⟨w.heap.size, 5, none⟩ = some (.string aX))
    (first
      | (exact ⟨hx2, hx2.cells6⟩)
      | (exact ⟨hx2.drewN 1, (hx2.drewN 1).cells6⟩)
      | (go_split_ands; have hx := Held.next (by assumption) hb9; exact ⟨hx, hx.cells6⟩)
      | (go_split_ands; exact held6_alloc (by assumption) _)
      | go_keep)
    (first
      | (go_at_call 34; go_split_ands; refine (Itoa_eq aT hT0 (by omega) tS HT _ (PT.held ht (by assumption))).mono ?_; rintro e w9 ⟨rfl, hb9⟩)
      | (go_at_call 35; go_split_ands; refine (iKindName_eq _ kS HK _ (KT.held hk (by assumption))).mono ?_; rintro e w9 ⟨rfl, hb9⟩)
      | (go_at_call 195; go_split_ands; refine (tText_any aG _ aK hkk (lst aX)).mono ?_; rintro e w9 ⟨he9, hb9⟩; rw [HS.out] at he9; subst he9))
  all_goals go_split_ands
  have hh9 : Held w (w9.alloc (.cells #[.string aN, .string tS, .string kS, .string dS] 9)) w.heap.size [.string aN, .int .i64 aT, .int .i64 aK, .slice aA aL aC, .string aG, .string aX] := by assumption
  have hjn : Calls Tryz.prog 36 #[.slice (some ⟨w9.heap.size, 0, none⟩) 4 4, .string ⟨#[32]⟩] (w9.alloc (.cells #[.string aN, .string tS, .string kS, .string dS] 9)) fun e w' => e = .returned (.string (bs (Z.format (⟨lst aN, aT, aK, [], lst aG, lst aX⟩ : Z.Rec)))) ∧ Below (w9.alloc (.cells #[.string aN, .string tS, .string kS, .string dS] 9)).heap.size (w9.alloc (.cells #[.string aN, .string tS, .string kS, .string dS] 9)) w' := by
    have ho := own_new w9 [.string aN, .string tS, .string kS, .string dS] 9 (show 4 ≤ maxLen by decide)
    have h9 := Join_own [lst aN, lst tS, lst kS, lst dS] (some ⟨w9.heap.size, 0, none⟩) 4 ⟨#[32]⟩ w9.heap.size (w9.alloc (.cells #[.string aN, .string tS, .string kS, .string dS] 9)) (by simp only [List.map_cons, List.map_nil, sv_lst]; exact ho) (show 4 ≤ 67108864 by decide) HJ.out
    rw [hfin.out] at h9
    exact h9
  have HJN := hid hjn
  clear hjn hfin HJ HV HD HT HK HS HZ hx2 q0 q1 q2 q3 q4 q5
  go_wp2_with (go_at_call 36; refine HJN.out.mono ?_; rintro e w10 ⟨rfl, hb10⟩)
  go_ret
  exact ⟨rfl, (hh9.next hb10).1⟩

theorem iFormatRecord_any (aN : ByteArray) (aT aK : Int) (aA : Option Addr) (aL aC : Nat) (aG aX : ByteArray) (aZ : List Int) (aB : Nat) (w : World) (hra : Reads w aB aA aL (aZ.map iv)) (hba : aB ≤ w.heap.size) (hla : aL ≤ 67108864) (hsa : aN.size ≤ 67108864) (hga : aG.size ≤ 67108864) (hxa : aX.size ≤ 67108864) (hk : KT w) (ht : PT w) :
    Calls Tryz.prog 9 #[.agg #[.string aN, .int .i64 aT, .int .i64 aK, .slice aA aL aC, .string aG, .string aX]] w fun e w' => e = .returned (.string (bs (Z.format (⟨lst aN, aT, aK, aZ, lst aG, lst aX⟩ : Z.Rec)))) ∧ Below w.heap.size w w' := by
  cases hv : Z.recValid (⟨lst aN, aT, aK, aZ, lst aG, lst aX⟩ : Z.Rec) with
  | false => exact iFormat_bad _ _ _ _ _ _ _ _ aZ aB w hra hba hla hsa hga hxa hv
  | true =>
    obtain ⟨_, _, _, hkk, hn, _⟩ := Z.recValid_iff.1 hv
    have hl := Z.okNums_length hn
    dsimp only at hkk hl
    rcases hkk with h | h | h | h | h | h | h
    · subst h
      match aZ, hl with
      | [n0, n1, n2, n3], _ => exact iFormat_A aN aT aA aL aC aG aX n0 n1 n2 n3 aB w hra hba hla hsa hga hxa hk ht hv rfl
    · subst h
      match aZ, hl with
      | [], _ => exact iFormat_T aN aT _ aA aL aC aG aX (Or.inl rfl) aB w hra hba hla hsa hga hxa hk ht hv rfl
    · subst h
      match aZ, hl with
      | [], _ => exact iFormat_T aN aT _ aA aL aC aG aX (Or.inr (Or.inl rfl)) aB w hra hba hla hsa hga hxa hk ht hv rfl
    · subst h
      match aZ, hl with
      | [n0, n1, n2, n3, n4], _ => exact iFormat_S aN aT aA aL aC aG aX n0 n1 n2 n3 n4 aB w hra hba hla hsa hga hxa hk ht hv rfl
    · subst h
      match aZ, hl with
      | [], _ => exact iFormat_T aN aT _ aA aL aC aG aX (Or.inr (Or.inr rfl)) aB w hra hba hla hsa hga hxa hk ht hv rfl
    · subst h
      match aZ, hl with
      | [n0], _ => exact iFormat_M aN aT aA aL aC aG aX n0 aB w hra hba hla hsa hga hxa hk ht hv rfl
    · subst h
      match aZ, hl with
      | [], _ => exact iFormat_X aN aT aA aL aC aG aX aB w hra hba hla hsa hga hxa hk ht hv rfl
end Go.Proofs.YtlknpipbjdecpaaGreatDoor

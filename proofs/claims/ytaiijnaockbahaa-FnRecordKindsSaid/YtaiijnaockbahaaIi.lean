/- What validData and RecordValid of the program return, for every record. -/
import Derived.Test.YtaiijnaockbahaaIh
import Derived.Test.YtaiijnaockbahaaSc
namespace Go.Proofs.Ytaiijnaockbahaa
open Go.RowKit
set_option maxRecDepth 100000
set_option linter.unusedVariables false

theorem pad_ne {n : Nat} {zs : List Int} (h : zs.length ≠ n) : pad n zs ≠ zs := fun e => h (by rw [← e, pad_len])
theorem sd_false {a b : Z.Rec} (h : a.nums ≠ b.nums) : Z.sameData a b = false := by simp [Z.sameData, h]
theorem okText_nil' : Z.okText [] = true := by decide

theorem rv_A (N : Z.Str) (T : Int) (zs : List Int) (g x : Z.Str) (n0 n1 n2 n3 : Int) (hp : pad 4 zs = [n0, n1, n2, n3]) :
    Z.recValid ⟨N, T, 1, zs, g, x⟩ = (Z.sameData ⟨N, T, 1, [n0, n1, n2, n3], [], []⟩ ⟨N, T, 1, zs, g, x⟩ && ([n0, n1, n2, n3].all (within · 255) && (Z.valid N && within T 100000))) := by
  by_cases hl : zs.length = 4
  · rw [pad_eq hl] at hp
    subst hp
    rw [Bool.eq_iff_iff]
    simp [Z.recValid, Z.sameData, Z.okNums, Z.lims, Z.okRest, within, Z.kindName]
    constructor <;> intro h <;> simp_all [okText_nil']
  · rw [sd_false (by rw [← hp]; exact pad_ne hl), rv_nums (by exact okNums_len (by simpa [cnt] using hl))]
    rfl

theorem rv_S (N : Z.Str) (T : Int) (zs : List Int) (g x : Z.Str) (n0 n1 n2 n3 n4 : Int) (hp : pad 5 zs = [n0, n1, n2, n3, n4]) :
    Z.recValid ⟨N, T, 6, zs, g, x⟩ = (Z.sameData ⟨N, T, 6, [n0, n1, n2, n3, n4], g, []⟩ ⟨N, T, 6, zs, g, x⟩ && ((Z.valid g && within n0 4294967295 && [n1, n2, n3, n4].all (within · 100000)) && (Z.valid N && within T 100000))) := by
  by_cases hl : zs.length = 5
  · rw [pad_eq hl] at hp
    subst hp
    rw [Bool.eq_iff_iff]
    simp [Z.recValid, Z.sameData, Z.okNums, Z.lims, Z.okRest, within, Z.kindName]
    constructor <;> intro h <;> simp_all
  · rw [sd_false (by rw [← hp]; exact pad_ne hl), rv_nums (by exact okNums_len (by simpa [cnt] using hl))]
    rfl

theorem rv_M (N : Z.Str) (T : Int) (zs : List Int) (g x : Z.Str) (n0 : Int) (hp : pad 1 zs = [n0]) :
    Z.recValid ⟨N, T, 15, zs, g, x⟩ = (Z.sameData ⟨N, T, 15, [n0], g, []⟩ ⟨N, T, 15, zs, g, x⟩ && ((Z.valid g && [n0].all (within · 999)) && (Z.valid N && within T 100000))) := by
  by_cases hl : zs.length = 1
  · rw [pad_eq hl] at hp
    subst hp
    rw [Bool.eq_iff_iff]
    simp [Z.recValid, Z.sameData, Z.okNums, Z.lims, Z.okRest, within, Z.kindName]
    constructor <;> intro h <;> simp_all
  · rw [sd_false (by rw [← hp]; exact pad_ne hl), rv_nums (by exact okNums_len (by simpa [cnt] using hl))]
    rfl

theorem rv_X (N : Z.Str) (T : Int) (zs : List Int) (g x : Z.Str) :
    Z.recValid ⟨N, T, 16, zs, g, x⟩ = (Z.sameData ⟨N, T, 16, [], [], x⟩ ⟨N, T, 16, zs, g, x⟩ && (Z.okText x && (Z.valid N && within T 100000))) := by
  cases zs with
  | nil =>
    rw [Bool.eq_iff_iff]
    simp [Z.recValid, Z.sameData, Z.okNums, Z.lims, Z.okRest, within, Z.kindName]
    constructor <;> intro h <;> simp_all
  | cons a r =>
    rw [sd_false (by simp), rv_nums (by simp [Z.lims, Z.okNums])]
    rfl
theorem rv_T (N : Z.Str) (T k : Int) (zs : List Int) (g x : Z.Str) (hk : k = 2 ∨ k = 5 ∨ k = 12) :
    Z.recValid ⟨N, T, k, zs, g, x⟩ = (Z.sameData ⟨N, T, k, [], g, []⟩ ⟨N, T, k, zs, g, x⟩ && (Z.valid g && (Z.valid N && within T 100000))) := by
  rcases hk with rfl | rfl | rfl
  all_goals cases zs with
  | nil =>
    rw [Bool.eq_iff_iff]
    simp [Z.recValid, Z.sameData, Z.okNums, Z.lims, Z.okRest, within, Z.kindName]
    constructor <;> intro h <;> simp_all
  | cons a r =>
    rw [sd_false (by simp), rv_nums (by simp [Z.lims, Z.okNums])]
    rfl
theorem rv_none (N : Z.Str) (T k : Int) (zs : List Int) (g x : Z.Str) (k1 : ¬ k = 1) (k2 : ¬ k = 2) (k5 : ¬ k = 5) (k6 : ¬ k = 6) (k12 : ¬ k = 12) (k15 : ¬ k = 15) (k16 : ¬ k = 16) : Z.recValid ⟨N, T, k, zs, g, x⟩ = false := by
  simp [Z.recValid, Z.kindName, k1, k2, k5, k6, k12, k15, k16]

/-- The data of a record, as the program holds them. -/
def dataV (k : Int) (zs : List Int) (g x : ByteArray) : Value :=
  if k = 1 then .iface 76 (.agg ((pad 4 zs).map iv).toArray)
  else if k = 6 then .iface 81 (.agg (Value.string g :: (pad 5 zs).map iv).toArray)
  else if k = 15 then .iface 84 (.agg ((pad 1 zs).map iv ++ [Value.string g]).toArray)
  else if k = 16 then .iface 86 (.agg #[.string x])
  else .iface 78 (.agg #[.string g])
theorem list4_inj {a b c d e f g h : Int} (hh : [a, b, c, d] = [e, f, g, h]) : a = e ∧ b = f ∧ c = g ∧ d = h := by simpa using hh
theorem list5_inj {a b c d i e f g h j : Int} (hh : [a, b, c, d, i] = [e, f, g, h, j]) : a = e ∧ b = f ∧ c = g ∧ d = h ∧ i = j := by simpa using hh
theorem list1_inj {a b : Int} (hh : [a] = [b]) : a = b := by simpa using hh

set_option maxHeartbeats 1000000 in
theorem dataOf_none (aN : ByteArray) (aT aK : Int) (aA : Option Addr) (aL aC : Nat) (aG aX : ByteArray) (aZ : List Int) (aB : Nat) (w : World) (hra : Reads w aB aA aL (aZ.map iv)) (hba : aB ≤ w.heap.size) (hla : aL ≤ 67108864) (k1 : ¬ aK = 1) (k2 : ¬ aK = 2) (k5 : ¬ aK = 5) (k6 : ¬ aK = 6) (k12 : ¬ aK = 12) (k15 : ¬ aK = 15) (k16 : ¬ aK = 16) :
    Calls Try.prog 43 #[.agg #[.string aN, .int .i64 aT, .int .i64 aK, .slice aA aL aC, .string aG, .string aX]] w fun e w' => e = .returned (.tuple #[.nilIface, .bool false]) ∧ Below w.heap.size w w' := by
  have hx0 := Held.box w [.string aN, .int .i64 aT, .int .i64 aK, .slice aA aL aC, .string aG, .string aX] 25
  go_enter Try.func43, Try.ntmps43
  go_wp2_with fail
  refine (pick_none _ _ _ _ _ _ _ _ aZ aB _ (hra.held hba hx0) (hx0.up hba) hla k1 k2 k5 k6 k12 k15 k16).mono ?_
  rintro e w2 ⟨rfl, hb2⟩
  have hx2 := hx0.next hb2
  go_wp2_with fail
  go_quiet (fail)
  go_wp2
  go_ret2
  exact ⟨rfl, (hx2.drewN _).1⟩
set_option maxHeartbeats 1000000 in
theorem validData_none (aN : ByteArray) (aT aK : Int) (aA : Option Addr) (aL aC : Nat) (aG aX : ByteArray) (aZ : List Int) (aB : Nat) (w : World) (hra : Reads w aB aA aL (aZ.map iv)) (hba : aB ≤ w.heap.size) (hla : aL ≤ 67108864) (k1 : ¬ aK = 1) (k2 : ¬ aK = 2) (k5 : ¬ aK = 5) (k6 : ¬ aK = 6) (k12 : ¬ aK = 12) (k15 : ¬ aK = 15) (k16 : ¬ aK = 16) :
    Calls Try.prog 25 #[.agg #[.string aN, .int .i64 aT, .int .i64 aK, .slice aA aL aC, .string aG, .string aX]] w fun e w' => e = .returned (.tuple #[.nilIface, .bool false]) ∧ Below w.heap.size w w' := by
  have hx0 := Held.box w [.string aN, .int .i64 aT, .int .i64 aK, .slice aA aL aC, .string aG, .string aX] 25
  go_enter Try.func25, Try.ntmps25
  go_wp2_with fail
  refine (dataOf_none _ _ _ _ _ _ _ _ aZ aB _ (hra.held hba hx0) (hx0.up hba) hla k1 k2 k5 k6 k12 k15 k16).mono ?_
  rintro e w2 ⟨rfl, hb2⟩
  have hx2 := hx0.next hb2
  go_wp2
  go_ret2
  exact ⟨rfl, hx2.1⟩

theorem ret_or {b c : Bool} {D E : Value} (h : c = b) (hD : D = E) : Ending.returned (dataOr b D) = Ending.returned (dataOr c E) := by rw [h, hD]
theorem validData_any (aN : ByteArray) (aT aK : Int) (aA : Option Addr) (aL aC : Nat) (aG aX : ByteArray) (aZ : List Int) (aB : Nat) (w : World) (hra : Reads w aB aA aL (aZ.map iv)) (hba : aB ≤ w.heap.size) (hla : aL ≤ 67108864) (hsa : aN.size ≤ 67108864) (hga : aG.size ≤ 67108864) (hxa : aX.size ≤ 67108864) :
    Calls Try.prog 25 #[.agg #[.string aN, .int .i64 aT, .int .i64 aK, .slice aA aL aC, .string aG, .string aX]] w fun e w' => e = .returned (dataOr (Z.recValid (⟨lst aN, aT, aK, aZ, lst aG, lst aX⟩ : Z.Rec)) (dataV aK aZ aG aX)) ∧ Below w.heap.size w w' := by
  have hsa' : aN.size ≤ 67108864 := hsa
  by_cases k1 : aK = 1
  · subst k1
    obtain ⟨n0, n1, n2, n3, hp⟩ := list4 (pad_len 4 aZ)
    refine (validData_A _ _ _ _ _ _ _ _ aZ aB w hra hba hla hsa n0 n1 n2 n3 [n0, n1, n2, n3] ⟨#[]⟩ ⟨#[]⟩
      (fun W hr hB => (pick_A aN aT aA aL aC aG aX aZ aB W hr hB hla).mono fun e w' ⟨m0, m1, m2, m3, he, hq, hb⟩ => by
        obtain ⟨rfl, rfl, rfl, rfl⟩ := list4_inj (hq.out.symm.trans hp)
        exact ⟨he, hb⟩)
      (fun W => (with_A _ _ _ _ _ _ _ _ n0 n1 n2 n3 W).mono fun e w' ⟨A, c, he, hr, hb⟩ => ⟨A, 4, c, he, hr, by omega, hb⟩) _ rfl _ rfl).mono fun e w' ⟨he, hb⟩ => ⟨he.trans (ret_or ?_ ?_), hb⟩
    · rw [rv_A _ _ _ _ _ n0 n1 n2 n3 hp]; rfl
    · unfold dataV; rw [if_pos rfl, hp]; rfl
  · by_cases k6 : aK = 6
    · subst k6
      obtain ⟨n0, n1, n2, n3, n4, hp⟩ := list5 (pad_len 5 aZ)
      refine (validData_S _ _ _ _ _ _ _ _ aZ aB w hra hba hla hsa aG n0 n1 n2 n3 n4 hga [n0, n1, n2, n3, n4] aG ⟨#[]⟩
        (fun W hr hB => (pick_S aN aT aA aL aC aG aX aZ aB W hr hB hla).mono fun e w' ⟨m0, m1, m2, m3, m4, he, hq, hb⟩ => by
          obtain ⟨rfl, rfl, rfl, rfl, rfl⟩ := list5_inj (hq.out.symm.trans hp)
          exact ⟨he, hb⟩)
        (fun W => (with_S _ _ _ _ _ _ _ _ aG n0 n1 n2 n3 n4 W).mono fun e w' ⟨A, c, he, hr, hb⟩ => ⟨A, 5, c, he, hr, by omega, hb⟩) _ rfl _ rfl).mono fun e w' ⟨he, hb⟩ => ⟨he.trans (ret_or ?_ ?_), hb⟩
      · rw [rv_S _ _ _ _ _ n0 n1 n2 n3 n4 hp]; rfl
      · unfold dataV; rw [if_neg (by decide), if_pos rfl, hp]; rfl
    · by_cases k15 : aK = 15
      · subst k15
        obtain ⟨n0, hp⟩ := list1 (pad_len 1 aZ)
        refine (validData_M _ _ _ _ _ _ _ _ aZ aB w hra hba hla hsa n0 aG hga [n0] aG ⟨#[]⟩
          (fun W hr hB => (pick_M aN aT aA aL aC aG aX aZ aB W hr hB hla).mono fun e w' ⟨m0, he, hq, hb⟩ => by
            obtain rfl := list1_inj (hq.out.symm.trans hp)
            exact ⟨he, hb⟩)
          (fun W => (with_M _ _ _ _ _ _ _ _ n0 aG W).mono fun e w' ⟨A, c, he, hr, hb⟩ => ⟨A, 1, c, he, hr, by omega, hb⟩) _ rfl _ rfl).mono fun e w' ⟨he, hb⟩ => ⟨he.trans (ret_or ?_ ?_), hb⟩
        · rw [rv_M _ _ _ _ _ n0 hp]; rfl
        · unfold dataV; rw [if_neg (by decide), if_neg (by decide), if_pos rfl, hp]; rfl
      · by_cases k16 : aK = 16
        · subst k16
          refine (validData_X _ _ _ _ _ _ _ _ aZ aB w hra hba hla hsa aX hxa [] ⟨#[]⟩ aX
            (fun W hr hB => pick_X aN aT aA aL aC aG aX aZ aB W hr hB hla)
            (fun W => (with_X _ _ _ _ _ _ _ _ aX W).mono fun e w' ⟨he, hb⟩ => ⟨none, 0, 0, he, Reads.none_, by omega, hb⟩) _ rfl _ rfl).mono fun e w' ⟨he, hb⟩ => ⟨he.trans (ret_or ?_ ?_), hb⟩
          · rw [rv_X]; rfl
          · unfold dataV; rw [if_neg (by decide), if_neg (by decide), if_neg (by decide), if_pos rfl]
        · by_cases kT : aK = 2 ∨ aK = 5 ∨ aK = 12
          · refine (validData_T _ _ _ _ _ _ _ _ aZ aB w hra hba hla hsa aG hga [] aG ⟨#[]⟩
              (fun W hr hB => pick_T aN aT aK aA aL aC aG aX aZ aB W hr hB hla kT)
              (fun W => (with_T _ _ _ _ _ _ _ _ aG W).mono fun e w' ⟨he, hb⟩ => ⟨none, 0, 0, he, Reads.none_, by omega, hb⟩) _ rfl _ rfl).mono fun e w' ⟨he, hb⟩ => ⟨he.trans (ret_or ?_ ?_), hb⟩
            · rw [rv_T _ _ _ _ _ _ kT]; rfl
            · unfold dataV; rw [if_neg k1, if_neg k6, if_neg k15, if_neg k16]
          · have k2 : ¬ aK = 2 := fun e => kT (Or.inl e)
            have k5 : ¬ aK = 5 := fun e => kT (Or.inr (Or.inl e))
            have k12 : ¬ aK = 12 := fun e => kT (Or.inr (Or.inr e))
            refine (validData_none _ _ _ _ _ _ _ _ aZ aB w hra hba hla k1 k2 k5 k6 k12 k15 k16).mono fun e w' ⟨he, hb⟩ => ⟨he.trans ?_, hb⟩
            rw [rv_none _ _ _ _ _ _ k1 k2 k5 k6 k12 k15 k16]; rfl

set_option maxHeartbeats 1000000 in
theorem iRecordValid_any (aN : ByteArray) (aT aK : Int) (aA : Option Addr) (aL aC : Nat) (aG aX : ByteArray) (aZ : List Int) (aB : Nat) (w : World) (hra : Reads w aB aA aL (aZ.map iv)) (hba : aB ≤ w.heap.size) (hla : aL ≤ 67108864) (hsa : aN.size ≤ 67108864) (hga : aG.size ≤ 67108864) (hxa : aX.size ≤ 67108864) :
    Calls Try.prog 13 #[.agg #[.string aN, .int .i64 aT, .int .i64 aK, .slice aA aL aC, .string aG, .string aX]] w fun e w' => e = .returned (.bool (Z.recValid (⟨lst aN, aT, aK, aZ, lst aG, lst aX⟩ : Z.Rec))) ∧ Below w.heap.size w w' := by
  have hx0 := Held.box w [.string aN, .int .i64 aT, .int .i64 aK, .slice aA aL aC, .string aG, .string aX] 25
  obtain ⟨v, hv⟩ : ∃ v, Z.recValid (⟨lst aN, aT, aK, aZ, lst aG, lst aX⟩ : Z.Rec) = v := ⟨_, rfl⟩
  have HV := hid hv
  rw [hv]
  clear hv
  go_enter Try.func13, Try.ntmps13
  go_wp2_with fail
  refine (validData_any _ _ _ _ _ _ _ _ aZ aB _ (hra.held hba hx0) (hx0.up hba) hla hsa hga hxa).mono ?_
  rintro e w2 ⟨rfl, hb2⟩
  have hx2 := hx0.next hb2
  rw [HV.out]
  cases v
  · rw [dataOr_false]
    go_wp2
    go_ret
    exact ⟨rfl, hx2.1⟩
  · rw [dataOr_true]
    go_wp2
    go_ret
    exact ⟨rfl, hx2.1⟩
end Go.Proofs.Ytaiijnaockbahaa

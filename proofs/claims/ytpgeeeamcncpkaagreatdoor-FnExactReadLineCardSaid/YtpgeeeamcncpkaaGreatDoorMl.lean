/- Plain laws of reading data and of writing lines, as the program does it. -/
import Derived.Test.YtpgeeeamcncpkaaGreatDoorMc
namespace Go.Proofs.YtpgeeeamcncpkaaGreatDoor.Z
set_option maxRecDepth 100000
set_option linter.unusedVariables false

/-! ### reading data -/

theorem mapM_cons_num (t : Str) (r : List Str) : (t :: r).mapM num = (num t).bind fun n => (r.mapM num).map (n :: ·) := by
  rw [List.mapM_cons]
  cases num t with
  | none => rfl
  | some n => cases r.mapM num <;> rfl
theorem mapM_num_length : ∀ {ts : List Str} {ns : List Int}, ts.mapM num = some ns → ns.length = ts.length
  | [], ns, h => by simp at h; subst h; rfl
  | t :: r, ns, h => by
    rw [mapM_cons_num] at h
    cases h1 : num t with
    | none => rw [h1] at h; cases h
    | some n =>
      rw [h1] at h
      cases h2 : r.mapM num with
      | none => rw [h2] at h; cases h
      | some ms =>
        rw [h2] at h
        simp at h
        subst h
        rw [List.length_cons, List.length_cons, mapM_num_length h2]
theorem readNums_iff : ∀ {ts : List Str} {ns : List Int}, readNums ts = some ns ↔ ts.mapM num = some ns ∧ ∀ n ∈ ns, 0 ≤ n ∧ n ≤ 4294967295
  | [], ns => by
    constructor
    · intro h; simp [readNums] at h; subst h; simp
    · rintro ⟨h, _⟩; simp at h; subst h; rfl
  | t :: r, ns => by
    rw [readNums_cons, mapM_cons_num]
    constructor
    · intro h
      cases h1 : readNum t 4294967295 with
      | none => rw [h1] at h; cases h
      | some n =>
        rw [h1] at h
        cases h2 : readNums r with
        | none => rw [h2] at h; cases h
        | some ms =>
          rw [h2] at h
          simp at h
          subst h
          have h3 := (readNum_iff (by decide)).1 h1
          have h4 := readNums_iff.1 h2
          rw [h3.1]
          refine ⟨?_, ?_⟩
          · show (r.mapM num).map (n :: ·) = _
            rw [h4.1]; rfl
          · intro x hx
            rcases List.mem_cons.1 hx with rfl | hx
            · exact h3.2
            · exact h4.2 x hx
    · rintro ⟨h, hb⟩
      cases h1 : num t with
      | none => rw [h1] at h; cases h
      | some n =>
        rw [h1] at h
        cases h2 : r.mapM num with
        | none => rw [h2] at h; cases h
        | some ms =>
          rw [h2] at h
          simp at h
          subst h
          have h3 := (readNum_iff (t := t) (most := 4294967295) (n := n) (by decide)).2 ⟨h1, hb n (by simp)⟩
          have h4 := (readNums_iff (ts := r) (ns := ms)).2 ⟨h2, fun x hx => hb x (by simp [hx])⟩
          rw [h3]
          show (readNums r).map (n :: ·) = _
          rw [h4]; rfl
theorem unquote_unq (f : Str) : unquote f = unq f := rfl
theorem valid_ne {s : Str} (h : valid s = true) : s ≠ [] := by intro e; subst e; exact absurd h (by decide)

/-- What the program reads of fields for a kind, with the target's name behind. -/
def iData (k : Int) (fs : List Str) (o : Str) : Option (List Int × Str × Str) :=
  (readFlds k fs).bind fun p => if p.2.1 = [] then some p else (readName p.2.1 o).map fun t => (p.1, t, p.2.2)
def iReadData (name : Str) (ttl k : Int) (fs : List Str) (o : Str) : Option Rec :=
  match iData k fs o with
  | some (n, t, x) => if valid o && recValid ⟨name, ttl, k, n, t, x⟩ then some ⟨name, ttl, k, n, t, x⟩ else none
  | none => none

theorem data_1 {fs : List Str} {o : Str} {n : List Int} (hl : n.length = 4) (hrg : ∀ m ∈ n, 0 ≤ m ∧ m ≤ 4294967295) (t x : Str) : dataOf 1 fs o = some (n, t, x) ↔ iData 1 fs o = some (n, t, x) := by
  match fs with
  | [] => simp [dataOf, iData, readFlds]
  | f :: g :: r => simp [dataOf, iData, readFlds]
  | [f] =>
    have h1 : dataOf 1 [f] o = (numbers 46 f).map (fun n => (n, [], [])) := by simp [dataOf]
    have h2 : iData 1 [f] o = (readNums (pieces 46 f [])).map (fun n => (n, [], [])) := by
      unfold iData
      have : readFlds 1 [f] = (readNums (pieces 46 f [])).map (fun n => (n, [], [])) := by simp [readFlds]
      rw [this]
      cases readNums (pieces 46 f []) <;> rfl
    rw [h1, h2]
    have key : numbers 46 f = some n ↔ readNums (pieces 46 f []) = some n := by
      unfold numbers
      rw [readNums_iff]
      constructor
      · intro h
        have h3 := mapM_num_length h
        rw [List.length_take] at h3
        rw [List.take_of_length_le (by omega)] at h
        exact ⟨h, hrg⟩
      · rintro ⟨h, _⟩
        have h3 := mapM_num_length h
        rw [List.take_of_length_le (by omega)]
        exact h
    constructor
    · intro h
      cases h3 : numbers 46 f with
      | none => rw [h3] at h; cases h
      | some m =>
        rw [h3] at h
        have h4 : m = n ∧ [] = t ∧ [] = x := by simpa using h
        obtain ⟨rfl, rfl, rfl⟩ := h4
        rw [key.1 h3]; rfl
    · intro h
      cases h3 : readNums (pieces 46 f []) with
      | none => rw [h3] at h; cases h
      | some m =>
        rw [h3] at h
        have h4 : m = n ∧ [] = t ∧ [] = x := by simpa using h
        obtain ⟨rfl, rfl, rfl⟩ := h4
        rw [key.2 h3]; rfl
theorem data_16 (fs : List Str) (o : Str) : dataOf 16 fs o = iData 16 fs o := by
  match fs with
  | [] => simp [dataOf, iData, readFlds]
  | f :: g :: r => simp [dataOf, iData, readFlds]
  | [f] =>
    have h1 : dataOf 16 [f] o = (unq f).map (fun x => ([], [], x)) := by simp [dataOf, unquote_unq]
    have h2 : readFlds 16 [f] = (unq f).map (fun x => ([], [], x)) := by simp [readFlds]
    unfold iData
    rw [h1, h2]
    cases unq f <;> rfl
/-- A name and numbers behind one another: what the two ways of reading tell is the same, where the numbers are in their limits. -/
theorem pair_iff {a : Str} {ts : List Str} {o : Str} {n : List Int} {t x : Str} (hrg : ∀ m ∈ n, 0 ≤ m ∧ m ≤ 4294967295) (hl : n.length < 6) (ht : t ≠ []) :
    ((readName a o).bind fun t => (nums3 ts).map fun n => (n, t, ([] : Str))) = some (n, t, x) ↔ (((readNums ts).map (fun n => (n, a, ([] : Str)))).bind fun p => if p.2.1 = [] then some p else (readName p.2.1 o).map fun t => (p.1, t, p.2.2)) = some (n, t, x) := by
  constructor
  · intro h
    cases h1 : readName a o with
    | none => rw [h1] at h; cases h
    | some t1 =>
      rw [h1] at h
      cases h2 : nums3 ts with
      | none => rw [h2] at h; cases h
      | some n1 =>
        rw [h2] at h
        have h4 : n1 = n ∧ t1 = t ∧ [] = x := by simpa using h
        obtain ⟨rfl, rfl, rfl⟩ := h4
        unfold nums3 at h2
        split at h2
        · rw [(readNums_iff).2 ⟨h2, hrg⟩]
          have h5 := (readName_some h1).2.1
          simp [h5, h1]
        · cases h2
  · intro h
    cases h2 : readNums ts with
    | none => rw [h2] at h; cases h
    | some n1 =>
      rw [h2] at h
      by_cases ha : a = []
      · subst ha
        have h4 : n1 = n ∧ [] = t ∧ [] = x := by simpa using h
        exact absurd h4.2.1.symm ht
      · cases h1 : readName a o with
        | none => simp [ha, h1] at h
        | some t1 =>
          have h4 : n1 = n ∧ t1 = t ∧ [] = x := by simpa [ha, h1] using h
          obtain ⟨rfl, rfl, rfl⟩ := h4
          have h5 := readNums_iff.1 h2
          have h6 := mapM_num_length h5.1
          have h7 : nums3 ts = some n1 := by unfold nums3; rw [if_pos (by omega), h5.1]
          rw [h7]; rfl
theorem data_iff {k : Int} {fs : List Str} {o : Str} {name : Str} {ttl : Int} {n : List Int} {t x : Str} (hv : recValid ⟨name, ttl, k, n, t, x⟩ = true) : dataOf k fs o = some (n, t, x) ↔ iData k fs o = some (n, t, x) := by
  obtain ⟨_, _, _, hk, hn, hr⟩ := recValid_iff.1 hv
  have hl := okNums_length hn
  have hrg := okNums_range hn (lims_le _)
  have hl5 := (valid_sizes hv).2.1
  dsimp only at hk hn hr hl hrg hl5
  by_cases h1 : k = 1
  · subst h1
    exact data_1 (by rw [hl]; decide) hrg t x
  · by_cases h16 : k = 16
    · subst h16; rw [data_16]
    · have ht : t ≠ [] := by
        rcases okRest_target hr with ⟨h | h, _⟩ | ⟨_, h, _⟩
        · exact absurd h h1
        · exact absurd h h16
        · exact valid_ne h
      by_cases h15 : k = 15
      · subst h15
        match fs with
        | [] => simp [dataOf, iData, readFlds]
        | [a] => simp [dataOf, iData, readFlds]
        | a :: b :: c :: r => simp [dataOf, iData, readFlds]
        | [a, b] =>
          have e1 : dataOf 15 [a, b] o = (nums3 [a]).bind fun n => (readName b o).map fun t => (n, t, []) := by simp [dataOf]
          have e2 : dataOf 15 [a, b] o = (readName b o).bind fun t => (nums3 [a]).map fun n => (n, t, []) := by
            rw [e1]
            cases nums3 [a] <;> cases readName b o <;> rfl
          have e3 : iData 15 [a, b] o = (((readNums [a]).map (fun n => (n, b, ([] : Str)))).bind fun p => if p.2.1 = [] then some p else (readName p.2.1 o).map fun t => (p.1, t, p.2.2)) := by
            unfold iData
            rw [readFlds, if_neg (by decide), if_pos rfl]
          rw [e2, e3]
          exact pair_iff hrg (by omega) ht
      · match fs with
        | [] => simp [dataOf, iData, readFlds, h1, h15, h16]
        | a :: r =>
          have e2 : dataOf k (a :: r) o = (readName a o).bind fun t => (nums3 r).map fun n => (n, t, []) := by simp [dataOf, h1, h15, h16]
          have e3 : iData k (a :: r) o = (((readNums r).map (fun n => (n, a, ([] : Str)))).bind fun p => if p.2.1 = [] then some p else (readName p.2.1 o).map fun t => (p.1, t, p.2.2)) := by
            have e : readFlds k (a :: r) = (readNums r).map (fun n => (n, a, [])) := by simp [readFlds, h1, h15, h16]
            unfold iData
            rw [e]
          rw [e2, e3]
          exact pair_iff hrg (by omega) ht
theorem iData_nil (k : Int) (o : Str) : iData k [] o = none := rfl
theorem iReadData_eq (name : Str) (ttl k : Int) (fs : List Str) (o : Str) : iReadData name ttl k fs o = readData name ttl k fs o := by
  apply Option.ext
  intro r
  constructor
  · intro h
    unfold iReadData at h
    cases hd : iData k fs o with
    | none => rw [hd] at h; cases h
    | some p =>
      obtain ⟨n, t, x⟩ := p
      rw [hd] at h
      dsimp only at h
      split at h
      · rename_i hc
        rw [Bool.and_eq_true] at hc
        have hne : fs ≠ [] := by intro e; subst e; rw [iData_nil] at hd; cases hd
        unfold readData
        rw [if_pos ⟨hne, hc.1⟩, (data_iff hc.2).2 hd]
        dsimp only
        rw [if_pos hc.2]
        exact h
      · cases h
  · intro h
    unfold readData at h
    split at h
    · rename_i hc
      cases hd : dataOf k fs o with
      | none => rw [hd] at h; cases h
      | some p =>
        obtain ⟨n, t, x⟩ := p
        rw [hd] at h
        dsimp only at h
        split at h
        · rename_i hv
          unfold iReadData
          rw [(data_iff hv).1 hd]
          dsimp only
          rw [if_pos (by rw [Bool.and_eq_true]; exact ⟨hc.2, hv⟩)]
          exact h
        · cases h
    · cases h
/-! ### writing lines -/

/-- The text of a target below an origin. -/
def shortT (g o : Str) : Str := if g = [] then [] else short g o
def lead (r : Rec) (o ow : Str) : Str := if r.name = ow then [] else short r.name o
theorem line_text {r : Rec} (hv : recValid r = true) (o ow : Str) :
    lineText r o ow = lead r o ow ++ 32 :: (Lib.itoa r.ttl ++ 32 :: (kindName r.kind ++ 32 :: dataText r.kind r.nums (shortT r.target o) r.text)) := by
  obtain ⟨_, _, _, hk, hn, hr⟩ := recValid_iff.1 hv
  have hl := okNums_length hn
  have ht := okRest_target hr
  obtain ⟨name, ttl, kind, nums, target, text⟩ := r
  dsimp only at hk hn hr hl ht ⊢
  have e : spaced (dataFields ⟨name, ttl, kind, nums, target, text⟩ o) = 32 :: dataText kind nums (shortT target o) text := by
    unfold dataFields shortT
    dsimp only
    by_cases h1 : kind = 1 ∨ kind = 16
    · rw [if_pos h1]
      rcases ht with ⟨_, rfl⟩ | ⟨h, _⟩
      · simp [spaced]
      · exact absurd h1 h
    · rw [if_neg h1]
      have htn : target ≠ [] := by
        rcases ht with ⟨h, _⟩ | ⟨_, h, _⟩
        · exact absurd h h1
        · exact valid_ne h
      rw [if_neg htn]
      by_cases h15 : kind = 15
      · subst h15
        rw [if_pos rfl]
        obtain ⟨n0, rfl⟩ : ∃ n0, nums = [n0] := List.length_eq_one_iff.1 (by rw [hl]; decide)
        simp [spaced, dataText]
      · rw [if_neg h15]
        have k1 : kind ≠ 1 := fun h => h1 (Or.inl h)
        have k16 : kind ≠ 16 := fun h => h1 (Or.inr h)
        simp [spaced, dataText, k1, k16, h15, List.map_map]
        rfl
  have e2 : spaced (lineFields ⟨name, ttl, kind, nums, target, text⟩ o) = 32 :: (Lib.itoa ttl ++ (32 :: (kindName kind ++ spaced (dataFields ⟨name, ttl, kind, nums, target, text⟩ o)))) := by
    simp [lineFields, spaced]
  unfold lineText
  rw [e2, e]
  rfl
theorem short_len {g o : Str} (hg : valid g = true) (ho : valid o = true) : (short g o).length ≤ 60 := by
  obtain ⟨x, h1, _, h2, _⟩ := readName_short hg ho
  unfold short
  rw [h1]
  have := (valid_len hg).2
  show x.length ≤ 60
  omega
theorem shortT_len {k : Int} {g x o : Str} (hr : okRest k g x = true) (ho : valid o = true) : (shortT g o).length ≤ 60 := by
  unfold shortT
  by_cases h : g = []
  · rw [if_pos h]; exact Nat.zero_le _
  · rw [if_neg h]
    rcases okRest_target hr with ⟨_, h2⟩ | ⟨_, h2, _⟩
    · exact absurd h2 h
    · exact short_len h2 ho
theorem short_some {g o : Str} (hg : valid g = true) (ho : valid o = true) : shortName g o = some (short g o) := by
  obtain ⟨x, h1, _⟩ := readName_short hg ho
  unfold short
  rw [h1]
  rfl
theorem itoa_le {n : Int} (h0 : 0 ≤ n) (h1 : n ≤ 4294967295) : (Lib.itoa n).length ≤ 19 := by
  obtain ⟨N, rfl⟩ := Int.eq_ofNat_of_zero_le h0
  rw [itoa_pos h0]
  have := dec_len (n := N) (k := 19) (by omega) (by decide)
  simpa using this
theorem flat_itoa : ∀ {zs : List Int}, (∀ z ∈ zs, 0 ≤ z ∧ z ≤ 4294967295) → ((zs.map (fun n => (32 : UInt8) :: Lib.itoa n)).flatten).length ≤ 20 * zs.length
  | [], _ => by simp
  | z :: r, h => by
    have h1 := itoa_le (h z (by simp)).1 (h z (by simp)).2
    have h2 := flat_itoa (zs := r) (fun x hx => h x (by simp [hx]))
    simp only [List.map_cons, List.flatten_cons, List.length_append, List.length_cons]
    omega
theorem between_itoa : ∀ {zs : List Int}, (∀ z ∈ zs, 0 ≤ z ∧ z ≤ 4294967295) → (between 46 (zs.map Lib.itoa)).length ≤ 20 * zs.length
  | [], _ => by simp [between]
  | z :: r, h => by
    have h1 := itoa_le (h z (by simp)).1 (h z (by simp)).2
    rw [List.map_cons, between_cons, List.length_append, List.map_map]
    have h2 : ((r.map ((fun l => (46 : UInt8) :: l) ∘ Lib.itoa)).flatten).length ≤ 20 * r.length := by
      clear h1
      induction r with
      | nil => simp
      | cons y q ih =>
        have h3 := itoa_le (h y (by simp)).1 (h y (by simp)).2
        have h4 := ih (fun x hx => h x (by simp only [List.mem_cons] at hx ⊢; rcases hx with hx | hx <;> simp [hx]))
        simp only [List.map_cons, List.flatten_cons, List.length_append, List.length_cons, Function.comp_apply]
        omega
    simp only [List.length_cons] at *
    omega
theorem data_short_len {r : Rec} {o : Str} (hv : recValid r = true) (hvo : valid o = true) : (dataText r.kind r.nums (shortT r.target o) r.text).length ≤ 200 := by
  obtain ⟨_, _, _, hk, hn, hr⟩ := recValid_iff.1 hv
  have hrg := okNums_range hn (lims_le _)
  obtain ⟨_, hl, _, hx⟩ := valid_sizes hv
  have ht := shortT_len hr hvo
  unfold dataText
  split
  · have := between_itoa hrg; omega
  · split
    · simp; omega
    · split
      · have h0 : (Lib.itoa (r.nums.headD 0)).length ≤ 19 := by
          match hnn : r.nums with
          | [] => exact itoa_le (by simp) (by simp)
          | a :: q => exact itoa_le (hrg a (by rw [hnn]; simp)).1 (hrg a (by rw [hnn]; simp)).2
        simp only [List.length_append, List.length_cons]; omega
      · have := flat_itoa hrg
        simp only [List.length_append]; omega
theorem line_len {r : Rec} (hv : recValid r = true) {o : Str} (hvo : valid o = true) (ow : Str) : (lineText r o ow).length ≤ 300 := by
  have hd := data_short_len hv hvo
  obtain ⟨hn, h0, h1, hk, _, _⟩ := recValid_iff.1 hv
  rw [line_text hv]
  have l1 : (lead r o ow).length ≤ 60 := by
    unfold lead
    split
    · exact Nat.zero_le _
    · exact short_len hn hvo
  have l2 := itoa_le h0 (by omega)
  have l3 : (kindName r.kind).length ≤ 5 := by
    unfold kindName
    repeat' split
    all_goals simp
  simp only [List.length_append, List.length_cons]
  omega

/-! ### master files -/

def lastName (ow : Str) (l : List Rec) : Str := match l.getLast? with | some r => r.name | none => ow
theorem lastName_snoc (ow : Str) (l : List Rec) (r : Rec) : lastName ow (l ++ [r]) = r.name := by simp [lastName]
theorem lastName_cons (ow : Str) (x : Rec) (l : List Rec) : lastName ow (x :: l) = lastName x.name l := by
  unfold lastName
  cases l with
  | nil => rfl
  | cons y q =>
    rw [List.getLast?_cons_cons]
    cases hg : (y :: q).getLast? with
    | none => simp at hg
    | some z => rfl
theorem linesText_snoc : ∀ (l : List Rec) (r : Rec) (o ow : Str), linesText (l ++ [r]) o ow = linesText l o ow ++ (lineText r o (lastName ow l) ++ [10])
  | [], r, o, ow => by simp [linesText, lastName]
  | x :: l, r, o, ow => by
    rw [List.cons_append, linesText, linesText, linesText_snoc l r o x.name, lastName_cons]
    simp
theorem lines_len : ∀ {l : List Rec} {o ow : Str}, (∀ r ∈ l, recValid r = true) → valid o = true → (linesText l o ow).length ≤ 301 * l.length
  | [], _, _, _, _ => by simp [linesText]
  | x :: l, o, ow, h, hvo => by
    have h1 := line_len (h x (by simp)) hvo ow
    have h2 := lines_len (l := l) (o := o) (ow := x.name) (fun r hr => h r (by simp [hr])) hvo
    rw [linesText]
    simp only [List.length_append, List.length_cons]
    omega
/-- What is written of the first records. -/
def MasterAt (l : List Rec) (o : Str) (k : Nat) (t ow : Str) : Prop := t = masterText (l.take k) o ∧ ow = lastName [] (l.take k) ∧ ∀ r ∈ l.take k, recValid r = true
theorem masterAt_start (l : List Rec) (o : Str) : MasterAt l o 0 (originWord ++ 32 :: (o ++ [10])) [] := ⟨by simp [masterText, linesText], by simp [lastName], by simp⟩
theorem masterAt_next {l : List Rec} {o : Str} {k : Nat} {t ow : Str} (h : MasterAt l o k t ow) {r : Rec} (hk : l[k]? = some r) (hv : recValid r = true) : MasterAt l o (k + 1) (t ++ (lineText r o ow ++ [10])) r.name := by
  obtain ⟨h1, h2, h3⟩ := h
  have hlt := (List.getElem?_eq_some_iff.1 hk).1
  have e : l.take (k + 1) = l.take k ++ [r] := by
    rw [List.take_add_one, hk]
    rfl
  refine ⟨?_, by rw [e, lastName_snoc], fun x hx => ?_⟩
  · rw [e, h1, h2]
    unfold masterText
    rw [linesText_snoc]
    simp
  · rw [e] at hx
    rcases List.mem_append.1 hx with hx | hx
    · exact h3 x hx
    · simp at hx; subst hx; exact hv
theorem masterAt_len {l : List Rec} {o : Str} {k : Nat} {t ow : Str} (h : MasterAt l o k t ow) (hvo : valid o = true) : t.length ≤ 100 + 301 * k := by
  obtain ⟨h1, _, h3⟩ := h
  have h4 := lines_len (ow := []) h3 hvo
  have h5 := (valid_len hvo).2
  have h6 : (l.take k).length ≤ k := List.length_take_le _ _
  rw [h1]
  unfold masterText
  simp only [List.length_append, List.length_cons]
  have h7 : originWord.length = 7 := rfl
  omega
theorem masterAt_owner {l : List Rec} {o : Str} {k : Nat} {t ow : Str} (h : MasterAt l o k t ow) : ow = [] ∨ valid ow = true := by
  obtain ⟨_, h2, h3⟩ := h
  rw [h2]
  unfold lastName
  cases hg : (l.take k).getLast? with
  | none => exact Or.inl rfl
  | some r => exact Or.inr (recValid_iff.1 (h3 r (List.mem_of_getLast? hg))).1
theorem writeMaster_bad {l : List Rec} {o : Str} (h : valid o = false ∨ 60 < l.length) : writeMaster l o = none := by
  unfold writeMaster
  rw [if_neg]
  intro h2
  simp only [Bool.and_eq_true, decide_eq_true_eq] at h2
  rcases h with h | h
  · rw [h] at h2; exact absurd h2.1.1.1 (by decide)
  · omega
theorem writeMaster_rec {l : List Rec} {o : Str} {r : Rec} (hr : r ∈ l) (hv : recValid r = false) : writeMaster l o = none := by
  unfold writeMaster
  rw [if_neg]
  intro h2
  simp only [Bool.and_eq_true, decide_eq_true_eq] at h2
  have := List.all_eq_true.1 h2.1.2 r hr
  rw [hv] at this
  cases this
theorem writeMaster_end {l : List Rec} {o t ow : Str} (h : MasterAt l o l.length t ow) (hvo : valid o = true) (hl : l.length ≤ 60) : writeMaster l o = if t.length ≤ 4000 then some t else none := by
  obtain ⟨h1, _, h3⟩ := h
  rw [List.take_length] at h1 h3
  have ha : l.all recValid = true := List.all_eq_true.2 h3
  unfold writeMaster
  rw [hvo, ha, ← h1]
  by_cases h4 : t.length ≤ 4000
  · rw [if_pos h4, if_pos]; simp [hl, h4]
  · rw [if_neg h4, if_neg]; simp [h4]
end Go.Proofs.YtpgeeeamcncpkaaGreatDoor.Z

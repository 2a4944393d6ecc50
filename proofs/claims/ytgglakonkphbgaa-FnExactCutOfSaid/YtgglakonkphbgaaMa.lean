/- Records and their texts as plain functions: what the functions of chapter 2 compute, and the laws of these plain functions. The order of records, and what the laws of chapter 2 say of the plain functions. How the program reads records, as plain functions: numbers up to a limit, pieces of a text, the data of a kind; and that this is what the model reads. -/
import Derived.Lib.ItoaNum
import Derived.Test.YtgglakonkphbgaaM
import Derived.Lib.SplitLaws
namespace Go.Proofs.Ytgglakonkphbgaa.Z

/-! ### numerals -/

def digit (c : UInt8) : Bool := 48 ≤ c && c ≤ 57
def natOf (s : Str) : Nat := s.foldl (fun n c => n * 10 + (c.toNat - 48)) 0
def numU (s : Str) : Option Nat := if s ≠ [] ∧ s.length ≤ 17 ∧ s.all digit = true ∧ ¬ (s.head? = some 48 ∧ 1 < s.length) then some (natOf s) else none
/-- The number of a numeral, which is as strconv.Itoa writes it. -/
def num (s : Str) : Option Int :=
  match s with
  | 45 :: r => if r.head? = some 48 then none else (numU r).map (fun n => -(n : Int))
  | r => (numU r).map (fun n => (n : Int))

theorem ofNat_digit {k : Nat} (h : k < 10) : (UInt8.ofNat (48 + k)).toNat = 48 + k := by simp; omega
theorem digit_ofNat {k : Nat} (h : k < 10) : digit (UInt8.ofNat (48 + k)) = true := by
  unfold digit; simp only [UInt8.le_iff_toNat_le, ofNat_digit h]; simp; omega
theorem digit_iff {c : UInt8} : digit c = true ↔ 48 ≤ c.toNat ∧ c.toNat ≤ 57 := by
  unfold digit; simp only [UInt8.le_iff_toNat_le, Bool.and_eq_true, decide_eq_true_eq]; simp
theorem head_snoc {a b : Str} (h : a ≠ []) : (a ++ b).head? = a.head? := by
  cases a with
  | nil => exact absurd rfl h
  | cons x r => rfl
theorem natOf_snoc (s : Str) (c : UInt8) : natOf (s ++ [c]) = natOf s * 10 + (c.toNat - 48) := by simp [natOf]

theorem dec_small {n : Nat} (h : n < 10) : Lib.decDigits n = [UInt8.ofNat (48 + n)] := by rw [Lib.decDigits, dif_pos h]
theorem dec_big {n : Nat} (h : ¬ n < 10) : Lib.decDigits n = Lib.decDigits (n / 10) ++ [UInt8.ofNat (48 + n % 10)] := by rw [Lib.decDigits, dif_neg h]
theorem dec_ne (n : Nat) : Lib.decDigits n ≠ [] := by
  by_cases h : n < 10
  · rw [dec_small h]; simp
  · rw [dec_big h]; simp
theorem dec_digits (n : Nat) : (Lib.decDigits n).all digit = true := by
  induction n using Nat.strongRecOn with
  | _ n ih =>
    by_cases h : n < 10
    · rw [dec_small h]; simpa using digit_ofNat h
    · rw [dec_big h, List.all_append, ih (n / 10) (by omega)]
      simpa using digit_ofNat (Nat.mod_lt n (by decide))
theorem natOf_dec (n : Nat) : natOf (Lib.decDigits n) = n := by
  induction n using Nat.strongRecOn with
  | _ n ih =>
    by_cases h : n < 10
    · rw [dec_small h]; unfold natOf; simp only [List.foldl_cons, List.foldl_nil, ofNat_digit h]; omega
    · rw [dec_big h, natOf_snoc, ih (n / 10) (by omega), ofNat_digit (Nat.mod_lt n (by decide))]
      omega
theorem dec_head (n : Nat) (h : (Lib.decDigits n).head? = some 48) : n = 0 := by
  induction n using Nat.strongRecOn with
  | _ n ih =>
    by_cases h1 : n < 10
    · rw [dec_small h1] at h
      simp only [List.head?_cons, Option.some.injEq] at h
      have := congrArg UInt8.toNat h
      rw [ofNat_digit h1] at this
      simp at this; exact this
    · rw [dec_big h1, head_snoc (dec_ne _)] at h
      have := ih (n / 10) (by omega) h
      omega
theorem dec_len {n k : Nat} (h : n < 10 ^ k) (hk : 1 ≤ k) : (Lib.decDigits n).length ≤ k := by
  rw [Lib.decDigits_length]
  have h1 := Lib.nDigits_pos n
  by_cases h2 : Lib.nDigits n ≤ k
  · exact h2
  · exfalso
    have h3 : ∀ m, ∀ j, m < 10 ^ j → 1 ≤ j → Lib.nDigits m ≤ j := by
      intro m j
      induction j generalizing m with
      | zero => intro _ h; omega
      | succ j ih =>
        intro hm _
        by_cases hs : m < 10
        · rw [Lib.nDigits_small hs]; omega
        · rw [Lib.nDigits_big hs]
          by_cases hj : j = 0
          · subst hj; simp at hm; omega
          · have := ih (m / 10) (by rw [Nat.pow_succ] at hm; omega) (by omega)
            omega
    exact h2 (h3 n k h hk)

theorem numU_dec {n : Nat} (h : n < 10 ^ 17) : numU (Lib.decDigits n) = some n := by
  unfold numU
  rw [if_pos, natOf_dec]
  refine ⟨dec_ne n, dec_len h (by decide), dec_digits n, ?_⟩
  rintro ⟨h1, h2⟩
  have h0 := dec_head n h1
  subst h0
  rw [dec_small (by decide)] at h2
  simp at h2

theorem dec_natOf (s : Str) (h1 : s ≠ []) (h2 : s.all digit = true) (h3 : ¬ (s.head? = some 48 ∧ 1 < s.length)) : Lib.decDigits (natOf s) = s := by
  have key : ∀ k, ∀ s : Str, s.length = k → s ≠ [] → s.all digit = true → ¬ (s.head? = some 48 ∧ 1 < s.length) → Lib.decDigits (natOf s) = s ∧ (s.head? ≠ some 48 → 0 < natOf s) := by
    intro k
    induction k using Nat.strongRecOn with
    | _ k ih =>
      intro s hk hne hall hh
      obtain ⟨t, c, rfl⟩ : ∃ t c, s = t ++ [c] := ⟨s.dropLast, s.getLast hne, (List.dropLast_concat_getLast hne).symm⟩
      rw [List.all_append, Bool.and_eq_true] at hall
      have hc : digit c = true := by simpa using hall.2
      have hc2 := digit_iff.1 hc
      have hcc : UInt8.ofNat (48 + (c.toNat - 48)) = c := by
        apply UInt8.toNat_inj.1
        rw [ofNat_digit (by omega)]; omega
      rw [natOf_snoc]
      by_cases ht : t = []
      · subst ht
        have e0 : natOf [] = 0 := rfl
        rw [e0, Nat.zero_mul, Nat.zero_add, dec_small (by omega), hcc]
        refine ⟨rfl, fun hd => ?_⟩
        have : c.toNat ≠ 48 := fun e => hd (by
          have : c = 48 := UInt8.toNat_inj.1 e
          rw [this]; rfl)
        omega
      · have hhd : (t ++ [c]).head? = t.head? := head_snoc ht
        rw [hhd] at hh ⊢
        have hlt : 1 ≤ t.length := List.length_pos_iff.2 ht
        have hd : t.head? ≠ some 48 := fun e => hh ⟨e, by simp; omega⟩
        obtain ⟨i1, i2⟩ := ih t.length (by simp at hk; omega) t rfl ht hall.1 (fun e => hd e.1)
        have hp := i2 hd
        refine ⟨?_, fun _ => by omega⟩
        rw [dec_big (by omega)]
        have e1 : (natOf t * 10 + (c.toNat - 48)) / 10 = natOf t := by omega
        have e2 : (natOf t * 10 + (c.toNat - 48)) % 10 = c.toNat - 48 := by omega
        rw [e1, e2, hcc, i1]
  exact (key _ s rfl h1 h2 h3).1
theorem dec_numU {s : Str} {n : Nat} (h : numU s = some n) : Lib.decDigits n = s := by
  unfold numU at h
  split at h
  · rename_i hh
    injection h with h
    rw [← h]
    exact dec_natOf s hh.1 hh.2.2.1 hh.2.2.2
  · cases h

theorem itoa_pos {n : Int} (h : 0 ≤ n) : Lib.itoa n = Lib.decDigits n.toNat := by unfold Lib.itoa; rw [if_neg (by omega)]
theorem dec_cons (n : Nat) : ∃ c r, Lib.decDigits n = c :: r ∧ digit c = true := by
  have h := dec_digits n
  match e : Lib.decDigits n with
  | [] => exact absurd e (dec_ne n)
  | c :: r => rw [e] at h; simp at h; exact ⟨c, r, rfl, h.1⟩
theorem num_itoa {n : Int} (h0 : 0 ≤ n) (h : n < 10 ^ 17) : num (Lib.itoa n) = some n := by
  rw [itoa_pos h0]
  obtain ⟨c, r, e, hc⟩ := dec_cons n.toNat
  have h1 := numU_dec (n := n.toNat) (by omega)
  have hne : c ≠ 45 := by intro he; subst he; cases hc
  rw [e] at h1 ⊢
  unfold num
  split
  · rename_i r' heq
    injection heq with h2 _
    exact absurd h2 hne
  · rw [h1]; simp; omega
theorem itoa_num {s : Str} {n : Int} (h : num s = some n) : Lib.itoa n = s := by
  unfold num at h
  split at h
  · rename_i r
    split at h
    · cases h
    · rename_i hh
      cases e : numU r with
      | none => rw [e] at h; cases h
      | some m =>
        rw [e] at h
        simp at h
        have hr := dec_numU e
        have hm : 0 < m := by
          rcases Nat.eq_zero_or_pos m with h0 | h0
          · subst h0
            rw [dec_small (by decide)] at hr
            rw [← hr] at hh
            exact absurd rfl hh
          · exact h0
        subst h
        unfold Lib.itoa
        rw [if_pos (by omega)]
        have : (-(m : Int)).natAbs = m := by omega
        rw [this, hr]
  · cases e : numU s with
    | none => rw [e] at h; cases h
    | some m =>
      rw [e] at h
      simp at h
      subst h
      rw [itoa_pos (by omega), Int.toNat_natCast]
      exact dec_numU e
theorem itoa_inj {a b : Int} (h : Lib.itoa a = Lib.itoa b) (h0 : 0 ≤ a) (h1 : a < 10 ^ 17) (h2 : 0 ≤ b) (h3 : b < 10 ^ 17) : a = b := by
  have := num_itoa h0 h1
  rw [h, num_itoa h2 h3] at this
  injection this with this
  exact this.symm
theorem itoa_noSign {n : Int} (h0 : 0 ≤ n) {c : UInt8} (hc : digit c = false) : c ∉ Lib.itoa n := by
  rw [itoa_pos h0]
  intro hm
  have := List.all_eq_true.1 (dec_digits n.toNat) c hm
  rw [hc] at this
  cases this

/-! ### fields and pieces -/

/-- The text in front of the next space. -/
def fld (s : Str) : Str := s.takeWhile (· != 32)
/-- The text behind the next space. -/
def rst (s : Str) : Str := (s.dropWhile (· != 32)).drop 1
theorem fld_append {a : Str} (b : Str) (h : (32 : UInt8) ∉ a) : fld (a ++ 32 :: b) = a ∧ rst (a ++ 32 :: b) = b := by
  have h1 : ∀ x ∈ a, (x != 32) = true := fun x hx => by
    have : x ≠ 32 := fun e => h (e ▸ hx)
    simpa using this
  unfold fld rst
  rw [List.takeWhile_append_of_pos h1, List.dropWhile_append_of_pos h1]
  simp
theorem fld_all {a : Str} (h : (32 : UInt8) ∉ a) : fld a = a ∧ rst a = [] := by
  have h1 : ∀ x ∈ a, (x != 32) = true := fun x hx => by
    have : x ≠ 32 := fun e => h (e ▸ hx)
    simpa using this
  unfold fld rst
  have h2 : a.takeWhile (· != 32) = a := by
    have := List.takeWhile_append_of_pos (l₂ := []) h1
    simpa using this
  have h3 : a.dropWhile (· != 32) = [] := by
    have := List.dropWhile_append_of_pos (l₂ := []) h1
    simpa using this
  rw [h2, h3]; simp

/-- The pieces of a text between the signs c. -/
def pieces (c : UInt8) : Str → Str → List Str
  | [], cur => [cur]
  | x :: r, cur => if x = c then cur :: pieces c r [] else pieces c r (cur ++ [x])
theorem pieces_ne (c : UInt8) (s cur : Str) : pieces c s cur ≠ [] := by
  induction s generalizing cur with
  | nil => simp [pieces]
  | cons x r ih => simp only [pieces]; split <;> simp [ih]
theorem pieces_noSign {c : UInt8} (l r cur : Str) (h : c ∉ l) : pieces c (l ++ c :: r) cur = (cur ++ l) :: pieces c r [] := by
  induction l generalizing cur with
  | nil => simp [pieces]
  | cons x l ih =>
    have hx : x ≠ c := fun e => h (by rw [e]; simp)
    have hl : c ∉ l := fun e => h (List.mem_cons_of_mem _ e)
    simp only [List.cons_append, pieces]
    rw [if_neg hx, ih _ hl]; simp
theorem pieces_last {c : UInt8} (l cur : Str) (h : c ∉ l) : pieces c l cur = [cur ++ l] := by
  induction l generalizing cur with
  | nil => simp [pieces]
  | cons x l ih =>
    have hx : x ≠ c := fun e => h (by rw [e]; simp)
    have hl : c ∉ l := fun e => h (List.mem_cons_of_mem _ e)
    simp only [pieces]
    rw [if_neg hx, ih _ hl]; simp
/-- Texts with the sign c between. -/
def between (c : UInt8) : List Str → Str
  | [] => []
  | [a] => a
  | a :: b :: r => a ++ c :: between c (b :: r)
theorem pieces_between {c : UInt8} : ∀ {ls : List Str}, ls ≠ [] → (∀ l ∈ ls, c ∉ l) → pieces c (between c ls) [] = ls
  | [], h, _ => absurd rfl h
  | [a], _, h => by rw [between, pieces_last _ _ (h a (by simp))]; simp
  | a :: b :: r, _, h => by
    rw [between, pieces_noSign _ _ _ (h a (by simp)), pieces_between (by simp) (fun l hl => h l (List.mem_cons_of_mem _ hl))]
    simp
theorem between_cons {c : UInt8} (a : Str) : ∀ ls : List Str, between c (a :: ls) = a ++ (ls.map (c :: ·)).flatten
  | [] => by simp [between]
  | b :: r => by rw [between, between_cons b r]; simp

/-! ### kinds -/

def kindTab : List (Int × Str) := [(1, [65]), (2, [78, 83]), (5, [67, 78, 65, 77, 69]), (6, [83, 79, 65]), (12, [80, 84, 82]), (15, [77, 88]), (16, [84, 88, 84])]
def kindName (k : Int) : Str := if k = 1 then [65] else if k = 2 then [78, 83] else if k = 5 then [67, 78, 65, 77, 69] else if k = 6 then [83, 79, 65] else if k = 12 then [80, 84, 82] else if k = 15 then [77, 88] else if k = 16 then [84, 88, 84] else []
def kindOf (s : Str) : Option Int := if s = [65] then some 1 else if s = [78, 83] then some 2 else if s = [67, 78, 65, 77, 69] then some 5 else if s = [83, 79, 65] then some 6 else if s = [80, 84, 82] then some 12 else if s = [77, 88] then some 15 else if s = [84, 88, 84] then some 16 else none
def isKind (k : Int) : Prop := k = 1 ∨ k = 2 ∨ k = 5 ∨ k = 6 ∨ k = 12 ∨ k = 15 ∨ k = 16
theorem kindName_ne {k : Int} : kindName k ≠ [] ↔ isKind k := by
  unfold kindName isKind
  repeat' split
  all_goals simp_all
theorem kindName_kind {k : Int} (h : kindName k ≠ []) : kindOf (kindName k) = some k := by
  rcases kindName_ne.1 h with rfl | rfl | rfl | rfl | rfl | rfl | rfl <;> decide
theorem kindOf_name {s : Str} {k : Int} (h : kindOf s = some k) : kindName k = s ∧ s ≠ [] := by
  unfold kindOf at h
  repeat' split at h
  all_goals first | (injection h with h; subst h; subst_vars; decide) | cases h
theorem kindOf_nil : kindOf [] = none := by decide
theorem kindName_letters (k : Int) : ∀ c ∈ kindName k, 65 ≤ c ∧ c ≤ 90 := by
  unfold kindName
  repeat' split
  all_goals decide
theorem kindName_noSpace (k : Int) : (32 : UInt8) ∉ kindName k := by
  intro h
  have := (kindName_letters k 32 h).1
  exact absurd this (by decide)

/-! ### records -/

structure Rec where
  name : Str
  ttl : Int
  kind : Int
  nums : List Int
  target : Str
  text : Str
deriving DecidableEq

def lims (k : Int) : List Int := if k = 1 then [255, 255, 255, 255] else if k = 6 then [4294967295, 100000, 100000, 100000, 100000] else if k = 15 then [999] else []
def okNums : List Int → List Int → Bool
  | [], [] => true
  | n :: r, m :: q => decide (0 ≤ n) && decide (n ≤ m) && okNums r q
  | _, _ => false
def okChar (c : UInt8) : Bool := 32 ≤ c && c ≤ 126 && c != 34 && c != 92
def okText (s : Str) : Bool := decide (s.length ≤ 20) && s.all okChar
def okRest (k : Int) (target text : Str) : Bool := if k = 1 ∨ k = 16 then decide (target = []) && okText text && (decide (k = 16) || decide (text = [])) else valid target && decide (text = [])
def recValid (r : Rec) : Bool := valid r.name && decide (0 ≤ r.ttl) && decide (r.ttl ≤ 100000) && decide (kindName r.kind ≠ []) && okNums r.nums (lims r.kind) && okRest r.kind r.target r.text
def sameData (a b : Rec) : Bool := decide (a.kind = b.kind) && decide (a.nums = b.nums) && decide (a.target = b.target) && decide (a.text = b.text)
def recSame (a b : Rec) : Bool := decide (a.name = b.name) && decide (a.ttl = b.ttl) && sameData a b
theorem recSame_iff (a b : Rec) : recSame a b = true ↔ a = b := by
  cases a; cases b
  simp [recSame, sameData, and_assoc]
theorem sameData_comm (a b : Rec) : sameData a b = sameData b a := by
  unfold sameData
  simp only [eq_comm]
theorem sameData_self (a : Rec) : sameData a a = true := by simp [sameData]

theorem okNums_length : ∀ {a b : List Int}, okNums a b = true → a.length = b.length
  | [], [], _ => rfl
  | _ :: _, _ :: _, h => by simp [okNums] at h; simp [okNums_length h.2]
  | [], _ :: _, h => by cases h
  | _ :: _, [], h => by cases h
theorem okNums_range : ∀ {a b : List Int}, okNums a b = true → (∀ m ∈ b, m ≤ 4294967295) → ∀ n ∈ a, 0 ≤ n ∧ n ≤ 4294967295
  | [], _, _, _ => by simp
  | n :: r, m :: q, h, hb => by
    simp [okNums] at h
    intro x hx
    rcases List.mem_cons.1 hx with rfl | hx
    · exact ⟨h.1.1, by have := hb m (by simp); omega⟩
    · exact okNums_range h.2 (fun y hy => hb y (List.mem_cons_of_mem _ hy)) x hx
  | _ :: _, [], h, _ => by cases h
theorem lims_le (k : Int) : ∀ m ∈ lims k, m ≤ 4294967295 := by
  unfold lims
  repeat' split
  all_goals decide

theorem recValid_iff {r : Rec} : recValid r = true ↔ valid r.name = true ∧ 0 ≤ r.ttl ∧ r.ttl ≤ 100000 ∧ isKind r.kind ∧ okNums r.nums (lims r.kind) = true ∧ okRest r.kind r.target r.text = true := by
  unfold recValid
  simp only [Bool.and_eq_true, decide_eq_true_eq, kindName_ne, and_assoc]

/-- The text of the data of a valid record. -/
def dataText (k : Int) (nums : List Int) (target text : Str) : Str :=
  if k = 1 then between 46 (nums.map Lib.itoa)
  else if k = 16 then 34 :: (text ++ [34])
  else if k = 15 then Lib.itoa (nums.headD 0) ++ 32 :: target
  else target ++ (nums.map (fun n => 32 :: Lib.itoa n)).flatten
def format (r : Rec) : Str := if recValid r then r.name ++ 32 :: (Lib.itoa r.ttl ++ 32 :: (kindName r.kind ++ 32 :: dataText r.kind r.nums r.target r.text)) else []

/-- The numbers with a sign between, at most seven pieces of them. -/
def numbers (c : UInt8) (s : Str) : Option (List Int) := ((pieces c s []).take 7).mapM num
/-- The data that a text tells for a kind. -/
def put (k : Int) (s : Str) : Option (List Int × Str × Str) :=
  if k = 1 then (numbers 46 s).map (fun n => (n, [], []))
  else if k = 16 then (if 2 ≤ s.length ∧ s.head? = some 34 ∧ s.getLast? = some 34 then some ([], [], (s.drop 1).take (s.length - 2)) else none)
  else if k = 15 then (numbers 32 (fld s)).map (fun n => (n, rst s, []))
  else if rst s = [] then some ([], fld s, []) else (numbers 32 (rst s)).map (fun n => (n, fld s, []))
def parse (s : Str) : Option Rec :=
  match num (fld (rst s)), kindOf (fld (rst (rst s))) with
  | some n, some k =>
    match put k (rst (rst (rst s))) with
    | some (nums, target, text) => if recValid ⟨fld s, n, k, nums, target, text⟩ && decide (format ⟨fld s, n, k, nums, target, text⟩ = s) then some ⟨fld s, n, k, nums, target, text⟩ else none
    | none => none
  | _, _ => none

theorem parse_some {s : Str} {r : Rec} (h : parse s = some r) : recValid r = true ∧ format r = s := by
  unfold parse at h
  split at h
  · split at h
    · split at h
      · rename_i hh
        injection h with h
        subst h
        simpa using hh
      · cases h
    · cases h
  · cases h

theorem mapM_num {ns : List Int} (h : ∀ n ∈ ns, 0 ≤ n ∧ n ≤ 4294967295) : (ns.map Lib.itoa).mapM num = some ns := by
  induction ns with
  | nil => rfl
  | cons n r ih =>
    have h1 := h n (by simp)
    rw [List.map_cons, List.mapM_cons, num_itoa h1.1 (by omega), ih (fun x hx => h x (List.mem_cons_of_mem _ hx))]
    rfl
theorem numbers_between {c : UInt8} (hc : digit c = false) {ns : List Int} (h : ∀ n ∈ ns, 0 ≤ n ∧ n ≤ 4294967295) (h7 : ns.length ≤ 7) (h1 : ns ≠ []) : numbers c (between c (ns.map Lib.itoa)) = some ns := by
  unfold numbers
  rw [pieces_between (by simpa using h1) (fun l hl => by
    obtain ⟨n, hn, rfl⟩ := List.mem_map.1 hl
    exact itoa_noSign (h n hn).1 hc), List.take_of_length_le (by simpa using h7), mapM_num h]

theorem name_noSpace {s : Str} (h : valid s = true) : (32 : UInt8) ∉ s := by
  intro hm
  rcases name_bytes h 32 hm with h1 | h1 | h1
  · revert h1; decide
  · revert h1; decide
  · revert h1; decide
theorem name_noQuote {s : Str} (h : valid s = true) : (34 : UInt8) ∉ s := by
  intro hm
  rcases name_bytes h 34 hm with h1 | h1 | h1
  · revert h1; decide
  · revert h1; decide
  · revert h1; decide

theorem put_data {r : Rec} (h : recValid r = true) : put r.kind (dataText r.kind r.nums r.target r.text) = some (r.nums, r.target, r.text) := by
  obtain ⟨_, _, _, hk, hn, hr⟩ := recValid_iff.1 h
  have hl := okNums_length hn
  have hrg := okNums_range hn (lims_le _)
  obtain ⟨name, ttl, kind, nums, target, text⟩ := r
  dsimp only at hk hn hr hl hrg ⊢
  rcases hk with rfl | rfl | rfl | rfl | rfl | rfl | rfl
  · simp [okRest] at hr
    simp [lims] at hl
    rw [dataText, if_pos rfl, put, if_pos rfl, numbers_between (by decide) hrg (by omega) (by intro e; subst e; simp at hl)]
    obtain ⟨⟨rfl, _⟩, rfl⟩ := hr
    rfl
  · simp [okRest] at hr
    simp [lims] at hl
    obtain ⟨ht, rfl⟩ := hr
    have hs := fld_all (name_noSpace ht)
    subst hl
    simp [dataText, put, hs.1, hs.2]
  · simp [okRest] at hr
    simp [lims] at hl
    obtain ⟨ht, rfl⟩ := hr
    have hs := fld_all (name_noSpace ht)
    subst hl
    simp [dataText, put, hs.1, hs.2]
  · simp [okRest] at hr
    simp [lims] at hl
    obtain ⟨ht, rfl⟩ := hr
    obtain ⟨n0, ns, rfl⟩ : ∃ n0 ns, nums = n0 :: ns := by
      match nums, hl with
      | a :: b, _ => exact ⟨a, b, rfl⟩
    have hd : dataText 6 (n0 :: ns) target [] = target ++ 32 :: between 32 ((n0 :: ns).map Lib.itoa) := by
      rw [List.map_cons, between_cons]
      simp [dataText, List.map_map, Function.comp_def]
    have hs := fld_append (between 32 ((n0 :: ns).map Lib.itoa)) (name_noSpace ht)
    have hne : between 32 ((n0 :: ns).map Lib.itoa) ≠ [] := by
      rw [List.map_cons, between_cons]
      intro e
      have := (List.append_eq_nil_iff.1 e).1
      rw [itoa_pos (hrg n0 (by simp)).1] at this
      exact dec_ne _ this
    rw [hd]
    unfold put
    rw [if_neg (by decide), if_neg (by decide), if_neg (by decide), hs.1, hs.2, if_neg hne, numbers_between (by decide) hrg (by omega) (by simp)]
    rfl
  · simp [okRest] at hr
    simp [lims] at hl
    obtain ⟨ht, rfl⟩ := hr
    have hs := fld_all (name_noSpace ht)
    subst hl
    simp [dataText, put, hs.1, hs.2]
  · simp [okRest] at hr
    simp [lims] at hl
    obtain ⟨ht, rfl⟩ := hr
    obtain ⟨n0, rfl⟩ : ∃ n0, nums = [n0] := List.length_eq_one_iff.1 hl
    have h0 := hrg n0 (by simp)
    have hs := fld_append target (itoa_noSign h0.1 (c := 32) (by decide))
    have hnb := numbers_between (c := 32) (by decide) hrg (by simp) (by simp)
    simp only [List.map_cons, List.map_nil, between] at hnb
    unfold put dataText
    rw [if_neg (by decide), if_neg (by decide), if_pos rfl, if_neg (by decide), if_neg (by decide), if_pos rfl]
    simp only [List.headD_cons]
    rw [hs.1, hs.2, hnb]
    rfl
  · simp [okRest] at hr
    simp [lims] at hl
    obtain ⟨rfl, _⟩ := hr
    subst hl
    have hd : dataText 16 [] [] text = 34 :: (text ++ [34]) := by unfold dataText; rw [if_neg (by decide), if_pos rfl]
    rw [hd]
    unfold put
    rw [if_neg (by decide), if_pos rfl, if_pos]
    · simp
    · refine ⟨by simp, by simp, ?_⟩
      rw [← List.cons_append, List.getLast?_append]
      simp

theorem parse_format {r : Rec} (h : recValid r = true) : parse (format r) = some r := by
  obtain ⟨h1, h2, h3, hk, _, _⟩ := recValid_iff.1 h
  have hp := put_data h
  have hkn := kindName_kind (kindName_ne.2 hk)
  have hnum := num_itoa h2 (by omega)
  have hf : format r = r.name ++ 32 :: (Lib.itoa r.ttl ++ 32 :: (kindName r.kind ++ 32 :: dataText r.kind r.nums r.target r.text)) := by unfold format; rw [if_pos h]
  have a1 := fld_append (Lib.itoa r.ttl ++ 32 :: (kindName r.kind ++ 32 :: dataText r.kind r.nums r.target r.text)) (name_noSpace h1)
  have a2 := fld_append (kindName r.kind ++ 32 :: dataText r.kind r.nums r.target r.text) (itoa_noSign h2 (c := 32) (by decide))
  have a3 := fld_append (dataText r.kind r.nums r.target r.text) (kindName_noSpace r.kind)
  unfold parse
  rw [← hf] at a1
  rw [a1.1, a1.2, a2.1, a2.2, a3.1, a3.2, hnum, hkn]
  dsimp only
  rw [hp]
  dsimp only
  have e : (⟨r.name, r.ttl, r.kind, r.nums, r.target, r.text⟩ : Rec) = r := by cases r; rfl
  rw [e, h]
  simp
theorem parse_iff {s : Str} {r : Rec} : parse s = some r ↔ recValid r = true ∧ format r = s :=
  ⟨parse_some, fun h => by rw [← h.2]; exact parse_format h.1⟩
theorem format_inj {a b : Rec} (ha : recValid a = true) (hb : recValid b = true) (h : format a = format b) : a = b := by
  have := parse_format ha
  rw [h, parse_format hb] at this
  injection this with this
  exact this.symm
theorem format_nil {r : Rec} : format r = [] ↔ recValid r = false := by
  unfold format
  cases h : recValid r <;> simp
theorem parse_nil : parse [] = none := by decide
theorem parse_format_any (r : Rec) : parse (format r) = if recValid r then some r else none := by
  by_cases h : recValid r = true
  · rw [parse_format h, if_pos h]
  · have h' : recValid r = false := by simpa using h
    rw [format_nil.2 h', parse_nil, h']; rfl

end Go.Proofs.Ytgglakonkphbgaa.Z

namespace Go.Proofs.Ytgglakonkphbgaa.Z

/-! ### the order -/

def ltInts : List Int → List Int → Bool
  | n :: r, m :: q => if n = m then ltInts r q else decide (n < m)
  | _, _ => false
def ltName (a b : Str) : Bool := ltRev (labs a).reverse (labs b).reverse
def ltRec (a b : Rec) : Bool :=
  if a.name = b.name then
    if a.kind = b.kind then
      if a.nums = b.nums then
        if a.target = b.target then
          if a.text = b.text then decide (a.ttl < b.ttl) else decide (a.text < b.text)
        else ltName a.target b.target
      else ltInts a.nums b.nums
    else decide (a.kind < b.kind)
  else ltName a.name b.name
def recBefore (a b : Rec) : Bool := recValid a && recValid b && ltRec a b

theorem ltInts_irrefl (a : List Int) : ltInts a a = false := by
  induction a with
  | nil => rfl
  | cons n r ih => simp [ltInts, ih]
theorem ltInts_trans : ∀ {a b c : List Int}, ltInts a b = true → ltInts b c = true → ltInts a c = true
  | n :: r, m :: q, k :: p, h1, h2 => by
    unfold ltInts at h1 h2 ⊢
    by_cases e1 : n = m
    · subst e1
      rw [if_pos rfl] at h1
      by_cases e2 : n = k
      · subst e2
        rw [if_pos rfl] at h2 ⊢
        exact ltInts_trans h1 h2
      · rw [if_neg e2] at h2 ⊢
        exact h2
    · rw [if_neg e1] at h1
      by_cases e2 : m = k
      · subst e2
        rw [if_neg e1]
        exact h1
      · rw [if_neg e2] at h2
        simp only [decide_eq_true_eq] at h1 h2
        rw [if_neg (by omega)]
        simp only [decide_eq_true_eq]; omega
  | [], _, _, h1, _ => by simp [ltInts] at h1
  | _ :: _, [], _, h1, _ => by simp [ltInts] at h1
  | _ :: _, _ :: _, [], _, h2 => by simp [ltInts] at h2
theorem ltInts_total : ∀ {a b : List Int}, a.length = b.length → a ≠ b → ltInts a b = true ∨ ltInts b a = true
  | [], [], _, h => absurd rfl h
  | n :: r, m :: q, hl, h => by
    unfold ltInts
    by_cases e : n = m
    · subst e
      rw [if_pos rfl, if_pos rfl]
      exact ltInts_total (by simpa using hl) (fun e => h (by rw [e]))
    · rw [if_neg e, if_neg (Ne.symm e)]
      simp only [decide_eq_true_eq]; omega
  | [], _ :: _, hl, _ => by simp at hl
  | _ :: _, [], hl, _ => by simp at hl
theorem ltName_irrefl (a : Str) : ltName a a = false := ltRev_irrefl _
theorem ltName_trans {a b c : Str} (h : ltName a b = true) (k : ltName b c = true) : ltName a c = true := ltRev_trans h k
theorem ltName_total {a b : Str} (ha : valid a = true) (hb : valid b = true) (h : a ≠ b) : ltName a b = true ∨ ltName b a = true :=
  ltRev_total (fun e => h (labs_inj ha hb (by have := congrArg List.reverse e; rwa [List.reverse_reverse, List.reverse_reverse] at this)))
theorem before_name (a b : Str) : before a b = (valid a && valid b && ltName a b) := rfl
theorem str_trans {a b c : Str} (h : a < b) (k : b < c) : a < c := List.lt_trans h k
theorem str_total {a b : Str} (h : a ≠ b) : a < b ∨ b < a := by
  by_cases h1 : a < b
  · exact Or.inl h1
  · by_cases h2 : b < a
    · exact Or.inr h2
    · exact absurd (List.le_antisymm (List.not_lt.1 h2) (List.not_lt.1 h1)) h

theorem lex_trans {α : Type} [DecidableEq α] {x y z : α} {l1 l2 l3 r1 r2 r3 : Bool} (h : (if x = y then r1 else l1) = true) (k : (if y = z then r2 else l2) = true)
    (hr : x = y → y = z → r1 = true → r2 = true → r3 = true) (hl : l1 = true → l2 = true → l3 = true ∧ x ≠ z)
    (hxy : x = y → l2 = l3) (hyz : y = z → l1 = l3) : (if x = z then r3 else l3) = true := by
  by_cases e1 : x = y
  · rw [if_pos e1] at h
    by_cases e2 : y = z
    · rw [if_pos e2] at k
      rw [if_pos (e1.trans e2)]
      exact hr e1 e2 h k
    · rw [if_neg e2] at k
      rw [if_neg (fun e => e2 (e1 ▸ e)), ← hxy e1]
      exact k
  · rw [if_neg e1] at h
    by_cases e2 : y = z
    · rw [if_pos e2] at k
      rw [if_neg (fun e => e1 (e.trans e2.symm)), ← hyz e2]
      exact h
    · rw [if_neg e2] at k
      obtain ⟨p, q⟩ := hl h k
      rw [if_neg q]
      exact p

theorem ltRec_irrefl (a : Rec) : ltRec a a = false := by simp [ltRec]
theorem ltName_ne {a b c : Str} (h : ltName a b = true) (k : ltName b c = true) : a ≠ c := by
  intro e; subst e
  have := ltName_trans h k
  rw [ltName_irrefl] at this; cases this
theorem ltInts_ne {a b c : List Int} (h : ltInts a b = true) (k : ltInts b c = true) : a ≠ c := by
  intro e; subst e
  have := ltInts_trans h k
  rw [ltInts_irrefl] at this; cases this

theorem ltRec_trans {a b c : Rec} (h : ltRec a b = true) (k : ltRec b c = true) : ltRec a c = true := by
  unfold ltRec at h k ⊢
  refine lex_trans h k (fun _ _ h k => lex_trans h k (fun _ _ h k => lex_trans h k (fun _ _ h k => lex_trans h k (fun _ _ h k => lex_trans h k (fun _ _ h k => ?_) ?_ ?_ ?_) ?_ ?_ ?_) ?_ ?_ ?_) ?_ ?_ ?_) ?_ ?_ ?_
  · simp only [decide_eq_true_eq] at h k ⊢; omega
  · intro h k
    simp only [decide_eq_true_eq] at h k ⊢
    exact ⟨str_trans h k, fun e => lt_irrefl' _ (e ▸ str_trans h k)⟩
  · intro e; rw [e]
  · intro e; rw [e]
  · exact fun h k => ⟨ltName_trans h k, ltName_ne h k⟩
  · intro e; rw [e]
  · intro e; rw [e]
  · exact fun h k => ⟨ltInts_trans h k, ltInts_ne h k⟩
  · intro e; rw [e]
  · intro e; rw [e]
  · intro h k
    simp only [decide_eq_true_eq] at h k ⊢
    exact ⟨by omega, by omega⟩
  · intro e; rw [e]
  · intro e; rw [e]
  · exact fun h k => ⟨ltName_trans h k, ltName_ne h k⟩
  · intro e; rw [e]
  · intro e; rw [e]

theorem recBefore_iff {a b : Rec} : recBefore a b = true ↔ recValid a = true ∧ recValid b = true ∧ ltRec a b = true := by simp [recBefore, and_assoc]
theorem recBefore_trans {a b c : Rec} (h : recBefore a b = true) (k : recBefore b c = true) : recBefore a c = true := by
  rw [recBefore_iff] at h k ⊢
  exact ⟨h.1, k.2.1, ltRec_trans h.2.2 k.2.2⟩
theorem recBefore_asymm {a b : Rec} (h : recBefore a b = true) : recBefore b a = false := by
  rw [Bool.eq_false_iff]
  intro k
  have := (recBefore_iff.1 (recBefore_trans h k)).2.2
  rw [ltRec_irrefl] at this; cases this
theorem recBefore_irrefl (a : Rec) : recBefore a a = false := by simp [recBefore, ltRec_irrefl]

theorem okRest_target {k : Int} {t x : Str} (h : okRest k t x = true) : (k = 1 ∨ k = 16) ∧ t = [] ∨ ¬ (k = 1 ∨ k = 16) ∧ valid t = true ∧ x = [] := by
  unfold okRest at h
  split at h
  · rename_i hk
    simp at h
    exact Or.inl ⟨hk, h.1.1⟩
  · rename_i hk
    simp at h
    exact Or.inr ⟨hk, h⟩
theorem ltRec_total {a b : Rec} (ha : recValid a = true) (hb : recValid b = true) (h : a ≠ b) : ltRec a b = true ∨ ltRec b a = true := by
  obtain ⟨a1, _, _, a4, a5, a6⟩ := recValid_iff.1 ha
  obtain ⟨b1, _, _, b4, b5, b6⟩ := recValid_iff.1 hb
  unfold ltRec
  by_cases e1 : a.name = b.name
  · rw [if_pos e1, if_pos e1.symm]
    by_cases e2 : a.kind = b.kind
    · rw [if_pos e2, if_pos e2.symm]
      by_cases e3 : a.nums = b.nums
      · rw [if_pos e3, if_pos e3.symm]
        by_cases e4 : a.target = b.target
        · rw [if_pos e4, if_pos e4.symm]
          by_cases e5 : a.text = b.text
          · rw [if_pos e5, if_pos e5.symm]
            have : a.ttl ≠ b.ttl := fun e6 => h (by cases a; cases b; simp_all)
            simp only [decide_eq_true_eq]; omega
          · rw [if_neg e5, if_neg (Ne.symm e5)]
            simp only [decide_eq_true_eq]
            exact str_total e5
        · rw [if_neg e4, if_neg (Ne.symm e4)]
          rw [← e2] at b6
          rcases okRest_target a6 with ⟨p, q⟩ | ⟨p, q, _⟩
          · rcases okRest_target b6 with ⟨_, q'⟩ | ⟨p', _⟩
            · exact absurd (q.trans q'.symm) e4
            · exact absurd p p'
          · rcases okRest_target b6 with ⟨p', _⟩ | ⟨_, q', _⟩
            · exact absurd p' p
            · exact ltName_total q q' e4
      · rw [if_neg e3, if_neg (Ne.symm e3)]
        exact ltInts_total (by rw [okNums_length a5, okNums_length b5, e2]) e3
    · rw [if_neg e2, if_neg (Ne.symm e2)]
      simp only [decide_eq_true_eq]; omega
  · rw [if_neg e1, if_neg (Ne.symm e1)]
    exact ltName_total a1 b1 e1
theorem recBefore_total {a b : Rec} (ha : recValid a = true) (hb : recValid b = true) : (recBefore a b || recBefore b a) = !recSame a b := by
  by_cases e : a = b
  · rw [(recSame_iff a b).2 e, e, recBefore_irrefl]; rfl
  · have h1 : recSame a b = false := by
      rw [Bool.eq_false_iff]; exact fun h => e ((recSame_iff a b).1 h)
    rw [h1]
    simp only [recBefore, ha, hb, Bool.true_and]
    rcases ltRec_total ha hb e with h | h <;> simp [h]

/-! ### what the laws ask -/

theorem recBefore_names {a b : Rec} (ha : recValid a = true) (hb : recValid b = true) (h : a.name ≠ b.name) : recBefore a b = before a.name b.name := by
  have h1 := (recValid_iff.1 ha).1
  have h2 := (recValid_iff.1 hb).1
  unfold recBefore ltRec
  rw [ha, hb, if_neg h, before_name, h1, h2]
theorem recBefore_kinds {a b : Rec} (ha : recValid a = true) (hb : recValid b = true) (h : a.name = b.name) (hk : a.kind ≠ b.kind) : recBefore a b = decide (a.kind < b.kind) := by
  unfold recBefore ltRec
  rw [ha, hb, if_pos h, if_neg hk]; rfl

theorem valid_ttl {r : Rec} {t : Int} (h : recValid r = true) (h0 : 0 ≤ t) (h1 : t ≤ 100000) : recValid { r with ttl := t } = true := by
  rw [recValid_iff] at h ⊢
  exact ⟨h.1, h0, h1, h.2.2.2⟩
theorem before_ttl {r : Rec} {t : Int} (h : recValid r = true) (h0 : 0 ≤ t) (h1 : t ≤ 100000) : recBefore r { r with ttl := t } = decide (r.ttl < t) := by
  unfold recBefore
  rw [h, valid_ttl h h0 h1]
  simp [ltRec]
theorem same_ttl (r : Rec) (t : Int) : sameData { r with ttl := t } r = true := by simp [sameData]
theorem format_ttl {r : Rec} {t : Int} (h : recValid r = true) (h0 : 0 ≤ t) (h1 : t ≤ 100000) (hne : t ≠ r.ttl) : format { r with ttl := t } ≠ format r := by
  intro e
  have := format_inj (valid_ttl h h0 h1) h e
  exact hne (congrArg Rec.ttl this)

theorem valid_name {r : Rec} {n : Str} (h : recValid r = true) (hn : valid n = true) : recValid { r with name := n } = true := by
  rw [recValid_iff] at h ⊢
  exact ⟨hn, h.2⟩
theorem before_move {r : Rec} {n m : Str} (h : recValid r = true) (hn : valid n = true) (hm : valid m = true) (hne : n ≠ m) : recBefore { r with name := n } { r with name := m } = before n m := by
  rw [recBefore_names (valid_name h hn) (valid_name h hm) hne]
theorem root_before {n : Str} (hn : valid n = true) (hne : n ≠ [46]) : before [46] n = true := by
  rw [before_name, valid_root, hn]
  unfold ltName
  rw [labs_root]
  have h1 : labs n ≠ [] := fun e => hne ((labs_nil hn).1 e)
  have h2 : (labs n).reverse ≠ [] := by simpa using h1
  match e : (labs n).reverse with
  | [] => exact absurd e h2
  | a :: b => rfl
theorem valid_zz : valid [122, 122, 46] = true := by decide
theorem root_zz : before [46] [122, 122, 46] = true := root_before valid_zz (by decide)

theorem okText_nil : okText [] = true := by decide
def bare (k : Int) : Prop := k = 2 ∨ k = 5 ∨ k = 12
theorem valid_kind {r : Rec} (h : recValid r = true) (k : Int) : recValid { r with kind := k } = true ↔ k = r.kind ∨ bare r.kind ∧ bare k := by
  obtain ⟨a1, a2, a3, a4, a5, a6⟩ := recValid_iff.1 h
  obtain ⟨name, ttl, kind, nums, target, text⟩ := r
  dsimp only at *
  constructor
  · intro hk
    obtain ⟨_, _, _, b4, b5, b6⟩ := recValid_iff.1 hk
    dsimp only at b4 b5 b6
    have hl := okNums_length a5
    have hl2 := okNums_length b5
    rw [hl] at hl2
    have hv : ∀ t : Str, t = [] → valid t = false := fun t e => by subst e; decide
    rcases okRest_target a6 with ⟨p, q⟩ | ⟨p, q, _⟩
    · rcases okRest_target b6 with ⟨p', q'⟩ | ⟨p', q', _⟩
      · rcases p with rfl | rfl <;> rcases p' with rfl | rfl <;> simp_all [lims]
      · rw [hv _ q] at q'; cases q'
    · rcases okRest_target b6 with ⟨p', q'⟩ | ⟨p', q', _⟩
      · rw [hv _ q'] at q; cases q
      · rcases a4 with rfl | rfl | rfl | rfl | rfl | rfl | rfl <;> rcases b4 with rfl | rfl | rfl | rfl | rfl | rfl | rfl <;> simp_all [lims, bare]
  · rintro (e | ⟨h1, h2⟩)
    · subst e; exact h
    · rw [recValid_iff]
      refine ⟨a1, a2, a3, ?_, ?_, ?_⟩
      · rcases h2 with rfl | rfl | rfl <;> simp [isKind]
      · have e1 : lims kind = [] := by rcases h1 with rfl | rfl | rfl <;> rfl
        have e2 : lims k = [] := by rcases h2 with rfl | rfl | rfl <;> rfl
        rw [e1] at a5
        rw [e2]; exact a5
      · have e1 : okRest kind target text = (valid target && decide (text = [])) := by rcases h1 with rfl | rfl | rfl <;> rfl
        have e2 : okRest k target text = (valid target && decide (text = [])) := by rcases h2 with rfl | rfl | rfl <;> rfl
        rw [e1] at a6
        rw [e2]; exact a6

theorem last_append {a b : Str} (h : b ≠ []) : (a ++ b).getLast? = b.getLast? := by
  rw [List.getLast?_append]
  cases e : b.getLast? with
  | none => exact absurd (List.getLast?_eq_none_iff.1 e) h
  | some c => rfl
theorem last_cons {a : UInt8} {b : Str} (h : b ≠ []) : (a :: b).getLast? = b.getLast? := last_append (a := [a]) h
theorem last_itoa {n : Int} (h : 0 ≤ n) : (Lib.itoa n).getLast? ≠ some 32 := by
  intro e
  exact itoa_noSign h (c := 32) (by decide) (List.mem_of_getLast? e)
theorem itoa_ne {n : Int} (h : 0 ≤ n) : Lib.itoa n ≠ [] := by rw [itoa_pos h]; exact dec_ne _
theorem last_nums : ∀ {ns : List Int}, (∀ n ∈ ns, 0 ≤ n ∧ n ≤ 4294967295) → ns ≠ [] → (ns.map (fun n => 32 :: Lib.itoa n)).flatten ≠ [] ∧ (ns.map (fun n => 32 :: Lib.itoa n)).flatten.getLast? ≠ some 32
  | [], _, h => absurd rfl h
  | [a], h, _ => by
    have ha := (h a (by simp)).1
    simp only [List.map_cons, List.map_nil, List.flatten_cons, List.flatten_nil, List.append_nil]
    exact ⟨by simp, by rw [last_cons (itoa_ne ha)]; exact last_itoa ha⟩
  | a :: b :: r, h, _ => by
    obtain ⟨h1, h2⟩ := last_nums (ns := b :: r) (fun n hn => h n (List.mem_cons_of_mem _ hn)) (by simp)
    rw [List.map_cons, List.flatten_cons]
    exact ⟨by simp, by rw [last_append h1]; exact h2⟩
theorem last_data {r : Rec} (h : recValid r = true) : dataText r.kind r.nums r.target r.text ≠ [] ∧ (dataText r.kind r.nums r.target r.text).getLast? ≠ some 32 := by
  obtain ⟨_, _, _, hk, hn, hr⟩ := recValid_iff.1 h
  have hl := okNums_length hn
  have hrg := okNums_range hn (lims_le _)
  obtain ⟨name, ttl, kind, nums, target, text⟩ := r
  dsimp only at hk hn hr hl hrg ⊢
  by_cases h1 : kind = 1
  · subst h1
    match nums, hl with
    | [a, b, c, d], _ =>
      have hd := (hrg d (by simp)).1
      simp only [dataText, if_pos, List.map_cons, List.map_nil, between]
      refine ⟨by simp, ?_⟩
      rw [last_append (by simp), last_cons (by simp), last_append (by simp), last_cons (by simp), last_append (by simp), last_cons (itoa_ne hd)]
      exact last_itoa hd
  · by_cases h16 : kind = 16
    · subst h16
      have hd : dataText 16 nums target text = 34 :: (text ++ [34]) := by unfold dataText; rw [if_neg (by decide), if_pos rfl]
      rw [hd]
      refine ⟨by simp, ?_⟩
      rw [last_cons (by simp), last_append (by simp)]
      decide
    · rcases okRest_target hr with ⟨p, _⟩ | ⟨_, ht, _⟩
      · exact absurd p (by omega)
      · have htl := valid_last ht
        have htn : target ≠ [] := by intro e; subst e; revert ht; decide
        by_cases h15 : kind = 15
        · subst h15
          have hd : dataText 15 nums target text = Lib.itoa (nums.headD 0) ++ 32 :: target := by unfold dataText; rw [if_neg (by decide), if_neg (by decide), if_pos rfl]
          rw [hd]
          refine ⟨by simp, ?_⟩
          rw [last_append (by simp), last_cons htn, htl]
          decide
        · have hd : dataText kind nums target text = target ++ (nums.map (fun n => 32 :: Lib.itoa n)).flatten := by unfold dataText; rw [if_neg h1, if_neg h16, if_neg h15]
          rw [hd]
          by_cases hne : nums = []
          · subst hne
            simp only [List.map_nil, List.flatten_nil, List.append_nil]
            exact ⟨htn, by rw [htl]; decide⟩
          · obtain ⟨k1, k2⟩ := last_nums hrg hne
            exact ⟨by simp [htn], by rw [last_append k1]; exact k2⟩
theorem last_format {r : Rec} (h : recValid r = true) : (format r).getLast? ≠ some 32 := by
  unfold format
  rw [if_pos h]
  obtain ⟨h1, h2⟩ := last_data h
  rw [last_append (by simp), last_cons (by simp), last_append (by simp), last_cons (by simp), last_append (by simp), last_cons h1]
  exact h2
theorem head_format {r : Rec} (h : recValid r = true) : (format r).head? ≠ some 32 := by
  unfold format
  rw [if_pos h]
  have hn := (recValid_iff.1 h).1
  have h2 : r.name ≠ [] := by intro e; rw [e] at hn; revert hn; decide
  rw [head_snoc h2]
  intro e
  exact name_noSpace hn (List.mem_of_head? e)
theorem parse_behind (s : Str) : parse (s ++ [32]) = none := by
  cases e : parse (s ++ [32]) with
  | none => rfl
  | some r =>
    obtain ⟨h1, h2⟩ := parse_some e
    have := last_format h1
    rw [h2, last_append (by simp)] at this
    exact absurd rfl this
theorem parse_front (s : Str) : parse (32 :: s) = none := by
  cases e : parse (32 :: s) with
  | none => rfl
  | some r =>
    obtain ⟨h1, h2⟩ := parse_some e
    have := head_format h1
    rw [h2] at this
    exact absurd rfl this

/-! ### how long things are -/

theorem valid_sizes {r : Rec} (h : recValid r = true) : r.name.length ≤ 60 ∧ r.nums.length ≤ 5 ∧ r.target.length ≤ 60 ∧ r.text.length ≤ 20 := by
  obtain ⟨h1, _, _, _, h5, h6⟩ := recValid_iff.1 h
  have hl := okNums_length h5
  have h5' : (lims r.kind).length ≤ 5 := by
    unfold lims
    repeat' split
    all_goals decide
  refine ⟨(valid_len h1).2, by omega, ?_, ?_⟩
  · rcases okRest_target h6 with ⟨_, q⟩ | ⟨_, q, _⟩
    · rw [q]; simp
    · exact (valid_len q).2
  · unfold okRest at h6
    split at h6
    · simp [okText] at h6; omega
    · simp at h6; rw [h6.2]; simp

end Go.Proofs.Ytgglakonkphbgaa.Z

namespace Go.Proofs.Ytgglakonkphbgaa.Z

/-! ### numbers up to a limit -/

def readNum (t : Str) (most : Int) : Option Int :=
  if t ≠ [] ∧ t.all digit = true ∧ ¬ (t.head? = some 48 ∧ 1 < t.length) ∧ (natOf t : Int) ≤ most then some (natOf t) else none

theorem natOf_le_snoc (s : Str) (c : UInt8) : natOf s ≤ natOf (s ++ [c]) := by rw [natOf_snoc]; omega
theorem natOf_le_append (s t : Str) : natOf s ≤ natOf (s ++ t) := by
  induction t generalizing s with
  | nil => simp
  | cons c r ih =>
    have h := ih (s ++ [c])
    rw [List.append_assoc] at h
    exact Nat.le_trans (natOf_le_snoc s c) h
theorem natOf_take_le (s : Str) (k : Nat) : natOf (s.take k) ≤ natOf s := by
  have h := natOf_le_append (s.take k) (s.drop k)
  rwa [List.take_append_drop] at h
theorem canon_len {s : Str} (h1 : s ≠ []) (h2 : s.all digit = true) (h3 : ¬ (s.head? = some 48 ∧ 1 < s.length)) (h : natOf s < 10 ^ 17) : s.length ≤ 17 := by
  have h4 := dec_natOf s h1 h2 h3
  have h5 := dec_len h (by decide)
  rwa [h4] at h5
theorem digit_not_sign : digit 45 = false := by decide
theorem num_plain {s : Str} (h : s.all digit = true) : num s = (numU s).map (fun n => (n : Int)) := by
  unfold num
  split
  · rename_i r
    simp [digit_not_sign] at h
  · rfl
theorem readNum_iff {t : Str} {most n : Int} (hm : most < 10 ^ 17) : readNum t most = some n ↔ num t = some n ∧ 0 ≤ n ∧ n ≤ most := by
  constructor
  · intro h
    unfold readNum at h
    split at h
    · rename_i hc
      obtain ⟨h1, h2, h3, h4⟩ := hc
      injection h with h
      subst h
      refine ⟨?_, by omega, h4⟩
      rw [num_plain h2]
      unfold numU
      rw [if_pos ⟨h1, canon_len h1 h2 h3 (by omega), h2, h3⟩]
      rfl
    · cases h
  · rintro ⟨h, h0, h1⟩
    have h2 := itoa_num h
    rw [itoa_pos h0] at h2
    have h3 := dec_digits n.toNat
    rw [h2] at h3
    rw [num_plain h3] at h
    unfold numU at h
    split at h
    · rename_i hc
      have h4 : ((natOf t : Nat) : Int) = n := Option.some.inj h
      unfold readNum
      rw [if_pos ⟨hc.1, h3, hc.2.2.2, by omega⟩, h4]
    · cases h
theorem readNum_some {t : Str} {most n : Int} (hm : most < 10 ^ 17) (h : readNum t most = some n) : Lib.itoa n = t ∧ 0 ≤ n ∧ n ≤ most :=
  have h1 := (readNum_iff hm).1 h
  ⟨itoa_num h1.1, h1.2⟩
theorem readNum_itoa {most n : Int} (hm : most < 10 ^ 17) (h0 : 0 ≤ n) (h1 : n ≤ most) : readNum (Lib.itoa n) most = some n :=
  (readNum_iff hm).2 ⟨num_itoa h0 (by omega), h0, h1⟩

/-! ### pieces of a text -/

theorem index_one (c : UInt8) : ∀ s : Str, Lib.index s [c] = if c ∈ s then ((s.takeWhile (· != c)).length : Int) else -1
  | [] => by simp [Lib.index]
  | b :: l => by
    rw [Lib.index, index_one c l]
    by_cases h : b = c
    · subst h; simp [List.isPrefixOf]
    · have hp : ([c] : List UInt8).isPrefixOf (b :: l) = false := by simp [List.isPrefixOf, Ne.symm h]
      have hm : c ∈ b :: l ↔ c ∈ l := by simp [Ne.symm h]
      rw [hp]
      by_cases hc : c ∈ l
      · rw [if_pos (hm.2 hc), if_pos hc]
        have hb : (b != c) = true := by simpa using h
        rw [List.takeWhile_cons, if_pos hb, List.length_cons]
        have : ¬ ((((l.takeWhile (· != c)).length : Int)) == -1) = true := by rw [beq_iff_eq]; omega
        rw [if_neg (by decide), if_neg this]
        omega
      · rw [if_neg (fun e => hc (hm.1 e)), if_neg hc]; rfl

def hd (c : UInt8) (s : Str) : Str := s.takeWhile (· != c)
def tl (c : UInt8) (s : Str) : Str := (s.dropWhile (· != c)).drop 1
theorem cut_at {c : UInt8} {s : Str} (h : c ∈ s) : s = hd c s ++ c :: tl c s := by
  induction s with
  | nil => cases h
  | cons b l ih =>
    by_cases e : b = c
    · subst e; simp [hd, tl]
    · have hl : c ∈ l := by
        rcases List.mem_cons.1 h with h | h
        · exact absurd h.symm e
        · exact h
      have hb : (b != c) = true := by simpa using e
      have := ih hl
      unfold hd tl at this ⊢
      rw [List.takeWhile_cons, List.dropWhile_cons, if_pos hb, if_pos hb, List.cons_append, ← this]
theorem hd_not (c : UInt8) (s : Str) : c ∉ hd c s := fun h => by
  have := List.all_eq_true.1 (List.all_takeWhile (p := (· != c)) (l := s)) _ h
  simp at this
theorem hd_eq (c : UInt8) (r : Str) : hd c (c :: r) = [] := by simp [hd]
theorem hd_ne {b c : UInt8} (h : b ≠ c) (r : Str) : hd c (b :: r) = b :: hd c r := by simp [hd, h]
theorem tl_eq (c : UInt8) (r : Str) : tl c (c :: r) = r := by simp [tl]
theorem tl_ne {b c : UInt8} (h : b ≠ c) (r : Str) : tl c (b :: r) = tl c r := by simp [tl, h]
theorem take_hd (c : UInt8) (s : Str) : s.take (hd c s).length = hd c s := by
  induction s with
  | nil => rfl
  | cons b r ih =>
    by_cases h : b = c
    · subst h; rw [hd_eq]; rfl
    · rw [hd_ne h, List.length_cons, List.take_succ_cons, ih]
theorem drop_hd (c : UInt8) (s : Str) : s.drop ((hd c s).length + 1) = tl c s := by
  induction s with
  | nil => rfl
  | cons b r ih =>
    by_cases h : b = c
    · subst h; rw [hd_eq, tl_eq]; rfl
    · rw [hd_ne h, tl_ne h, List.length_cons, List.drop_succ_cons, ih]
theorem splitK_miss (c : UInt8) (k : Nat) {s : Str} (h : c ∉ s) : Lib.splitK [c] 0 k s = [s] := by
  cases k with
  | zero => rfl
  | succ k =>
    unfold Lib.splitK
    rw [index_one, if_neg h]
    rfl
theorem splitK_hit (c : UInt8) (k : Nat) {s : Str} (h : c ∈ s) : Lib.splitK [c] 0 (k + 1) s = hd c s :: Lib.splitK [c] 0 k (tl c s) := by
  have e : Lib.index s [c] = ((hd c s).length : Int) := by rw [index_one, if_pos h]; rfl
  have hm : ¬ (Lib.index s [c] == -1) = true := by rw [e, beq_iff_eq]; omega
  show (if Lib.index s [c] == -1 then [s] else s.take ((Lib.index s [c]).toNat + 0) :: Lib.splitK [c] 0 k (s.drop ((Lib.index s [c]).toNat + 1))) = _
  rw [if_neg hm, e, Int.toNat_natCast, Nat.add_zero, take_hd, drop_hd]
theorem count_hit1 {c : UInt8} {s : Str} (h : c ∈ s) : s.count c = (tl c s).count c + 1 := by
  have e := cut_at h
  have h0 : (hd c s).count c = 0 := List.count_eq_zero.2 (hd_not c s)
  conv => lhs; rw [e]
  rw [List.count_append, h0, List.count_cons_self]
  omega
theorem splitK_pieces (c : UInt8) : ∀ (k : Nat) (s : Str), s.count c ≤ k → Lib.splitK [c] 0 k s = pieces c s []
  | 0, s, h => by
    have hm : c ∉ s := List.count_eq_zero.1 (by omega)
    rw [splitK_miss c 0 hm, pieces_last _ _ hm]
    rfl
  | k + 1, s, h => by
    by_cases hm : c ∈ s
    · have hc := count_hit1 hm
      rw [splitK_hit c k hm, splitK_pieces c k (tl c s) (by omega)]
      conv => rhs; rw [cut_at hm]
      rw [pieces_noSign _ _ _ (hd_not c s)]
      rfl
    · rw [splitK_miss c _ hm, pieces_last _ _ hm]
      rfl
theorem split_pieces (c : UInt8) (s : Str) : Lib.split s [c] = pieces c s [] := by
  unfold Lib.split
  exact splitK_pieces c _ s (by rw [Lib.count_one]; exact Nat.le_refl _)
theorem splitN_four (s : Str) : Lib.splitN s [32] 4 = Lib.splitK [32] 0 3 s := by
  unfold Lib.splitN
  by_cases h : 3 ≤ s.length
  · rw [show min 4 (s.length + 1) - 1 = 3 by omega]
  · have hc := List.count_le_length (a := (32 : UInt8)) (l := s)
    rw [splitK_pieces 32 _ s (by omega), splitK_pieces 32 3 s (by omega)]
theorem between_pieces (c : UInt8) : ∀ (n : Nat) (s : Str), s.length ≤ n → between c (pieces c s []) = s
  | n, s, hn => by
    by_cases hm : c ∈ s
    · have e := cut_at hm
      match n with
      | 0 => have : s = [] := List.length_eq_zero_iff.1 (by omega)
             subst this; cases hm
      | n + 1 =>
        have hl := congrArg List.length e
        simp only [List.length_append, List.length_cons] at hl
        have ih := between_pieces c n (tl c s) (by omega)
        conv => lhs; rw [e]
        rw [pieces_noSign _ _ _ (hd_not c s), List.nil_append]
        have hne := pieces_ne c (tl c s) []
        cases hp : pieces c (tl c s) [] with
        | nil => exact absurd hp hne
        | cons a r =>
          rw [between, ← hp, ih]
          exact e.symm
    · rw [pieces_last _ _ hm]; rfl
theorem between_pieces' (c : UInt8) (s : Str) : between c (pieces c s []) = s := between_pieces c _ s (Nat.le_refl _)

/-- The four parts of a text, if it has so many. -/
theorem split4_cases (s : Str) : (∃ a b c d, s = a ++ 32 :: (b ++ 32 :: (c ++ 32 :: d)) ∧ (32 : UInt8) ∉ a ∧ (32 : UInt8) ∉ b ∧ (32 : UInt8) ∉ c ∧ Lib.splitK [32] 0 3 s = [a, b, c, d]) ∨ ((Lib.splitK [32] 0 3 s).length < 4 ∧ s.count 32 < 3) := by
  by_cases h1 : (32 : UInt8) ∈ s
  · have c1 := count_hit1 h1
    by_cases h2 : (32 : UInt8) ∈ tl 32 s
    · have c2 := count_hit1 h2
      by_cases h3 : (32 : UInt8) ∈ tl 32 (tl 32 s)
      · left
        refine ⟨hd 32 s, hd 32 (tl 32 s), hd 32 (tl 32 (tl 32 s)), tl 32 (tl 32 (tl 32 s)), ?_, hd_not _ _, hd_not _ _, hd_not _ _, ?_⟩
        · rw [← cut_at h3, ← cut_at h2, ← cut_at h1]
        · rw [splitK_hit 32 2 h1, splitK_hit 32 1 h2, splitK_hit 32 0 h3]; rfl
      · right
        have c3 := List.count_eq_zero.2 h3
        rw [splitK_hit 32 2 h1, splitK_hit 32 1 h2, splitK_miss 32 _ h3]
        exact ⟨by simp, by omega⟩
    · right
      have c2 := List.count_eq_zero.2 h2
      rw [splitK_hit 32 2 h1, splitK_miss 32 _ h2]
      exact ⟨by simp, by omega⟩
  · right
    have c1 := List.count_eq_zero.2 h1
    rw [splitK_miss 32 _ h1]
    exact ⟨by simp, by omega⟩

/-! ### the data of a kind -/

def readNums (ts : List Str) : Option (List Int) := ts.mapM (readNum · 4294967295)
theorem readNums_cons (t : Str) (r : List Str) : readNums (t :: r) = (readNum t 4294967295).bind fun n => (readNums r).map (n :: ·) := by
  unfold readNums
  rw [List.mapM_cons]
  cases readNum t 4294967295 with
  | none => rfl
  | some n => cases r.mapM (readNum · 4294967295) <;> rfl
theorem readNums_some : ∀ {ts : List Str} {ns : List Int}, readNums ts = some ns → ns.map Lib.itoa = ts ∧ ∀ n ∈ ns, 0 ≤ n ∧ n ≤ 4294967295
  | [], ns, h => by simp [readNums] at h; subst h; simp
  | t :: r, ns, h => by
    rw [readNums_cons] at h
    cases h1 : readNum t 4294967295 with
    | none => rw [h1] at h; cases h
    | some n =>
      rw [h1] at h
      cases h2 : readNums r with
      | none => rw [h2] at h; cases h
      | some ms =>
        rw [h2] at h
        simp at h
        subst h
        have h3 := readNum_some (by decide) h1
        have h4 := readNums_some h2
        refine ⟨by rw [List.map_cons, h3.1, h4.1], fun x hx => ?_⟩
        rcases List.mem_cons.1 hx with rfl | hx
        · exact h3.2
        · exact h4.2 x hx
theorem readNums_itoa : ∀ {ns : List Int}, (∀ n ∈ ns, 0 ≤ n ∧ n ≤ 4294967295) → readNums (ns.map Lib.itoa) = some ns
  | [], _ => rfl
  | n :: r, h => by
    have h1 := h n (by simp)
    rw [List.map_cons, readNums_cons, readNum_itoa (by decide) h1.1 h1.2, readNums_itoa (fun x hx => h x (List.mem_cons_of_mem _ hx))]
    rfl

def unq (f : Str) : Option Str := if 2 ≤ f.length ∧ f.head? = some 34 ∧ f.getLast? = some 34 then some ((f.drop 1).take (f.length - 2)) else none
theorem unq_quoted (t : Str) : unq (34 :: (t ++ [34])) = some t := by
  unfold unq
  rw [if_pos]
  · simp
  · refine ⟨by simp, by simp, ?_⟩
    rw [← List.cons_append, List.getLast?_append]
    simp
theorem unq_some {f t : Str} (h : unq f = some t) : f = 34 :: (t ++ [34]) := by
  unfold unq at h
  split at h
  · rename_i hc
    obtain ⟨h1, h2, h3⟩ := hc
    injection h with h
    subst h
    match f, h1, h2 with
    | x :: r, h1, h2 =>
      simp at h2
      subst h2
      have hr : r ≠ [] := by intro e; subst e; simp at h1
      have h4 : r.getLast? = some 34 := by
        rw [List.getLast?_cons] at h3
        cases hg : r.getLast? with
        | none => rw [List.getLast?_eq_none_iff] at hg; exact absurd hg hr
        | some z => rw [hg] at h3; simpa using h3
      have h5 : r.dropLast ++ [34] = r := by
        have h6 := List.dropLast_concat_getLast hr
        rw [List.getLast?_eq_some_getLast hr] at h4
        injection h4 with h4
        rwa [h4] at h6
      simp only [List.length_cons, List.drop_succ_cons, List.drop_zero]
      rw [show r.length + 1 - 2 = r.length - 1 by omega, ← List.dropLast_eq_take, h5]
  · cases h

/-- The data that fields tell for a kind: numbers, a target, a text. -/
def readFlds (k : Int) (fs : List Str) : Option (List Int × Str × Str) :=
  match fs with
  | [] => none
  | f :: r =>
    if k = 1 then (if r = [] then (readNums (pieces 46 f [])).map (fun n => (n, [], [])) else none)
    else if k = 15 then (match r with | [t] => (readNums [f]).map (fun n => (n, t, [])) | _ => none)
    else if k = 16 then (if r = [] then (unq f).map (fun x => ([], [], x)) else none)
    else (readNums r).map (fun n => (n, f, []))
def dataFlds (k : Int) (d : Str) : List Str := if k = 16 then [d] else pieces 32 d []
theorem readFlds_text {k : Int} {d : Str} {ns : List Int} {t x : Str} (h : readFlds k (dataFlds k d) = some (ns, t, x)) : dataText k ns t x = d := by
  unfold dataFlds at h
  by_cases h16 : k = 16
  · subst h16
    rw [if_pos rfl] at h
    simp only [readFlds] at h
    rw [if_neg (by decide), if_neg (by decide)] at h
    simp only [if_true] at h
    cases hu : unq d with
    | none => rw [hu] at h; cases h
    | some y =>
      rw [hu] at h
      simp at h
      obtain ⟨rfl, rfl, rfl⟩ := h
      rw [unq_some hu]
      unfold dataText
      rw [if_neg (by decide), if_pos rfl]
  · rw [if_neg h16] at h
    have hb := between_pieces' 32 d
    cases hp : pieces 32 d [] with
    | nil => exact absurd hp (pieces_ne _ _ _)
    | cons f r =>
      rw [hp] at h hb
      simp only [readFlds] at h
      by_cases h1 : k = 1
      · subst h1
        rw [if_pos rfl] at h
        split at h
        · rename_i hr
          subst hr
          have hfd : f = d := hb
          subst hfd
          cases hn : readNums (pieces 46 f []) with
          | none => rw [hn] at h; cases h
          | some ms =>
            rw [hn] at h
            simp at h
            obtain ⟨rfl, rfl, rfl⟩ := h
            unfold dataText
            rw [if_pos rfl, (readNums_some hn).1, between_pieces']
        · cases h
      · rw [if_neg h1] at h
        by_cases h15 : k = 15
        · subst h15
          rw [if_pos rfl] at h
          split at h
          · rename_i t'
            cases hn : readNums [f] with
            | none => rw [hn] at h; cases h
            | some ms =>
              rw [hn] at h
              simp at h
              obtain ⟨rfl, rfl, rfl⟩ := h
              have h3 := (readNums_some hn).1
              match ms, h3 with
              | [m], h3 =>
                simp at h3
                unfold dataText
                rw [if_neg (by decide), if_neg (by decide), if_pos rfl, List.headD_cons, h3, ← hb]
                rfl
          · cases h
        · rw [if_neg h15, if_neg h16] at h
          cases hn : readNums r with
          | none => rw [hn] at h; cases h
          | some ms =>
            rw [hn] at h
            simp at h
            obtain ⟨rfl, rfl, rfl⟩ := h
            have h3 := (readNums_some hn).1
            unfold dataText
            rw [if_neg h1, if_neg h16, if_neg h15, ← hb, between_cons, ← h3, List.map_map]
            rfl
theorem dataFlds_text {r : Rec} (h : recValid r = true) : readFlds r.kind (dataFlds r.kind (dataText r.kind r.nums r.target r.text)) = some (r.nums, r.target, r.text) := by
  obtain ⟨_, _, _, hk, hn, hr⟩ := recValid_iff.1 h
  have hl := okNums_length hn
  have hrg := okNums_range hn (lims_le _)
  obtain ⟨name, ttl, kind, nums, target, text⟩ := r
  dsimp only at hk hn hr hl hrg ⊢
  have hsp : ∀ n ∈ nums, (32 : UInt8) ∉ Lib.itoa n := fun n hx => itoa_noSign (hrg n hx).1 (by decide)
  have hbare : ∀ k : Int, k ≠ 1 → k ≠ 15 → k ≠ 16 → valid target = true → text = [] → readFlds k (dataFlds k (dataText k nums target text)) = some (nums, target, text) := by
    intro k h1 h15 h16 ht hx
    subst hx
    have e : dataText k nums target [] = between 32 (target :: nums.map Lib.itoa) := by
      unfold dataText
      rw [if_neg h1, if_neg h16, if_neg h15, between_cons, List.map_map]
      rfl
    rw [e]
    unfold dataFlds
    rw [if_neg h16, pieces_between (by simp) (fun l hm => by
      rcases List.mem_cons.1 hm with rfl | hm
      · exact name_noSpace ht
      · obtain ⟨n, hn, rfl⟩ := List.mem_map.1 hm
        exact hsp n hn)]
    simp only [readFlds]
    rw [if_neg h1, if_neg h15, if_neg h16, readNums_itoa hrg]
    rfl
  rcases hk with rfl | rfl | rfl | rfl | rfl | rfl | rfl
  · simp [okRest] at hr
    simp [lims] at hl
    obtain ⟨⟨rfl, _⟩, rfl⟩ := hr
    have hne : nums ≠ [] := by intro e; subst e; simp at hl
    have h46 : ∀ n ∈ nums, (46 : UInt8) ∉ Lib.itoa n := fun n hx => itoa_noSign (hrg n hx).1 (by decide)
    have hno : (32 : UInt8) ∉ between 46 (nums.map Lib.itoa) := by
      obtain ⟨n0, ns, rfl⟩ : ∃ n0 ns, nums = n0 :: ns := by
        match nums, hne with
        | a :: b, _ => exact ⟨a, b, rfl⟩
      rw [List.map_cons, between_cons]
      intro hm
      rcases List.mem_append.1 hm with hm | hm
      · exact hsp n0 (by simp) hm
      · obtain ⟨l, hl1, hl2⟩ := List.mem_flatten.1 hm
        obtain ⟨l2, hl3, rfl⟩ := List.mem_map.1 hl1
        obtain ⟨n, hn1, rfl⟩ := List.mem_map.1 hl3
        rcases List.mem_cons.1 hl2 with e | e
        · exact absurd e (by decide)
        · exact hsp n (by simp [hn1]) e
    unfold dataText dataFlds
    rw [if_pos rfl, if_neg (by decide), pieces_last _ _ hno]
    simp only [readFlds, List.nil_append]
    rw [if_pos trivial, if_pos trivial, pieces_between (by simpa using hne) (fun l hm => by
      obtain ⟨n, hn, rfl⟩ := List.mem_map.1 hm
      exact h46 n hn), readNums_itoa hrg]
    rfl
  · simp [okRest] at hr
    exact hbare 2 (by decide) (by decide) (by decide) hr.1 hr.2
  · simp [okRest] at hr
    exact hbare 5 (by decide) (by decide) (by decide) hr.1 hr.2
  · simp [okRest] at hr
    exact hbare 6 (by decide) (by decide) (by decide) hr.1 hr.2
  · simp [okRest] at hr
    exact hbare 12 (by decide) (by decide) (by decide) hr.1 hr.2
  · simp [okRest] at hr
    simp [lims] at hl
    obtain ⟨ht, rfl⟩ := hr
    obtain ⟨n0, rfl⟩ : ∃ n0, nums = [n0] := List.length_eq_one_iff.1 hl
    have e : dataText 15 [n0] target [] = between 32 [Lib.itoa n0, target] := by
      unfold dataText
      rw [if_neg (by decide), if_neg (by decide), if_pos rfl]
      rfl
    rw [e]
    unfold dataFlds
    rw [if_neg (by decide), pieces_between (by simp) (fun l hm => by
      simp only [List.mem_cons, List.not_mem_nil, or_false] at hm
      rcases hm with rfl | rfl
      · exact hsp n0 (by simp)
      · exact name_noSpace ht)]
    simp only [readFlds]
    rw [if_neg (by decide), if_pos trivial]
    have := readNums_itoa hrg
    simp only [List.map_cons, List.map_nil] at this
    rw [this]
    rfl
  · simp [okRest] at hr
    simp [lims] at hl
    obtain ⟨rfl, _⟩ := hr
    subst hl
    have hd : dataText 16 [] [] text = 34 :: (text ++ [34]) := by unfold dataText; rw [if_neg (by decide), if_pos rfl]
    rw [hd]
    unfold dataFlds
    rw [if_pos rfl]
    simp only [readFlds]
    rw [if_neg (by decide), if_neg (by decide)]
    simp only [if_true]
    rw [unq_quoted]
    rfl

/-! ### records -/

/-- What the program reads of the four parts of a text. -/
def iparse4 (a b c d : Str) : Option Rec :=
  match readNum b 100000, kindOf c with
  | some n, some k =>
    match readFlds k (dataFlds k d) with
    | some (ns, t, x) => if recValid ⟨a, n, k, ns, t, x⟩ then some ⟨a, n, k, ns, t, x⟩ else none
    | none => none
  | _, _ => none
def iparse (s : Str) : Option Rec :=
  match Lib.splitK [32] 0 3 s with
  | [a, b, c, d] => iparse4 a b c d
  | _ => none
theorem iparse4_iff {a b c d : Str} {r : Rec} (ha : (32 : UInt8) ∉ a) (hb : (32 : UInt8) ∉ b) (hc : (32 : UInt8) ∉ c) : iparse4 a b c d = some r ↔ recValid r = true ∧ format r = a ++ 32 :: (b ++ 32 :: (c ++ 32 :: d)) := by
  constructor
  · intro h
    unfold iparse4 at h
    cases h1 : readNum b 100000 with
    | none => rw [h1] at h; cases h
    | some n =>
      cases h2 : kindOf c with
      | none => rw [h1, h2] at h; cases h
      | some k =>
        rw [h1, h2] at h
        dsimp only at h
        cases h3 : readFlds k (dataFlds k d) with
        | none => rw [h3] at h; cases h
        | some q =>
          obtain ⟨ns, t, x⟩ := q
          rw [h3] at h
          dsimp only at h
          split at h
          · rename_i hv
            injection h with h
            subst h
            refine ⟨hv, ?_⟩
            unfold format
            rw [if_pos hv]
            dsimp only
            rw [(readNum_some (by decide) h1).1, (kindOf_name h2).1, readFlds_text h3]
          · cases h
  · rintro ⟨hv, hf⟩
    obtain ⟨h1, h2, h3, hk, _, _⟩ := recValid_iff.1 hv
    have hF : format r = r.name ++ 32 :: (Lib.itoa r.ttl ++ 32 :: (kindName r.kind ++ 32 :: dataText r.kind r.nums r.target r.text)) := by unfold format; rw [if_pos hv]
    rw [hF] at hf
    have a1 := fld_append (Lib.itoa r.ttl ++ 32 :: (kindName r.kind ++ 32 :: dataText r.kind r.nums r.target r.text)) (name_noSpace h1)
    have a2 := fld_append (kindName r.kind ++ 32 :: dataText r.kind r.nums r.target r.text) (itoa_noSign h2 (c := 32) (by decide))
    have a3 := fld_append (dataText r.kind r.nums r.target r.text) (kindName_noSpace r.kind)
    have b1 := fld_append (b ++ 32 :: (c ++ 32 :: d)) ha
    have b2 := fld_append (c ++ 32 :: d) hb
    have b3 := fld_append d hc
    rw [hf, b1.1, b1.2] at a1
    obtain ⟨e1, f1⟩ := a1
    rw [← f1, b2.1, b2.2] at a2
    obtain ⟨e2, f2⟩ := a2
    rw [← f2, b3.1, b3.2] at a3
    obtain ⟨e3, f3⟩ := a3
    unfold iparse4
    rw [e1, e2, e3, f3, readNum_itoa (by decide) h2 h3, kindName_kind (kindName_ne.2 hk)]
    dsimp only
    rw [dataFlds_text hv]
    dsimp only
    have e : (⟨r.name, r.ttl, r.kind, r.nums, r.target, r.text⟩ : Rec) = r := by cases r; rfl
    rw [e, if_pos hv]
theorem format_spaces {r : Rec} (h : recValid r = true) : 3 ≤ (format r).count 32 := by
  have hF : format r = r.name ++ 32 :: (Lib.itoa r.ttl ++ 32 :: (kindName r.kind ++ 32 :: dataText r.kind r.nums r.target r.text)) := by unfold format; rw [if_pos h]
  rw [hF]
  simp only [List.count_append, List.count_cons_self]
  omega
theorem iparse_parse (s : Str) : iparse s = parse s := by
  rcases split4_cases s with ⟨a, b, c, d, hs, ha, hb, hc, hk⟩ | ⟨hl, hc⟩
  · unfold iparse
    rw [hk]
    dsimp only
    apply Option.ext
    intro r
    rw [iparse4_iff ha hb hc, parse_iff, ← hs]
  · have h1 : iparse s = none := by
      unfold iparse
      split
      · rename_i heq; rw [heq] at hl; simp at hl
      · rfl
    rw [h1]
    cases h : parse s with
    | none => rfl
    | some r =>
      have h2 := parse_iff.1 h
      have h3 := format_spaces h2.1
      rw [h2.2] at h3
      omega
theorem iparse_short {s : Str} (h : (Lib.splitK [32] 0 3 s).length < 4) : parse s = none := by
  rw [← iparse_parse]
  unfold iparse
  split
  · rename_i heq; rw [heq] at h; simp at h
  · rfl
theorem iparse_four {s a b c d : Str} (h : Lib.splitK [32] 0 3 s = [a, b, c, d]) : parse s = iparse4 a b c d := by
  rw [← iparse_parse]
  unfold iparse
  rw [h]
end Go.Proofs.Ytgglakonkphbgaa.Z

/- Records and their texts as plain functions: what the functions of chapter 2 compute, and the laws of these plain functions. -/
import Derived.Lib.ItoaNum
import Derived.Test.YtaiijnaockbahaaM
namespace Go.Proofs.Ytaiijnaockbahaa.Z

/-! ### numerals -/

def digit (c : UInt8) : Bool := 48 ≤ c && c ≤ 57
def natOf (s : Str) : Nat := s.foldl (fun n c => n * 10 + (c.toNat - 48)) 0
def numU (s : Str) : Option Nat := if s ≠ [] ∧ s.length ≤ 17 ∧ s.all digit = true ∧ ¬ (s.head? = some 48 ∧ 1 < s.length) then some (natOf s) else none
/-- The number of a numeral, which is as strconv.Itoa writes it. -/
def num (s : Str) : Option Int :=
  match s with
  | 45 :: r => if r.head? = some 48 then none else (numU r).map (fun n => -(n : Int))
  | r => (numU r).map (fun n => (n : Int))

theorem ofNat_digit {k : Nat} (h : k < 10) : (UInt8.ofNat (48 + k)).toNat = 48 + k := by simp; omega
theorem digit_ofNat {k : Nat} (h : k < 10) : digit (UInt8.ofNat (48 + k)) = true := by
  unfold digit; simp only [UInt8.le_iff_toNat_le, ofNat_digit h]; simp; omega
theorem digit_iff {c : UInt8} : digit c = true ↔ 48 ≤ c.toNat ∧ c.toNat ≤ 57 := by
  unfold digit; simp only [UInt8.le_iff_toNat_le, Bool.and_eq_true, decide_eq_true_eq]; simp
theorem head_snoc {a b : Str} (h : a ≠ []) : (a ++ b).head? = a.head? := by
  cases a with
  | nil => exact absurd rfl h
  | cons x r => rfl
theorem natOf_snoc (s : Str) (c : UInt8) : natOf (s ++ [c]) = natOf s * 10 + (c.toNat - 48) := by simp [natOf]

theorem dec_small {n : Nat} (h : n < 10) : Lib.decDigits n = [UInt8.ofNat (48 + n)] := by rw [Lib.decDigits, dif_pos h]
theorem dec_big {n : Nat} (h : ¬ n < 10) : Lib.decDigits n = Lib.decDigits (n / 10) ++ [UInt8.ofNat (48 + n % 10)] := by rw [Lib.decDigits, dif_neg h]
theorem dec_ne (n : Nat) : Lib.decDigits n ≠ [] := by
  by_cases h : n < 10
  · rw [dec_small h]; simp
  · rw [dec_big h]; simp
theorem dec_digits (n : Nat) : (Lib.decDigits n).all digit = true := by
  induction n using Nat.strongRecOn with
  | _ n ih =>
    by_cases h : n < 10
    · rw [dec_small h]; simpa using digit_ofNat h
    · rw [dec_big h, List.all_append, ih (n / 10) (by omega)]
      simpa using digit_ofNat (Nat.mod_lt n (by decide))
theorem natOf_dec (n : Nat) : natOf (Lib.decDigits n) = n := by
  induction n using Nat.strongRecOn with
  | _ n ih =>
    by_cases h : n < 10
    · rw [dec_small h]; unfold natOf; simp only [List.foldl_cons, List.foldl_nil, ofNat_digit h]; omega
    · rw [dec_big h, natOf_snoc, ih (n / 10) (by omega), ofNat_digit (Nat.mod_lt n (by decide))]
      omega
theorem dec_head (n : Nat) (h : (Lib.decDigits n).head? = some 48) : n = 0 := by
  induction n using Nat.strongRecOn with
  | _ n ih =>
    by_cases h1 : n < 10
    · rw [dec_small h1] at h
      simp only [List.head?_cons, Option.some.injEq] at h
      have := congrArg UInt8.toNat h
      rw [ofNat_digit h1] at this
      simp at this; exact this
    · rw [dec_big h1, head_snoc (dec_ne _)] at h
      have := ih (n / 10) (by omega) h
      omega
theorem dec_len {n k : Nat} (h : n < 10 ^ k) (hk : 1 ≤ k) : (Lib.decDigits n).length ≤ k := by
  rw [Lib.decDigits_length]
  have h1 := Lib.nDigits_pos n
  by_cases h2 : Lib.nDigits n ≤ k
  · exact h2
  · exfalso
    have h3 : ∀ m, ∀ j, m < 10 ^ j → 1 ≤ j → Lib.nDigits m ≤ j := by
      intro m j
      induction j generalizing m with
      | zero => intro _ h; omega
      | succ j ih =>
        intro hm _
        by_cases hs : m < 10
        · rw [Lib.nDigits_small hs]; omega
        · rw [Lib.nDigits_big hs]
          by_cases hj : j = 0
          · subst hj; simp at hm; omega
          · have := ih (m / 10) (by rw [Nat.pow_succ] at hm; omega) (by omega)
            omega
    exact h2 (h3 n k h hk)

theorem numU_dec {n : Nat} (h : n < 10 ^ 17) : numU (Lib.decDigits n) = some n := by
  unfold numU
  rw [if_pos, natOf_dec]
  refine ⟨dec_ne n, dec_len h (by decide), dec_digits n, ?_⟩
  rintro ⟨h1, h2⟩
  have h0 := dec_head n h1
  subst h0
  rw [dec_small (by decide)] at h2
  simp at h2

theorem dec_natOf (s : Str) (h1 : s ≠ []) (h2 : s.all digit = true) (h3 : ¬ (s.head? = some 48 ∧ 1 < s.length)) : Lib.decDigits (natOf s) = s := by
  have key : ∀ k, ∀ s : Str, s.length = k → s ≠ [] → s.all digit = true → ¬ (s.head? = some 48 ∧ 1 < s.length) → Lib.decDigits (natOf s) = s ∧ (s.head? ≠ some 48 → 0 < natOf s) := by
    intro k
    induction k using Nat.strongRecOn with
    | _ k ih =>
      intro s hk hne hall hh
      obtain ⟨t, c, rfl⟩ : ∃ t c, s = t ++ [c] := ⟨s.dropLast, s.getLast hne, (List.dropLast_concat_getLast hne).symm⟩
      rw [List.all_append, Bool.and_eq_true] at hall
      have hc : digit c = true := by simpa using hall.2
      have hc2 := digit_iff.1 hc
      have hcc : UInt8.ofNat (48 + (c.toNat - 48)) = c := by
        apply UInt8.toNat_inj.1
        rw [ofNat_digit (by omega)]; omega
      rw [natOf_snoc]
      by_cases ht : t = []
      · subst ht
        have e0 : natOf [] = 0 := rfl
        rw [e0, Nat.zero_mul, Nat.zero_add, dec_small (by omega), hcc]
        refine ⟨rfl, fun hd => ?_⟩
        have : c.toNat ≠ 48 := fun e => hd (by
          have : c = 48 := UInt8.toNat_inj.1 e
          rw [this]; rfl)
        omega
      · have hhd : (t ++ [c]).head? = t.head? := head_snoc ht
        rw [hhd] at hh ⊢
        have hlt : 1 ≤ t.length := List.length_pos_iff.2 ht
        have hd : t.head? ≠ some 48 := fun e => hh ⟨e, by simp; omega⟩
        obtain ⟨i1, i2⟩ := ih t.length (by simp at hk; omega) t rfl ht hall.1 (fun e => hd e.1)
        have hp := i2 hd
        refine ⟨?_, fun _ => by omega⟩
        rw [dec_big (by omega)]
        have e1 : (natOf t * 10 + (c.toNat - 48)) / 10 = natOf t := by omega
        have e2 : (natOf t * 10 + (c.toNat - 48)) % 10 = c.toNat - 48 := by omega
        rw [e1, e2, hcc, i1]
  exact (key _ s rfl h1 h2 h3).1
theorem dec_numU {s : Str} {n : Nat} (h : numU s = some n) : Lib.decDigits n = s := by
  unfold numU at h
  split at h
  · rename_i hh
    injection h with h
    rw [← h]
    exact dec_natOf s hh.1 hh.2.2.1 hh.2.2.2
  · cases h

theorem itoa_pos {n : Int} (h : 0 ≤ n) : Lib.itoa n = Lib.decDigits n.toNat := by unfold Lib.itoa; rw [if_neg (by omega)]
theorem dec_cons (n : Nat) : ∃ c r, Lib.decDigits n = c :: r ∧ digit c = true := by
  have h := dec_digits n
  match e : Lib.decDigits n with
  | [] => exact absurd e (dec_ne n)
  | c :: r => rw [e] at h; simp at h; exact ⟨c, r, rfl, h.1⟩
theorem num_itoa {n : Int} (h0 : 0 ≤ n) (h : n < 10 ^ 17) : num (Lib.itoa n) = some n := by
  rw [itoa_pos h0]
  obtain ⟨c, r, e, hc⟩ := dec_cons n.toNat
  have h1 := numU_dec (n := n.toNat) (by omega)
  have hne : c ≠ 45 := by intro he; subst he; cases hc
  rw [e] at h1 ⊢
  unfold num
  split
  · rename_i r' heq
    injection heq with h2 _
    exact absurd h2 hne
  · rw [h1]; simp; omega
theorem itoa_num {s : Str} {n : Int} (h : num s = some n) : Lib.itoa n = s := by
  unfold num at h
  split at h
  · rename_i r
    split at h
    · cases h
    · rename_i hh
      cases e : numU r with
      | none => rw [e] at h; cases h
      | some m =>
        rw [e] at h
        simp at h
        have hr := dec_numU e
        have hm : 0 < m := by
          rcases Nat.eq_zero_or_pos m with h0 | h0
          · subst h0
            rw [dec_small (by decide)] at hr
            rw [← hr] at hh
            exact absurd rfl hh
          · exact h0
        subst h
        unfold Lib.itoa
        rw [if_pos (by omega)]
        have : (-(m : Int)).natAbs = m := by omega
        rw [this, hr]
  · cases e : numU s with
    | none => rw [e] at h; cases h
    | some m =>
      rw [e] at h
      simp at h
      subst h
      rw [itoa_pos (by omega), Int.toNat_natCast]
      exact dec_numU e
theorem itoa_inj {a b : Int} (h : Lib.itoa a = Lib.itoa b) (h0 : 0 ≤ a) (h1 : a < 10 ^ 17) (h2 : 0 ≤ b) (h3 : b < 10 ^ 17) : a = b := by
  have := num_itoa h0 h1
  rw [h, num_itoa h2 h3] at this
  injection this with this
  exact this.symm
theorem itoa_noSign {n : Int} (h0 : 0 ≤ n) {c : UInt8} (hc : digit c = false) : c ∉ Lib.itoa n := by
  rw [itoa_pos h0]
  intro hm
  have := List.all_eq_true.1 (dec_digits n.toNat) c hm
  rw [hc] at this
  cases this

/-! ### fields and pieces -/

/-- The text in front of the next space. -/
def fld (s : Str) : Str := s.takeWhile (· != 32)
/-- The text behind the next space. -/
def rst (s : Str) : Str := (s.dropWhile (· != 32)).drop 1
theorem fld_append {a : Str} (b : Str) (h : (32 : UInt8) ∉ a) : fld (a ++ 32 :: b) = a ∧ rst (a ++ 32 :: b) = b := by
  have h1 : ∀ x ∈ a, (x != 32) = true := fun x hx => by
    have : x ≠ 32 := fun e => h (e ▸ hx)
    simpa using this
  unfold fld rst
  rw [List.takeWhile_append_of_pos h1, List.dropWhile_append_of_pos h1]
  simp
theorem fld_all {a : Str} (h : (32 : UInt8) ∉ a) : fld a = a ∧ rst a = [] := by
  have h1 : ∀ x ∈ a, (x != 32) = true := fun x hx => by
    have : x ≠ 32 := fun e => h (e ▸ hx)
    simpa using this
  unfold fld rst
  have h2 : a.takeWhile (· != 32) = a := by
    have := List.takeWhile_append_of_pos (l₂ := []) h1
    simpa using this
  have h3 : a.dropWhile (· != 32) = [] := by
    have := List.dropWhile_append_of_pos (l₂ := []) h1
    simpa using this
  rw [h2, h3]; simp

/-- The pieces of a text between the signs c. -/
def pieces (c : UInt8) : Str → Str → List Str
  | [], cur => [cur]
  | x :: r, cur => if x = c then cur :: pieces c r [] else pieces c r (cur ++ [x])
theorem pieces_ne (c : UInt8) (s cur : Str) : pieces c s cur ≠ [] := by
  induction s generalizing cur with
  | nil => simp [pieces]
  | cons x r ih => simp only [pieces]; split <;> simp [ih]
theorem pieces_noSign {c : UInt8} (l r cur : Str) (h : c ∉ l) : pieces c (l ++ c :: r) cur = (cur ++ l) :: pieces c r [] := by
  induction l generalizing cur with
  | nil => simp [pieces]
  | cons x l ih =>
    have hx : x ≠ c := fun e => h (by rw [e]; simp)
    have hl : c ∉ l := fun e => h (List.mem_cons_of_mem _ e)
    simp only [List.cons_append, pieces]
    rw [if_neg hx, ih _ hl]; simp
theorem pieces_last {c : UInt8} (l cur : Str) (h : c ∉ l) : pieces c l cur = [cur ++ l] := by
  induction l generalizing cur with
  | nil => simp [pieces]
  | cons x l ih =>
    have hx : x ≠ c := fun e => h (by rw [e]; simp)
    have hl : c ∉ l := fun e => h (List.mem_cons_of_mem _ e)
    simp only [pieces]
    rw [if_neg hx, ih _ hl]; simp
/-- Texts with the sign c between. -/
def between (c : UInt8) : List Str → Str
  | [] => []
  | [a] => a
  | a :: b :: r => a ++ c :: between c (b :: r)
theorem pieces_between {c : UInt8} : ∀ {ls : List Str}, ls ≠ [] → (∀ l ∈ ls, c ∉ l) → pieces c (between c ls) [] = ls
  | [], h, _ => absurd rfl h
  | [a], _, h => by rw [between, pieces_last _ _ (h a (by simp))]; simp
  | a :: b :: r, _, h => by
    rw [between, pieces_noSign _ _ _ (h a (by simp)), pieces_between (by simp) (fun l hl => h l (List.mem_cons_of_mem _ hl))]
    simp
theorem between_cons {c : UInt8} (a : Str) : ∀ ls : List Str, between c (a :: ls) = a ++ (ls.map (c :: ·)).flatten
  | [] => by simp [between]
  | b :: r => by rw [between, between_cons b r]; simp

/-! ### kinds -/

def kindTab : List (Int × Str) := [(1, [65]), (2, [78, 83]), (5, [67, 78, 65, 77, 69]), (6, [83, 79, 65]), (12, [80, 84, 82]), (15, [77, 88]), (16, [84, 88, 84])]
def kindName (k : Int) : Str := if k = 1 then [65] else if k = 2 then [78, 83] else if k = 5 then [67, 78, 65, 77, 69] else if k = 6 then [83, 79, 65] else if k = 12 then [80, 84, 82] else if k = 15 then [77, 88] else if k = 16 then [84, 88, 84] else []
def kindOf (s : Str) : Option Int := if s = [65] then some 1 else if s = [78, 83] then some 2 else if s = [67, 78, 65, 77, 69] then some 5 else if s = [83, 79, 65] then some 6 else if s = [80, 84, 82] then some 12 else if s = [77, 88] then some 15 else if s = [84, 88, 84] then some 16 else none
def isKind (k : Int) : Prop := k = 1 ∨ k = 2 ∨ k = 5 ∨ k = 6 ∨ k = 12 ∨ k = 15 ∨ k = 16
theorem kindName_ne {k : Int} : kindName k ≠ [] ↔ isKind k := by
  unfold kindName isKind
  repeat' split
  all_goals simp_all
theorem kindName_kind {k : Int} (h : kindName k ≠ []) : kindOf (kindName k) = some k := by
  rcases kindName_ne.1 h with rfl | rfl | rfl | rfl | rfl | rfl | rfl <;> decide
theorem kindOf_name {s : Str} {k : Int} (h : kindOf s = some k) : kindName k = s ∧ s ≠ [] := by
  unfold kindOf at h
  repeat' split at h
  all_goals first | (injection h with h; subst h; subst_vars; decide) | cases h
theorem kindOf_nil : kindOf [] = none := by decide
theorem kindName_letters (k : Int) : ∀ c ∈ kindName k, 65 ≤ c ∧ c ≤ 90 := by
  unfold kindName
  repeat' split
  all_goals decide
theorem kindName_noSpace (k : Int) : (32 : UInt8) ∉ kindName k := by
  intro h
  have := (kindName_letters k 32 h).1
  exact absurd this (by decide)

/-! ### records -/

structure Rec where
  name : Str
  ttl : Int
  kind : Int
  nums : List Int
  target : Str
  text : Str
deriving DecidableEq

def lims (k : Int) : List Int := if k = 1 then [255, 255, 255, 255] else if k = 6 then [4294967295, 100000, 100000, 100000, 100000] else if k = 15 then [999] else []
def okNums : List Int → List Int → Bool
  | [], [] => true
  | n :: r, m :: q => decide (0 ≤ n) && decide (n ≤ m) && okNums r q
  | _, _ => false
def okChar (c : UInt8) : Bool := 32 ≤ c && c ≤ 126 && c != 34 && c != 92
def okText (s : Str) : Bool := decide (s.length ≤ 20) && s.all okChar
def okRest (k : Int) (target text : Str) : Bool := if k = 1 ∨ k = 16 then decide (target = []) && okText text && (decide (k = 16) || decide (text = [])) else valid target && decide (text = [])
def recValid (r : Rec) : Bool := valid r.name && decide (0 ≤ r.ttl) && decide (r.ttl ≤ 100000) && decide (kindName r.kind ≠ []) && okNums r.nums (lims r.kind) && okRest r.kind r.target r.text
def sameData (a b : Rec) : Bool := decide (a.kind = b.kind) && decide (a.nums = b.nums) && decide (a.target = b.target) && decide (a.text = b.text)
def recSame (a b : Rec) : Bool := decide (a.name = b.name) && decide (a.ttl = b.ttl) && sameData a b
theorem recSame_iff (a b : Rec) : recSame a b = true ↔ a = b := by
  cases a; cases b
  simp [recSame, sameData, and_assoc]
theorem sameData_comm (a b : Rec) : sameData a b = sameData b a := by
  unfold sameData
  simp only [eq_comm]
theorem sameData_self (a : Rec) : sameData a a = true := by simp [sameData]

theorem okNums_length : ∀ {a b : List Int}, okNums a b = true → a.length = b.length
  | [], [], _ => rfl
  | _ :: _, _ :: _, h => by simp [okNums] at h; simp [okNums_length h.2]
  | [], _ :: _, h => by cases h
  | _ :: _, [], h => by cases h
theorem okNums_range : ∀ {a b : List Int}, okNums a b = true → (∀ m ∈ b, m ≤ 4294967295) → ∀ n ∈ a, 0 ≤ n ∧ n ≤ 4294967295
  | [], _, _, _ => by simp
  | n :: r, m :: q, h, hb => by
    simp [okNums] at h
    intro x hx
    rcases List.mem_cons.1 hx with rfl | hx
    · exact ⟨h.1.1, by have := hb m (by simp); omega⟩
    · exact okNums_range h.2 (fun y hy => hb y (List.mem_cons_of_mem _ hy)) x hx
  | _ :: _, [], h, _ => by cases h
theorem lims_le (k : Int) : ∀ m ∈ lims k, m ≤ 4294967295 := by
  unfold lims
  repeat' split
  all_goals decide

theorem recValid_iff {r : Rec} : recValid r = true ↔ valid r.name = true ∧ 0 ≤ r.ttl ∧ r.ttl ≤ 100000 ∧ isKind r.kind ∧ okNums r.nums (lims r.kind) = true ∧ okRest r.kind r.target r.text = true := by
  unfold recValid
  simp only [Bool.and_eq_true, decide_eq_true_eq, kindName_ne, and_assoc]

/-- The text of the data of a valid record. -/
def dataText (k : Int) (nums : List Int) (target text : Str) : Str :=
  if k = 1 then between 46 (nums.map Lib.itoa)
  else if k = 16 then 34 :: (text ++ [34])
  else if k = 15 then Lib.itoa (nums.headD 0) ++ 32 :: target
  else target ++ (nums.map (fun n => 32 :: Lib.itoa n)).flatten
def format (r : Rec) : Str := if recValid r then r.name ++ 32 :: (Lib.itoa r.ttl ++ 32 :: (kindName r.kind ++ 32 :: dataText r.kind r.nums r.target r.text)) else []

/-- The numbers with a sign between, at most seven pieces of them. -/
def numbers (c : UInt8) (s : Str) : Option (List Int) := ((pieces c s []).take 7).mapM num
/-- The data that a text tells for a kind. -/
def put (k : Int) (s : Str) : Option (List Int × Str × Str) :=
  if k = 1 then (numbers 46 s).map (fun n => (n, [], []))
  else if k = 16 then (if 2 ≤ s.length ∧ s.head? = some 34 ∧ s.getLast? = some 34 then some ([], [], (s.drop 1).take (s.length - 2)) else none)
  else if k = 15 then (numbers 32 (fld s)).map (fun n => (n, rst s, []))
  else if rst s = [] then some ([], fld s, []) else (numbers 32 (rst s)).map (fun n => (n, fld s, []))
def parse (s : Str) : Option Rec :=
  match num (fld (rst s)), kindOf (fld (rst (rst s))) with
  | some n, some k =>
    match put k (rst (rst (rst s))) with
    | some (nums, target, text) => if recValid ⟨fld s, n, k, nums, target, text⟩ && decide (format ⟨fld s, n, k, nums, target, text⟩ = s) then some ⟨fld s, n, k, nums, target, text⟩ else none
    | none => none
  | _, _ => none

theorem parse_some {s : Str} {r : Rec} (h : parse s = some r) : recValid r = true ∧ format r = s := by
  unfold parse at h
  split at h
  · split at h
    · split at h
      · rename_i hh
        injection h with h
        subst h
        simpa using hh
      · cases h
    · cases h
  · cases h

theorem mapM_num {ns : List Int} (h : ∀ n ∈ ns, 0 ≤ n ∧ n ≤ 4294967295) : (ns.map Lib.itoa).mapM num = some ns := by
  induction ns with
  | nil => rfl
  | cons n r ih =>
    have h1 := h n (by simp)
    rw [List.map_cons, List.mapM_cons, num_itoa h1.1 (by omega), ih (fun x hx => h x (List.mem_cons_of_mem _ hx))]
    rfl
theorem numbers_between {c : UInt8} (hc : digit c = false) {ns : List Int} (h : ∀ n ∈ ns, 0 ≤ n ∧ n ≤ 4294967295) (h7 : ns.length ≤ 7) (h1 : ns ≠ []) : numbers c (between c (ns.map Lib.itoa)) = some ns := by
  unfold numbers
  rw [pieces_between (by simpa using h1) (fun l hl => by
    obtain ⟨n, hn, rfl⟩ := List.mem_map.1 hl
    exact itoa_noSign (h n hn).1 hc), List.take_of_length_le (by simpa using h7), mapM_num h]

theorem name_noSpace {s : Str} (h : valid s = true) : (32 : UInt8) ∉ s := by
  intro hm
  rcases name_bytes h 32 hm with h1 | h1 | h1
  · revert h1; decide
  · revert h1; decide
  · revert h1; decide
theorem name_noQuote {s : Str} (h : valid s = true) : (34 : UInt8) ∉ s := by
  intro hm
  rcases name_bytes h 34 hm with h1 | h1 | h1
  · revert h1; decide
  · revert h1; decide
  · revert h1; decide

theorem put_data {r : Rec} (h : recValid r = true) : put r.kind (dataText r.kind r.nums r.target r.text) = some (r.nums, r.target, r.text) := by
  obtain ⟨_, _, _, hk, hn, hr⟩ := recValid_iff.1 h
  have hl := okNums_length hn
  have hrg := okNums_range hn (lims_le _)
  obtain ⟨name, ttl, kind, nums, target, text⟩ := r
  dsimp only at hk hn hr hl hrg ⊢
  rcases hk with rfl | rfl | rfl | rfl | rfl | rfl | rfl
  · simp [okRest] at hr
    simp [lims] at hl
    rw [dataText, if_pos rfl, put, if_pos rfl, numbers_between (by decide) hrg (by omega) (by intro e; subst e; simp at hl)]
    obtain ⟨⟨rfl, _⟩, rfl⟩ := hr
    rfl
  · simp [okRest] at hr
    simp [lims] at hl
    obtain ⟨ht, rfl⟩ := hr
    have hs := fld_all (name_noSpace ht)
    subst hl
    simp [dataText, put, hs.1, hs.2]
  · simp [okRest] at hr
    simp [lims] at hl
    obtain ⟨ht, rfl⟩ := hr
    have hs := fld_all (name_noSpace ht)
    subst hl
    simp [dataText, put, hs.1, hs.2]
  · simp [okRest] at hr
    simp [lims] at hl
    obtain ⟨ht, rfl⟩ := hr
    obtain ⟨n0, ns, rfl⟩ : ∃ n0 ns, nums = n0 :: ns := by
      match nums, hl with
      | a :: b, _ => exact ⟨a, b, rfl⟩
    have hd : dataText 6 (n0 :: ns) target [] = target ++ 32 :: between 32 ((n0 :: ns).map Lib.itoa) := by
      rw [List.map_cons, between_cons]
      simp [dataText, List.map_map, Function.comp_def]
    have hs := fld_append (between 32 ((n0 :: ns).map Lib.itoa)) (name_noSpace ht)
    have hne : between 32 ((n0 :: ns).map Lib.itoa) ≠ [] := by
      rw [List.map_cons, between_cons]
      intro e
      have := (List.append_eq_nil_iff.1 e).1
      rw [itoa_pos (hrg n0 (by simp)).1] at this
      exact dec_ne _ this
    rw [hd]
    unfold put
    rw [if_neg (by decide), if_neg (by decide), if_neg (by decide), hs.1, hs.2, if_neg hne, numbers_between (by decide) hrg (by omega) (by simp)]
    rfl
  · simp [okRest] at hr
    simp [lims] at hl
    obtain ⟨ht, rfl⟩ := hr
    have hs := fld_all (name_noSpace ht)
    subst hl
    simp [dataText, put, hs.1, hs.2]
  · simp [okRest] at hr
    simp [lims] at hl
    obtain ⟨ht, rfl⟩ := hr
    obtain ⟨n0, rfl⟩ : ∃ n0, nums = [n0] := List.length_eq_one_iff.1 hl
    have h0 := hrg n0 (by simp)
    have hs := fld_append target (itoa_noSign h0.1 (c := 32) (by decide))
    have hnb := numbers_between (c := 32) (by decide) hrg (by simp) (by simp)
    simp only [List.map_cons, List.map_nil, between] at hnb
    unfold put dataText
    rw [if_neg (by decide), if_neg (by decide), if_pos rfl, if_neg (by decide), if_neg (by decide), if_pos rfl]
    simp only [List.headD_cons]
    rw [hs.1, hs.2, hnb]
    rfl
  · simp [okRest] at hr
    simp [lims] at hl
    obtain ⟨rfl, _⟩ := hr
    subst hl
    have hd : dataText 16 [] [] text = 34 :: (text ++ [34]) := by unfold dataText; rw [if_neg (by decide), if_pos rfl]
    rw [hd]
    unfold put
    rw [if_neg (by decide), if_pos rfl, if_pos]
    · simp
    · refine ⟨by simp, by simp, ?_⟩
      rw [← List.cons_append, List.getLast?_append]
      simp

theorem parse_format {r : Rec} (h : recValid r = true) : parse (format r) = some r := by
  obtain ⟨h1, h2, h3, hk, _, _⟩ := recValid_iff.1 h
  have hp := put_data h
  have hkn := kindName_kind (kindName_ne.2 hk)
  have hnum := num_itoa h2 (by omega)
  have hf : format r = r.name ++ 32 :: (Lib.itoa r.ttl ++ 32 :: (kindName r.kind ++ 32 :: dataText r.kind r.nums r.target r.text)) := by unfold format; rw [if_pos h]
  have a1 := fld_append (Lib.itoa r.ttl ++ 32 :: (kindName r.kind ++ 32 :: dataText r.kind r.nums r.target r.text)) (name_noSpace h1)
  have a2 := fld_append (kindName r.kind ++ 32 :: dataText r.kind r.nums r.target r.text) (itoa_noSign h2 (c := 32) (by decide))
  have a3 := fld_append (dataText r.kind r.nums r.target r.text) (kindName_noSpace r.kind)
  unfold parse
  rw [← hf] at a1
  rw [a1.1, a1.2, a2.1, a2.2, a3.1, a3.2, hnum, hkn]
  dsimp only
  rw [hp]
  dsimp only
  have e : (⟨r.name, r.ttl, r.kind, r.nums, r.target, r.text⟩ : Rec) = r := by cases r; rfl
  rw [e, h]
  simp
theorem parse_iff {s : Str} {r : Rec} : parse s = some r ↔ recValid r = true ∧ format r = s :=
  ⟨parse_some, fun h => by rw [← h.2]; exact parse_format h.1⟩
theorem format_inj {a b : Rec} (ha : recValid a = true) (hb : recValid b = true) (h : format a = format b) : a = b := by
  have := parse_format ha
  rw [h, parse_format hb] at this
  injection this with this
  exact this.symm
theorem format_nil {r : Rec} : format r = [] ↔ recValid r = false := by
  unfold format
  cases h : recValid r <;> simp
theorem parse_nil : parse [] = none := by decide
theorem parse_format_any (r : Rec) : parse (format r) = if recValid r then some r else none := by
  by_cases h : recValid r = true
  · rw [parse_format h, if_pos h]
  · have h' : recValid r = false := by simpa using h
    rw [format_nil.2 h', parse_nil, h']; rfl

end Go.Proofs.Ytaiijnaockbahaa.Z

/- What the program's reader of the fields of data returns. -/
import Derived.Test.YtpgeeeamcncpkaaGreatDoorPa
import Derived.Lib.CountLaws
import Derived.Test.YtpgeeeamcncpkaaGreatDoorId
namespace Go.Proofs.YtpgeeeamcncpkaaGreatDoor
open Go.RowKit
set_option maxRecDepth 100000
set_option linter.unusedVariables false

theorem sv_lists (xs : List ByteArray) : xs.map Value.string = (xs.map (·.data.toList)).map sv := by
  rw [List.map_map]
  apply List.map_congr_left
  intro x _
  show Value.string x = sv (lst x)
  rw [sv_lst]
theorem Split_any (s : ByteArray) (c : UInt8) (hs : s.size ≤ 67108864) (w : World) (hm : MX w) :
    Calls Tryz.prog 76 #[.string s, .string ⟨#[c]⟩] w fun e w' => ∃ A q, e = .returned (.slice A (Z.pieces c (lst s) []).length q) ∧ Reads w' w'.heap.size A (Z.pieces c (lst s) []).length ((Z.pieces c (lst s) []).map sv) ∧ (Z.pieces c (lst s) []).length ≤ q ∧ Below w.heap.size w w' := by
  obtain ⟨_, m, hm⟩ := hm
  have hl : (Lib.splitB ⟨#[c]⟩ 0 (Lib.countB s ⟨#[c]⟩) s).map Value.string = (Z.pieces c (lst s) []).map sv := by
    rw [sv_lists, Lib.splitB_data]
    show (Lib.splitK [c] 0 (Lib.countB s ⟨#[c]⟩) (lst s)).map sv = _
    rw [Z.splitK_pieces c _ _ (by rw [← Lib.count_one]; exact Nat.le_refl _)]
  have hlen : Lib.countB s ⟨#[c]⟩ + 1 = (Z.pieces c (lst s) []).length := by
    have h1 := congrArg List.length hl
    rw [List.length_map, List.length_map, Lib.splitB_all ⟨#[c]⟩ (show 1 ≤ 1 from Nat.le_refl 1) _ _ _ rfl] at h1
    exact h1
  refine (Tryz.strings_Split s ⟨#[c]⟩ m w (by omega) hm (show 1 ≤ 1 from Nat.le_refl 1)).mono ?_
  rintro e w' ⟨rfl, rfl⟩
  rw [hlen, hl]
  exact ⟨_, _, rfl, (reads_new w _ _ 0 _ _ (by simp) (by intro j u hu; simpa using hu)).more (by simp), Nat.le_refl _, (Below.refl _ _).alloc (Nat.le_refl _) _⟩

/-- What the reader of fields leaves. -/
def FldsOut (m : Nat) (N : ByteArray) (T K : Int) (o : Option (List Int × Z.Str × Z.Str)) (w : World) (e : Ending) (w' : World) : Prop :=
  ∃ (A : Option Addr) (L c : Nat) (x y : ByteArray) (ns : List Int), e = .returned (.tuple #[.agg #[.string N, .int .i64 T, .int .i64 K, .slice A L c, .string x, .string y], .bool o.isSome]) ∧ w'.ownsRow w.heap.size 3 1 (.slice A L c) L (ns.map iv) ∧ (∀ p, o = some p → p = (ns, lst x, lst y)) ∧ L ≤ 67108864 ∧ x.size ≤ m ∧ y.size ≤ m ∧ Below w.heap.size w w'
theorem ret_flds {a : Act} {W : World} {post : Ending → World → Prop} (b : Nat) {c0 c1 c2 c3 c4 c5 ok : Value} (hp : a.tmps[4]?.getD undef = .pointer (some ⟨b, 0, none⟩)) (hk : a.tmps[5]?.getD undef = ok) (hd : a.defers = [])
    (h0 : W.cell? ⟨b, 0, none⟩ = some c0) (h1 : W.cell? ⟨b, 1, none⟩ = some c1) (h2 : W.cell? ⟨b, 2, none⟩ = some c2) (h3 : W.cell? ⟨b, 3, none⟩ = some c3) (h4 : W.cell? ⟨b, 4, none⟩ = some c4) (h5 : W.cell? ⟨b, 5, none⟩ = some c5)
    (h : post (.returned (.tuple #[.agg #[c0, c1, c2, c3, c4, c5], ok])) W) : bodyPost Tryz.prog Tryz.f47 post Exit.ret a W :=
  bodyPost_ret (by simp [results, Tryz.results47, go_sem, hp, hk, h0, h1, h2, h3, h4, h5]) hd h

set_option maxHeartbeats 4000000 in
theorem flds_empty (m : Nat) (N : ByteArray) (T K : Int) (A : Option Addr) (c : Nat) (w : World) :
    Calls Tryz.prog 47 #[.agg #[.string N, .int .i64 T, .int .i64 K, .slice none 0 0, .string ⟨#[]⟩, .string ⟨#[]⟩], .slice A 0 c] w (FldsOut m N T K none w) := by
  go_enter Tryz.func47, Tryz.ntmps47
  go_wp2
  refine ret_flds _ rfl rfl rfl (by go_simp) (by go_simp) (by go_simp) (by go_simp) (by go_simp) (by go_simp) ⟨none, 0, 0, ⟨#[]⟩, ⟨#[]⟩, [], rfl, World.ownsRow_nil _ _ _ _, (fun p hp => by cases hp), Nat.zero_le _, Nat.zero_le _, Nat.zero_le _, ?_⟩
  go_grown

theorem unquote_eq (s : ByteArray) (hs : s.size ≤ 67108864) (y : ByteArray) (b : Bool) (hy : Hid (bs ((Z.unq (lst s)).getD []) = y)) (hb : Hid ((Z.unq (lst s)).isSome = b)) (w : World) :
    Calls Tryz.prog 85 #[.string s] w fun e w' => e = .returned (.tuple #[.string y, .bool b]) ∧ w = w' := by
  have h := unquote_any s hs w
  unfold strTup at h
  rw [hy.out, hb.out] at h
  exact h
theorem one_int {n : Nat} {b : Bool} (h : decide (n = 1) = b) : ((n : Int) == 1) = b := by
  rw [← h, Bool.eq_iff_iff]
  simp
  omega
theorem two_int {n : Nat} {b : Bool} (h : decide (n = 2) = b) : ((n : Int) == 2) = b := by
  rw [← h, Bool.eq_iff_iff]
  simp
  omega
theorem head_eq {fs : List Z.Str} (hne : fs ≠ []) {x : ByteArray} (hx : lst x = fs.getD 0 []) : fs = lst x :: fs.drop 1 := by
  rw [hx]
  match fs, hne with
  | a :: b, _ => rfl
theorem readFlds_1 (f : Z.Str) (r : List Z.Str) : Z.readFlds 1 (f :: r) = if r = [] then (Z.readNums (Z.pieces 46 f [])).map (fun n => (n, [], [])) else none := by simp [Z.readFlds]
theorem readFlds_16 (f : Z.Str) (r : List Z.Str) : Z.readFlds 16 (f :: r) = if r = [] then (Z.unq f).map (fun x => ([], [], x)) else none := by simp [Z.readFlds]
theorem readFlds_15_two (f t : Z.Str) : Z.readFlds 15 [f, t] = (Z.readNums [f]).map (fun n => (n, t, [])) := by simp [Z.readFlds]
theorem readFlds_15_not (f : Z.Str) (r : List Z.Str) (h : r.length ≠ 1) : Z.readFlds 15 (f :: r) = none := by
  match r, h with
  | [], _ => simp [Z.readFlds]
  | a :: b :: c, _ => simp [Z.readFlds]
theorem readNumbers_eq (ls : List Z.Str) (B : Nat) (A : Option Addr) (n c : Nat) (w : World) (hr : Reads w B A n (ls.map sv)) (hB : B ≤ w.heap.size) (hn : n ≤ 67108865) (hsz : Hid (∀ l ∈ ls, l.length ≤ 67108864)) (ns : List Int) (b : Bool) (hns : Hid ((Z.readNums ls).getD [] = ns)) (hb : Hid ((Z.readNums ls).isSome = b)) :
    Calls Tryz.prog 84 #[.slice A n c] w fun e w' => ∃ A q, e = .returned (.tuple #[.slice A ns.length q, .bool b]) ∧ w'.ownsRow w.heap.size 3 1 (.slice A ns.length q) ns.length (ns.map iv) ∧ Below w.heap.size w w' := by
  have h := readNumbers_any ls B A n c w hr hB hn hsz
  unfold ReadOut at h
  rw [hns.out, hb.out] at h
  exact h
theorem readNums_length {ls : List Z.Str} : ((Z.readNums ls).getD []).length ≤ ls.length := by
  cases h : Z.readNums ls with
  | none => exact Nat.zero_le _
  | some ns =>
    have h2 := congrArg List.length (Z.readNums_some h).1
    rw [List.length_map] at h2
    show ns.length ≤ _
    omega
theorem pieces_piece (c : UInt8) : ∀ (l cur : Z.Str), ∀ p ∈ Z.pieces c l cur, p.length ≤ cur.length + l.length := by
  intro l
  induction l with
  | nil => intro cur p hp; simp [Z.pieces] at hp; subst hp; simp
  | cons y r ih =>
    intro cur p hp
    simp only [Z.pieces] at hp
    split at hp
    · rcases List.mem_cons.1 hp with rfl | hp
      · simp
      · have := ih [] p hp; simp at this ⊢; omega
    · have := ih _ p hp; simp at this ⊢; omega
theorem readFlds_else {k : Int} (h1 : k ≠ 1) (h15 : k ≠ 15) (h16 : k ≠ 16) (f : Z.Str) (r : List Z.Str) : Z.readFlds k (f :: r) = (Z.readNums r).map (fun n => (n, f, [])) := by simp [Z.readFlds, h1, h15, h16]
theorem drop_one {fs : List Z.Str} (hne : fs ≠ []) : fs.drop 1 = [] ↔ fs.length = 1 := by
  have := List.length_pos_iff.2 hne
  rw [List.drop_eq_nil_iff]
  omega
set_option maxHeartbeats 4000000 in
theorem flds_16 (m : Nat) (N : ByteArray) (T : Int) (fs : List Z.Str) (B : Nat) (A : Option Addr) (c : Nat) (w : World) (hmx : MX w) (hr : Reads w B A fs.length (fs.map sv)) (hB : B ≤ w.heap.size) (hne : fs ≠ []) (hcap : fs.length ≤ c) (hlen : fs.length ≤ 67108864) (hm : m ≤ 67108863) (hsz : Hid (∀ l ∈ fs, l.length ≤ m)) :
    Calls Tryz.prog 47 #[.agg #[.string N, .int .i64 T, .int .i64 16, .slice none 0 0, .string ⟨#[]⟩, .string ⟨#[]⟩], .slice A fs.length c] w (FldsOut m N T 16 (Z.readFlds 16 fs) w) := by
  have hlt : 0 < fs.length := List.length_pos_iff.2 hne
  have hr2 := (hr.alloc hB (.cells #[.string N, .int .i64 T, .int .i64 16, .slice none 0 0, .string ⟨#[]⟩, .string ⟨#[]⟩] 25)).alloc (by simp; omega) (.cells #[.string ⟨#[]⟩, .int .i64 0, .int .i64 0, .slice none 0 0, .string ⟨#[]⟩, .string ⟨#[]⟩] 25)
  obtain ⟨ad, x, rfl, hab, hx, hcell⟩ := reads_str hr2 hlt
  rw [show ad.add 0 = ad from rfl] at hcell
  have hxs : x.size ≤ m := by
    have h1 : fs.getD 0 [] ∈ fs := by simp [hlt]
    have h2 := hsz.out _ h1
    rw [← hx, lst_length] at h2
    exact h2
  obtain ⟨y, hy⟩ : ∃ y, bs ((Z.unq (lst x)).getD []) = y := ⟨_, rfl⟩
  obtain ⟨b, hb⟩ : ∃ b, (Z.unq (lst x)).isSome = b := ⟨_, rfl⟩
  obtain ⟨one, hone⟩ : ∃ one, decide (fs.length = 1) = one := ⟨_, rfl⟩
  have hys : y.size ≤ m := by
    rw [← hy, bs_size]
    cases hu : Z.unq (lst x) with
    | none => exact Nat.zero_le _
    | some u =>
      have h9 := congrArg List.length (Z.unq_some hu)
      rw [lst_length] at h9
      simp at h9
      show u.length ≤ m
      omega
  have hout : Z.readFlds 16 fs = if b && one then some ([], [], lst y) else none := by
    rw [head_eq hne hx, ← hy, ← hb, ← hone, lst_bs]
    rw [readFlds_16]
    by_cases h1 : fs.length = 1
    · rw [if_pos ((drop_one hne).2 h1), decide_eq_true h1]
      cases Z.unq (lst x) <;> rfl
    · rw [if_neg (fun e => h1 ((drop_one hne).1 e)), decide_eq_false h1]
      simp
  have HO := hid hout
  have q1 := one_int hone
  have HY := hid hy
  have HB := hid hb
  clear hy hb hone hout hx
  cases b
  all_goals cases one
  · go_enter Tryz.func47, Tryz.ntmps47
    go_wp2_with (go_at_call 85; refine (unquote_eq x (by omega) y _ HY HB _).mono ?_; rintro e w2 ⟨rfl, rfl⟩)
    rw [HO.out]
    refine ret_flds (w.heap.size + 1) rfl rfl rfl (c0 := .string N) (c1 := .int .i64 T) (c2 := .int .i64 16) (c3 := .slice none 0 0) (c4 := .string ⟨#[]⟩) (c5 := .string y) (by go_simp) (by go_simp) (by go_simp) (by go_simp) (by go_simp) (by go_simp) ⟨none, 0, 0, ⟨#[]⟩, y, [], rfl, World.ownsRow_nil _ _ _ _, (fun p hp => by cases hp), Nat.zero_le _, Nat.zero_le _, hys, ?_⟩
    go_grown
  · go_enter Tryz.func47, Tryz.ntmps47
    go_wp2_with (go_at_call 85; refine (unquote_eq x (by omega) y _ HY HB _).mono ?_; rintro e w2 ⟨rfl, rfl⟩)
    rw [HO.out]
    refine ret_flds (w.heap.size + 1) rfl rfl rfl (c0 := .string N) (c1 := .int .i64 T) (c2 := .int .i64 16) (c3 := .slice none 0 0) (c4 := .string ⟨#[]⟩) (c5 := .string y) (by go_simp) (by go_simp) (by go_simp) (by go_simp) (by go_simp) (by go_simp) ⟨none, 0, 0, ⟨#[]⟩, y, [], rfl, World.ownsRow_nil _ _ _ _, (fun p hp => by cases hp), Nat.zero_le _, Nat.zero_le _, hys, ?_⟩
    go_grown
  · go_enter Tryz.func47, Tryz.ntmps47
    go_wp2_with (go_at_call 85; refine (unquote_eq x (by omega) y _ HY HB _).mono ?_; rintro e w2 ⟨rfl, rfl⟩)
    rw [HO.out]
    refine ret_flds (w.heap.size + 1) rfl rfl rfl (c0 := .string N) (c1 := .int .i64 T) (c2 := .int .i64 16) (c3 := .slice none 0 0) (c4 := .string ⟨#[]⟩) (c5 := .string y) (by go_simp) (by go_simp) (by go_simp) (by go_simp) (by go_simp) (by go_simp) ⟨none, 0, 0, ⟨#[]⟩, y, [], rfl, World.ownsRow_nil _ _ _ _, (fun p hp => by cases hp), Nat.zero_le _, Nat.zero_le _, hys, ?_⟩
    go_grown
  · go_enter Tryz.func47, Tryz.ntmps47
    go_wp2_with (go_at_call 85; refine (unquote_eq x (by omega) y _ HY HB _).mono ?_; rintro e w2 ⟨rfl, rfl⟩)
    rw [HO.out]
    refine ret_flds (w.heap.size + 1) rfl rfl rfl (c0 := .string N) (c1 := .int .i64 T) (c2 := .int .i64 16) (c3 := .slice none 0 0) (c4 := .string ⟨#[]⟩) (c5 := .string y) (by go_simp) (by go_simp) (by go_simp) (by go_simp) (by go_simp) (by go_simp) ⟨none, 0, 0, ⟨#[]⟩, y, [], rfl, World.ownsRow_nil _ _ _ _, (fun p hp => (Option.some.inj hp).symm), Nat.zero_le _, Nat.zero_le _, hys, ?_⟩
    go_grown

set_option maxHeartbeats 4000000 in
theorem flds_1 (m : Nat) (N : ByteArray) (T : Int) (fs : List Z.Str) (B : Nat) (A : Option Addr) (c : Nat) (w : World) (hmx : MX w) (hr : Reads w B A fs.length (fs.map sv)) (hB : B ≤ w.heap.size) (hne : fs ≠ []) (hcap : fs.length ≤ c) (hlen : fs.length ≤ 67108864) (hm : m ≤ 67108863) (hsz : Hid (∀ l ∈ fs, l.length ≤ m)) :
    Calls Tryz.prog 47 #[.agg #[.string N, .int .i64 T, .int .i64 1, .slice none 0 0, .string ⟨#[]⟩, .string ⟨#[]⟩], .slice A fs.length c] w (FldsOut m N T 1 (Z.readFlds 1 fs) w) := by
  have hlt : 0 < fs.length := List.length_pos_iff.2 hne
  have hr2 := (hr.alloc hB (.cells #[.string N, .int .i64 T, .int .i64 1, .slice none 0 0, .string ⟨#[]⟩, .string ⟨#[]⟩] 25)).alloc (by simp; omega) (.cells #[.string ⟨#[]⟩, .int .i64 0, .int .i64 0, .slice none 0 0, .string ⟨#[]⟩, .string ⟨#[]⟩] 25)
  obtain ⟨ad, x, rfl, hab, hx, hcell⟩ := reads_str hr2 hlt
  rw [show ad.add 0 = ad from rfl] at hcell
  have hxs : x.size ≤ m := by
    have h1 : fs.getD 0 [] ∈ fs := by simp [hlt]
    have h2 := hsz.out _ h1
    rw [← hx, lst_length] at h2
    exact h2
  obtain ⟨ns, hns⟩ : ∃ ns, (Z.readNums (Z.pieces 46 (lst x) [])).getD [] = ns := ⟨_, rfl⟩
  obtain ⟨b, hb⟩ : ∃ b, (Z.readNums (Z.pieces 46 (lst x) [])).isSome = b := ⟨_, rfl⟩
  obtain ⟨one, hone⟩ : ∃ one, decide (fs.length = 1) = one := ⟨_, rfl⟩
  have hpl : (Z.pieces 46 (lst x) []).length ≤ 67108864 := by
    rw [pieces_length]
    have h9 := List.count_le_length (a := (46 : UInt8)) (l := lst x)
    rw [lst_length] at h9
    omega
  have hnl : ns.length ≤ 67108864 := by
    rw [← hns]
    exact Nat.le_trans readNums_length hpl
  have HSZ : Hid (∀ l ∈ Z.pieces 46 (lst x) [], l.length ≤ 67108864) := hid (fun l hl => by
    have h9 := pieces_piece 46 (lst x) [] l hl
    rw [lst_length] at h9
    simp at h9
    omega)
  have hout : Z.readFlds 1 fs = if b && one then some (ns, [], []) else none := by
    rw [head_eq hne hx, ← hns, ← hb, ← hone]
    rw [readFlds_1]
    by_cases h1 : fs.length = 1
    · rw [if_pos ((drop_one hne).2 h1), decide_eq_true h1]
      cases Z.readNums (Z.pieces 46 (lst x) []) <;> rfl
    · rw [if_neg (fun e => h1 ((drop_one hne).1 e)), decide_eq_false h1]
      simp
  have HO := hid hout
  have q1 := one_int hone
  have HNS := hid hns
  have HB := hid hb
  clear hns hb hone hout hx
  go_enter Tryz.func47, Tryz.ntmps47
  go_wp2_with fail
  refine (Split_any x 46 (by omega) _ (MX.below hmx (by go_grown))).mono ?_
  rintro e w2 ⟨A2, q2, rfl, hr3, hq2, hb2⟩
  obtain ⟨hc2, hf2⟩ := bcell hb2
  have hs2 := hb2.size
  simp at hs2
  have hbw2 : Below w.heap.size w w2 := Below.trans (by go_grown) (hb2.mono (by simp; omega))
  go_wp2_with fail
  refine (readNumbers_eq _ _ _ _ _ _ hr3 (Nat.le_refl _) (by omega) HSZ ns b HNS HB).mono ?_
  rintro e w3 ⟨A3, q3, rfl, hown, hb3⟩
  have hc3 : ∀ b o, b < w.heap.size + 1 + 1 → w3.cell? ⟨b, o, none⟩ = _ := fun b o h => ((bcell hb3).1 b o (by omega)).trans (hc2 b o (by simpa using h))
  have hf3 : ∀ b o, b < w.heap.size + 1 + 1 → w3.frozen? ⟨b, o, none⟩ = _ := fun b o h => ((bcell hb3).2 b o (by omega)).trans (hf2 b o (by simpa using h))
  have hbw : Below w.heap.size w w3 := hbw2.trans (hb3.mono (by omega))
  have hs3 := hb3.size
  have p0 : w3.cell? ⟨w.heap.size, 0, none⟩ = some (.string N) := (hc3 _ _ (by omega)).trans (by go_simp)
  have p1 : w3.cell? ⟨w.heap.size, 1, none⟩ = some (.int .i64 T) := (hc3 _ _ (by omega)).trans (by go_simp)
  have p2 : w3.cell? ⟨w.heap.size, 2, none⟩ = some (.int .i64 1) := (hc3 _ _ (by omega)).trans (by go_simp)
  have p3 : w3.cell? ⟨w.heap.size, 3, none⟩ = some (.slice none 0 0) := (hc3 _ _ (by omega)).trans (by go_simp)
  have p4 : w3.cell? ⟨w.heap.size, 4, none⟩ = some (.string ⟨#[]⟩) := (hc3 _ _ (by omega)).trans (by go_simp)
  have p5 : w3.cell? ⟨w.heap.size, 5, none⟩ = some (.string ⟨#[]⟩) := (hc3 _ _ (by omega)).trans (by go_simp)
  have r0 : w3.cell? ⟨w.heap.size + 1, 0, none⟩ = some (.string ⟨#[]⟩) := (hc3 _ _ (by omega)).trans (by go_simp)
  have r1 : w3.cell? ⟨w.heap.size + 1, 1, none⟩ = some (.int .i64 0) := (hc3 _ _ (by omega)).trans (by go_simp)
  have r2 : w3.cell? ⟨w.heap.size + 1, 2, none⟩ = some (.int .i64 0) := (hc3 _ _ (by omega)).trans (by go_simp)
  have r3 : w3.cell? ⟨w.heap.size + 1, 3, none⟩ = some (.slice none 0 0) := (hc3 _ _ (by omega)).trans (by go_simp)
  have r4 : w3.cell? ⟨w.heap.size + 1, 4, none⟩ = some (.string ⟨#[]⟩) := (hc3 _ _ (by omega)).trans (by go_simp)
  have r5 : w3.cell? ⟨w.heap.size + 1, 5, none⟩ = some (.string ⟨#[]⟩) := (hc3 _ _ (by omega)).trans (by go_simp)
  clear hb2 hc2 hf2 hb3 hbw2 hr3 hr2 hcell
  cases b
  all_goals cases one
  · go_wp2
    rw [HO.out]
    refine ret_flds (w.heap.size + 1) rfl rfl rfl (c0 := .string N) (c1 := .int .i64 T) (c2 := .int .i64 1) (c3 := .slice A3 ns.length q3) (c4 := .string ⟨#[]⟩) (c5 := .string ⟨#[]⟩) (by go_simp) (by go_simp) (by go_simp) (by go_simp) (by go_simp) (by go_simp) ⟨A3, ns.length, q3, ⟨#[]⟩, ⟨#[]⟩, ns, rfl, ?_, (fun p hp => by cases hp), hnl, Nat.zero_le _, Nat.zero_le _, ?_⟩
    · have o1 := ownsRow_setCell_below hown (a := ⟨w.heap.size, 3, none⟩) (by first | (simp; done) | (simp; omega)) (.slice A3 ns.length q3)
      have o2 := ownsRow_setCell_below o1 (a := ⟨w.heap.size + 1, 0, none⟩) (by first | (simp; done) | (simp; omega)) (.string N)
      have o3 := ownsRow_setCell_below o2 (a := ⟨w.heap.size + 1, 1, none⟩) (by first | (simp; done) | (simp; omega)) (.int .i64 T)
      have o4 := ownsRow_setCell_below o3 (a := ⟨w.heap.size + 1, 2, none⟩) (by first | (simp; done) | (simp; omega)) (.int .i64 1)
      have o5 := ownsRow_setCell_below o4 (a := ⟨w.heap.size + 1, 3, none⟩) (by first | (simp; done) | (simp; omega)) (.slice A3 ns.length q3)
      have o6 := ownsRow_setCell_below o5 (a := ⟨w.heap.size + 1, 4, none⟩) (by first | (simp; done) | (simp; omega)) (.string ⟨#[]⟩)
      have o7 := ownsRow_setCell_below o6 (a := ⟨w.heap.size + 1, 5, none⟩) (by first | (simp; done) | (simp; omega)) (.string ⟨#[]⟩)
      exact own_mono o7 (by first | omega | (simp; omega))
    · clear hc3 hf3
      go_grown
  · go_wp2
    rw [HO.out]
    refine ret_flds (w.heap.size + 1) rfl rfl rfl (c0 := .string N) (c1 := .int .i64 T) (c2 := .int .i64 1) (c3 := .slice A3 ns.length q3) (c4 := .string ⟨#[]⟩) (c5 := .string ⟨#[]⟩) (by go_simp) (by go_simp) (by go_simp) (by go_simp) (by go_simp) (by go_simp) ⟨A3, ns.length, q3, ⟨#[]⟩, ⟨#[]⟩, ns, rfl, ?_, (fun p hp => by cases hp), hnl, Nat.zero_le _, Nat.zero_le _, ?_⟩
    · have o1 := ownsRow_setCell_below hown (a := ⟨w.heap.size, 3, none⟩) (by first | (simp; done) | (simp; omega)) (.slice A3 ns.length q3)
      have o2 := ownsRow_setCell_below o1 (a := ⟨w.heap.size + 1, 0, none⟩) (by first | (simp; done) | (simp; omega)) (.string N)
      have o3 := ownsRow_setCell_below o2 (a := ⟨w.heap.size + 1, 1, none⟩) (by first | (simp; done) | (simp; omega)) (.int .i64 T)
      have o4 := ownsRow_setCell_below o3 (a := ⟨w.heap.size + 1, 2, none⟩) (by first | (simp; done) | (simp; omega)) (.int .i64 1)
      have o5 := ownsRow_setCell_below o4 (a := ⟨w.heap.size + 1, 3, none⟩) (by first | (simp; done) | (simp; omega)) (.slice A3 ns.length q3)
      have o6 := ownsRow_setCell_below o5 (a := ⟨w.heap.size + 1, 4, none⟩) (by first | (simp; done) | (simp; omega)) (.string ⟨#[]⟩)
      have o7 := ownsRow_setCell_below o6 (a := ⟨w.heap.size + 1, 5, none⟩) (by first | (simp; done) | (simp; omega)) (.string ⟨#[]⟩)
      exact own_mono o7 (by first | omega | (simp; omega))
    · clear hc3 hf3
      go_grown
  · go_wp2
    rw [HO.out]
    refine ret_flds (w.heap.size + 1) rfl rfl rfl (c0 := .string N) (c1 := .int .i64 T) (c2 := .int .i64 1) (c3 := .slice A3 ns.length q3) (c4 := .string ⟨#[]⟩) (c5 := .string ⟨#[]⟩) (by go_simp) (by go_simp) (by go_simp) (by go_simp) (by go_simp) (by go_simp) ⟨A3, ns.length, q3, ⟨#[]⟩, ⟨#[]⟩, ns, rfl, ?_, (fun p hp => by cases hp), hnl, Nat.zero_le _, Nat.zero_le _, ?_⟩
    · have o1 := ownsRow_setCell_below hown (a := ⟨w.heap.size, 3, none⟩) (by first | (simp; done) | (simp; omega)) (.slice A3 ns.length q3)
      have o2 := ownsRow_setCell_below o1 (a := ⟨w.heap.size + 1, 0, none⟩) (by first | (simp; done) | (simp; omega)) (.string N)
      have o3 := ownsRow_setCell_below o2 (a := ⟨w.heap.size + 1, 1, none⟩) (by first | (simp; done) | (simp; omega)) (.int .i64 T)
      have o4 := ownsRow_setCell_below o3 (a := ⟨w.heap.size + 1, 2, none⟩) (by first | (simp; done) | (simp; omega)) (.int .i64 1)
      have o5 := ownsRow_setCell_below o4 (a := ⟨w.heap.size + 1, 3, none⟩) (by first | (simp; done) | (simp; omega)) (.slice A3 ns.length q3)
      have o6 := ownsRow_setCell_below o5 (a := ⟨w.heap.size + 1, 4, none⟩) (by first | (simp; done) | (simp; omega)) (.string ⟨#[]⟩)
      have o7 := ownsRow_setCell_below o6 (a := ⟨w.heap.size + 1, 5, none⟩) (by first | (simp; done) | (simp; omega)) (.string ⟨#[]⟩)
      exact own_mono o7 (by first | omega | (simp; omega))
    · clear hc3 hf3
      go_grown
  · go_wp2
    rw [HO.out]
    refine ret_flds (w.heap.size + 1) rfl rfl rfl (c0 := .string N) (c1 := .int .i64 T) (c2 := .int .i64 1) (c3 := .slice A3 ns.length q3) (c4 := .string ⟨#[]⟩) (c5 := .string ⟨#[]⟩) (by go_simp) (by go_simp) (by go_simp) (by go_simp) (by go_simp) (by go_simp) ⟨A3, ns.length, q3, ⟨#[]⟩, ⟨#[]⟩, ns, rfl, ?_, (fun p hp => (Option.some.inj hp).symm), hnl, Nat.zero_le _, Nat.zero_le _, ?_⟩
    · have o1 := ownsRow_setCell_below hown (a := ⟨w.heap.size, 3, none⟩) (by first | (simp; done) | (simp; omega)) (.slice A3 ns.length q3)
      have o2 := ownsRow_setCell_below o1 (a := ⟨w.heap.size + 1, 0, none⟩) (by first | (simp; done) | (simp; omega)) (.string N)
      have o3 := ownsRow_setCell_below o2 (a := ⟨w.heap.size + 1, 1, none⟩) (by first | (simp; done) | (simp; omega)) (.int .i64 T)
      have o4 := ownsRow_setCell_below o3 (a := ⟨w.heap.size + 1, 2, none⟩) (by first | (simp; done) | (simp; omega)) (.int .i64 1)
      have o5 := ownsRow_setCell_below o4 (a := ⟨w.heap.size + 1, 3, none⟩) (by first | (simp; done) | (simp; omega)) (.slice A3 ns.length q3)
      have o6 := ownsRow_setCell_below o5 (a := ⟨w.heap.size + 1, 4, none⟩) (by first | (simp; done) | (simp; omega)) (.string ⟨#[]⟩)
      have o7 := ownsRow_setCell_below o6 (a := ⟨w.heap.size + 1, 5, none⟩) (by first | (simp; done) | (simp; omega)) (.string ⟨#[]⟩)
      exact own_mono o7 (by first | omega | (simp; omega))
    · clear hc3 hf3
      go_grown

set_option maxHeartbeats 4000000 in
theorem flds_else (m : Nat) (N : ByteArray) (T : Int) (K : Int) (k1 : K ≠ 1) (k15 : K ≠ 15) (k16 : K ≠ 16) (fs : List Z.Str) (B : Nat) (A : Option Addr) (c : Nat) (w : World) (hmx : MX w) (hr : Reads w B A fs.length (fs.map sv)) (hB : B ≤ w.heap.size) (hne : fs ≠ []) (hcap : fs.length ≤ c) (hlen : fs.length ≤ 67108864) (hm : m ≤ 67108863) (hsz : Hid (∀ l ∈ fs, l.length ≤ m)) :
    Calls Tryz.prog 47 #[.agg #[.string N, .int .i64 T, .int .i64 K, .slice none 0 0, .string ⟨#[]⟩, .string ⟨#[]⟩], .slice A fs.length c] w (FldsOut m N T K (Z.readFlds K fs) w) := by
  have hlt : 0 < fs.length := List.length_pos_iff.2 hne
  have hr2 := (hr.alloc hB (.cells #[.string N, .int .i64 T, .int .i64 K, .slice none 0 0, .string ⟨#[]⟩, .string ⟨#[]⟩] 25)).alloc (by simp; omega) (.cells #[.string ⟨#[]⟩, .int .i64 0, .int .i64 0, .slice none 0 0, .string ⟨#[]⟩, .string ⟨#[]⟩] 25)
  obtain ⟨ad, x, rfl, hab, hx, hcell⟩ := reads_str hr2 hlt
  rw [show ad.add 0 = ad from rfl] at hcell
  have hxs : x.size ≤ m := by
    have h1 : fs.getD 0 [] ∈ fs := by simp [hlt]
    have h2 := hsz.out _ h1
    rw [← hx, lst_length] at h2
    exact h2
  obtain ⟨ns, hns⟩ : ∃ ns, (Z.readNums (fs.drop 1)).getD [] = ns := ⟨_, rfl⟩
  obtain ⟨b, hb⟩ : ∃ b, (Z.readNums (fs.drop 1)).isSome = b := ⟨_, rfl⟩
  have hnl : ns.length ≤ 67108864 := by
    rw [← hns]
    refine Nat.le_trans readNums_length ?_
    rw [List.length_drop]
    omega
  have HSZ : Hid (∀ l ∈ fs.drop 1, l.length ≤ 67108864) := hid (fun l hl => by
    have h9 := hsz.out l (List.mem_of_mem_drop hl)
    omega)
  have hout : Z.readFlds K fs = if b then some (ns, lst x, []) else none := by
    have h9 := readFlds_else k1 k15 k16 (lst x) (fs.drop 1)
    rw [← head_eq hne hx] at h9
    rw [h9, ← hns, ← hb]
    cases Z.readNums (fs.drop 1) <;> rfl
  have hr3 : ∀ W, Below w.heap.size w W → Reads W B (if c = 1 then some ad else (some ad).map (·.add 1)) (fs.length - 1) ((fs.drop 1).map sv) := fun W h => by
    have h9 := (hr.cut (k := 1) hcap).below h hB
    rwa [← List.map_drop] at h9
  have b1 : (K == 1) = false := by simpa using k1
  have b15 : (K == 15) = false := by simpa using k15
  have b16 : (K == 16) = false := by simpa using k16
  have HO := hid hout
  have HNS := hid hns
  have HB := hid hb
  clear hns hb hout hx k1 k15 k16
  have hfin : ∀ w3 A3 q3, w3.ownsRow w.heap.size 3 1 (.slice A3 ns.length q3) ns.length (ns.map iv) → Below w.heap.size w w3 → True := fun _ _ _ _ _ => trivial
  clear hfin
  by_cases hcap1 : c = 1
  · subst hcap1
    simp only [if_true, show fs.length - 1 = 0 by omega] at hr3
    go_enter Tryz.func47, Tryz.ntmps47
    go_wp2_with fail
    refine (readNumbers_eq (fs.drop 1) B _ _ _ _ (hr3 _ (by go_grown)) (by simp; omega) (by omega) HSZ ns b HNS HB).mono ?_
    rintro e w3 ⟨A3, q3, rfl, hown, hb3⟩
    obtain ⟨hc3', hf3'⟩ := bcell hb3
    have hc3 : ∀ b o, b < w.heap.size + 1 + 1 → w3.cell? ⟨b, o, none⟩ = _ := fun b o h => hc3' b o (by simpa using h)
    have hf3 : ∀ b o, b < w.heap.size + 1 + 1 → w3.frozen? ⟨b, o, none⟩ = _ := fun b o h => hf3' b o (by simpa using h)
    have hs3 := hb3.size
    simp at hs3
    have hbw : Below w.heap.size w w3 := Below.trans (by go_grown) (hb3.mono (by simp; omega))
    have p0 : w3.cell? ⟨w.heap.size, 0, none⟩ = some (.string N) := (hc3 _ _ (by omega)).trans (by go_simp)
    have p1 : w3.cell? ⟨w.heap.size, 1, none⟩ = some (.int .i64 T) := (hc3 _ _ (by omega)).trans (by go_simp)
    have p2 : w3.cell? ⟨w.heap.size, 2, none⟩ = some (.int .i64 K) := (hc3 _ _ (by omega)).trans (by go_simp)
    have p3 : w3.cell? ⟨w.heap.size, 3, none⟩ = some (.slice none 0 0) := (hc3 _ _ (by omega)).trans (by go_simp)
    have p4 : w3.cell? ⟨w.heap.size, 4, none⟩ = some (.string x) := (hc3 _ _ (by omega)).trans (by go_simp)
    have p5 : w3.cell? ⟨w.heap.size, 5, none⟩ = some (.string ⟨#[]⟩) := (hc3 _ _ (by omega)).trans (by go_simp)
    have r0 : w3.cell? ⟨w.heap.size + 1, 0, none⟩ = some (.string ⟨#[]⟩) := (hc3 _ _ (by omega)).trans (by go_simp)
    have r1 : w3.cell? ⟨w.heap.size + 1, 1, none⟩ = some (.int .i64 0) := (hc3 _ _ (by omega)).trans (by go_simp)
    have r2 : w3.cell? ⟨w.heap.size + 1, 2, none⟩ = some (.int .i64 0) := (hc3 _ _ (by omega)).trans (by go_simp)
    have r3 : w3.cell? ⟨w.heap.size + 1, 3, none⟩ = some (.slice none 0 0) := (hc3 _ _ (by omega)).trans (by go_simp)
    have r4 : w3.cell? ⟨w.heap.size + 1, 4, none⟩ = some (.string ⟨#[]⟩) := (hc3 _ _ (by omega)).trans (by go_simp)
    have r5 : w3.cell? ⟨w.heap.size + 1, 5, none⟩ = some (.string ⟨#[]⟩) := (hc3 _ _ (by omega)).trans (by go_simp)
    clear hb3 hc3' hf3' hr3 hr2 hcell
    cases b
    · go_wp2
      rw [HO.out]
      refine ret_flds (w.heap.size + 1) rfl rfl rfl (c0 := .string N) (c1 := .int .i64 T) (c2 := .int .i64 K) (c3 := .slice A3 ns.length q3) (c4 := .string x) (c5 := .string ⟨#[]⟩) (by go_simp) (by go_simp) (by go_simp) (by go_simp) (by go_simp) (by go_simp) ⟨A3, ns.length, q3, x, ⟨#[]⟩, ns, rfl, ?_, (fun p hp => by cases hp), hnl, hxs, Nat.zero_le _, ?_⟩
      · have o1 := ownsRow_setCell_below hown (a := ⟨w.heap.size, 3, none⟩) (by first | (simp; done) | (simp; omega)) (.slice A3 ns.length q3)
        have o2 := ownsRow_setCell_below o1 (a := ⟨w.heap.size + 1, 0, none⟩) (by first | (simp; done) | (simp; omega)) (.string N)
        have o3 := ownsRow_setCell_below o2 (a := ⟨w.heap.size + 1, 1, none⟩) (by first | (simp; done) | (simp; omega)) (.int .i64 T)
        have o4 := ownsRow_setCell_below o3 (a := ⟨w.heap.size + 1, 2, none⟩) (by first | (simp; done) | (simp; omega)) (.int .i64 K)
        have o5 := ownsRow_setCell_below o4 (a := ⟨w.heap.size + 1, 3, none⟩) (by first | (simp; done) | (simp; omega)) (.slice A3 ns.length q3)
        have o6 := ownsRow_setCell_below o5 (a := ⟨w.heap.size + 1, 4, none⟩) (by first | (simp; done) | (simp; omega)) (.string x)
        have o7 := ownsRow_setCell_below o6 (a := ⟨w.heap.size + 1, 5, none⟩) (by first | (simp; done) | (simp; omega)) (.string ⟨#[]⟩)
        exact own_mono o7 (by first | omega | (simp; omega))
      · clear hc3 hf3
        go_grown
    · go_wp2
      rw [HO.out]
      refine ret_flds (w.heap.size + 1) rfl rfl rfl (c0 := .string N) (c1 := .int .i64 T) (c2 := .int .i64 K) (c3 := .slice A3 ns.length q3) (c4 := .string x) (c5 := .string ⟨#[]⟩) (by go_simp) (by go_simp) (by go_simp) (by go_simp) (by go_simp) (by go_simp) ⟨A3, ns.length, q3, x, ⟨#[]⟩, ns, rfl, ?_, (fun p hp => (Option.some.inj hp).symm), hnl, hxs, Nat.zero_le _, ?_⟩
      · have o1 := ownsRow_setCell_below hown (a := ⟨w.heap.size, 3, none⟩) (by first | (simp; done) | (simp; omega)) (.slice A3 ns.length q3)
        have o2 := ownsRow_setCell_below o1 (a := ⟨w.heap.size + 1, 0, none⟩) (by first | (simp; done) | (simp; omega)) (.string N)
        have o3 := ownsRow_setCell_below o2 (a := ⟨w.heap.size + 1, 1, none⟩) (by first | (simp; done) | (simp; omega)) (.int .i64 T)
        have o4 := ownsRow_setCell_below o3 (a := ⟨w.heap.size + 1, 2, none⟩) (by first | (simp; done) | (simp; omega)) (.int .i64 K)
        have o5 := ownsRow_setCell_below o4 (a := ⟨w.heap.size + 1, 3, none⟩) (by first | (simp; done) | (simp; omega)) (.slice A3 ns.length q3)
        have o6 := ownsRow_setCell_below o5 (a := ⟨w.heap.size + 1, 4, none⟩) (by first | (simp; done) | (simp; omega)) (.string x)
        have o7 := ownsRow_setCell_below o6 (a := ⟨w.heap.size + 1, 5, none⟩) (by first | (simp; done) | (simp; omega)) (.string ⟨#[]⟩)
        exact own_mono o7 (by first | omega | (simp; omega))
      · clear hc3 hf3
        go_grown
  · simp only [if_neg hcap1, Option.map_some] at hr3
    go_enter Tryz.func47, Tryz.ntmps47
    go_wp2_with fail
    refine (readNumbers_eq (fs.drop 1) B _ _ _ _ (hr3 _ (by go_grown)) (by simp; omega) (by omega) HSZ ns b HNS HB).mono ?_
    rintro e w3 ⟨A3, q3, rfl, hown, hb3⟩
    obtain ⟨hc3', hf3'⟩ := bcell hb3
    have hc3 : ∀ b o, b < w.heap.size + 1 + 1 → w3.cell? ⟨b, o, none⟩ = _ := fun b o h => hc3' b o (by simpa using h)
    have hf3 : ∀ b o, b < w.heap.size + 1 + 1 → w3.frozen? ⟨b, o, none⟩ = _ := fun b o h => hf3' b o (by simpa using h)
    have hs3 := hb3.size
    simp at hs3
    have hbw : Below w.heap.size w w3 := Below.trans (by go_grown) (hb3.mono (by simp; omega))
    have p0 : w3.cell? ⟨w.heap.size, 0, none⟩ = some (.string N) := (hc3 _ _ (by omega)).trans (by go_simp)
    have p1 : w3.cell? ⟨w.heap.size, 1, none⟩ = some (.int .i64 T) := (hc3 _ _ (by omega)).trans (by go_simp)
    have p2 : w3.cell? ⟨w.heap.size, 2, none⟩ = some (.int .i64 K) := (hc3 _ _ (by omega)).trans (by go_simp)
    have p3 : w3.cell? ⟨w.heap.size, 3, none⟩ = some (.slice none 0 0) := (hc3 _ _ (by omega)).trans (by go_simp)
    have p4 : w3.cell? ⟨w.heap.size, 4, none⟩ = some (.string x) := (hc3 _ _ (by omega)).trans (by go_simp)
    have p5 : w3.cell? ⟨w.heap.size, 5, none⟩ = some (.string ⟨#[]⟩) := (hc3 _ _ (by omega)).trans (by go_simp)
    have r0 : w3.cell? ⟨w.heap.size + 1, 0, none⟩ = some (.string ⟨#[]⟩) := (hc3 _ _ (by omega)).trans (by go_simp)
    have r1 : w3.cell? ⟨w.heap.size + 1, 1, none⟩ = some (.int .i64 0) := (hc3 _ _ (by omega)).trans (by go_simp)
    have r2 : w3.cell? ⟨w.heap.size + 1, 2, none⟩ = some (.int .i64 0) := (hc3 _ _ (by omega)).trans (by go_simp)
    have r3 : w3.cell? ⟨w.heap.size + 1, 3, none⟩ = some (.slice none 0 0) := (hc3 _ _ (by omega)).trans (by go_simp)
    have r4 : w3.cell? ⟨w.heap.size + 1, 4, none⟩ = some (.string ⟨#[]⟩) := (hc3 _ _ (by omega)).trans (by go_simp)
    have r5 : w3.cell? ⟨w.heap.size + 1, 5, none⟩ = some (.string ⟨#[]⟩) := (hc3 _ _ (by omega)).trans (by go_simp)
    clear hb3 hc3' hf3' hr3 hr2 hcell
    cases b
    · go_wp2
      rw [HO.out]
      refine ret_flds (w.heap.size + 1) rfl rfl rfl (c0 := .string N) (c1 := .int .i64 T) (c2 := .int .i64 K) (c3 := .slice A3 ns.length q3) (c4 := .string x) (c5 := .string ⟨#[]⟩) (by go_simp) (by go_simp) (by go_simp) (by go_simp) (by go_simp) (by go_simp) ⟨A3, ns.length, q3, x, ⟨#[]⟩, ns, rfl, ?_, (fun p hp => by cases hp), hnl, hxs, Nat.zero_le _, ?_⟩
      · have o1 := ownsRow_setCell_below hown (a := ⟨w.heap.size, 3, none⟩) (by first | (simp; done) | (simp; omega)) (.slice A3 ns.length q3)
        have o2 := ownsRow_setCell_below o1 (a := ⟨w.heap.size + 1, 0, none⟩) (by first | (simp; done) | (simp; omega)) (.string N)
        have o3 := ownsRow_setCell_below o2 (a := ⟨w.heap.size + 1, 1, none⟩) (by first | (simp; done) | (simp; omega)) (.int .i64 T)
        have o4 := ownsRow_setCell_below o3 (a := ⟨w.heap.size + 1, 2, none⟩) (by first | (simp; done) | (simp; omega)) (.int .i64 K)
        have o5 := ownsRow_setCell_below o4 (a := ⟨w.heap.size + 1, 3, none⟩) (by first | (simp; done) | (simp; omega)) (.slice A3 ns.length q3)
        have o6 := ownsRow_setCell_below o5 (a := ⟨w.heap.size + 1, 4, none⟩) (by first | (simp; done) | (simp; omega)) (.string x)
        have o7 := ownsRow_setCell_below o6 (a := ⟨w.heap.size + 1, 5, none⟩) (by first | (simp; done) | (simp; omega)) (.string ⟨#[]⟩)
        exact own_mono o7 (by first | omega | (simp; omega))
      · clear hc3 hf3
        go_grown
    · go_wp2
      rw [HO.out]
      refine ret_flds (w.heap.size + 1) rfl rfl rfl (c0 := .string N) (c1 := .int .i64 T) (c2 := .int .i64 K) (c3 := .slice A3 ns.length q3) (c4 := .string x) (c5 := .string ⟨#[]⟩) (by go_simp) (by go_simp) (by go_simp) (by go_simp) (by go_simp) (by go_simp) ⟨A3, ns.length, q3, x, ⟨#[]⟩, ns, rfl, ?_, (fun p hp => (Option.some.inj hp).symm), hnl, hxs, Nat.zero_le _, ?_⟩
      · have o1 := ownsRow_setCell_below hown (a := ⟨w.heap.size, 3, none⟩) (by first | (simp; done) | (simp; omega)) (.slice A3 ns.length q3)
        have o2 := ownsRow_setCell_below o1 (a := ⟨w.heap.size + 1, 0, none⟩) (by first | (simp; done) | (simp; omega)) (.string N)
        have o3 := ownsRow_setCell_below o2 (a := ⟨w.heap.size + 1, 1, none⟩) (by first | (simp; done) | (simp; omega)) (.int .i64 T)
        have o4 := ownsRow_setCell_below o3 (a := ⟨w.heap.size + 1, 2, none⟩) (by first | (simp; done) | (simp; omega)) (.int .i64 K)
        have o5 := ownsRow_setCell_below o4 (a := ⟨w.heap.size + 1, 3, none⟩) (by first | (simp; done) | (simp; omega)) (.slice A3 ns.length q3)
        have o6 := ownsRow_setCell_below o5 (a := ⟨w.heap.size + 1, 4, none⟩) (by first | (simp; done) | (simp; omega)) (.string x)
        have o7 := ownsRow_setCell_below o6 (a := ⟨w.heap.size + 1, 5, none⟩) (by first | (simp; done) | (simp; omega)) (.string ⟨#[]⟩)
        exact own_mono o7 (by first | omega | (simp; omega))
      · clear hc3 hf3
        go_grown

theorem Reads.take {w : World} {B n : Nat} {A : Option Addr} {xs : List Value} (h : Reads w B A n xs) {k : Nat} (hk : k ≤ n) : Reads w B A k (xs.take k) := by
  refine ⟨by rw [List.length_take, h.1]; omega, fun hn => ?_⟩
  obtain ⟨ad, rfl, hb, hcell⟩ := h.2 (by omega)
  refine ⟨ad, rfl, hb, fun j u hu => hcell j u ?_⟩
  rw [List.getElem?_take] at hu
  split at hu
  · exact hu
  · cases hu
set_option maxHeartbeats 4000000 in
theorem flds_15 (m : Nat) (N : ByteArray) (T : Int) (fs : List Z.Str) (B : Nat) (A : Option Addr) (c : Nat) (w : World) (hmx : MX w) (hr : Reads w B A fs.length (fs.map sv)) (hB : B ≤ w.heap.size) (hne : fs ≠ []) (hcap : fs.length ≤ c) (hlen : fs.length ≤ 67108864) (hm : m ≤ 67108863) (hsz : Hid (∀ l ∈ fs, l.length ≤ m)) :
    Calls Tryz.prog 47 #[.agg #[.string N, .int .i64 T, .int .i64 15, .slice none 0 0, .string ⟨#[]⟩, .string ⟨#[]⟩], .slice A fs.length c] w (FldsOut m N T 15 (Z.readFlds 15 fs) w) := by
  have hlt : 0 < fs.length := List.length_pos_iff.2 hne
  have hr2 := (hr.alloc hB (.cells #[.string N, .int .i64 T, .int .i64 15, .slice none 0 0, .string ⟨#[]⟩, .string ⟨#[]⟩] 25)).alloc (by simp; omega) (.cells #[.string ⟨#[]⟩, .int .i64 0, .int .i64 0, .slice none 0 0, .string ⟨#[]⟩, .string ⟨#[]⟩] 25)
  obtain ⟨ad, x, rfl, hab, hx, hcell⟩ := reads_str hr2 hlt
  rw [show ad.add 0 = ad from rfl] at hcell
  have hxs : x.size ≤ m := by
    have h1 : fs.getD 0 [] ∈ fs := by simp [hlt]
    have h2 := hsz.out _ h1
    rw [← hx, lst_length] at h2
    exact h2
  have hlast : fs.length - 1 < fs.length := by omega
  obtain ⟨ad', z, hae, hab', hz, hcellz⟩ := reads_str hr hlast
  obtain rfl : ad = ad' := Option.some.inj hae
  have hzs : z.size ≤ m := by
    have h1 : fs.getD (fs.length - 1) [] ∈ fs := by rw [show fs.getD (fs.length - 1) [] = fs[fs.length - 1]'hlast by rw [List.getD, List.getElem?_eq_getElem hlast]; rfl]; exact List.getElem_mem _
    have h2 := hsz.out _ h1
    rw [← hz, lst_length] at h2
    exact h2
  obtain ⟨ns, hns⟩ : ∃ ns, (Z.readNums [lst x]).getD [] = ns := ⟨_, rfl⟩
  obtain ⟨b, hb⟩ : ∃ b, (Z.readNums [lst x]).isSome = b := ⟨_, rfl⟩
  obtain ⟨two, htwo⟩ : ∃ two, decide (fs.length = 2) = two := ⟨_, rfl⟩
  have hnl : ns.length ≤ 67108864 := by
    rw [← hns]
    refine Nat.le_trans readNums_length ?_
    simp
  have HSZ : Hid (∀ l ∈ [lst x], l.length ≤ 67108864) := hid (fun l hl => by
    simp only [List.mem_singleton] at hl
    rw [hl, lst_length]
    omega)
  have hout : Z.readFlds 15 fs = if b && two then some (ns, lst z, []) else none := by
    have e1 := head_eq hne hx
    by_cases h2 : fs.length = 2
    · have e2 : fs = [lst x, lst z] := by
        have h3 : fs.drop 1 = [lst z] := by
          have h4 : (fs.drop 1).length = 1 := by rw [List.length_drop]; omega
          obtain ⟨q, hq⟩ := List.length_eq_one_iff.1 h4
          rw [hq] at e1
          rw [hq, hz, h2, e1]
          rfl
        rw [h3] at e1
        exact e1
      rw [← hns, ← hb, ← htwo, decide_eq_true h2, e2, readFlds_15_two]
      cases Z.readNums [lst x] <;> rfl
    · have h9 := readFlds_15_not (lst x) (fs.drop 1) (by rw [List.length_drop]; omega)
      rw [← e1] at h9
      rw [h9, ← htwo, decide_eq_false h2]
      simp
  have hr3 : ∀ W, Below w.heap.size w W → Reads W B (some ad) 1 ([lst x].map sv) := fun W h => by
    have h9 := (hr.take (k := 1) (by omega)).below h hB
    rw [← List.map_take] at h9
    have e2 : fs.take 1 = [lst x] := by rw [head_eq hne hx]; rfl
    rwa [e2] at h9
  have HCZ : ∀ W, Below w.heap.size w W → W.cell? (ad.add (fs.length - 1)) = some (.string z) := fun W h => (h.cell (p := ad.add (fs.length - 1)) (by rw [block_of_add]; omega)).trans hcellz
  have q2 := two_int htwo
  have HO := hid hout
  have HNS := hid hns
  have HB := hid hb
  have HX := hid hx
  have HZ := hid hz
  clear hns hb hout hx htwo hz hae hcellz
  go_enter Tryz.func47, Tryz.ntmps47
  go_wp2_with fail
  refine (readNumbers_eq [lst x] B _ _ _ _ (hr3 _ (by go_grown)) (by simp; omega) (by omega) HSZ ns b HNS HB).mono ?_
  rintro e w3 ⟨A3, q3, rfl, hown, hb3⟩
  obtain ⟨hc3', hf3'⟩ := bcell hb3
  have hc3 : ∀ b o, b < w.heap.size + 1 + 1 → w3.cell? ⟨b, o, none⟩ = _ := fun b o h => hc3' b o (by simpa using h)
  have hf3 : ∀ b o, b < w.heap.size + 1 + 1 → w3.frozen? ⟨b, o, none⟩ = _ := fun b o h => hf3' b o (by simpa using h)
  have hs3 := hb3.size
  simp at hs3
  have hbw : Below w.heap.size w w3 := Below.trans (by go_grown) (hb3.mono (by simp; omega))
  have hcz := HCZ (w3.setCell ⟨w.heap.size, 3, none⟩ (.slice A3 ns.length q3)) (hbw.setCell (p := ⟨w.heap.size, 3, none⟩) (Nat.le_refl _) _)
  have p0 : w3.cell? ⟨w.heap.size, 0, none⟩ = some (.string N) := (hc3 _ _ (by omega)).trans (by go_simp)
  have p1 : w3.cell? ⟨w.heap.size, 1, none⟩ = some (.int .i64 T) := (hc3 _ _ (by omega)).trans (by go_simp)
  have p2 : w3.cell? ⟨w.heap.size, 2, none⟩ = some (.int .i64 15) := (hc3 _ _ (by omega)).trans (by go_simp)
  have p3 : w3.cell? ⟨w.heap.size, 3, none⟩ = some (.slice none 0 0) := (hc3 _ _ (by omega)).trans (by go_simp)
  have p4 : w3.cell? ⟨w.heap.size, 4, none⟩ = some (.string ⟨#[]⟩) := (hc3 _ _ (by omega)).trans (by go_simp)
  have p5 : w3.cell? ⟨w.heap.size, 5, none⟩ = some (.string ⟨#[]⟩) := (hc3 _ _ (by omega)).trans (by go_simp)
  have r0 : w3.cell? ⟨w.heap.size + 1, 0, none⟩ = some (.string ⟨#[]⟩) := (hc3 _ _ (by omega)).trans (by go_simp)
  have r1 : w3.cell? ⟨w.heap.size + 1, 1, none⟩ = some (.int .i64 0) := (hc3 _ _ (by omega)).trans (by go_simp)
  have r2 : w3.cell? ⟨w.heap.size + 1, 2, none⟩ = some (.int .i64 0) := (hc3 _ _ (by omega)).trans (by go_simp)
  have r3 : w3.cell? ⟨w.heap.size + 1, 3, none⟩ = some (.slice none 0 0) := (hc3 _ _ (by omega)).trans (by go_simp)
  have r4 : w3.cell? ⟨w.heap.size + 1, 4, none⟩ = some (.string ⟨#[]⟩) := (hc3 _ _ (by omega)).trans (by go_simp)
  have r5 : w3.cell? ⟨w.heap.size + 1, 5, none⟩ = some (.string ⟨#[]⟩) := (hc3 _ _ (by omega)).trans (by go_simp)
  clear hb3 hc3' hf3' hr3 hr2 hcell HCZ
  cases b
  all_goals cases two
  · go_wp2
    rw [HO.out]
    refine ret_flds (w.heap.size + 1) rfl rfl rfl (c0 := .string N) (c1 := .int .i64 T) (c2 := .int .i64 15) (c3 := .slice A3 ns.length q3) (c4 := .string z) (c5 := .string ⟨#[]⟩) (by go_simp) (by go_simp) (by go_simp) (by go_simp) (by go_simp) (by go_simp) ⟨A3, ns.length, q3, z, ⟨#[]⟩, ns, rfl, ?_, (fun p hp => by cases hp), hnl, hzs, Nat.zero_le _, ?_⟩
    · have o1 := ownsRow_setCell_below hown (a := ⟨w.heap.size, 3, none⟩) (by first | (simp; done) | (simp; omega)) (.slice A3 ns.length q3)
      have o2 := ownsRow_setCell_below o1 (a := ⟨w.heap.size, 4, none⟩) (by first | (simp; done) | (simp; omega)) (.string z)
      have o3 := ownsRow_setCell_below o2 (a := ⟨w.heap.size + 1, 0, none⟩) (by first | (simp; done) | (simp; omega)) (.string N)
      have o4 := ownsRow_setCell_below o3 (a := ⟨w.heap.size + 1, 1, none⟩) (by first | (simp; done) | (simp; omega)) (.int .i64 T)
      have o5 := ownsRow_setCell_below o4 (a := ⟨w.heap.size + 1, 2, none⟩) (by first | (simp; done) | (simp; omega)) (.int .i64 15)
      have o6 := ownsRow_setCell_below o5 (a := ⟨w.heap.size + 1, 3, none⟩) (by first | (simp; done) | (simp; omega)) (.slice A3 ns.length q3)
      have o7 := ownsRow_setCell_below o6 (a := ⟨w.heap.size + 1, 4, none⟩) (by first | (simp; done) | (simp; omega)) (.string z)
      have o8 := ownsRow_setCell_below o7 (a := ⟨w.heap.size + 1, 5, none⟩) (by first | (simp; done) | (simp; omega)) (.string ⟨#[]⟩)
      exact own_mono o8 (by first | omega | (simp; omega))
    · clear hc3 hf3
      go_grown
  · go_wp2
    rw [HO.out]
    refine ret_flds (w.heap.size + 1) rfl rfl rfl (c0 := .string N) (c1 := .int .i64 T) (c2 := .int .i64 15) (c3 := .slice A3 ns.length q3) (c4 := .string z) (c5 := .string ⟨#[]⟩) (by go_simp) (by go_simp) (by go_simp) (by go_simp) (by go_simp) (by go_simp) ⟨A3, ns.length, q3, z, ⟨#[]⟩, ns, rfl, ?_, (fun p hp => by cases hp), hnl, hzs, Nat.zero_le _, ?_⟩
    · have o1 := ownsRow_setCell_below hown (a := ⟨w.heap.size, 3, none⟩) (by first | (simp; done) | (simp; omega)) (.slice A3 ns.length q3)
      have o2 := ownsRow_setCell_below o1 (a := ⟨w.heap.size, 4, none⟩) (by first | (simp; done) | (simp; omega)) (.string z)
      have o3 := ownsRow_setCell_below o2 (a := ⟨w.heap.size + 1, 0, none⟩) (by first | (simp; done) | (simp; omega)) (.string N)
      have o4 := ownsRow_setCell_below o3 (a := ⟨w.heap.size + 1, 1, none⟩) (by first | (simp; done) | (simp; omega)) (.int .i64 T)
      have o5 := ownsRow_setCell_below o4 (a := ⟨w.heap.size + 1, 2, none⟩) (by first | (simp; done) | (simp; omega)) (.int .i64 15)
      have o6 := ownsRow_setCell_below o5 (a := ⟨w.heap.size + 1, 3, none⟩) (by first | (simp; done) | (simp; omega)) (.slice A3 ns.length q3)
      have o7 := ownsRow_setCell_below o6 (a := ⟨w.heap.size + 1, 4, none⟩) (by first | (simp; done) | (simp; omega)) (.string z)
      have o8 := ownsRow_setCell_below o7 (a := ⟨w.heap.size + 1, 5, none⟩) (by first | (simp; done) | (simp; omega)) (.string ⟨#[]⟩)
      exact own_mono o8 (by first | omega | (simp; omega))
    · clear hc3 hf3
      go_grown
  · go_wp2
    rw [HO.out]
    refine ret_flds (w.heap.size + 1) rfl rfl rfl (c0 := .string N) (c1 := .int .i64 T) (c2 := .int .i64 15) (c3 := .slice A3 ns.length q3) (c4 := .string z) (c5 := .string ⟨#[]⟩) (by go_simp) (by go_simp) (by go_simp) (by go_simp) (by go_simp) (by go_simp) ⟨A3, ns.length, q3, z, ⟨#[]⟩, ns, rfl, ?_, (fun p hp => by cases hp), hnl, hzs, Nat.zero_le _, ?_⟩
    · have o1 := ownsRow_setCell_below hown (a := ⟨w.heap.size, 3, none⟩) (by first | (simp; done) | (simp; omega)) (.slice A3 ns.length q3)
      have o2 := ownsRow_setCell_below o1 (a := ⟨w.heap.size, 4, none⟩) (by first | (simp; done) | (simp; omega)) (.string z)
      have o3 := ownsRow_setCell_below o2 (a := ⟨w.heap.size + 1, 0, none⟩) (by first | (simp; done) | (simp; omega)) (.string N)
      have o4 := ownsRow_setCell_below o3 (a := ⟨w.heap.size + 1, 1, none⟩) (by first | (simp; done) | (simp; omega)) (.int .i64 T)
      have o5 := ownsRow_setCell_below o4 (a := ⟨w.heap.size + 1, 2, none⟩) (by first | (simp; done) | (simp; omega)) (.int .i64 15)
      have o6 := ownsRow_setCell_below o5 (a := ⟨w.heap.size + 1, 3, none⟩) (by first | (simp; done) | (simp; omega)) (.slice A3 ns.length q3)
      have o7 := ownsRow_setCell_below o6 (a := ⟨w.heap.size + 1, 4, none⟩) (by first | (simp; done) | (simp; omega)) (.string z)
      have o8 := ownsRow_setCell_below o7 (a := ⟨w.heap.size + 1, 5, none⟩) (by first | (simp; done) | (simp; omega)) (.string ⟨#[]⟩)
      exact own_mono o8 (by first | omega | (simp; omega))
    · clear hc3 hf3
      go_grown
  · go_wp2
    rw [HO.out]
    refine ret_flds (w.heap.size + 1) rfl rfl rfl (c0 := .string N) (c1 := .int .i64 T) (c2 := .int .i64 15) (c3 := .slice A3 ns.length q3) (c4 := .string z) (c5 := .string ⟨#[]⟩) (by go_simp) (by go_simp) (by go_simp) (by go_simp) (by go_simp) (by go_simp) ⟨A3, ns.length, q3, z, ⟨#[]⟩, ns, rfl, ?_, (fun p hp => (Option.some.inj hp).symm), hnl, hzs, Nat.zero_le _, ?_⟩
    · have o1 := ownsRow_setCell_below hown (a := ⟨w.heap.size, 3, none⟩) (by first | (simp; done) | (simp; omega)) (.slice A3 ns.length q3)
      have o2 := ownsRow_setCell_below o1 (a := ⟨w.heap.size, 4, none⟩) (by first | (simp; done) | (simp; omega)) (.string z)
      have o3 := ownsRow_setCell_below o2 (a := ⟨w.heap.size + 1, 0, none⟩) (by first | (simp; done) | (simp; omega)) (.string N)
      have o4 := ownsRow_setCell_below o3 (a := ⟨w.heap.size + 1, 1, none⟩) (by first | (simp; done) | (simp; omega)) (.int .i64 T)
      have o5 := ownsRow_setCell_below o4 (a := ⟨w.heap.size + 1, 2, none⟩) (by first | (simp; done) | (simp; omega)) (.int .i64 15)
      have o6 := ownsRow_setCell_below o5 (a := ⟨w.heap.size + 1, 3, none⟩) (by first | (simp; done) | (simp; omega)) (.slice A3 ns.length q3)
      have o7 := ownsRow_setCell_below o6 (a := ⟨w.heap.size + 1, 4, none⟩) (by first | (simp; done) | (simp; omega)) (.string z)
      have o8 := ownsRow_setCell_below o7 (a := ⟨w.heap.size + 1, 5, none⟩) (by first | (simp; done) | (simp; omega)) (.string ⟨#[]⟩)
      exact own_mono o8 (by first | omega | (simp; omega))
    · clear hc3 hf3
      go_grown

theorem readFields_any (m : Nat) (N : ByteArray) (T K : Int) (fs : List Z.Str) (B : Nat) (A : Option Addr) (c : Nat) (w : World) (hmx : MX w) (hr : Reads w B A fs.length (fs.map sv)) (hB : B ≤ w.heap.size) (hcap : fs.length ≤ c) (hlen : fs.length ≤ 67108864) (hm : m ≤ 67108863) (hsz : Hid (∀ l ∈ fs, l.length ≤ m)) :
    Calls Tryz.prog 47 #[.agg #[.string N, .int .i64 T, .int .i64 K, .slice none 0 0, .string ⟨#[]⟩, .string ⟨#[]⟩], .slice A fs.length c] w (FldsOut m N T K (Z.readFlds K fs) w) := by
  by_cases hne : fs = []
  · subst hne
    exact flds_empty m N T K A c w
  · by_cases k1 : K = 1
    · subst k1; exact flds_1 m N T fs B A c w hmx hr hB hne hcap hlen hm hsz
    · by_cases k15 : K = 15
      · subst k15; exact flds_15 m N T fs B A c w hmx hr hB hne hcap hlen hm hsz
      · by_cases k16 : K = 16
        · subst k16; exact flds_16 m N T fs B A c w hmx hr hB hne hcap hlen hm hsz
        · exact flds_else m N T K k1 k15 k16 fs B A c w hmx hr hB hne hcap hlen hm hsz
end Go.Proofs.YtpgeeeamcncpkaaGreatDoor

/- The contracts of chapter 1, each behind whatever was made before: for the walks of the laws. -/
import Derived.Test.YtlknpipbjdecpaaDoorH
namespace Go.Proofs.YtlknpipbjdecpaaDoor
open Go.RowKit
set_option maxRecDepth 100000

/-- What a law's world is: below the block B it is as it was. -/
def Since (B : Nat) (w w' : World) : Prop := Below B w w' ∧ B ≤ w'.heap.size
theorem Since.start (w : World) : Since w.heap.size w w := ⟨Below.refl _ _, Nat.le_refl _⟩
theorem Since.next {B : Nat} {w w1 w2 : World} (h : Since B w w1) (k : Below w1.heap.size w1 w2) : Since B w w2 := ⟨below2' h.1 k h.2, Nat.le_trans h.2 k.size⟩
theorem Since.drew {B : Nat} {w w1 : World} (h : Since B w w1) : Since B w w1.drew := ⟨h.1.drew, h.2⟩
theorem Since.drewN {B : Nat} {w w1 : World} (h : Since B w w1) (n : Nat) : Since B w (w1.drewN n) := ⟨below_drewN h.1 n, h.2⟩
theorem after {P : Program} {f : FuncId} {args : Array Value} {w1 : World} {e0 : Ending} (B : Nat) (w : World) (h : Since B w w1) (k : Calls P f args w1 fun e w' => e = e0 ∧ Below w1.heap.size w1 w') :
    Calls P f args w1 fun e w' => e = e0 ∧ Since B w w' := k.mono fun _ _ hh => ⟨hh.1, h.next hh.2⟩
theorem Code.since {w w1 : World} {A : Option Addr} {c : Nat} {zs : List UInt8} (h : Code w A c zs) (hs : Since w.heap.size w w1) : Code w1 A c zs := h.below hs.1

theorem ret_rOpt_some {o : Option Z.Str} {s : ByteArray} (h : o = some (lst s)) : Ending.returned (rOpt o) = Ending.returned (.tuple #[.string s, .bool true]) := (rOpt_some h).symm
theorem ret_rOpt_none {o : Option Z.Str} (h : o = none) : Ending.returned (rOpt o) = Ending.returned (.tuple #[.string ⟨#[]⟩, .bool false]) := (rOpt_none h).symm

/-- A name that a function returns, as a text. -/
theorem opt_text {o : Option Z.Str} {L : Nat} (h : ∀ x, o = some x → x.length ≤ L) : o = none ∨ ∃ s : ByteArray, o = some (lst s) ∧ s.size ≤ L := by
  cases o with
  | none => exact Or.inl rfl
  | some x => exact Or.inr ⟨bs x, by rw [lst_bs], by rw [bs_size]; exact h x rfl⟩
theorem readName_len {t o x : Z.Str} (h : Z.readName t o = some x) : x.length ≤ 60 := (Z.valid_len (Z.readName_some h).2.2.2.2).2
theorem parentOf_len {s x : Z.Str} (h : Z.parentOf s = some x) : x.length ≤ 60 := (Z.valid_len (Z.parentOf_some h).2.2.1).2
theorem commonTop_len {s t x : Z.Str} (h : Z.commonTop s t = some x) : x.length ≤ 60 := (Z.valid_len (Z.commonTop_some h).2.2.1).2
theorem starOf_len {s x : Z.Str} (h : Z.starOf s = some x) : x.length ≤ 62 := by
  obtain ⟨p, hp, rfl⟩ := Z.starOf_some h
  have := parentOf_len hp
  split <;> simp <;> omega
theorem shortName_len {s t x : Z.Str} (h : Z.shortName s t = some x) : x.length ≤ 60 := by
  obtain ⟨h1, h2⟩ := Z.shortName_some h
  obtain ⟨y, hy, _, hl, _⟩ := Z.readName_short h1 h2
  rw [hy] at h
  injection h with h
  subst h
  have := (Z.valid_len h1).2
  omega
theorem nameOf_len {ls : List Z.Str} {x : Z.Str} (h : Z.nameOf ls = some x) : x.length ≤ 60 := (Z.valid_len (Z.labels_nameOf h).1).2

theorem i_IsBelow (a b : ByteArray) (ha : a.size ≤ 67108864) (hb : b.size ≤ 67108864) {B : Nat} {w w1 : World} (h : Since B w w1) :
    Calls Tryd.prog 61 #[.string a, .string b] w1 fun e w' => e = .returned (.bool (Z.below (lst a) (lst b))) ∧ Since B w w' := by
  exact after B w h (iIsBelow_any a b (by unfold maxLen; omega) (by unfold maxLen; omega) w1)
theorem i_NameValid (a : ByteArray) (ha : a.size ≤ 67108864) {B : Nat} {w w1 : World} (h : Since B w w1) :
    Calls Tryd.prog 19 #[.string a] w1 fun e w' => e = .returned (.bool (Z.valid (lst a))) ∧ Since B w w' := by
  exact after B w h (iNameValid_any a (by unfold maxLen; omega) w1)
theorem i_ShortName_some (a b : ByteArray) (ha : a.size ≤ 67108864) (hb : b.size ≤ 67108864) {p : ByteArray} (hp : (Z.shortName (lst a) (lst b)) = some (lst p)) {B : Nat} {w w1 : World} (h : Since B w w1) :
    Calls Tryd.prog 40 #[.string a, .string b] w1 fun e w' => e = .returned (.tuple #[.string p, .bool true]) ∧ Since B w w' := by
  exact after B w h ((iShortName_any a b (by unfold maxLen; omega) (by unfold maxLen; omega) w1).mono fun _ _ hh => ⟨hh.1.trans (ret_rOpt_some hp), hh.2⟩)
theorem i_ShortName_none (a b : ByteArray) (ha : a.size ≤ 67108864) (hb : b.size ≤ 67108864) (hp : (Z.shortName (lst a) (lst b)) = none) {B : Nat} {w w1 : World} (h : Since B w w1) :
    Calls Tryd.prog 40 #[.string a, .string b] w1 fun e w' => e = .returned (.tuple #[.string ⟨#[]⟩, .bool false]) ∧ Since B w w' := by
  exact after B w h ((iShortName_any a b (by unfold maxLen; omega) (by unfold maxLen; omega) w1).mono fun _ _ hh => ⟨hh.1.trans (ret_rOpt_none hp), hh.2⟩)
theorem s_NameValid (a : ByteArray) (ha : a.size ≤ 67108864) {B : Nat} {w w1 : World} (h : Since B w w1) :
    Calls Tryd.prog 15 #[.string a] w1 fun e w' => e = .returned (.bool (Z.valid (lst a))) ∧ Since B w w' := by
  exact after B w h (NameValid_any a (by unfold maxLen; omega) w1)
theorem s_ShortName_some (a b : ByteArray) (ha : a.size ≤ 67108864) (hb : b.size ≤ 67108864) {p : ByteArray} (hp : (Z.shortName (lst a) (lst b)) = some (lst p)) {B : Nat} {w w1 : World} (h : Since B w w1) :
    Calls Tryd.prog 57 #[.string a, .string b] w1 fun e w' => e = .returned (.tuple #[.string p, .bool true]) ∧ Since B w w' := by
  exact after B w h ((ShortName_any a b ha hb w1).mono fun _ _ hh => ⟨hh.1.trans (ret_rOpt_some hp), hh.2⟩)
theorem s_ShortName_none (a b : ByteArray) (ha : a.size ≤ 67108864) (hb : b.size ≤ 67108864) (hp : (Z.shortName (lst a) (lst b)) = none) {B : Nat} {w w1 : World} (h : Since B w w1) :
    Calls Tryd.prog 57 #[.string a, .string b] w1 fun e w' => e = .returned (.tuple #[.string ⟨#[]⟩, .bool false]) ∧ Since B w w' := by
  exact after B w h ((ShortName_any a b ha hb w1).mono fun _ _ hh => ⟨hh.1.trans (ret_rOpt_none hp), hh.2⟩)
end Go.Proofs.YtlknpipbjdecpaaDoor

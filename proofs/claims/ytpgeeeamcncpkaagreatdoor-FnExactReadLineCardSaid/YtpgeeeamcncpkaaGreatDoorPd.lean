/- What ParseRecord of the program returns. What ParseRecord of the program returns, for every text. -/
import Derived.Test.YtpgeeeamcncpkaaGreatDoorPc
import Derived.Test.YtpgeeeamcncpkaaGreatDoorIa
import Derived.Test.YtpgeeeamcncpkaaGreatDoorIg
import Derived.Test.YtpgeeeamcncpkaaGreatDoorSm
namespace Go.Proofs.YtpgeeeamcncpkaaGreatDoor
open Go.RowKit
set_option maxRecDepth 100000
set_option linter.unusedVariables false

theorem iKindOf_some (s : ByteArray) {k : Int} (hk : Hid (Z.kindOf (lst s) = some k)) (w : World) (ht : KT w) :
    Calls Tryz.prog 172 #[.string s] w fun e w' => e = .returned (.tuple #[.int .i64 k, .bool true]) ∧ Below w.heap.size w w' := by
  have h := iKindOf_any s w ht
  rw [hk.out] at h
  exact h
theorem iKindOf_none (s : ByteArray) (hk : Hid (Z.kindOf (lst s) = none)) (w : World) (ht : KT w) :
    Calls Tryz.prog 172 #[.string s] w fun e w' => e = .returned (.tuple #[.int .i64 0, .bool false]) ∧ Below w.heap.size w w' := by
  have h := iKindOf_any s w ht
  rw [hk.out] at h
  exact h
theorem iRecordValid_v (aN : ByteArray) (aT aK : Int) (aA : Option Addr) (aL aC : Nat) (aG aX : ByteArray) (aZ : List Int) (aB : Nat) (w : World) (hra : Reads w aB aA aL (aZ.map iv)) (hba : aB ≤ w.heap.size) (hla : aL ≤ 67108864) (hsa : aN.size ≤ 67108864) (hga : aG.size ≤ 67108864) (hxa : aX.size ≤ 67108864) (v : Bool) (hv : Hid (Z.recValid (⟨lst aN, aT, aK, aZ, lst aG, lst aX⟩ : Z.Rec) = v)) :
    Calls Tryz.prog 20 #[.agg #[.string aN, .int .i64 aT, .int .i64 aK, .slice aA aL aC, .string aG, .string aX]] w fun e w' => e = .returned (.bool v) ∧ Below w.heap.size w w' := by
  have h := iRecordValid_any aN aT aK aA aL aC aG aX aZ aB w hra hba hla hsa hga hxa
  rw [hv.out] at h
  exact h
theorem six_apart {w : World} {g g' : Nat} {t : TypeId} {cs : List Value} (h : Blk w g' t cs) (hne : g' ≠ g) (d0 d1 d2 d3 d4 d5 : Value) :
    Blk ((((((w.setCell ⟨g, 0, none⟩ d0).setCell ⟨g, 1, none⟩ d1).setCell ⟨g, 2, none⟩ d2).setCell ⟨g, 3, none⟩ d3).setCell ⟨g, 4, none⟩ d4).setCell ⟨g, 5, none⟩ d5) g' t cs :=
  (((((h.far (p := ⟨g, 0, none⟩) hne d0).far (p := ⟨g, 1, none⟩) hne d1).far (p := ⟨g, 2, none⟩) hne d2).far (p := ⟨g, 3, none⟩) hne d3).far (p := ⟨g, 4, none⟩) hne d4).far (p := ⟨g, 5, none⟩) hne d5
theorem readFields_eq (m : Nat) (N : ByteArray) (T K : Int) (fs : List Z.Str) (B : Nat) (A : Option Addr) (c : Nat) (w : World) (hmx : MX w) (hr : Reads w B A fs.length (fs.map sv)) (hB : B ≤ w.heap.size) (hcap : fs.length ≤ c) (hlen : fs.length ≤ 67108864) (hm : m ≤ 67108863) (hsz : Hid (∀ l ∈ fs, l.length ≤ m)) (o : Option (List Int × Z.Str × Z.Str)) (ho : Hid (Z.readFlds K fs = o)) (ok : Bool) (hok : Hid (o.isSome = ok)) :
    Calls Tryz.prog 47 #[.agg #[.string N, .int .i64 T, .int .i64 K, .slice none 0 0, .string ⟨#[]⟩, .string ⟨#[]⟩], .slice A fs.length c] w fun e w' => ∃ (A : Option Addr) (L c : Nat) (x y : ByteArray) (ns : List Int), e = .returned (.tuple #[.agg #[.string N, .int .i64 T, .int .i64 K, .slice A L c, .string x, .string y], .bool ok]) ∧ w'.ownsRow w.heap.size 3 1 (.slice A L c) L (ns.map iv) ∧ Hid (∀ p, o = some p → p = (ns, lst x, lst y)) ∧ L ≤ 67108864 ∧ x.size ≤ m ∧ y.size ≤ m ∧ Below w.heap.size w w' := by
  have h := readFields_any m N T K fs B A c w hmx hr hB hcap hlen hm hsz
  unfold FldsOut at h
  rw [ho.out, hok.out] at h
  exact h
theorem reads_four {w : World} {B : Nat} {A : Option Addr} {a b c d : Z.Str} (h : Reads w B A 4 ([a, b, c, d].map sv)) :
    ∃ (ad : Addr) (xa xb xc xd : ByteArray), A = some ad ∧ ad.block < B ∧ lst xa = a ∧ lst xb = b ∧ lst xc = c ∧ lst xd = d ∧
      (∀ W, Below B w W → W.cell? ad = some (.string xa) ∧ W.cell? ⟨ad.block, ad.off + 1, none⟩ = some (.string xb) ∧ W.cell? ⟨ad.block, ad.off + 2, none⟩ = some (.string xc) ∧ W.cell? ⟨ad.block, ad.off + 3, none⟩ = some (.string xd)) := by
  obtain ⟨ad, e, hb, hc⟩ := h.2 (by omega)
  refine ⟨ad, bs a, bs b, bs c, bs d, e, hb, rfl, rfl, rfl, rfl, fun W hW => ?_⟩
  have key : ∀ j u, ([a, b, c, d].map sv)[j]? = some u → W.cell? (ad.add j) = some u := fun j u hu => (hW.cell (p := ad.add j) (by rw [block_of_add]; exact hb)).trans (hc j u hu)
  exact ⟨key 0 _ rfl, key 1 _ rfl, key 2 _ rfl, key 3 _ rfl⟩
theorem split_sizes {s : ByteArray} {ls : List Z.Str} (hls : Lib.splitK [32] 0 3 (lst s) = ls) : ∀ l ∈ ls, l.length ≤ s.size := by
  have key : ∀ (k : Nat) (t : Z.Str), ∀ l ∈ Lib.splitK [32] 0 k t, l.length ≤ t.length := by
    intro k
    induction k with
    | zero => intro t l hl; simp [Lib.splitK] at hl; subst hl; exact Nat.le_refl _
    | succ k ih =>
      intro t l hl
      by_cases h : (32 : UInt8) ∈ t
      · rw [Z.splitK_hit 32 k h] at hl
        have e := congrArg List.length (Z.cut_at h)
        rw [List.length_append, List.length_cons] at e
        rcases List.mem_cons.1 hl with rfl | hl
        · omega
        · have := ih _ l hl; omega
      · rw [Z.splitK_miss 32 _ h] at hl
        simp at hl; subst hl; exact Nat.le_refl _
  intro l hl
  have := key 3 (lst s) l (by rw [hls]; exact hl)
  rwa [lst_length] at this

end Go.Proofs.YtpgeeeamcncpkaaGreatDoor

namespace Go.Proofs.YtpgeeeamcncpkaaGreatDoor
open Go.RowKit
set_option maxRecDepth 100000
set_option linter.unusedVariables false

end Go.Proofs.YtpgeeeamcncpkaaGreatDoor

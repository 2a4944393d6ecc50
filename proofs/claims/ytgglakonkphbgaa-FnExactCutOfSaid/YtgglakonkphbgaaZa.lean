/- Lists of records that are compared: what ZoneSame of program and model returns. -/
import Derived.Test.YtgglakonkphbgaaRs
import Derived.Test.YtgglakonkphbgaaGa
namespace Go.Proofs.Ytgglakonkphbgaa
open Go.RowKit
set_option maxRecDepth 100000
set_option linter.unusedVariables false
set_option linter.unusedSimpArgs false

/-- Are two lists of records equal? -/
def sameL : List Z.Rec → List Z.Rec → Bool
  | [], [] => true
  | a :: l, b :: m => Z.recSame a b && sameL l m
  | _, _ => false
theorem sameL_ne : ∀ {a b : List Z.Rec}, a.length ≠ b.length → sameL a b = false
  | [], [], h => absurd rfl h
  | [], b :: bs, _ => rfl
  | a :: l, [], _ => rfl
  | a :: l, b :: m, h => by
    unfold sameL
    rw [sameL_ne (a := l) (b := m) (by simpa using h), Bool.and_false]
theorem sameL_drop {a b : List Z.Rec} {k : Nat} {x y : Z.Rec} (ha : a[k]? = some x) (hb : b[k]? = some y) : sameL (a.drop k) (b.drop k) = (Z.recSame x y && sameL (a.drop (k + 1)) (b.drop (k + 1))) := by
  obtain ⟨ka, ea⟩ := List.getElem?_eq_some_iff.1 ha
  obtain ⟨kb, eb⟩ := List.getElem?_eq_some_iff.1 hb
  rw [List.drop_eq_getElem_cons ka, List.drop_eq_getElem_cons kb, ea, eb]
  rfl
theorem sameL_end {a b : List Z.Rec} {k : Nat} (ha : a.length = k) (hb : b.length = k) : sameL (a.drop k) (b.drop k) = true := by
  rw [List.drop_of_length_le (by omega), List.drop_of_length_le (by omega)]
  rfl
theorem zat {rs : List RV} {k : Nat} {r : RV} (h : rs[k]? = some r) : (rs.map RV.z)[k]? = some r.z := by rw [List.getElem?_map, h]; rfl
theorem Held.cells2 {w W : World} {b : Nat} {c0 c1 : Value} (h : Held w W b [c0, c1]) : W.cell? ⟨b, 0, none⟩ = some c0 ∧ W.cell? ⟨b, 1, none⟩ = some c1 := ⟨h.2.2.2 0 _ rfl, h.2.2.2 1 _ rfl⟩

set_option maxHeartbeats 4000000 in
theorem EqualFunc_any (rs os : List RV) (B B' : Nat) (A A' : Option Addr) (n n' c c' : Nat) (w : World) (hr : Recs w B A n rs) (hB : B ≤ w.heap.size) (ho : Recs w B' A' n' os) (hB' : B' ≤ w.heap.size) (hn : n ≤ 67108864) (hn' : n' ≤ 67108864) (hf : Hid (∀ r ∈ rs, r.fine)) (hf' : Hid (∀ r ∈ os, r.fine)) (v : Bool) (hv : Hid (sameL (rs.map RV.z) (os.map RV.z) = v)) :
    Calls Try.prog 47 #[.slice A n c, .slice A' n' c', .func (.func 48) #[] #[]] w fun e w' => e = .returned (.bool v) ∧ Below w.heap.size w w' := by
  have hl1 := hid hr.2.1
  have hl2 := hid ho.2.1
  by_cases hnn : n = n'
  · subst hnn
    go_enter Try.func47, Try.ntmps47
    go_wp2_with fail
    go_loopw [17] (fun i wr => ∃ k : Nat, k ≤ n ∧ i = .int .i64 k ∧ Hid (sameL ((rs.map RV.z).drop k) ((os.map RV.z).drop k) = v) ∧ Below w.heap.size w wr) (fun i _ => n - (intOf i).toNat)
    case atStart => exact ⟨0, Nat.zero_le _, rfl, hid (by simpa using hv.out), Below.refl _ _⟩
    case round =>
      obtain ⟨k, hk, rfl, hv9, hb⟩ := hrel
      have hbs := hb.size
      by_cases hlt : k < n
      · obtain ⟨ad, r, p, rfl, hp, hab, hrk, hrr, c0, c1, c2, c3, c4, c5⟩ := (hr.below hb hB).at_ hlt
        obtain ⟨ad', x, q, rfl, hq, hab', hxk, hxr, d0, d1, d2, d3, d4, d5⟩ := (ho.below hb hB').at_ hlt
        obtain ⟨y, hy⟩ : ∃ y, Z.recSame r.z x.z = y := ⟨_, rfl⟩
        have hst := sameL_drop (zat hrk) (zat hxk)
        rw [hv9.out, hy] at hst
        have HST := hid hst
        have HY := hid hy
        have hlr := (hf.out r (List.mem_of_getElem? hrk)).2.1
        have hlx := (hf'.out x (List.mem_of_getElem? hxk)).2.1
        clear hst hy hrk hxk hv9
        obtain ⟨rN, rT, rK, rA, rL, rC, rG, rX, rZ⟩ := r
        obtain ⟨xN, xT, xK, xA, xL, xC, xG, xX, xZ⟩ := x
        dsimp only at hrr hxr hlr hlx c0 c1 c2 c3 c4 c5 d0 d1 d2 d3 d4 d5
        have p1 : 0 ≤ (k : Int) := by omega
        have p2 : (k : Int) < n := by omega
        have hpb : p.block < wr.heap.size := by omega
        have hqb : q.block < wr.heap.size := by omega
        go_wp2_with fail
        refine (iRecordSame_eq rN rT rK rA rL rC rG rX rZ B xN xT xK xA xL xC xG xX xZ B' _ ((hrr.alloc (by omega) _).alloc (by simp; omega) _) (by simp; omega) hlr ((hxr.alloc (by omega) _).alloc (by simp; omega) _) (by simp; omega) hlx y HY.out).mono ?_
        rintro e w9 ⟨rfl, hb9⟩
        have hb10 : Below w.heap.size w w9 := (((hb.alloc (by omega) _).alloc (by simp; omega) _)).trans (hb9.mono (by simp; omega))
        clear hb9
        cases y with
        | false =>
          obtain rfl : v = false := HST.out
          go_wp2_with fail
          go_ret
          exact ⟨rfl, hb10⟩
        | true =>
          have hv10 : Hid (sameL ((rs.map RV.z).drop (k + 1)) ((os.map RV.z).drop (k + 1)) = v) := hid (by rw [HST.out, Bool.true_and])
          go_wp2_with fail
          exact ⟨⟨k + 1, by omega, by go_num, hv10, hb10⟩, by simp [intOf]; omega⟩
      · obtain rfl : k = n := by omega
        obtain rfl : v = true := by rw [← hv9.out]; exact sameL_end (by simpa using hl1.out) (by simpa using hl2.out)
        go_wp2_with fail
        go_ret
        exact ⟨rfl, hb⟩
  · obtain rfl : v = false := by rw [← hv.out]; exact sameL_ne (by simpa [hl1.out, hl2.out] using hnn)
    go_enter Try.func47, Try.ntmps47
    go_wp2_with fail
    go_ret
    exact ⟨rfl, Below.refl _ _⟩

/-- Are two zones equal? -/
def sameZ (aO bO : ByteArray) (rs os : List RV) : Bool := decide (lst aO = lst bO) && sameL (rs.map RV.z) (os.map RV.z)

end Go.Proofs.Ytgglakonkphbgaa

/- What the methods 'valid' of the program's forms of data return. What pickData of the program returns: what a record has in the fields of its kind. What withData of the program returns: a record with nothing but the data of its kind. -/
import Derived.Test.YtgglakonkphbgaaIa
import Derived.Test.YtgglakonkphbgaaSa
import Derived.Test.YtgglakonkphbgaaI
import Derived.Laws.CopyOwn
import Derived.Deep.RegionLaw
namespace Go.Proofs.Ytgglakonkphbgaa
open Go.RowKit
set_option maxRecDepth 100000
set_option linter.unusedVariables false

theorem plain_add (b o j : Nat) : (⟨b, o, none⟩ : Addr).add j = ⟨b, o + j, none⟩ := by unfold Addr.add; split <;> simp_all
theorem Held.reads {w W : World} {b : Nat} {cs : List Value} (h : Held w W b cs) (off n : Nat) (xs : List Value) (hn : xs.length = n) (hx : ∀ j u, xs[j]? = some u → cs[off + j]? = some u) : Reads W (b + 1) (some ⟨b, off, none⟩) n xs :=
  ⟨hn, fun _ => ⟨_, rfl, by simp, fun j u hu => by rw [plain_add]; exact h.2.2.2 _ _ (hx j u hu)⟩⟩
theorem reads_new (w : World) (cs : List Value) (T : TypeId) (off n : Nat) (xs : List Value) (hn : xs.length = n) (hx : ∀ j u, xs[j]? = some u → cs[off + j]? = some u) :
    Reads (w.alloc (.cells cs.toArray T)) (w.heap.size + 1) (some ⟨w.heap.size, off, none⟩) n xs := (Held.box w cs T).reads off n xs hn hx

set_option maxHeartbeats 1000000 in
theorem aValid_any (n0 n1 n2 n3 : Int) (w : World) :
    Calls Try.prog 141 #[.agg #[.int .i64 n0, .int .i64 n1, .int .i64 n2, .int .i64 n3]] w fun e w' => e = .returned (.bool ([n0, n1, n2, n3].all (within · 255))) ∧ Below w.heap.size w w' := by
  go_enter Try.func141, Try.ntmps141
  go_wp2_with (go_at_call 142; refine (allWithin_any [n0, n1, n2, n3] (w.heap.size + 1) _ 4 _ _ _ (reads_new w [.int .i64 n0, .int .i64 n1, .int .i64 n2, .int .i64 n3] _ 0 _ _ rfl (by intro j u hu; simpa [iv] using hu)) (by omega)).mono ?_; rintro e w2 ⟨rfl, rfl⟩)
  go_ret
  exact ⟨ret_bool (by simp), by go_grown⟩

set_option maxHeartbeats 1000000 in
theorem tValid_any (t : ByteArray) (ht : t.size ≤ 67108864) (w : World) :
    Calls Try.prog 144 #[.agg #[.string t]] w fun e w' => e = .returned (.bool (Z.valid (lst t))) ∧ Below w.heap.size w w' := by
  go_enter Try.func144, Try.ntmps144
  go_wp2_with (go_at_call 72; refine (iNameValid_any _ (by unfold maxLen; omega) _).mono ?_; rintro e w2 ⟨rfl, hb2⟩)
  go_ret
  exact ⟨rfl, ((Below.refl _ _).alloc (Nat.le_refl _) _).trans (hb2.mono (by simp))⟩

set_option maxHeartbeats 1000000 in
theorem xValid_any (t : ByteArray) (ht : t.size ≤ 67108864) (w : World) :
    Calls Try.prog 150 #[.agg #[.string t]] w fun e w' => e = .returned (.bool (Z.okText (lst t))) ∧ Below w.heap.size w w' := by
  by_cases h20 : t.size ≤ 20
  · go_enter Try.func150, Try.ntmps150
    go_wp2
    go_loop [11] (fun i => ∃ k : Nat, k ≤ t.size ∧ i = .int .i64 k ∧ Hid (((lst t).take k).all Z.okChar = true)) (fun i => t.size - (intOf i).toNat)
    case atStart => exact ⟨0, Nat.zero_le _, rfl, hid (by simp)⟩
    case round =>
      obtain ⟨k, hk, rfl, hok⟩ := hrel
      by_cases hlt : k < t.size
      · go_wp2_with (go_at_call 151; refine (isTextByte_any _ _).mono ?_; rintro e w' ⟨rfl, rfl⟩)
        · have hb : (!okC t[k].toNat) = true := by assumption
          go_ret
          exact ⟨ret_bool (not_txt t k hlt (by simpa using hb)).symm, by go_grown⟩
        · have hb : (!okC t[k].toNat) = false := by assumption
          refine ⟨⟨k + 1, by omega, by go_num, hid ?_⟩, by simp [intOf]; omega⟩
          rw [txt_snoc t k hlt, hok.out]
          simpa using hb
      · have hks : k = t.size := by omega
        have HN := hid (txt_all t h20 (by rw [← hks]; exact hok.out))
        clear hks
        go_wp2
        go_ret
        exact ⟨ret_bool HN.out.symm, by go_grown⟩
  · have HN := hid (txt_len t h20)
    go_enter Try.func150, Try.ntmps150
    go_wp2
    go_ret
    exact ⟨ret_bool HN.out.symm, by go_grown⟩

set_option maxHeartbeats 1000000 in
theorem mValid_any (n0 : Int) (t : ByteArray) (ht : t.size ≤ 67108864) (w : World) :
    Calls Try.prog 148 #[.agg #[.int .i64 n0, .string t]] w fun e w' => e = .returned (.bool (Z.valid (lst t) && [n0].all (within · 999))) ∧ Below w.heap.size w w' := by
  have hx0 := Held.box w [.int .i64 n0, .string t] 131
  go_enter Try.func148, Try.ntmps148
  go_wp2_with (first
    | (go_at_call 72; refine (iNameValid_any _ (by unfold maxLen; omega) _).mono ?_; rintro e w2 ⟨rfl, hb2⟩; have hx2 := Held.next hx0 hb2; have q0 := hx2.2.2.2 0 _ rfl; have q1 := hx2.2.2.2 1 _ rfl)
    | (go_at_call 142; refine (allWithin_any [n0] (w.heap.size + 1) _ 1 _ _ _ (hx2.reads 0 _ _ rfl (by intro j u hu; match j, hu with | 0, hu => simpa [iv] using hu)) (by omega)).mono ?_; rintro e w3 ⟨rfl, rfl⟩))
  all_goals go_ret
  all_goals exact ⟨ret_bool (by simp_all), hx2.1⟩

set_option maxHeartbeats 1000000 in
theorem sValid_any (t : ByteArray) (n0 n1 n2 n3 n4 : Int) (ht : t.size ≤ 67108864) (w : World) :
    Calls Try.prog 146 #[.agg #[.string t, .int .i64 n0, .int .i64 n1, .int .i64 n2, .int .i64 n3, .int .i64 n4]] w fun e w' => e = .returned (.bool (Z.valid (lst t) && within n0 4294967295 && [n1, n2, n3, n4].all (within · 100000))) ∧ Below w.heap.size w w' := by
  have hx0 := Held.box w [.string t, .int .i64 n0, .int .i64 n1, .int .i64 n2, .int .i64 n3, .int .i64 n4] 128
  go_enter Try.func146, Try.ntmps146
  go_wp2_with (first
    | (go_at_call 72; refine (iNameValid_any _ (by unfold maxLen; omega) _).mono ?_; rintro e w2 ⟨rfl, hb2⟩; have hx2 := Held.next hx0 hb2; obtain ⟨q0, q1, q2, q3, q4, q5⟩ := hx2.cells6)
    | (go_at_call 114; refine (isWithin_any _ _ _).mono ?_; rintro e w' ⟨rfl, rfl⟩)
    | (go_at_call 142; refine (allWithin_any [n1, n2, n3, n4] (w.heap.size + 1) _ 4 _ _ _ (hx2.reads 2 _ _ rfl (by intro j u hu; rw [show 2 + j = j + 2 by omega]; simpa [iv] using hu)) (by omega)).mono ?_; rintro e w3 ⟨rfl, rfl⟩))
  all_goals go_ret
  all_goals exact ⟨ret_bool (by simp_all), hx2.1⟩
end Go.Proofs.Ytgglakonkphbgaa

namespace Go.Proofs.Ytgglakonkphbgaa
open Go.RowKit
set_option maxRecDepth 100000
set_option linter.unusedVariables false

/-- A list of numbers at a length, with 0 for what is missing. -/
def pad (n : Nat) (zs : List Int) : List Int := zs.take n ++ (List.replicate n (0 : Int)).drop (zs.take n).length
theorem pad_len (n : Nat) (zs : List Int) : (pad n zs).length = n := by unfold pad; simp; omega
theorem pad_eq {n : Nat} {zs : List Int} (h : zs.length = n) : pad n zs = zs := by
  unfold pad
  rw [List.take_of_length_le (by omega)]
  simp [h]
theorem list4 {l : List Int} (h : l.length = 4) : ∃ a b c d, l = [a, b, c, d] := by
  match l, h with
  | [a, b, c, d], _ => exact ⟨a, b, c, d, rfl⟩
theorem list5 {l : List Int} (h : l.length = 5) : ∃ a b c d e, l = [a, b, c, d, e] := by
  match l, h with
  | [a, b, c, d, e], _ => exact ⟨a, b, c, d, e, rfl⟩
theorem list1 {l : List Int} (h : l.length = 1) : ∃ a, l = [a] := by
  match l, h with
  | [a], _ => exact ⟨a, rfl⟩
theorem splice_pad (n : Nat) (zs : List Int) : splice (List.replicate n (iv 0)) 0 ((zs.take n).map iv) = (pad n zs).map iv := by
  unfold splice pad
  simp
theorem cells_at {w : World} {g : Nat} {cs : Array Value} {t : TypeId} {fr : Nat × Nat} (h : w.heap[g]? = some (.cells cs t fr)) (j : Nat) : w.cell? ⟨g, j, none⟩ = cs[j]? := by
  simp [World.cell?, h]
theorem infoInt : (Try.prog.info? 3).map (·.size) = some 1 := by kernel_rfl
theorem iv_one (zs : List Int) : ∀ v ∈ zs.map iv, v.oneCell' = true := by intro v hv; obtain ⟨z, _, rfl⟩ := List.mem_map.1 hv; rfl
theorem heap2 (w : World) (a b : Obj) : ((w.alloc a).alloc b).heap[w.heap.size + 1]? = some b := by
  have e : w.heap.size + 1 = (w.alloc a).heap.size := by simp
  rw [e]
  unfold World.alloc
  simp only [Array.getElem?_push_size]
theorem src_of {w : World} {B n : Nat} {A : Option Addr} {zs : List Int} (h : Reads w B A n (zs.map iv)) (m : Nat) : 0 < ((zs.take m).map iv).length → ∃ ad, A = some ad ∧ ∀ j v, ((zs.take m).map iv)[j]? = some v → w.cell? (ad.add j) = some v := fun h0 => by
  have hl := reads_len h
  obtain ⟨ad, e, _, hc⟩ := h.2 (by simp at h0; omega)
  refine ⟨ad, e, fun j v hv => hc j v ?_⟩
  rw [List.getElem?_map] at hv ⊢
  rw [List.getElem?_take] at hv
  split at hv
  · exact hv
  · cases hv

theorem splice_cons (x : Value) (Z cs : List Value) : splice (x :: Z) 1 cs = x :: splice Z 0 cs := by
  unfold splice
  simp [Nat.add_comm]
theorem splice_snoc (x : Value) (Z cs : List Value) (h : cs.length ≤ Z.length) : splice (Z ++ [x]) 0 cs = splice Z 0 cs ++ [x] := by
  unfold splice
  simp only [List.take_zero, List.nil_append, Nat.zero_add]
  rw [List.drop_append_of_le_length h, List.append_assoc]

set_option maxHeartbeats 2000000 in
theorem pick_A (aN : ByteArray) (aT : Int) (aA : Option Addr) (aL aC : Nat) (aG aX : ByteArray) (aZ : List Int) (aB : Nat) (w : World) (hra : Reads w aB aA aL (aZ.map iv)) (hba : aB ≤ w.heap.size) (hla : aL ≤ 67108864) :
    Calls Try.prog 119 #[.agg #[.string aN, .int .i64 aT, .int .i64 1, .slice aA aL aC, .string aG, .string aX]] w fun e w' => ∃ n0 n1 n2 n3 : Int, e = .returned (.tuple #[.iface 123 (.agg #[.int .i64 n0, .int .i64 n1, .int .i64 n2, .int .i64 n3]), .bool true]) ∧ Hid (pad 4 aZ = [n0, n1, n2, n3]) ∧ Below w.heap.size w w' := by
  obtain ⟨n0, n1, n2, n3, hp⟩ := list4 (pad_len 4 aZ)
  have hlen := hid (reads_len hra)
  have hsp := splice_pad 4 aZ
  rw [hp] at hsp
  have HSP := hid hsp
  have HP := hid hp
  clear hsp hp
  go_enter Try.func119, Try.ntmps119
  go_wp2
  have hr2 := (hra.alloc hba (.cells #[.string aN, .int .i64 aT, .int .i64 1, .slice aA aL aC, .string aG, .string aX] 54)).alloc (by simp; omega) (.cells #[.int .i64 0, .int .i64 0, .int .i64 0, .int .i64 0] 123)
  go_region_law ((refine step_copy_splice rfl (.tmp 13) (.tmp 15) 52 52 rfl 3 Try.underlying52 infoInt _ _ _ _ _ _ (by rfl) (by rfl) (w.heap.size + 1) 0 (List.replicate 4 (iv 0)) 123 (heap2 _ _ _) ((aZ.take 4).map iv) (by rw [List.length_map, List.length_take, hlen.out]; exact Nat.min_comm _ _) (fun h => ⟨rfl, src_of hr2 4 h⟩) (by simp; omega) (iv_one _) w.heap.size w (by go_grown) (by omega) ?_; intro w4 hg4 hb4))
  rw [HSP.out] at hg4
  have q0 : w4.cell? ⟨w.heap.size + 1, 0, none⟩ = some (.int .i64 n0) := cells_at hg4.out 0
  have q1 : w4.cell? ⟨w.heap.size + 1, 1, none⟩ = some (.int .i64 n1) := cells_at hg4.out 1
  have q2 : w4.cell? ⟨w.heap.size + 1, 2, none⟩ = some (.int .i64 n2) := cells_at hg4.out 2
  have q3 : w4.cell? ⟨w.heap.size + 1, 3, none⟩ = some (.int .i64 n3) := cells_at hg4.out 3
  go_wp2
  go_ret2
  exact ⟨n0, n1, n2, n3, rfl, HP, hb4⟩

set_option maxHeartbeats 2000000 in
theorem pick_S (aN : ByteArray) (aT : Int) (aA : Option Addr) (aL aC : Nat) (aG aX : ByteArray) (aZ : List Int) (aB : Nat) (w : World) (hra : Reads w aB aA aL (aZ.map iv)) (hba : aB ≤ w.heap.size) (hla : aL ≤ 67108864) :
    Calls Try.prog 119 #[.agg #[.string aN, .int .i64 aT, .int .i64 6, .slice aA aL aC, .string aG, .string aX]] w fun e w' => ∃ n0 n1 n2 n3 n4 : Int, e = .returned (.tuple #[.iface 128 (.agg #[.string aG, .int .i64 n0, .int .i64 n1, .int .i64 n2, .int .i64 n3, .int .i64 n4]), .bool true]) ∧ Hid (pad 5 aZ = [n0, n1, n2, n3, n4]) ∧ Below w.heap.size w w' := by
  obtain ⟨n0, n1, n2, n3, n4, hp⟩ := list5 (pad_len 5 aZ)
  have hlen := hid (reads_len hra)
  have hsp := splice_pad 5 aZ
  rw [hp] at hsp
  replace hsp := (splice_cons (.string aG) (List.replicate 5 (iv 0)) ((aZ.take 5).map iv)).trans (by rw [hsp])
  have HSP := hid hsp
  have HP := hid hp
  clear hsp hp
  go_enter Try.func119, Try.ntmps119
  go_wp2
  have hr2 := (hra.alloc hba (.cells #[.string aN, .int .i64 aT, .int .i64 6, .slice aA aL aC, .string aG, .string aX] 54)).alloc (by simp; omega) (.cells #[.string aG, .int .i64 0, .int .i64 0, .int .i64 0, .int .i64 0, .int .i64 0] 128)
  go_region_law ((refine step_copy_splice rfl (.tmp 33) (.tmp 35) 52 52 rfl 3 Try.underlying52 infoInt _ _ _ _ _ _ (by rfl) (by rfl) (w.heap.size + 1) 1 (.string aG :: List.replicate 5 (iv 0)) 128 (heap2 _ _ _) ((aZ.take 5).map iv) (by rw [List.length_map, List.length_take, hlen.out]; exact Nat.min_comm _ _) (fun h => ⟨rfl, src_of hr2 5 h⟩) (by simp; omega) (iv_one _) w.heap.size w (by go_grown) (by omega) ?_; intro w4 hg4 hb4))
  rw [HSP.out] at hg4
  have q0 : w4.cell? ⟨w.heap.size + 1, 0, none⟩ = some (.string aG) := cells_at hg4.out 0
  have q1 : w4.cell? ⟨w.heap.size + 1, 1, none⟩ = some (.int .i64 n0) := cells_at hg4.out 1
  have q2 : w4.cell? ⟨w.heap.size + 1, 2, none⟩ = some (.int .i64 n1) := cells_at hg4.out 2
  have q3 : w4.cell? ⟨w.heap.size + 1, 3, none⟩ = some (.int .i64 n2) := cells_at hg4.out 3
  have q4 : w4.cell? ⟨w.heap.size + 1, 4, none⟩ = some (.int .i64 n3) := cells_at hg4.out 4
  have q5 : w4.cell? ⟨w.heap.size + 1, 5, none⟩ = some (.int .i64 n4) := cells_at hg4.out 5
  go_wp2
  go_ret2
  exact ⟨n0, n1, n2, n3, n4, rfl, HP, hb4⟩

set_option maxHeartbeats 2000000 in
theorem pick_M (aN : ByteArray) (aT : Int) (aA : Option Addr) (aL aC : Nat) (aG aX : ByteArray) (aZ : List Int) (aB : Nat) (w : World) (hra : Reads w aB aA aL (aZ.map iv)) (hba : aB ≤ w.heap.size) (hla : aL ≤ 67108864) :
    Calls Try.prog 119 #[.agg #[.string aN, .int .i64 aT, .int .i64 15, .slice aA aL aC, .string aG, .string aX]] w fun e w' => ∃ n0 : Int, e = .returned (.tuple #[.iface 131 (.agg #[.int .i64 n0, .string aG]), .bool true]) ∧ Hid (pad 1 aZ = [n0]) ∧ Below w.heap.size w w' := by
  obtain ⟨n0, hp⟩ := list1 (pad_len 1 aZ)
  have hlen := hid (reads_len hra)
  have hsp := splice_pad 1 aZ
  rw [hp] at hsp
  replace hsp := (splice_snoc (.string aG) (List.replicate 1 (iv 0)) ((aZ.take 1).map iv) (by simp; omega)).trans (by rw [hsp])
  have HSP := hid hsp
  have HP := hid hp
  clear hsp hp
  go_enter Try.func119, Try.ntmps119
  go_wp2
  have hr2 := (hra.alloc hba (.cells #[.string aN, .int .i64 aT, .int .i64 15, .slice aA aL aC, .string aG, .string aX] 54)).alloc (by simp; omega) (.cells #[.int .i64 0, .string aG] 131)
  go_region_law ((refine step_copy_splice rfl (.tmp 45) (.tmp 47) 52 52 rfl 3 Try.underlying52 infoInt _ _ _ _ _ _ (by rfl) (by rfl) (w.heap.size + 1) 0 (List.replicate 1 (iv 0) ++ [.string aG]) 131 (heap2 _ _ _) ((aZ.take 1).map iv) (by rw [List.length_map, List.length_take, hlen.out]; exact Nat.min_comm _ _) (fun h => ⟨rfl, src_of hr2 1 h⟩) (by simp; omega) (iv_one _) w.heap.size w (by go_grown) (by omega) ?_; intro w4 hg4 hb4))
  rw [HSP.out] at hg4
  have q0 : w4.cell? ⟨w.heap.size + 1, 0, none⟩ = some (.int .i64 n0) := cells_at hg4.out 0
  have q1 : w4.cell? ⟨w.heap.size + 1, 1, none⟩ = some (.string aG) := cells_at hg4.out 1
  go_wp2
  go_ret2
  exact ⟨n0, rfl, HP, hb4⟩

set_option maxHeartbeats 2000000 in
theorem pick_T (aN : ByteArray) (aT aK : Int) (aA : Option Addr) (aL aC : Nat) (aG aX : ByteArray) (aZ : List Int) (aB : Nat) (w : World) (hra : Reads w aB aA aL (aZ.map iv)) (hba : aB ≤ w.heap.size) (hla : aL ≤ 67108864) (hk : aK = 2 ∨ aK = 5 ∨ aK = 12) :
    Calls Try.prog 119 #[.agg #[.string aN, .int .i64 aT, .int .i64 aK, .slice aA aL aC, .string aG, .string aX]] w fun e w' => e = .returned (.tuple #[.iface 125 (.agg #[.string aG]), .bool true]) ∧ Below w.heap.size w w' := by
  rcases hk with rfl | rfl | rfl
  all_goals
    go_enter Try.func119, Try.ntmps119
    go_wp2
    go_ret2
    exact ⟨rfl, by go_grown⟩

set_option maxHeartbeats 2000000 in
theorem pick_X (aN : ByteArray) (aT : Int) (aA : Option Addr) (aL aC : Nat) (aG aX : ByteArray) (aZ : List Int) (aB : Nat) (w : World) (hra : Reads w aB aA aL (aZ.map iv)) (hba : aB ≤ w.heap.size) (hla : aL ≤ 67108864) :
    Calls Try.prog 119 #[.agg #[.string aN, .int .i64 aT, .int .i64 16, .slice aA aL aC, .string aG, .string aX]] w fun e w' => e = .returned (.tuple #[.iface 133 (.agg #[.string aX]), .bool true]) ∧ Below w.heap.size w w' := by
  go_enter Try.func119, Try.ntmps119
  go_wp2
  go_ret2
  exact ⟨rfl, by go_grown⟩

set_option maxHeartbeats 2000000 in
theorem pick_none (aN : ByteArray) (aT aK : Int) (aA : Option Addr) (aL aC : Nat) (aG aX : ByteArray) (aZ : List Int) (aB : Nat) (w : World) (hra : Reads w aB aA aL (aZ.map iv)) (hba : aB ≤ w.heap.size) (hla : aL ≤ 67108864) (k1 : ¬ aK = 1) (k2 : ¬ aK = 2) (k5 : ¬ aK = 5) (k6 : ¬ aK = 6) (k12 : ¬ aK = 12) (k15 : ¬ aK = 15) (k16 : ¬ aK = 16) :
    Calls Try.prog 119 #[.agg #[.string aN, .int .i64 aT, .int .i64 aK, .slice aA aL aC, .string aG, .string aX]] w fun e w' => e = .returned (.tuple #[.nilIface, .bool false]) ∧ Below w.heap.size w w' := by
  go_enter Try.func119, Try.ntmps119
  go_wp2
  go_ret2
  exact ⟨rfl, by go_grown⟩
end Go.Proofs.Ytgglakonkphbgaa

namespace Go.Proofs.Ytgglakonkphbgaa
open Go.RowKit
set_option maxRecDepth 100000
set_option linter.unusedVariables false

theorem clone_any (zs : List Int) (b off n c : Nat) (w : World) (hl : zs.length = n) (hn : n ≤ 1000000) (hc : ∀ j v, (zs.map iv)[j]? = some v → w.cell? ⟨b, off + j, none⟩ = some v) :
    Calls Try.prog 96 #[.slice (some ⟨b, off, none⟩) n c] w fun e w' => ∃ A c', e = .returned (.slice A n c') ∧ w'.ownsRow w.heap.size 3 1 (.slice A n c') n (zs.map iv) ∧ Below w.heap.size w w' := by
  refine (Try.slices_Clone_int b off n c zs w (by omega) (by omega) ?_).mono ?_
  · intro j hj
    exact hc j _ (by rw [List.getElem?_map, List.getElem?_eq_getElem hj]; simp [iv, hj])
  · rintro e w' ⟨v', rfl, hown, _, hb⟩
    rw [List.take_of_length_le (by omega)] at hown
    obtain ⟨A, c', rfl⟩ := own_slice hown
    exact ⟨A, c', rfl, hown, hb⟩
theorem cell_new' (w : World) (cs : List Value) (T : TypeId) (b j : Nat) (v : Value) (hb : b = w.heap.size) (h : cs[j]? = some v) : (w.alloc (.cells cs.toArray T)).cell? ⟨b, j, none⟩ = some v := by
  subst hb; exact cell_new w cs T j v h
theorem ret_with {a : Act} {W : World} {post : Ending → World → Prop} (b : Nat) {c0 c1 c2 c3 c4 c5 : Value} (hp : a.tmps[4]?.getD undef = .pointer (some ⟨b, 0, none⟩)) (hd : a.defers = [])
    (h0 : W.cell? ⟨b, 0, none⟩ = some c0) (h1 : W.cell? ⟨b, 1, none⟩ = some c1) (h2 : W.cell? ⟨b, 2, none⟩ = some c2) (h3 : W.cell? ⟨b, 3, none⟩ = some c3) (h4 : W.cell? ⟨b, 4, none⟩ = some c4) (h5 : W.cell? ⟨b, 5, none⟩ = some c5)
    (h : post (.returned (.agg #[c0, c1, c2, c3, c4, c5])) W) : bodyPost Try.prog Try.f120 post Exit.ret a W :=
  bodyPost_ret (by simp [results, Try.results120, go_sem, hp, h0, h1, h2, h3, h4, h5]) hd h
theorem own_reads {w : World} {base n : Nat} {e : TypeId} {A : Option Addr} {c : Nat} {xs : List Value} (h : w.ownsRow base e 1 (.slice A n c) n xs) {W : World} (hb : Below w.heap.size w W) : Reads W W.heap.size A n xs :=
  ((Reads.of_own h).below hb (Nat.le_refl _)).more hb.size
theorem ta_AA (v : Value) (W : World) : (Instr.typeAssert (.iface 123 v) 97 123 true).run Try.prog W = .ok (.tuple #[v, .bool true]) W := by kernel_rfl
theorem ta_TA (v : Value) (W : World) : (Instr.typeAssert (.iface 125 v) 97 123 true).run Try.prog W = .ok (.tuple #[.agg #[.int .i64 0, .int .i64 0, .int .i64 0, .int .i64 0], .bool false]) W := by kernel_rfl
theorem ta_TT (v : Value) (W : World) : (Instr.typeAssert (.iface 125 v) 97 125 true).run Try.prog W = .ok (.tuple #[v, .bool true]) W := by kernel_rfl
theorem ta_SA (v : Value) (W : World) : (Instr.typeAssert (.iface 128 v) 97 123 true).run Try.prog W = .ok (.tuple #[.agg #[.int .i64 0, .int .i64 0, .int .i64 0, .int .i64 0], .bool false]) W := by kernel_rfl
theorem ta_ST (v : Value) (W : World) : (Instr.typeAssert (.iface 128 v) 97 125 true).run Try.prog W = .ok (.tuple #[.agg #[.string ⟨#[]⟩], .bool false]) W := by kernel_rfl
theorem ta_SS (v : Value) (W : World) : (Instr.typeAssert (.iface 128 v) 97 128 true).run Try.prog W = .ok (.tuple #[v, .bool true]) W := by kernel_rfl
theorem ta_MA (v : Value) (W : World) : (Instr.typeAssert (.iface 131 v) 97 123 true).run Try.prog W = .ok (.tuple #[.agg #[.int .i64 0, .int .i64 0, .int .i64 0, .int .i64 0], .bool false]) W := by kernel_rfl
theorem ta_MT (v : Value) (W : World) : (Instr.typeAssert (.iface 131 v) 97 125 true).run Try.prog W = .ok (.tuple #[.agg #[.string ⟨#[]⟩], .bool false]) W := by kernel_rfl
theorem ta_MS (v : Value) (W : World) : (Instr.typeAssert (.iface 131 v) 97 128 true).run Try.prog W = .ok (.tuple #[.agg #[.string ⟨#[]⟩, .int .i64 0, .int .i64 0, .int .i64 0, .int .i64 0, .int .i64 0], .bool false]) W := by kernel_rfl
theorem ta_MM (v : Value) (W : World) : (Instr.typeAssert (.iface 131 v) 97 131 true).run Try.prog W = .ok (.tuple #[v, .bool true]) W := by kernel_rfl
theorem ta_XA (v : Value) (W : World) : (Instr.typeAssert (.iface 133 v) 97 123 true).run Try.prog W = .ok (.tuple #[.agg #[.int .i64 0, .int .i64 0, .int .i64 0, .int .i64 0], .bool false]) W := by kernel_rfl
theorem ta_XT (v : Value) (W : World) : (Instr.typeAssert (.iface 133 v) 97 125 true).run Try.prog W = .ok (.tuple #[.agg #[.string ⟨#[]⟩], .bool false]) W := by kernel_rfl
theorem ta_XS (v : Value) (W : World) : (Instr.typeAssert (.iface 133 v) 97 128 true).run Try.prog W = .ok (.tuple #[.agg #[.string ⟨#[]⟩, .int .i64 0, .int .i64 0, .int .i64 0, .int .i64 0, .int .i64 0], .bool false]) W := by kernel_rfl
theorem ta_XM (v : Value) (W : World) : (Instr.typeAssert (.iface 133 v) 97 131 true).run Try.prog W = .ok (.tuple #[.agg #[.int .i64 0, .string ⟨#[]⟩], .bool false]) W := by kernel_rfl
theorem ta_XX (v : Value) (W : World) : (Instr.typeAssert (.iface 133 v) 97 133 true).run Try.prog W = .ok (.tuple #[v, .bool true]) W := by kernel_rfl

set_option maxHeartbeats 4000000 in
theorem with_A (aN : ByteArray) (aT aK : Int) (aA : Option Addr) (aL aC : Nat) (aG aX : ByteArray) (n0 n1 n2 n3 : Int) (w : World) :
    Calls Try.prog 120 #[.agg #[.string aN, .int .i64 aT, .int .i64 aK, .slice aA aL aC, .string aG, .string aX], .iface 123 (.agg #[.int .i64 n0, .int .i64 n1, .int .i64 n2, .int .i64 n3])] w fun e w' => ∃ A c, e = .returned (.agg #[.string aN, .int .i64 aT, .int .i64 aK, .slice A 4 c, .string ⟨#[]⟩, .string ⟨#[]⟩]) ∧ Reads w' w'.heap.size A 4 ([n0, n1, n2, n3].map iv) ∧ Below w.heap.size w w' := by
  have tA := ta_AA
  go_enter Try.func120, Try.ntmps120
  go_wp2_with fail
  refine (clone_any [n0, n1, n2, n3] _ 0 4 _ _ rfl (by omega) ?_).mono ?_
  · intro j v hv
    exact cell_new' _ [.int .i64 n0, .int .i64 n1, .int .i64 n2, .int .i64 n3] 123 _ (0 + j) v (by simp) (by rw [Nat.zero_add]; simpa [iv] using hv)
  · rintro e w3 ⟨A, c, rfl, hown, hb3⟩
    obtain ⟨hc3, hf3⟩ := bcell hb3
    go_wp2
    have r0 : w3.cell? ⟨w.heap.size + 1, 0, none⟩ = some (.string ⟨#[]⟩) := (hc3 _ _ (by simp)).trans (by go_simp)
    have r1 : w3.cell? ⟨w.heap.size + 1, 1, none⟩ = some (.int .i64 0) := (hc3 _ _ (by simp)).trans (by go_simp)
    have r2 : w3.cell? ⟨w.heap.size + 1, 2, none⟩ = some (.int .i64 0) := (hc3 _ _ (by simp)).trans (by go_simp)
    have r3 : w3.cell? ⟨w.heap.size + 1, 3, none⟩ = some (.slice none 0 0) := (hc3 _ _ (by simp)).trans (by go_simp)
    have r4 : w3.cell? ⟨w.heap.size + 1, 4, none⟩ = some (.string ⟨#[]⟩) := (hc3 _ _ (by simp)).trans (by go_simp)
    have r5 : w3.cell? ⟨w.heap.size + 1, 5, none⟩ = some (.string ⟨#[]⟩) := (hc3 _ _ (by simp)).trans (by go_simp)
    refine ret_with (w.heap.size + 1) rfl rfl (c0 := .string aN) (c1 := .int .i64 aT) (c2 := .int .i64 aK) (c3 := .slice A 4 c) (c4 := .string ⟨#[]⟩) (c5 := .string ⟨#[]⟩) (by go_simp) (by go_simp) (by go_simp) (by go_simp) (by go_simp) (by go_simp) ⟨A, c, rfl, ?_, ?_⟩
    have o1 := ownsRow_setCell_below hown (a := ⟨w.heap.size + 1 + 1, 3, none⟩) (by first | (simp; done) | (simp; omega)) (.slice A 4 c)
    have o2 := ownsRow_setCell_below o1 (a := ⟨w.heap.size + 1, 0, none⟩) (by first | (simp; done) | (simp; omega)) (.string aN)
    have o3 := ownsRow_setCell_below o2 (a := ⟨w.heap.size + 1, 1, none⟩) (by first | (simp; done) | (simp; omega)) (.int .i64 aT)
    have o4 := ownsRow_setCell_below o3 (a := ⟨w.heap.size + 1, 2, none⟩) (by first | (simp; done) | (simp; omega)) (.int .i64 aK)
    have o5 := ownsRow_setCell_below o4 (a := ⟨w.heap.size + 1, 3, none⟩) (by first | (simp; done) | (simp; omega)) (.slice A 4 c)
    have o6 := ownsRow_setCell_below o5 (a := ⟨w.heap.size + 1, 4, none⟩) (by first | (simp; done) | (simp; omega)) (.string ⟨#[]⟩)
    have o7 := ownsRow_setCell_below o6 (a := ⟨w.heap.size + 1, 5, none⟩) (by first | (simp; done) | (simp; omega)) (.string ⟨#[]⟩)
    · exact Reads.of_own o7
    · have hbw : Below w.heap.size w w3 := Below.trans (by go_grown) (hb3.mono (by simp; omega))
      clear hb3 hc3 hf3
      go_grown

set_option maxHeartbeats 4000000 in
theorem with_T (aN : ByteArray) (aT aK : Int) (aA : Option Addr) (aL aC : Nat) (aG aX : ByteArray) (t : ByteArray) (w : World) :
    Calls Try.prog 120 #[.agg #[.string aN, .int .i64 aT, .int .i64 aK, .slice aA aL aC, .string aG, .string aX], .iface 125 (.agg #[.string t])] w fun e w' => e = .returned (.agg #[.string aN, .int .i64 aT, .int .i64 aK, .slice none 0 0, .string t, .string ⟨#[]⟩]) ∧ Below w.heap.size w w' := by
  have tA := ta_TA
  have tT := ta_TT
  go_enter Try.func120, Try.ntmps120
  go_wp2
  exact bodyPost_ret (by simp [results, Try.results120, go_sem]) rfl ⟨rfl, by go_grown⟩

set_option maxHeartbeats 4000000 in
theorem with_X (aN : ByteArray) (aT aK : Int) (aA : Option Addr) (aL aC : Nat) (aG aX : ByteArray) (t : ByteArray) (w : World) :
    Calls Try.prog 120 #[.agg #[.string aN, .int .i64 aT, .int .i64 aK, .slice aA aL aC, .string aG, .string aX], .iface 133 (.agg #[.string t])] w fun e w' => e = .returned (.agg #[.string aN, .int .i64 aT, .int .i64 aK, .slice none 0 0, .string ⟨#[]⟩, .string t]) ∧ Below w.heap.size w w' := by
  have tA := ta_XA
  have tT := ta_XT
  have tS := ta_XS
  have tM := ta_XM
  have tX := ta_XX
  go_enter Try.func120, Try.ntmps120
  go_wp2
  exact bodyPost_ret (by simp [results, Try.results120, go_sem]) rfl ⟨rfl, by go_grown⟩

set_option maxHeartbeats 4000000 in
theorem with_S (aN : ByteArray) (aT aK : Int) (aA : Option Addr) (aL aC : Nat) (aG aX : ByteArray) (t : ByteArray) (n0 n1 n2 n3 n4 : Int) (w : World) :
    Calls Try.prog 120 #[.agg #[.string aN, .int .i64 aT, .int .i64 aK, .slice aA aL aC, .string aG, .string aX], .iface 128 (.agg #[.string t, .int .i64 n0, .int .i64 n1, .int .i64 n2, .int .i64 n3, .int .i64 n4])] w fun e w' => ∃ A c, e = .returned (.agg #[.string aN, .int .i64 aT, .int .i64 aK, .slice A 5 c, .string t, .string ⟨#[]⟩]) ∧ Reads w' w'.heap.size A 5 ([n0, n1, n2, n3, n4].map iv) ∧ Below w.heap.size w w' := by
  have tA := ta_SA
  have tT := ta_ST
  have tS := ta_SS
  go_enter Try.func120, Try.ntmps120
  go_wp2_with fail
  refine (clone_any [n0, n1, n2, n3, n4] _ 1 5 _ _ rfl (by omega) ?_).mono ?_
  · intro j v hv
    exact cell_new' _ [.string t, .int .i64 n0, .int .i64 n1, .int .i64 n2, .int .i64 n3, .int .i64 n4] 128 _ (1 + j) v (by simp) (by rw [Nat.add_comm 1 j]; simpa [iv] using hv)
  · rintro e w3 ⟨A, c, rfl, hown, hb3⟩
    obtain ⟨hc3, hf3⟩ := bcell hb3
    go_wp2
    have r0 : w3.cell? ⟨w.heap.size + 1, 0, none⟩ = some (.string ⟨#[]⟩) := (hc3 _ _ (by simp)).trans (by go_simp)
    have r1 : w3.cell? ⟨w.heap.size + 1, 1, none⟩ = some (.int .i64 0) := (hc3 _ _ (by simp)).trans (by go_simp)
    have r2 : w3.cell? ⟨w.heap.size + 1, 2, none⟩ = some (.int .i64 0) := (hc3 _ _ (by simp)).trans (by go_simp)
    have r3 : w3.cell? ⟨w.heap.size + 1, 3, none⟩ = some (.slice none 0 0) := (hc3 _ _ (by simp)).trans (by go_simp)
    have r4 : w3.cell? ⟨w.heap.size + 1, 4, none⟩ = some (.string ⟨#[]⟩) := (hc3 _ _ (by simp)).trans (by go_simp)
    have r5 : w3.cell? ⟨w.heap.size + 1, 5, none⟩ = some (.string ⟨#[]⟩) := (hc3 _ _ (by simp)).trans (by go_simp)
    refine ret_with (w.heap.size + 1) rfl rfl (c0 := .string aN) (c1 := .int .i64 aT) (c2 := .int .i64 aK) (c3 := .slice A 5 c) (c4 := .string t) (c5 := .string ⟨#[]⟩) (by go_simp) (by go_simp) (by go_simp) (by go_simp) (by go_simp) (by go_simp) ⟨A, c, rfl, ?_, ?_⟩
    have o1 := ownsRow_setCell_below hown (a := ⟨w.heap.size + 1 + 1, 3, none⟩) (by first | (simp; done) | (simp; omega)) (.slice A 5 c)
    have o2 := ownsRow_setCell_below o1 (a := ⟨w.heap.size + 1 + 1, 4, none⟩) (by first | (simp; done) | (simp; omega)) (.string t)
    have o3 := ownsRow_setCell_below o2 (a := ⟨w.heap.size + 1, 0, none⟩) (by first | (simp; done) | (simp; omega)) (.string aN)
    have o4 := ownsRow_setCell_below o3 (a := ⟨w.heap.size + 1, 1, none⟩) (by first | (simp; done) | (simp; omega)) (.int .i64 aT)
    have o5 := ownsRow_setCell_below o4 (a := ⟨w.heap.size + 1, 2, none⟩) (by first | (simp; done) | (simp; omega)) (.int .i64 aK)
    have o6 := ownsRow_setCell_below o5 (a := ⟨w.heap.size + 1, 3, none⟩) (by first | (simp; done) | (simp; omega)) (.slice A 5 c)
    have o7 := ownsRow_setCell_below o6 (a := ⟨w.heap.size + 1, 4, none⟩) (by first | (simp; done) | (simp; omega)) (.string t)
    have o8 := ownsRow_setCell_below o7 (a := ⟨w.heap.size + 1, 5, none⟩) (by first | (simp; done) | (simp; omega)) (.string ⟨#[]⟩)
    · exact Reads.of_own o8
    · have hbw : Below w.heap.size w w3 := Below.trans (by go_grown) (hb3.mono (by simp; omega))
      clear hb3 hc3 hf3
      go_grown

set_option maxHeartbeats 4000000 in
theorem with_M (aN : ByteArray) (aT aK : Int) (aA : Option Addr) (aL aC : Nat) (aG aX : ByteArray) (n0 : Int) (t : ByteArray) (w : World) :
    Calls Try.prog 120 #[.agg #[.string aN, .int .i64 aT, .int .i64 aK, .slice aA aL aC, .string aG, .string aX], .iface 131 (.agg #[.int .i64 n0, .string t])] w fun e w' => ∃ A c, e = .returned (.agg #[.string aN, .int .i64 aT, .int .i64 aK, .slice A 1 c, .string t, .string ⟨#[]⟩]) ∧ Reads w' w'.heap.size A 1 ([n0].map iv) ∧ Below w.heap.size w w' := by
  have tA := ta_MA
  have tT := ta_MT
  have tS := ta_MS
  have tM := ta_MM
  go_enter Try.func120, Try.ntmps120
  go_wp2_with fail
  refine (clone_any [n0] _ 0 1 _ _ rfl (by omega) ?_).mono ?_
  · intro j v hv
    exact cell_new' _ [.int .i64 n0, .string t] 131 _ (0 + j) v (by simp) (by rw [Nat.zero_add]; match j, hv with | 0, hv => simpa [iv] using hv)
  · rintro e w3 ⟨A, c, rfl, hown, hb3⟩
    obtain ⟨hc3, hf3⟩ := bcell hb3
    go_wp2
    have r0 : w3.cell? ⟨w.heap.size + 1, 0, none⟩ = some (.string ⟨#[]⟩) := (hc3 _ _ (by simp)).trans (by go_simp)
    have r1 : w3.cell? ⟨w.heap.size + 1, 1, none⟩ = some (.int .i64 0) := (hc3 _ _ (by simp)).trans (by go_simp)
    have r2 : w3.cell? ⟨w.heap.size + 1, 2, none⟩ = some (.int .i64 0) := (hc3 _ _ (by simp)).trans (by go_simp)
    have r3 : w3.cell? ⟨w.heap.size + 1, 3, none⟩ = some (.slice none 0 0) := (hc3 _ _ (by simp)).trans (by go_simp)
    have r4 : w3.cell? ⟨w.heap.size + 1, 4, none⟩ = some (.string ⟨#[]⟩) := (hc3 _ _ (by simp)).trans (by go_simp)
    have r5 : w3.cell? ⟨w.heap.size + 1, 5, none⟩ = some (.string ⟨#[]⟩) := (hc3 _ _ (by simp)).trans (by go_simp)
    refine ret_with (w.heap.size + 1) rfl rfl (c0 := .string aN) (c1 := .int .i64 aT) (c2 := .int .i64 aK) (c3 := .slice A 1 c) (c4 := .string t) (c5 := .string ⟨#[]⟩) (by go_simp) (by go_simp) (by go_simp) (by go_simp) (by go_simp) (by go_simp) ⟨A, c, rfl, ?_, ?_⟩
    have o1 := ownsRow_setCell_below hown (a := ⟨w.heap.size + 1 + 1, 3, none⟩) (by first | (simp; done) | (simp; omega)) (.slice A 1 c)
    have o2 := ownsRow_setCell_below o1 (a := ⟨w.heap.size + 1 + 1, 4, none⟩) (by first | (simp; done) | (simp; omega)) (.string t)
    have o3 := ownsRow_setCell_below o2 (a := ⟨w.heap.size + 1, 0, none⟩) (by first | (simp; done) | (simp; omega)) (.string aN)
    have o4 := ownsRow_setCell_below o3 (a := ⟨w.heap.size + 1, 1, none⟩) (by first | (simp; done) | (simp; omega)) (.int .i64 aT)
    have o5 := ownsRow_setCell_below o4 (a := ⟨w.heap.size + 1, 2, none⟩) (by first | (simp; done) | (simp; omega)) (.int .i64 aK)
    have o6 := ownsRow_setCell_below o5 (a := ⟨w.heap.size + 1, 3, none⟩) (by first | (simp; done) | (simp; omega)) (.slice A 1 c)
    have o7 := ownsRow_setCell_below o6 (a := ⟨w.heap.size + 1, 4, none⟩) (by first | (simp; done) | (simp; omega)) (.string t)
    have o8 := ownsRow_setCell_below o7 (a := ⟨w.heap.size + 1, 5, none⟩) (by first | (simp; done) | (simp; omega)) (.string ⟨#[]⟩)
    · exact Reads.of_own o8
    · have hbw : Below w.heap.size w w3 := Below.trans (by go_grown) (hb3.mono (by simp; omega))
      clear hb3 hc3 hf3
      go_grown
end Go.Proofs.Ytgglakonkphbgaa

/- What pickData of the program returns: what a record has in the fields of its kind. -/
import Derived.Test.YtaiijnaockbahaaId
import Derived.Laws.CopyOwn
import Derived.Deep.RegionLaw
namespace Go.Proofs.Ytaiijnaockbahaa
open Go.RowKit
set_option maxRecDepth 100000
set_option linter.unusedVariables false

/-- A list of numbers at a length, with 0 for what is missing. -/
def pad (n : Nat) (zs : List Int) : List Int := zs.take n ++ (List.replicate n (0 : Int)).drop (zs.take n).length
theorem pad_len (n : Nat) (zs : List Int) : (pad n zs).length = n := by unfold pad; simp; omega
theorem pad_eq {n : Nat} {zs : List Int} (h : zs.length = n) : pad n zs = zs := by
  unfold pad
  rw [List.take_of_length_le (by omega)]
  simp [h]
theorem list4 {l : List Int} (h : l.length = 4) : ∃ a b c d, l = [a, b, c, d] := by
  match l, h with
  | [a, b, c, d], _ => exact ⟨a, b, c, d, rfl⟩
theorem list5 {l : List Int} (h : l.length = 5) : ∃ a b c d e, l = [a, b, c, d, e] := by
  match l, h with
  | [a, b, c, d, e], _ => exact ⟨a, b, c, d, e, rfl⟩
theorem list1 {l : List Int} (h : l.length = 1) : ∃ a, l = [a] := by
  match l, h with
  | [a], _ => exact ⟨a, rfl⟩
theorem splice_pad (n : Nat) (zs : List Int) : splice (List.replicate n (iv 0)) 0 ((zs.take n).map iv) = (pad n zs).map iv := by
  unfold splice pad
  simp
theorem cells_at {w : World} {g : Nat} {cs : Array Value} {t : TypeId} {fr : Nat × Nat} (h : w.heap[g]? = some (.cells cs t fr)) (j : Nat) : w.cell? ⟨g, j, none⟩ = cs[j]? := by
  simp [World.cell?, h]
theorem infoInt : (Try.prog.info? 3).map (·.size) = some 1 := by kernel_rfl
theorem iv_one (zs : List Int) : ∀ v ∈ zs.map iv, v.oneCell' = true := by intro v hv; obtain ⟨z, _, rfl⟩ := List.mem_map.1 hv; rfl
theorem heap2 (w : World) (a b : Obj) : ((w.alloc a).alloc b).heap[w.heap.size + 1]? = some b := by
  have e : w.heap.size + 1 = (w.alloc a).heap.size := by simp
  rw [e]
  unfold World.alloc
  simp only [Array.getElem?_push_size]
theorem src_of {w : World} {B n : Nat} {A : Option Addr} {zs : List Int} (h : Reads w B A n (zs.map iv)) (m : Nat) : 0 < ((zs.take m).map iv).length → ∃ ad, A = some ad ∧ ∀ j v, ((zs.take m).map iv)[j]? = some v → w.cell? (ad.add j) = some v := fun h0 => by
  have hl := reads_len h
  obtain ⟨ad, e, _, hc⟩ := h.2 (by simp at h0; omega)
  refine ⟨ad, e, fun j v hv => hc j v ?_⟩
  rw [List.getElem?_map] at hv ⊢
  rw [List.getElem?_take] at hv
  split at hv
  · exact hv
  · cases hv

theorem splice_cons (x : Value) (Z cs : List Value) : splice (x :: Z) 1 cs = x :: splice Z 0 cs := by
  unfold splice
  simp [Nat.add_comm]
theorem splice_snoc (x : Value) (Z cs : List Value) (h : cs.length ≤ Z.length) : splice (Z ++ [x]) 0 cs = splice Z 0 cs ++ [x] := by
  unfold splice
  simp only [List.take_zero, List.nil_append, Nat.zero_add]
  rw [List.drop_append_of_le_length h, List.append_assoc]

set_option maxHeartbeats 2000000 in
theorem pick_A (aN : ByteArray) (aT : Int) (aA : Option Addr) (aL aC : Nat) (aG aX : ByteArray) (aZ : List Int) (aB : Nat) (w : World) (hra : Reads w aB aA aL (aZ.map iv)) (hba : aB ≤ w.heap.size) (hla : aL ≤ 67108864) :
    Calls Try.prog 59 #[.agg #[.string aN, .int .i64 aT, .int .i64 1, .slice aA aL aC, .string aG, .string aX]] w fun e w' => ∃ n0 n1 n2 n3 : Int, e = .returned (.tuple #[.iface 76 (.agg #[.int .i64 n0, .int .i64 n1, .int .i64 n2, .int .i64 n3]), .bool true]) ∧ Hid (pad 4 aZ = [n0, n1, n2, n3]) ∧ Below w.heap.size w w' := by
  obtain ⟨n0, n1, n2, n3, hp⟩ := list4 (pad_len 4 aZ)
  have hlen := hid (reads_len hra)
  have hsp := splice_pad 4 aZ
  rw [hp] at hsp
  have HSP := hid hsp
  have HP := hid hp
  clear hsp hp
  go_enter Try.func59, Try.ntmps59
  go_wp2
  have hr2 := (hra.alloc hba (.cells #[.string aN, .int .i64 aT, .int .i64 1, .slice aA aL aC, .string aG, .string aX] 25)).alloc (by simp; omega) (.cells #[.int .i64 0, .int .i64 0, .int .i64 0, .int .i64 0] 76)
  go_region_law ((refine step_copy_splice rfl (.tmp 13) (.tmp 15) 23 23 rfl 3 Try.underlying23 infoInt _ _ _ _ _ _ (by rfl) (by rfl) (w.heap.size + 1) 0 (List.replicate 4 (iv 0)) 76 (heap2 _ _ _) ((aZ.take 4).map iv) (by rw [List.length_map, List.length_take, hlen.out]; exact Nat.min_comm _ _) (fun h => ⟨rfl, src_of hr2 4 h⟩) (by simp; omega) (iv_one _) w.heap.size w (by go_grown) (by omega) ?_; intro w4 hg4 hb4))
  rw [HSP.out] at hg4
  have q0 : w4.cell? ⟨w.heap.size + 1, 0, none⟩ = some (.int .i64 n0) := cells_at hg4.out 0
  have q1 : w4.cell? ⟨w.heap.size + 1, 1, none⟩ = some (.int .i64 n1) := cells_at hg4.out 1
  have q2 : w4.cell? ⟨w.heap.size + 1, 2, none⟩ = some (.int .i64 n2) := cells_at hg4.out 2
  have q3 : w4.cell? ⟨w.heap.size + 1, 3, none⟩ = some (.int .i64 n3) := cells_at hg4.out 3
  go_wp2
  go_ret2
  exact ⟨n0, n1, n2, n3, rfl, HP, hb4⟩

set_option maxHeartbeats 2000000 in
theorem pick_S (aN : ByteArray) (aT : Int) (aA : Option Addr) (aL aC : Nat) (aG aX : ByteArray) (aZ : List Int) (aB : Nat) (w : World) (hra : Reads w aB aA aL (aZ.map iv)) (hba : aB ≤ w.heap.size) (hla : aL ≤ 67108864) :
    Calls Try.prog 59 #[.agg #[.string aN, .int .i64 aT, .int .i64 6, .slice aA aL aC, .string aG, .string aX]] w fun e w' => ∃ n0 n1 n2 n3 n4 : Int, e = .returned (.tuple #[.iface 81 (.agg #[.string aG, .int .i64 n0, .int .i64 n1, .int .i64 n2, .int .i64 n3, .int .i64 n4]), .bool true]) ∧ Hid (pad 5 aZ = [n0, n1, n2, n3, n4]) ∧ Below w.heap.size w w' := by
  obtain ⟨n0, n1, n2, n3, n4, hp⟩ := list5 (pad_len 5 aZ)
  have hlen := hid (reads_len hra)
  have hsp := splice_pad 5 aZ
  rw [hp] at hsp
  replace hsp := (splice_cons (.string aG) (List.replicate 5 (iv 0)) ((aZ.take 5).map iv)).trans (by rw [hsp])
  have HSP := hid hsp
  have HP := hid hp
  clear hsp hp
  go_enter Try.func59, Try.ntmps59
  go_wp2
  have hr2 := (hra.alloc hba (.cells #[.string aN, .int .i64 aT, .int .i64 6, .slice aA aL aC, .string aG, .string aX] 25)).alloc (by simp; omega) (.cells #[.string aG, .int .i64 0, .int .i64 0, .int .i64 0, .int .i64 0, .int .i64 0] 81)
  go_region_law ((refine step_copy_splice rfl (.tmp 33) (.tmp 35) 23 23 rfl 3 Try.underlying23 infoInt _ _ _ _ _ _ (by rfl) (by rfl) (w.heap.size + 1) 1 (.string aG :: List.replicate 5 (iv 0)) 81 (heap2 _ _ _) ((aZ.take 5).map iv) (by rw [List.length_map, List.length_take, hlen.out]; exact Nat.min_comm _ _) (fun h => ⟨rfl, src_of hr2 5 h⟩) (by simp; omega) (iv_one _) w.heap.size w (by go_grown) (by omega) ?_; intro w4 hg4 hb4))
  rw [HSP.out] at hg4
  have q0 : w4.cell? ⟨w.heap.size + 1, 0, none⟩ = some (.string aG) := cells_at hg4.out 0
  have q1 : w4.cell? ⟨w.heap.size + 1, 1, none⟩ = some (.int .i64 n0) := cells_at hg4.out 1
  have q2 : w4.cell? ⟨w.heap.size + 1, 2, none⟩ = some (.int .i64 n1) := cells_at hg4.out 2
  have q3 : w4.cell? ⟨w.heap.size + 1, 3, none⟩ = some (.int .i64 n2) := cells_at hg4.out 3
  have q4 : w4.cell? ⟨w.heap.size + 1, 4, none⟩ = some (.int .i64 n3) := cells_at hg4.out 4
  have q5 : w4.cell? ⟨w.heap.size + 1, 5, none⟩ = some (.int .i64 n4) := cells_at hg4.out 5
  go_wp2
  go_ret2
  exact ⟨n0, n1, n2, n3, n4, rfl, HP, hb4⟩

set_option maxHeartbeats 2000000 in
theorem pick_M (aN : ByteArray) (aT : Int) (aA : Option Addr) (aL aC : Nat) (aG aX : ByteArray) (aZ : List Int) (aB : Nat) (w : World) (hra : Reads w aB aA aL (aZ.map iv)) (hba : aB ≤ w.heap.size) (hla : aL ≤ 67108864) :
    Calls Try.prog 59 #[.agg #[.string aN, .int .i64 aT, .int .i64 15, .slice aA aL aC, .string aG, .string aX]] w fun e w' => ∃ n0 : Int, e = .returned (.tuple #[.iface 84 (.agg #[.int .i64 n0, .string aG]), .bool true]) ∧ Hid (pad 1 aZ = [n0]) ∧ Below w.heap.size w w' := by
  obtain ⟨n0, hp⟩ := list1 (pad_len 1 aZ)
  have hlen := hid (reads_len hra)
  have hsp := splice_pad 1 aZ
  rw [hp] at hsp
  replace hsp := (splice_snoc (.string aG) (List.replicate 1 (iv 0)) ((aZ.take 1).map iv) (by simp; omega)).trans (by rw [hsp])
  have HSP := hid hsp
  have HP := hid hp
  clear hsp hp
  go_enter Try.func59, Try.ntmps59
  go_wp2
  have hr2 := (hra.alloc hba (.cells #[.string aN, .int .i64 aT, .int .i64 15, .slice aA aL aC, .string aG, .string aX] 25)).alloc (by simp; omega) (.cells #[.int .i64 0, .string aG] 84)
  go_region_law ((refine step_copy_splice rfl (.tmp 45) (.tmp 47) 23 23 rfl 3 Try.underlying23 infoInt _ _ _ _ _ _ (by rfl) (by rfl) (w.heap.size + 1) 0 (List.replicate 1 (iv 0) ++ [.string aG]) 84 (heap2 _ _ _) ((aZ.take 1).map iv) (by rw [List.length_map, List.length_take, hlen.out]; exact Nat.min_comm _ _) (fun h => ⟨rfl, src_of hr2 1 h⟩) (by simp; omega) (iv_one _) w.heap.size w (by go_grown) (by omega) ?_; intro w4 hg4 hb4))
  rw [HSP.out] at hg4
  have q0 : w4.cell? ⟨w.heap.size + 1, 0, none⟩ = some (.int .i64 n0) := cells_at hg4.out 0
  have q1 : w4.cell? ⟨w.heap.size + 1, 1, none⟩ = some (.string aG) := cells_at hg4.out 1
  go_wp2
  go_ret2
  exact ⟨n0, rfl, HP, hb4⟩

set_option maxHeartbeats 2000000 in
theorem pick_T (aN : ByteArray) (aT aK : Int) (aA : Option Addr) (aL aC : Nat) (aG aX : ByteArray) (aZ : List Int) (aB : Nat) (w : World) (hra : Reads w aB aA aL (aZ.map iv)) (hba : aB ≤ w.heap.size) (hla : aL ≤ 67108864) (hk : aK = 2 ∨ aK = 5 ∨ aK = 12) :
    Calls Try.prog 59 #[.agg #[.string aN, .int .i64 aT, .int .i64 aK, .slice aA aL aC, .string aG, .string aX]] w fun e w' => e = .returned (.tuple #[.iface 78 (.agg #[.string aG]), .bool true]) ∧ Below w.heap.size w w' := by
  rcases hk with rfl | rfl | rfl
  all_goals
    go_enter Try.func59, Try.ntmps59
    go_wp2
    go_ret2
    exact ⟨rfl, by go_grown⟩

set_option maxHeartbeats 2000000 in
theorem pick_X (aN : ByteArray) (aT : Int) (aA : Option Addr) (aL aC : Nat) (aG aX : ByteArray) (aZ : List Int) (aB : Nat) (w : World) (hra : Reads w aB aA aL (aZ.map iv)) (hba : aB ≤ w.heap.size) (hla : aL ≤ 67108864) :
    Calls Try.prog 59 #[.agg #[.string aN, .int .i64 aT, .int .i64 16, .slice aA aL aC, .string aG, .string aX]] w fun e w' => e = .returned (.tuple #[.iface 86 (.agg #[.string aX]), .bool true]) ∧ Below w.heap.size w w' := by
  go_enter Try.func59, Try.ntmps59
  go_wp2
  go_ret2
  exact ⟨rfl, by go_grown⟩

set_option maxHeartbeats 2000000 in
theorem pick_none (aN : ByteArray) (aT aK : Int) (aA : Option Addr) (aL aC : Nat) (aG aX : ByteArray) (aZ : List Int) (aB : Nat) (w : World) (hra : Reads w aB aA aL (aZ.map iv)) (hba : aB ≤ w.heap.size) (hla : aL ≤ 67108864) (k1 : ¬ aK = 1) (k2 : ¬ aK = 2) (k5 : ¬ aK = 5) (k6 : ¬ aK = 6) (k12 : ¬ aK = 12) (k15 : ¬ aK = 15) (k16 : ¬ aK = 16) :
    Calls Try.prog 59 #[.agg #[.string aN, .int .i64 aT, .int .i64 aK, .slice aA aL aC, .string aG, .string aX]] w fun e w' => e = .returned (.tuple #[.nilIface, .bool false]) ∧ Below w.heap.size w w' := by
  go_enter Try.func59, Try.ntmps59
  go_wp2
  go_ret2
  exact ⟨rfl, by go_grown⟩
end Go.Proofs.Ytaiijnaockbahaa

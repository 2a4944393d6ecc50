/- What ZoneFault and ZoneValid return for copies of a zone. -/
import Derived.Test.YtgglakonkphbgaaZf
import Derived.Test.YtgglakonkphbgaaZb
namespace Go.Proofs.Ytgglakonkphbgaa
open Go.RowKit
set_option maxRecDepth 100000
set_option linter.unusedVariables false

theorem ZoneFault_law {w W : World} {o : ByteArray} {rs : List RV} {aA A : Option Addr} {aL c : Nat} (hra : Recs w w.heap.size aA aL rs) (h1 : Copy W rs A aL) (hs : Hid (∀ r ∈ rs, r.small)) (la : aL ≤ 1048576) (ho : o.size ≤ 1048576) (F1 F2 : Int) (hF : Hid (IsF (Z.fault (lst o) (rs.map RV.z)) F1 F2)) :
    Calls Try.prog 50 #[.agg #[.string o, .slice A aL c]] W fun e W' => e = .returned (.tuple #[.int .i64 F1, .int .i64 F2]) ∧ Below W.heap.size W W' := by
  obtain ⟨os, z1, r1⟩ := h1.ex
  exact ZoneFault_any o os _ A aL c W r1 (Nat.le_refl _) (by omega) (fine_of z1 r1 hra hs) (by omega) F1 F2 (hid (by rw [z1]; exact hF.out))
theorem iZoneFault_law {w W : World} {o : ByteArray} {rs : List RV} {aA A : Option Addr} {aL c : Nat} (hra : Recs w w.heap.size aA aL rs) (h1 : Copy W rs A aL) (hs : Hid (∀ r ∈ rs, r.small)) (la : aL ≤ 1048576) (ho : o.size ≤ 1048576) (hc : aL ≤ c) (F1 F2 : Int) (hF : Hid (IsF (Z.fault (lst o) (rs.map RV.z)) F1 F2)) :
    Calls Try.prog 52 #[.agg #[.string o, .slice A aL c]] W fun e W' => e = .returned (.tuple #[.int .i64 F1, .int .i64 F2]) ∧ Below W.heap.size W W' := by
  obtain ⟨os, z1, r1⟩ := h1.ex
  exact iZoneFault_any o os _ A aL c W r1 (Nat.le_refl _) (by omega) hc (fine_of z1 r1 hra hs) (by omega) F1 F2 (hid (by rw [z1]; exact hF.out))
theorem ZoneValid_law {w W : World} {o : ByteArray} {rs : List RV} {aA A : Option Addr} {aL c : Nat} (hra : Recs w w.heap.size aA aL rs) (h1 : Copy W rs A aL) (hs : Hid (∀ r ∈ rs, r.small)) (la : aL ≤ 1048576) (ho : o.size ≤ 1048576) (v : Bool) (hv : Hid (Z.zoneValid (lst o) (rs.map RV.z) = v)) :
    Calls Try.prog 29 #[.agg #[.string o, .slice A aL c]] W fun e W' => e = .returned (.bool v) ∧ Below W.heap.size W W' := by
  obtain ⟨os, z1, r1⟩ := h1.ex
  exact ZoneValid_any o os _ A aL c W r1 (Nat.le_refl _) (by omega) (fine_of z1 r1 hra hs) (by omega) v (hid (by rw [z1]; exact hv.out))
theorem iZoneValid_law {w W : World} {o : ByteArray} {rs : List RV} {aA A : Option Addr} {aL c : Nat} (hra : Recs w w.heap.size aA aL rs) (h1 : Copy W rs A aL) (hs : Hid (∀ r ∈ rs, r.small)) (la : aL ≤ 1048576) (ho : o.size ≤ 1048576) (hc : aL ≤ c) (v : Bool) (hv : Hid (Z.zoneValid (lst o) (rs.map RV.z) = v)) :
    Calls Try.prog 32 #[.agg #[.string o, .slice A aL c]] W fun e W' => e = .returned (.bool v) ∧ Below W.heap.size W W' := by
  obtain ⟨os, z1, r1⟩ := h1.ex
  exact iZoneValid_any o os _ A aL c W r1 (Nat.le_refl _) (by omega) hc (fine_of z1 r1 hra hs) (by omega) v (hid (by rw [z1]; exact hv.out))
end Go.Proofs.Ytgglakonkphbgaa

/- What the form of a claim asks of the whole program of FnReadData. -/
import Derived.Test.YtpgeeeamcncpkaaGreatDoorTie
import Derived.Test.YtpgeeeamcncpkaaGreatDoorCards
import Derived.ProofKit
import Derived.OpenVars
import Derived.SevenTiedAt
namespace Go.Proofs.YtpgeeeamcncpkaaGreatDoor.fnReadData
open Go.ChangeShapes Go.WideShapes Go.ChangeAt Go.RowKit

theorem ja : (Rows.fnReadDataRow.inPlace == Tryz.pinned.checked.prog.inPlace 3) = true := by kernel_rfl
theorem jb : (Rows.fnReadDataRow.unfollowed == Tryz.pinned.checked.prog.unfollowed 3) = true := by kernel_rfl
theorem jc : (Rows.fnReadDataRow.recurses == Tryz.pinned.checked.prog.recurses 3) = true := by kernel_rfl
theorem jd : (Rows.fnReadDataRow.named == Tryz.pinned.checked.prog.varsNamed 3) = true := by kernel_rfl
theorem je : (Tryz.pinned.checked.prog.make == some Rows.fnReadDataRow.make) = true := by kernel_rfl
theorem gb : false = Rows.fnReadDataRow.goesBy Tryz.pinned.checked.prog := by kernel_rfl
theorem jf : joinedFacts Tryz.pinned.checked.prog 3 Tryz.f3 Rows.fnReadDataSpec Rows.fnReadDataRow = true := by
  unfold joinedFacts
  rw [ja, jb, jc, jd, je]
  show (_ : Bool) = true
  kernel_rfl
end Go.Proofs.YtpgeeeamcncpkaaGreatDoor.fnReadData

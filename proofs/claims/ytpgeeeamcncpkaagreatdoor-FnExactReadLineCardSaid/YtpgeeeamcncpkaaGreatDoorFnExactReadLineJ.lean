/- What the form of a claim asks of the whole program of FnExactReadLine. -/
import Derived.Test.YtpgeeeamcncpkaaGreatDoorTie
import Derived.Test.YtpgeeeamcncpkaaGreatDoorCards
import Derived.ProofKit
import Derived.OpenVars
import Derived.SevenTiedAt
namespace Go.Proofs.YtpgeeeamcncpkaaGreatDoor.fnExactReadLine
open Go.ChangeShapes Go.WideShapes Go.ChangeAt Go.RowKit

theorem ja : (Rows.fnExactReadLineRow.inPlace == Tryz.pinned.checked.prog.inPlace 4) = true := by kernel_rfl
theorem jb : (Rows.fnExactReadLineRow.unfollowed == Tryz.pinned.checked.prog.unfollowed 4) = true := by kernel_rfl
theorem jc : (Rows.fnExactReadLineRow.recurses == Tryz.pinned.checked.prog.recurses 4) = true := by kernel_rfl
theorem jd : (Rows.fnExactReadLineRow.named == Tryz.pinned.checked.prog.varsNamed 4) = true := by kernel_rfl
theorem je : (Tryz.pinned.checked.prog.make == some Rows.fnExactReadLineRow.make) = true := by kernel_rfl
theorem gb : false = Rows.fnExactReadLineRow.goesBy Tryz.pinned.checked.prog := by kernel_rfl
theorem jf : joinedFacts Tryz.pinned.checked.prog 4 Tryz.f4 Rows.fnExactReadLineSpec Rows.fnExactReadLineRow = true := by
  unfold joinedFacts
  rw [ja, jb, jc, jd, je]
  show (_ : Bool) = true
  kernel_rfl
end Go.Proofs.YtpgeeeamcncpkaaGreatDoor.fnExactReadLine

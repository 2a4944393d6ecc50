/- What the exact laws of serials need: the contracts alone, and what a law's frame asks. -/
import Derived.Test.YtjjjnmebadndeaaVa
import Derived.ProofKit
import Derived.OpenShut
import Derived.ShutString
import Derived.ChangeOld
namespace Go.Proofs.Ytjjjnmebadndeaa
end Go.Proofs.Ytjjjnmebadndeaa

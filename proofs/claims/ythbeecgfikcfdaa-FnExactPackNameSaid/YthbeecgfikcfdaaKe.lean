/- What the exact law of PackName needs. -/
import Derived.Test.YthbeecgfikcfdaaKd
import Derived.Test.YthbeecgfikcfdaaKc
namespace Go.Proofs.Ythbeecgfikcfdaa
end Go.Proofs.Ythbeecgfikcfdaa


/- For all raw numbers, the law TopRobinson answers true: bindings that make equations one are found where some do, they stay when done twice, make both sides of each equation the same, and those that the law made come of them; no argument is changed.
   No condition beyond the given statement's own. -/
import Derived.Test.YthlgknglalcggajRows
import Derived.Test.YthlgknglalcggajW121
import Derived.Test.YthlgknglalcggajW120
import Derived.Test.YthlgknglalcggajOpenR
import Derived.ProofKit
import Derived.OpenShut
import Derived.ShutString
import Derived.ChangeOld
import Derived.Below
namespace Go.Proofs.Ythlgknglalcggaj
open Go.ChangeShapes Go.WideShapes Go.ChangeAt Go.RowKit
set_option linter.unusedVariables false

theorem Try.own : ownKnob Try.prog.godebug = none := by kernel_rfl
theorem Try.laidOut : laidOutB Try.prog = true := by kernel_rfl

end Go.Proofs.Ythlgknglalcggaj

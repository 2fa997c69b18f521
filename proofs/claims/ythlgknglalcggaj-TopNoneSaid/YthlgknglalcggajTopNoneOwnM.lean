
/- For all raw numbers, the law TopNone answers true: where two terms cannot be made one, it is told why, and no instances of theirs can be made one; no argument is changed.
   No condition beyond the given statement's own. -/
import Derived.Test.YthlgknglalcggajRows
import Derived.Test.YthlgknglalcggajW123
import Derived.Test.YthlgknglalcggajOpenR
import Derived.ProofKit
import Derived.OpenShut
import Derived.ShutString
import Derived.ChangeOld
import Derived.Below
namespace Go.Proofs.Ythlgknglalcggaj
open Go.ChangeShapes Go.WideShapes Go.ChangeAt Go.RowKit
set_option linter.unusedVariables false

theorem Try.own : ownKnob Try.prog.godebug = none := by kernel_rfl
theorem Try.laidOut : laidOutB Try.prog = true := by kernel_rfl

end Go.Proofs.Ythlgknglalcggaj

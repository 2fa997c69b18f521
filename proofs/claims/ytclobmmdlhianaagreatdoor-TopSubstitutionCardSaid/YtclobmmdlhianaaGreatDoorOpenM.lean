/- Lambda terms as they are read before the call. -/
import Derived.Test.YtclobmmdlhianaaGreatDoorRows
import Derived.Test.YtclobmmdlhianaaGreatDoorZBTopSubstitutionOwn
import Derived.ProofKit
namespace Go.Proofs.YtclobmmdlhianaaGreatDoor
open Go.ChangeShapes Go.WideShapes Go.ChangeAt Go.RowKit
set_option linter.unusedSimpArgs false
set_option linter.unusedVariables false
set_option maxRecDepth 8000

end Go.Proofs.YtclobmmdlhianaaGreatDoor

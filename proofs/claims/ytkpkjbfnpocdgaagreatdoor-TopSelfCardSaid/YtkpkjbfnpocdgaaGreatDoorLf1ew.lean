import Derived.Test.YtkpkjbfnpocdgaaGreatDoorLf1w
import Derived.Test.YtkpkjbfnpocdgaaGreatDoorLn1
import Derived.Deep.RegionHeld
import Derived.Deep.RegionHeld3
import Derived.Deep.DeepCutAuto
namespace Go.Proofs.YtkpkjbfnpocdgaaGreatDoor
open Go.RowKit
set_option linter.unusedSimpArgs false
set_option linter.unusedVariables false
set_option maxRecDepth 8000
end Go.Proofs.YtkpkjbfnpocdgaaGreatDoor

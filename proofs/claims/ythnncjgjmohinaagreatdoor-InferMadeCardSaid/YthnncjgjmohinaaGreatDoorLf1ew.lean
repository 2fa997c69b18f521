import Derived.Test.YthnncjgjmohinaaGreatDoorLf1w
import Derived.Test.YthnncjgjmohinaaGreatDoorLn1
import Derived.Deep.RegionHeld
import Derived.Deep.RegionHeld3
import Derived.Deep.DeepCutAuto
namespace Go.Proofs.YthnncjgjmohinaaGreatDoor
open Go.RowKit
set_option linter.unusedSimpArgs false
set_option linter.unusedVariables false
set_option maxRecDepth 8000
end Go.Proofs.YthnncjgjmohinaaGreatDoor

import Derived.Test.YthnncjgjmohinaaGreatDoorW90
namespace Go.Proofs.YthnncjgjmohinaaGreatDoor
open Go.RowKit
set_option linter.unusedSimpArgs false
set_option linter.unusedVariables false
set_option maxRecDepth 8000
end Go.Proofs.YthnncjgjmohinaaGreatDoor

import Derived.Test.YtlkeafenklamjaaGreatDoorW12
namespace Go.Proofs.YtlkeafenklamjaaGreatDoor
set_option linter.all false
set_option maxRecDepth 20000
set_option maxHeartbeats 8000000
open Go.RowKit
end Go.Proofs.YtlkeafenklamjaaGreatDoor

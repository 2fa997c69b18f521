/- Walks: the terms of worked rows. -/
import Derived.Test.YtcdabjekppddjaaGreatDoorCb9s
import Derived.Test.YtcdabjekppddjaaGreatDoorCb10
namespace Go.Proofs.YtcdabjekppddjaaGreatDoor
open Go.RowKit
set_option linter.unusedSimpArgs false
set_option linter.unusedVariables false
set_option maxRecDepth 8000

end Go.Proofs.YtcdabjekppddjaaGreatDoor

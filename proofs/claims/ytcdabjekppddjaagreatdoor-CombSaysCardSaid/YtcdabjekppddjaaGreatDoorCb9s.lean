/- Walks: what s makes of a row, at the third place. -/
import Derived.Test.YtcdabjekppddjaaGreatDoorCb9
namespace Go.Proofs.YtcdabjekppddjaaGreatDoor
open Go.RowKit
set_option linter.unusedSimpArgs false
set_option linter.unusedVariables false
set_option maxRecDepth 8000

end Go.Proofs.YtcdabjekppddjaaGreatDoor

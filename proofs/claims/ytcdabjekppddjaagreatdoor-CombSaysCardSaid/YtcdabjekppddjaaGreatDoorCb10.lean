/- Walks: a row worked on by the symbol at its front; a row with another term at a place. -/
import Derived.Test.YtcdabjekppddjaaGreatDoorCb8
namespace Go.Proofs.YtcdabjekppddjaaGreatDoor
open Go.RowKit
set_option linter.unusedSimpArgs false
set_option linter.unusedVariables false
set_option maxRecDepth 8000

end Go.Proofs.YtcdabjekppddjaaGreatDoor

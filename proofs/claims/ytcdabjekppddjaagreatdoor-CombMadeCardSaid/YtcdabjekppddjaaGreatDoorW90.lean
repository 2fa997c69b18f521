/- Walks: whether two terms are the same. -/
import Derived.Test.YtcdabjekppddjaaGreatDoorW10
import Derived.Test.YtcdabjekppddjaaGreatDoorZBCombMadeOwn
namespace Go.Proofs.YtcdabjekppddjaaGreatDoor
open Go.RowKit
set_option linter.unusedSimpArgs false
set_option linter.unusedVariables false
set_option maxRecDepth 8000

end Go.Proofs.YtcdabjekppddjaaGreatDoor


/- Walks: terms of s, k, i, X and a constant, out of raw numbers. -/
import Derived.Test.YtcdabjekppddjaaGreatDoorW29
import Derived.Test.YtcdabjekppddjaaGreatDoorZCombMadeOwn
namespace Go.Proofs.YtcdabjekppddjaaGreatDoor
open Go.RowKit
set_option linter.unusedSimpArgs false
set_option linter.unusedVariables false
set_option maxRecDepth 8000

end Go.Proofs.YtcdabjekppddjaaGreatDoor

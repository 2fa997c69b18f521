/- Which term is above another one, by paths and by weights: plain. -/
import Derived.Test.YtcdabjekppddjaaGreatDoorW90
import Derived.Test.YtcdabjekppddjaaGreatDoorSrt
namespace Go.Proofs.YtcdabjekppddjaaGreatDoor
open Go.RowKit
set_option linter.unusedSimpArgs false
set_option linter.unusedVariables false

end Go.Proofs.YtcdabjekppddjaaGreatDoor

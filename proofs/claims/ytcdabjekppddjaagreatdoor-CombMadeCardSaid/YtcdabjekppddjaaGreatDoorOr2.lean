/- Which term is above another one by weights: plain. -/
import Derived.Test.YtcdabjekppddjaaGreatDoorOr1
namespace Go.Proofs.YtcdabjekppddjaaGreatDoor
open Go.RowKit
set_option linter.unusedSimpArgs false
set_option linter.unusedVariables false

/-- How often a name stands. -/
def oftL (v : ByteArray) (l : List Tm) : Nat := ((preL l).filter fun k => decide (k.name = v)).length
end Go.Proofs.YtcdabjekppddjaaGreatDoor

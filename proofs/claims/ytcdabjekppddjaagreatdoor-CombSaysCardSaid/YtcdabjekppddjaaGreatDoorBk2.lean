/- Plain: the document's steps by i, k and s are steps that come together again; where it finds none, none is left (towards TopBracket). -/
import Derived.Test.YtcdabjekppddjaaGreatDoorZCombSaysOwn
import Derived.Test.YtcdabjekppddjaaGreatDoorBk1
namespace Go.Proofs.YtcdabjekppddjaaGreatDoor
set_option linter.unusedSimpArgs false
set_option linter.unusedVariables false

end Go.Proofs.YtcdabjekppddjaaGreatDoor

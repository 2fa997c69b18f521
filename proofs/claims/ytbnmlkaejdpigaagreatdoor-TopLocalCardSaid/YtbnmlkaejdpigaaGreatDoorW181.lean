import Derived.Test.YtbnmlkaejdpigaaGreatDoorW180
import Derived.Deep.MidRow
import Derived.Test.YtbnmlkaejdpigaaGreatDoorZDTopLocalOwn
namespace Go.Proofs.YtbnmlkaejdpigaaGreatDoor
open Go.RowKit Go.Shelf
attribute [local go_sem] Oper.semAt_some
set_option linter.unusedSimpArgs false
set_option linter.unusedVariables false
set_option maxRecDepth 8000
end Go.Proofs.YtbnmlkaejdpigaaGreatDoor

import Derived.Test.YtbnmlkaejdpigaaGreatDoorW181
import Derived.Test.YtbnmlkaejdpigaaGreatDoorW185
import Derived.Test.YtbnmlkaejdpigaaGreatDoorEn3
import Derived.Deep.RegionHeld3
namespace Go.Proofs.YtbnmlkaejdpigaaGreatDoor
open Go.RowKit Go.Shelf
set_option linter.unusedSimpArgs false
set_option linter.unusedVariables false
set_option maxRecDepth 8000
end Go.Proofs.YtbnmlkaejdpigaaGreatDoor

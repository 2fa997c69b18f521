import Derived.Test.YthaililgaompeaaGreatDoorW161
import Derived.Deep.RegionHeld
import Derived.Deep.RegionHeld3
import Derived.Deep.DeepCutAuto
namespace Go.Proofs.YthaililgaompeaaGreatDoor
set_option linter.all false
set_option maxRecDepth 20000
set_option maxHeartbeats 8000000
open Go.RowKit
def DE (rs:List Pr) (x:Tm):Bool:=rs.any λr=>I4 r.l x

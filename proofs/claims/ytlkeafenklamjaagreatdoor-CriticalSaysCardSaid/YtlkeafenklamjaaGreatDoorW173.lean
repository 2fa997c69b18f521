import Derived.Test.YtlkeafenklamjaaGreatDoorW14
import Derived.Deep.RegionHeld
import Derived.Deep.RegionHeld3
import Derived.Deep.DeepCutAuto
namespace Go.Proofs.YtlkeafenklamjaaGreatDoor
set_option linter.all false
set_option maxRecDepth 20000
set_option maxHeartbeats 8000000
open Go.RowKit
def Py (y:Ft):Tm:=fT y.2 y.1.r
def Pz (t:Tm) (d:Dn) (y:Ft):Prop:=2000<Ab [t]-Ab [d.2]+Ab [Py y]
end Go.Proofs.YtlkeafenklamjaaGreatDoor

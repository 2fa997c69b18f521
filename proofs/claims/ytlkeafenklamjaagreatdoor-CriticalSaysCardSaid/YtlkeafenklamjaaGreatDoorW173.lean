import Derived.Test.YtlkeafenklamjaaGreatDoorW14
import Derived.Deep.RegionHeld
import Derived.Deep.RegionHeld3
import Derived.Deep.DeepCutAuto
namespace Go.Proofs.YtlkeafenklamjaaGreatDoor
set_option linter.unusedSimpArgs false
set_option linter.unusedVariables false
set_option maxRecDepth 20000
set_option maxHeartbeats 8000000
open Go.RowKit
def Pz (y:Ft):Tm:=fT y.2 y.1.r
def PC (t:Tm) (d:Dn) (y:Ft):Prop:=2000<Ab [t]-Ab [d.2]+Ab [Pz y]
end Go.Proofs.YtlkeafenklamjaaGreatDoor

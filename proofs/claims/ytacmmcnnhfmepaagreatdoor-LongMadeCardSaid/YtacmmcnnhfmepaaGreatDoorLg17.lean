import Derived.Test.YtacmmcnnhfmepaaGreatDoorLg16
import Derived.Test.YtacmmcnnhfmepaaGreatDoorLg15
namespace Go.Proofs.YtacmmcnnhfmepaaGreatDoor
set_option linter.all false
set_option maxRecDepth 9999
set_option maxHeartbeats 0
open Go.RowKit
theorem qV {B:Nat} (a:List Int) (f:∀z∈a,EK z) (b c y3:Int) (g:EK b) (h:EK c) (i:EK y3) (u:Value) (w:World) (X:Nat->Prop) (hu:PV w X u a) (d:B<=w.heap.size) (hT:Tb B w):
  Calls Tryz.prog 4 #[u,zA b,zA c,zA y3] w λe w'=>e=.returned (.bool true)/\Below w.heap.size w w':=
 nS a f b c y3 g h i u w X hu λt y k v j w' hb l hy=>qU (B:=B) t y k v j w' _ _ l hy (AJ d hb.size) (hT.on (hb.mono d))

import Derived.Test.YtlkeafenklamjaaGreatDoorZCriticalSaysOwn
import Derived.Deep.RegionHeld3
namespace Go.Proofs.YtlkeafenklamjaaGreatDoor
set_option linter.all false
set_option maxRecDepth 20000
set_option maxHeartbeats 8000000
open Go.RowKit
def W7 (m:Nat):Nat:=if m<3 then 1 else 2*m-1
theorem Ks {s:ByteArray} (h:Be s=true):Ah [(⟨s,[]⟩:Tm)]=0:=by simp[Ah,h]
theorem W8 {s:ByteArray} {l:List Tm} (h:Be s=true) (hv:Ak s=false) (hl:Ah l=0):Ah [(⟨s,l⟩:Tm)]=0:=by simp[Ah,h,hv,hl]
section
variable {P:Program} {ops:Array Oper} {Q:Exit->Act->World->Prop} {md:Region.Mode}
end
def Kt (w5 w6:World) (t5 t6:Tm) (a5 a6:Option Addr) (c5 c6:Nat) (w':World):Prop:=
 Ac w' w5.heap.size #[.string t5.name,.slice a5 t5.args.length c5] 29/\Ac w' w6.heap.size #[.string t6.name,.slice a6 t6.args.length c6] 29
def MC (w5 w6:World) (t5 t6:Tm) (a5 a6:Option Addr) (c5 c6:Nat) (b:Nat) (w':World):Prop:=
 Kt w5 w6 t5 t6 a5 a6 c5 c6 w'/\Ac w' b #[.string ⟨#[102]⟩,.string ⟨#[103]⟩] 9
theorem Kt.alloc {w5 w6:World} {t5 t6:Tm} {a5 a6:Option Addr} {c5 c6:Nat} {w':World} (h:Kt w5 w6 t5 t6 a5 a6 c5 c6 w') (o:Obj):Kt w5 w6 t5 t6 a5 a6 c5 c6 (w'.alloc o):=⟨h.1.alloc o,h.2.alloc o⟩
theorem MC.alloc {w5 w6:World} {t5 t6:Tm} {a5 a6:Option Addr} {c5 c6 b:Nat} {w':World} (h:MC w5 w6 t5 t6 a5 a6 c5 c6 b w') (o:Obj):MC w5 w6 t5 t6 a5 a6 c5 c6 b (w'.alloc o):=⟨h.1.alloc o,h.2.alloc o⟩
end Go.Proofs.YtlkeafenklamjaaGreatDoor

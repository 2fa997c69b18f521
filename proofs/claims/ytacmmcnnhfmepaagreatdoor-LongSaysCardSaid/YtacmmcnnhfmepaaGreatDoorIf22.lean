import Derived.Test.YtacmmcnnhfmepaaGreatDoorIf21
namespace Go.Proofs.YtacmmcnnhfmepaaGreatDoor
set_option linter.all false
set_option maxRecDepth 20000
set_option maxHeartbeats 8000000
open Go.RowKit
def Dk (O:Int×Ty) (y:Ty):Bool×Int:=if CJ y=0 then (if O.1=0 then (Fy O.2 y,0) else (false,if O.1=11 then 0 else O.1)) else (false,CJ y)
theorem Kz {O:Int×Ty} {y:Ty} (h:CJ y≠0):Dk O y=(false,CJ y):=by simp[Dk,h]
theorem Ou {O:Int×Ty} {y:Ty} (h:CJ y=0) (h2:O.1=11):Dk O y=(false,0):=by simp[Dk,h,h2]
theorem KA {O:Int×Ty} {y:Ty} (h:CJ y=0) (h2:O.1≠11) (h3:O.1≠0):Dk O y=(false,O.1):=by simp[Dk,h,h2,h3]
theorem MM {O:Int×Ty} {y:Ty} (h:CJ y=0) (h3:O.1=0):Dk O y=(Fy O.2 y,0):=by simp[Dk,h,h3]
theorem mM {B:Nat} {t:Lm} {y:Ty} (hz:CA t=0->Ai [t]<=60) (R:Int×List Bd) (g:Nat) (U:CA t=0->AZ false g [] (Ay 86 t [] 0).2.1=some R) (O:Int×Ty) (E:DF t R=O) (V:O.1=0->Bk [O.2]) (v u:Value) (w:World) (X Y:Nat->Prop) (F:MV w X v t) (hu:YV w Y u y) (G:B<=w.heap.size) (hT:Tb B w):
  Calls Tryz.prog 37 #[v,u] w λe w'=>e=.returned (.tuple #[.bool (Dk O y).1,zA (Dk O y).2])/\Below w.heap.size w w':=by
 have W:=Aa F;have H:=Aa hu;have HT:=Aa hT;have Z:=Aa E;clear E;obtain⟨a,c,rfl,-⟩:=F;obtain⟨j,c',rfl,-⟩:=hu;have r:Hid (Below w.heap.size w ((w.alloc (.cells (zE t a c) 24)).alloc (.cells (zH y j c') 27))):=((Ac _ _).alloc (Ag _) _).alloc (by simp) _;have I:Hid (Ab ((w.alloc (.cells (zE t a c) 24)).alloc (.cells (zH y j c') 27)) w.heap.size (zE t a c) 24):=(Ab.new _ _ _).alloc _;have n:Hid (Ab ((w.alloc (.cells (zE t a c) 24)).alloc (.cells (zH y j c') 27)) (w.heap.size+1) (zH y j c') 27):=by have h:=Ab.new (w.alloc (.cells (zE t a c) 24)) (zH y j c') 27; rw[BK] at h; exact h
 go_enter Tryz.func37,Tryz.ntmps37;go_upto_region 1 with fail;generalize ((w.alloc (.cells (zE t a c) 24)).alloc (.cells (zH y j c') 27))=w2 at *;have s:=n.o.c0;have s1:=n.o.c1;go_wp2_with fail;refine(OU y _ w2 Y (H.o.later r.o)).mono ?_;rintro e w3 ⟨rfl,q⟩;have k:=Aa (r.o.trans (q.mono r.o.size));have x:=Aa (I.o.below q I.o.lt);have J:=Aa (n.o.below q n.o.lt);clear q s s1;by_cases hy:CJ y=0
 ·have z:=Aa hy;rw[hy];clear hy;have A:=x.o.c0;have C:=x.o.c1;have r2:=x.o.c2;go_wp2_with fail;refine(kK hz R g U _ w3 X (W.o.later k.o) (AN G k.o.size) (HT.o.on (k.o.mono G))).mono ?_;rw[Z.o];rintro e l ⟨a4,m,rfl,L,D⟩;have b:=Aa (k.o.trans (D.mono k.o.size));have M:=Aa (J.o.below D J.o.lt);have S4:=Aa L;clear D L A C r2;go_upto_region 5 with fail;have d:Hid (Below l.heap.size l (l.alloc (.cells (zH O.2 a4 m) 27))):=(Ac _ _).alloc (Ag _) _;have N:Hid (Ab (l.alloc (.cells (zH O.2 a4 m) 27)) l.heap.size (zH O.2 a4 m) 27):=Ab.new _ _ _;generalize l.alloc (.cells (zH O.2 a4 m) 27)=w5 at *;by_cases f:O.1=11
  ·have i:=Aa (Ou z.o f);rw[f];clear f;go_wp2_with fail;go_ret2
   exact⟨by rw[i.o]; rfl,b.o.trans (d.o.mono b.o.size)⟩
  ·by_cases h0:O.1=0
   ·have i:=Aa (MM z.o h0);have ah:=Aa (V h0);rw[h0];clear h0 f;have P:=Aa (M.o.below d.o M.o.lt);have A:=N.o.c0;have C:=N.o.c1;have s:=P.o.c0;have s1:=P.o.c1;go_wp2_with fail;refine(mF O.2 y _ _ w5 _ Y ah.o ⟨a4,m,rfl,S4.o.later d.o⟩ (H.o.later (b.o.trans (d.o.mono b.o.size)))).mono ?_;rintro e w6 ⟨rfl,T⟩;have B6:=Aa ((b.o.trans (d.o.mono b.o.size)).trans (T.mono (b.o.trans (d.o.mono b.o.size)).size));clear T A C s s1;go_wp2_with fail;go_ret2
    exact⟨by rw[i.o]; rfl,B6.o⟩
   ·have i:=Aa (KA z.o f h0);have ai:(O.1==11)=false:=Dr.2 f;have aj:(O.1==0)=false:=Dr.2 h0;clear h0 f;go_wp2_with fail;go_ret2
    exact⟨by rw[i.o]; rfl,b.o.trans (d.o.mono b.o.size)⟩
 ·have i:=Aa (Kz (O:=O) hy);have hb:(CJ y==0)=false:=Dr.2 hy;clear hy;go_wp2_with fail;go_ret2
  exact⟨by rw[i.o]; rfl,k.o⟩

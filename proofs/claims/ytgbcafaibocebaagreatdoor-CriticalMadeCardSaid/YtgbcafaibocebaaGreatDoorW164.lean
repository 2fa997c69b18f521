import Derived.Test.YtgbcafaibocebaaGreatDoorW161
import Derived.Deep.RegionHeld
import Derived.Deep.RegionHeld3
import Derived.Deep.DeepCutAuto
namespace Go.Proofs.YtgbcafaibocebaaGreatDoor
set_option linter.all false
set_option maxRecDepth 20000
set_option maxHeartbeats 8000000
open Go.RowKit
def DF (rs:List Pr) (x:Tm):Bool:=rs.any λr=>FQ r.l x
theorem Ya {l:List Pr} {f:Pr->Bool} {k:Nat} (h:k<l.length):(l.take (k+1)).any f=((l.take k).any f||f l[k]):=by
 rw[Bo h,HH];simp
theorem Yb {l:List Pr} {f:Pr->Bool} {k:Nat} (h:k<l.length) (h0:f l[k]=true):l.any f=true:=Ei.2 ⟨_,AN h,h0⟩
theorem Yc (p t:Tm) (a b:Value) (w:World) (X:Nat->Prop) (hp:TV w X a p) (ht:TV w X b t) (aa:Ab [p]<=1000000):
  Calls Tryz.prog 82 #[a,b] w λe w'=>∃v,e=.returned (.tuple #[v,.bool (FQ p t)])/\Below w.heap.size w w':=by
 refine(PM p t a b w X hp ht aa).mono ?_;rintro e w' ⟨hb,⟨h0,rfl⟩|⟨h',v,l',h0,rfl,_⟩⟩
 ·exact⟨_,by unfold FQ; rw[h0]; rfl,hb⟩
 ·exact⟨v,by unfold FQ; rw[h0]; rfl,hb⟩
def Yd (rs:List Pr) (x:Tm) (a3:Option Addr) (c3:Nat) (w:World) (v:Value) (wr:World):Prop:=∃k:Nat,k<=rs.length/\v=zA k/\(rs.take k).any (λr=>FQ r.l x)=false/\Ac wr w.heap.size (zF x a3 c3) 33/\Below w.heap.size w wr
theorem QA (rs:List Pr) (x:Tm) (a3:Option Addr) (c3:Nat) (u:Value) (w:World) (X:Nat->Prop) (hu:QV w X u rs) (hs:Sl w X a3 x.args) (A:∀p∈rs,Ab [p.l]<=1000000):
  Calls Tryz.prog 81 #[u,.agg (zF x a3 c3)] w λe w'=>e=.returned (.bool (DF rs x))/\Below w.heap.size w w':=by
 have B:=Aa hu;have C:=Aa hs;obtain⟨a,c,rfl,hl,E⟩:=hu;clear E hs;go_enter Tryz.func81,Tryz.ntmps81;go_wp2_with fail;go_loopw [5] (λv wr=>Yd rs x a3 c3 w v wr) (λv wr=>rs.length-(intOf v).toNat);case atStart=>exact⟨0,AG _,rfl,by simp,Ac.new w _ _,(Af _ _).alloc (Ai _) _⟩
 case round=>
  obtain⟨k,hk,rfl,n,ab,hb⟩:=hrel;have d:=Aa hb;have q:=Aa n;have b:=Aa ab;clear n ab;by_cases i:k<rs.length
  ·obtain⟨bq,oq,a1,c1,a2,c2,rfl,d0,d1,d2,d3,s,F⟩:=(B.o.later hb).get k i;have aj:(k:Int)<(rs.length:Int):=(by omega);have G:=Aa s;have D:=Aa (And.intro d0 d1);have H:=Aa (Ya (f:=λr=>FQ r.l x) i);have I:=Aa (Yb (f:=λr=>FQ r.l x) i);have J:=Aa (A _ (AN i));clear s F hb d0 d1 d2 d3;generalize rs[k]=r at *;go_upto_region 4 with fail;have g:Hid (Below wr.heap.size wr wr.drew):=below_drewN (Af _ _) 1;refine CR (S:=λw'=>Below wr.heap.size wr w') (by kernel_rfl) g.o λhH=>?_;refine tkz 0 ?_;refine tkz 1 ?_;refine tkz 2 ?_;refine tkz 3 ?_;refine tkz 4 ?_ (hy:=by intro w' aa;have c0:=cell_later aa D.o.1;have c1:=cell_later aa D.o.2;go_simp<;>with_reducible rfl);refine tkz 5 ?_ (hy:=by intro w' aa;have c0:w'.cell? (zD w.heap.size 0)=some (.string x.name):=(b.o.below aa b.o.lt).cell 0;have c1:w'.cell? (zD w.heap.size 1)=some (.slice a3 x.args.length c3):=(b.o.below aa b.o.lt).cell 1;go_simp<;>with_reducible rfl);generalize wr.drew=wd at *;refine rdq 6 rfl λK t=>?_;go_simp;go_at_call 82;refine(Yc r.l x _ _ _ X ⟨_,_,rfl,G.o.later g.o⟩ ⟨_,_,rfl,C.o.later (d.o.trans (g.o.mono d.o.size))⟩ J.o).mono ?_;rintro e w5 ⟨v5,rfl,y⟩;have j:=Aa (g.o.trans (y.mono g.o.size));clear y;go_simp;refine t.o _ _ (by exact j.o) λhH=>?_;clear t K;(try simp only[Act.put,sq]);refine tkz 7 ?_;refine tkz 8 ?_;refine tkz 9 ?_;refine tkz 10 ?_;refine tkz 11 ?_;refine dnq ?_;have z:=Aa (d.o.trans (j.o.mono d.o.size));cases hm:FQ r.l x with
   |true=>have m:=Aa (I.o hm);clear hm;go_wp2_with fail;go_ret;exact⟨BJ m.o.symm,z.o⟩
   |false=>
    have L:Hid ((rs.take (k+1)).any (λr=>FQ r.l x)=false):=(by have h:=H.o;rw[q.o,hm]at h;exact h);clear hm;go_wp2_with fail;go_roundw
    case rel=>exact⟨k+1,by omega,by go_num,L.o,b.o.below j.o b.o.lt,z.o⟩
    case measure=>simp[intOf]; omega
  ·have m:Hid (false=DF rs x):=Aa (by unfold DF;rw[<-q.o,AX (by omega)]);go_wp2_with fail;go_ret;exact⟨BJ m.o,d.o⟩

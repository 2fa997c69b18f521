/- Several texts in one. -/
import Derived.Test.YtacmmcnnhfmepaaGreatDoorZDLongSaysOwn
import Derived.Deep.AppendSrc
import Derived.Lib.Builder
import Derived.RangeFuncNested
import Derived.RangeFuncBound
import Derived.RangeFuncCalls
import Derived.RangeFuncLeaves
import Derived.RangeFuncWrites
import Derived.Shelf.Abstract
import Derived.Shelf.RegionOpen
import Derived.OwnWalkIn
import Derived.TacticsInMore
import Derived.LoopNIn
import Derived.LoopIn
import Derived.Ground.SlgnProg
import Derived.Shelf.SlicesE.Clone
import Derived.Deep.RegionLaw
namespace Go.Proofs.YtacmmcnnhfmepaaGreatDoor
set_option linter.all false
set_option maxRecDepth 20000
set_option maxHeartbeats 8000000
open Go.RowKit Go.Proofs.Tryz
theorem W9 (z:Lm) (la:Option Addr) (cl:Nat) (ba:Ai [z]<=100000) (aQ:Cs [z]) (t:Lm):∀(v:Value) (d:Int) (w:World) (X:Nat->Prop),MV w X v t->Ap w X la [z]->0<=d->d+Ai [t]<=100000->Cs [t]->
  Calls prog 67 #[v,.slice la 1 cl,zA d] w λe w'=>LZ w X (AX z d t) e w':=by
 induction t using Lm.ind with
 |h m j l ih=>
  intro v d w X hv aM bb aR x;obtain⟨a,c,rfl,hs⟩:=hv;have IH:=Aa ih;have HS:=Aa hs;have HZ:=Aa aM;have hl:=hs.1;have hz:Ai [(⟨m,j,l⟩:Lm)]=1+Ai l:=by simp[Ai]
  rw[hz]at aR;rw[H5]at x;obtain⟨⟨bc,bd⟩,x,_⟩:=x;have aN:=Aa x;have hlen:=I6 l;clear ih hs hz x aM;have N:Hid (Below w.heap.size w ((w.alloc (.cells #[zA m,zA j,.slice a l.length c] 24)).alloc (.cells zJ 24))):=((Ac _ _).alloc (Ag _) _).alloc (by simp) _;have T2:Hid (Ab ((w.alloc (.cells #[zA m,zA j,.slice a l.length c] 24)).alloc (.cells zJ 24)) w.heap.size #[zA m,zA j,.slice a l.length c] 24):=(Ab.new w _ _).alloc _;have R2:Hid (Ab ((w.alloc (.cells #[zA m,zA j,.slice a l.length c] 24)).alloc (.cells zJ 24)) (w.heap.size+1) zJ 24):=by
   have h:=Ab.new (w.alloc (.cells #[zA m,zA j,.slice a l.length c] 24)) zJ 24;rw[BK]at h;exact h
  by_cases k1:m=1;case pos=>
   subst k1;by_cases n:j<d
   ·have HT:Hid (AX z d ⟨1,j,l⟩=⟨1,j,l⟩):=Aa (by unfold AX;simp[n]);go_enter func67,ntmps67;go_wp2_with fail;refine Ao (v:=.agg #[zA 1,zA j,.slice a l.length c]) (by simp[results,results67,go_sem]) rfl ?_;rw[HT.o];have aO:=((Ac w.heap.size w).alloc (Ag _) (.cells #[zA 1,zA j,.slice a l.length c] 24)).alloc (by simp) (.cells #[zA 1,zA j,.slice a l.length c] 24);exact⟨a,c,rfl,(HS.o.mono (Y:=λb=>X b/\b<w.heap.size) λb h1 h2=>⟨h1,h2⟩).below aO (λb h _=>h.2) |>.mono λb h _=>Ad h,aO⟩
   ·obtain⟨q,hq⟩:∃q,q=j-d:=⟨_,rfl⟩;have aS:IntKind.i64.wrap (j-d)=q:=by rw[Dm]; omega
    by_cases aT:q=0
    ·subst aT;have az:j=d:=(by omega);have HT:Hid (AX z d ⟨1,j,l⟩=AY d 0 z):=Aa (by unfold AX;simp[n,az]);obtain⟨b,o,M,c',rfl,d0,ar,d1,hx⟩:=(HZ.o.mono (Y:=λb=>X b/\b<w.heap.size) λb h1 h2=>⟨h1,h2⟩).get N.o (λb h _=>h.2) 0 (by simp);have HX:=Aa hx;simp only[Nat.zero_mul,Hs,Q6] at d0 ar d1;have aU:=Aa ((QS d (by omega) (by omega) z _ 0 _ (λb=>X b/\b<w.heap.size) HX.o (Int.le_refl 0) (by omega) aQ));clear hx hq az;go_enter func67,ntmps67;go_wp2_with fail;refine aU.o.mono ?_;rintro e w3 ⟨a3,c3,rfl,aP,au⟩;have B:=Aa aP;have A:=Aa (R2.o.below au (by simp));have B3:=Aa (N.o.trans (au.mono (by simp; omega)));have r0:=A.o.c0;have r1:=A.o.c1;have r2:=A.o.c2;have rf:=A.o.frozen;have av:w.heap.size+1<w3.heap.size:=A.o.lt;clear au aP;go_wp2_with fail;refine Ao (v:=.agg #[zA (AY d 0 z).kind,zA (AY d 0 z).idx,.slice a3 (AY d 0 z).subs.length c3]) (by simp[results,results67,go_sem,AK,AB,r0,r1,r2,av]) rfl ?_;rw[HT.o];refine⟨a3,c3,rfl,(B.o.kept λb hb=>?_).mono λb hb _=>?_,((B3.o.setCell (by simp) _).setCell (by simp) _).setCell (by simp) _⟩
     ·have x:b≠w.heap.size+1:=by
       rcases hb with h|h
       ·have:=h.1.2; omega
       ·simp at h; omega
      rw[Al _ _ _ _ (by simpa using x),Al _ _ _ _ (by simpa using x),Al _ _ _ _ (by simpa using x)]
     ·rcases hb with h|h
      ·exact Ad h.1
      ·right; simp at h; omega
    ·have bf:¬(q<1):=(by omega);have HT:Hid (AX z d ⟨1,j,l⟩=⟨1,j-1,[]⟩):=Aa (by unfold AX;simp[n,show ¬(j=d) by omega]);have bg:IntKind.i64.wrap (j-1)=j-1:=by rw[Dm]; omega
     clear hq;go_enter func67,ntmps67;go_wp2_with fail;refine(QR _ _).mono ?_;rintro e w3 ⟨rfl,au⟩;have A:=Aa (R2.o.below au (by simp));have B3:=Aa (N.o.trans (au.mono (by simp; omega)));have r0:=A.o.c0;have r1:=A.o.c1;have r2:=A.o.c2;have rf:=A.o.frozen;have av:w.heap.size+1<w3.heap.size:=A.o.lt;clear au;go_wp2_with fail;refine Ao (v:=.agg #[zA 1,zA (j-1),zB]) (by simp[results,results67,go_sem,AK,AB,r0,r1,r2,av]) rfl ?_;rw[HT.o];exact⟨none,0,rfl,⟨by simp,Ad rfl⟩,((B3.o.setCell (by simp) _).setCell (by simp) _).setCell (by simp) _⟩
  case neg=>
   have e1:(m==1)=false:=(by simpa using k1);by_cases k2:m=2;case pos=>
    subst k2;have aS:IntKind.i64.wrap (d+1)=d+1:=by rw[Dm]; omega
    have HT:Hid (AX z d ⟨2,j,l⟩=⟨2,j,Dd z (d+1) l⟩):=Aa (by unfold AX;simp[AO]);go_enter func67,ntmps67;go_wp2_with fail;have T3:=Aa (T2.o.alloc (.cells #[zA 2,zA j,zB] 24));have A:=Aa (R2.o.alloc (.cells #[zA 2,zA j,zB] 24));have P:=Aa (Ab.new ((w.alloc (.cells #[zA 2,zA j,.slice a l.length c] 24)).alloc (.cells zJ 24)) #[zA 2,zA j,zB] 24);have B3:=Aa (N.o.alloc N.o.size (.cells #[zA 2,zA j,zB] 24));have C:((w.alloc (.cells #[zA 2,zA j,.slice a l.length c] 24)).alloc (.cells zJ 24)).heap.size=w.heap.size+2:=(by simp);rw[C]at P;clear C N T2 R2;generalize ((w.alloc (.cells #[zA 2,zA j,.slice a l.length c] 24)).alloc (.cells zJ 24)).alloc (.cells #[zA 2,zA j,zB] 24)=w3 at *;obtain⟨O,C⟩:∃O,O=w.heap.size+2:=⟨_,rfl⟩;rw[<-C]at P;simp only[<-C];have hO:w.heap.size+2<=O:=(by omega);clear C;go_loopw [9] (λi wr=>∃(k:Nat) (u:Value),k<=l.length/\i=zA k/\Fa w (λb=>X b/\b<w.heap.size) O 2 j a l.length c u (Dd z (d+1) (l.take k)) wr) (λi wr=>l.length-(intOf i).toNat);case atStart=>exact⟨0,zB,Bm _,rfl,[],by have h:=Cc.start w3 (O+1) 24 (λb=>X b/\b<w.heap.size); simpa [Dd] using h,B3.o,T3.o,A.o,P.o,P.o.lt⟩
    case round=>
     obtain⟨k,u9,hk,rfl,y⟩:=hrel;have a6:=Aa y;obtain⟨xs,ai,a7,hT,hR,a8,aV⟩:=y;have XE:=Aa a7;have XT:=Aa hT;have D:=Aa hR;have r:=Aa a8;have XW:=Aa ai;clear ai a7 hR a8;have c0:=hT.c0;have c1:=hT.c1;have c2:=hT.c2;have o0:=r.o.c0;have o1:=r.o.c1;have o2:wr.cell? (zD O 2)=some u9:=r.o.cell 2;clear hT;by_cases n:k<l.length
     ·obtain⟨b,o,M,c',rfl,d0,ar,d1,hx⟩:=(HS.o.mono (Y:=(λb=>X b/\b<w.heap.size)) λb h1 h2=>⟨h1,h2⟩).get XE.o (λb h _=>h.2) k n;have HX:=Aa hx;have aG:(k:Int)<(l.length:Int):=(by omega);have aA:b<w.heap.size:=by
       obtain⟨_,h1⟩:=HS.o;rcases h1 with h1|⟨b',o',e',h1⟩
       ·rw[h1]at n; simp at n
       ·cases e'; exact GV (EZ _ _ _ h1 k n).2.1
      have aH:Ai [l[k]]<=Ai l:=(by have h1:=C9 l k n;have h2:=DE l (k+1);omega);have aB:Hid ((Dd z (d+1) (l.take k)).length<=1000000):=Aa (by rw[EG];simp;omega);have aI:=Aa (Cs.at k n aN.o);have aw:=Aa (QO z (d+1) l k n);have aC:Hid (Calls prog 67 #[.agg (zE l[k] M c'),.slice la 1 cl,zA (d+1)] wr.drew λe ax=>∃R c1,e=.returned (.agg #[zA (AX z (d+1) l[k]).kind,zA (AX z (d+1) l[k]).idx,.slice R (AX z (d+1) l[k]).subs.length c1])/\Ap ax (λb=>(X b/\b<w.heap.size)∨wr.heap.size<=b) R (AX z (d+1) l[k]).subs/\Below wr.heap.size wr ax):=(IH.o l[k] (Bu n) _ (d+1) wr.drew (λb=>X b/\b<w.heap.size) (HX.o.later ((Ac wr.heap.size wr).drew)) ((HZ.o.mono (Y:=λb=>X b/\b<w.heap.size) λb h1 h2=>⟨h1,h2⟩).below XE.o.drew (λb h _=>h.2)) (by omega) (by omega) aI.o).mono λe ax hp=>by
        obtain⟨R,c1,h1,h2,h3⟩:=hp;exact⟨R,c1,h1,h2.mono (λb hb _=>hb.imp (λh=>h.1) id),((Ac wr.heap.size wr).drew).trans h3⟩
      have ay:Hid (CU w.heap.size b (o+k*3) 2 j (some (zD b o)) l.length c l[k].kind l[k].idx (.slice M l[k].subs.length c') wr):=⟨XT.o,d0,ar,d1⟩;clear hx d0 ar d1 c0 c1 o0 o1;go_wp2_with fail;have aD:Hid (CU w.heap.size b (o+k*3) 2 j (some (zD b o)) l.length c l[k].kind l[k].idx (.slice M l[k].subs.length c') wr.drew):=ay.o;refine CC (S:=CU w.heap.size b (o+k*3) 2 j (some (zD b o)) l.length c l[k].kind l[k].idx (.slice M l[k].subs.length c')) (by kernel_rfl) aD.o λhH=>?_;refine tkz 0 ?_;refine tkz 2 ?_;refine tkz 3 ?_ (hy:=by intro w' E;have c2:w'.cell? (zD w.heap.size 2)=some (.slice (some (zD b o)) l.length c):=E.1.cell 2;go_simp<;>with_reducible rfl);refine tkz 4 ?_;refine tkz 5 ?_;refine tkz 6 ?_ (hy:=by intro w' E;have e0:=E.2.1;have e1:=E.2.2.1;have e2:=E.2.2.2;go_simp<;>with_reducible rfl);refine tkz 7 ?_;refine tkz 8 ?_;have aW:wr.drew.cell? (zD O 2)=some u9:=r.o.cell 2;refine Ca (rs:=[1,9]) (by kernel_rfl) (by simp) ?_;refine AJ rfl (λK f=>?_) (AJ rfl (λK f=>?_) Cb)
      ·go_simp;refine f.o _ _ (by exact aD.o) λhH=>?_;clear f K;(try simp only[Act.put,sq]);refine rdq 9 rfl λK f=>?_;go_simp;go_at_call 67;refine aC.o.mono ?_;rintro e w5 ⟨a5,c5,rfl,F,s⟩;obtain⟨g,cap,w3,G,H,I,B,o3,of,J,y⟩:=FF (c1:=c5) hO (λb h=>h.2) aA a6.o ay.o aB.o s F;have T:=Aa G;have U:=Aa y;have V:=Aa H;have L:=Aa I;have W:=Aa B;have Z:=Aa J;have aJ:w5.cell? (zD O 2)=some u9:=(s.cell (p:=(zD O 2)) r.o.lt).trans (r.o.cell 2);have aE:=Aa s;clear G y H I B J F s;go_simp;refine f.o _ _ (by exact V.o) λhH=>?_;clear f K;(try simp only[Act.put,sq]);refine rdq 10 rfl λK f=>?_;go_simp;refine f.o _ _ (by exact L.o) λhH=>?_;clear f K;(try simp only[Act.put,sq]);refine rdq 11 rfl λK f=>?_;refine BF rfl _ _ _ _ rfl rfl rfl T.o ?_;refine f.o _ _ (by exact W.o) λhH=>?_;clear f K;(try simp only[Act.put,sq]);refine tkz 12 ?_;refine rdq 13 rfl λK f=>?_;go_simp;refine f.o _ _ (by exact Z.o) λhH=>?_;clear f K;(try simp only[Act.put,sq]);refine dnq ?_;go_wp2_with fail;go_roundw
       case rel=>exact⟨k+1,_,by omega,by go_num,by rw[aw.o]; exact U.o⟩
       case measure=>simp[intOf]; omega
      ·go_simp;go_at_call 67;refine aC.o.mono ?_;rintro e w5 ⟨a5,c5,rfl,F,s⟩;obtain⟨g,cap,w3,G,H,I,B,o3,of,J,y⟩:=FF (c1:=c5) hO (λb h=>h.2) aA a6.o ay.o aB.o s F;have T:=Aa G;have U:=Aa y;have V:=Aa H;have L:=Aa I;have W:=Aa B;have Z:=Aa J;have aJ:w5.cell? (zD O 2)=some u9:=(s.cell (p:=(zD O 2)) r.o.lt).trans (r.o.cell 2);have aE:=Aa s;clear G y H I B J F s;go_simp;refine f.o _ _ (by exact V.o) λhH=>?_;clear f K;(try simp only[Act.put,sq]);refine Ca (rs:=[1,10]) (by kernel_rfl) (by simp) ?_;refine AJ rfl (λK f=>?_) (AJ rfl (λK f=>?_) Cb)
       ·go_simp;refine f.o _ _ (by exact V.o) λhH=>?_;clear f K;(try simp only[Act.put,sq]);refine rdq 10 rfl λK f=>?_;go_simp;refine f.o _ _ (by exact L.o) λhH=>?_;clear f K;(try simp only[Act.put,sq]);refine rdq 11 rfl λK f=>?_;refine BF rfl _ _ _ _ rfl rfl rfl T.o ?_;refine f.o _ _ (by exact W.o) λhH=>?_;clear f K;(try simp only[Act.put,sq]);refine tkz 12 ?_;refine rdq 13 rfl λK f=>?_;go_simp;refine f.o _ _ (by exact Z.o) λhH=>?_;clear f K;(try simp only[Act.put,sq]);refine dnq ?_;go_wp2_with fail;go_roundw
        case rel=>exact⟨k+1,_,by omega,by go_num,by rw[aw.o]; exact U.o⟩
        case measure=>simp[intOf]; omega
       ·go_simp;refine f.o _ _ (by exact L.o) λhH=>?_;clear f K;(try simp only[Act.put,sq]);refine rdq 1 rfl λK f=>?_;have aX:=((Aa (r.o.below aE.o r.o.lt)).o.alloc (.cells #[zA (AX z (d+1) l[k]).kind,zA (AX z (d+1) l[k]).idx,.slice a5 (AX z (d+1) l[k]).subs.length c5] 24)).cell 2;go_simp;refine f.o _ _ (by exact L.o) λhH=>?_;clear f K;(try simp only[Act.put,sq]);refine rdq 11 rfl λK f=>?_;refine BF rfl _ _ _ _ rfl rfl rfl T.o ?_;refine f.o _ _ (by exact W.o) λhH=>?_;clear f K;(try simp only[Act.put,sq]);refine tkz 12 ?_;refine rdq 13 rfl λK f=>?_;go_simp;refine f.o _ _ (by exact Z.o) λhH=>?_;clear f K;(try simp only[Act.put,sq]);refine dnq ?_;go_wp2_with fail;go_roundw
        case rel=>exact⟨k+1,_,by omega,by go_num,by rw[aw.o]; exact U.o⟩
        case measure=>simp[intOf]; omega
     ·have aY:¬((k:Int)<(l.length:Int)):=(by omega);have aK:l.take k=l:=Bv (by omega);rw[aK]at XW;obtain⟨ae,ce,rfl,aF⟩:=XW.o.sl;have aL:=Aa aF;clear aF;have r0:=D.o.c0;have r1:=D.o.c1;have r2:=D.o.c2;have rf:=D.o.frozen;have av:w.heap.size+1<wr.heap.size:=D.o.lt;have aZ:Hid ((Dd z (d+1) (l)).length=l.length):=Aa (by rw[EG];simp);go_wp2_with fail;refine Ao (v:=.agg #[zA 2,zA j,.slice ae (Dd z (d+1) (l)).length ce]) (by simp[results,results67,go_sem,AK,AB,r0,r1,r2,av]) rfl ?_;rw[HT.o];refine⟨ae,ce,rfl,(aL.o.kept λb hb=>?_).mono λb hb _=>?_,((XE.o.setCell (by simp) _).setCell (by simp) _).setCell (by simp) _⟩
      ·have x:b≠w.heap.size+1:=by
        rcases hb with h|h
        ·have:=h.2; omega
        ·omega
       rw[Al _ _ _ _ (by simpa using x),Al _ _ _ _ (by simpa using x),Al _ _ _ _ (by simpa using x)]
      ·rcases hb with h|h
       ·exact Ad h
       ·right; omega
   case neg=>
    have e2:(m==2)=false:=(by simpa using k2);have HT:Hid (AX z d ⟨m,j,l⟩=⟨m,j,Dd z d l⟩):=Aa (by unfold AX;simp[AO,k1,k2]);go_enter func67,ntmps67;go_wp2_with fail;have T3:=Aa (T2.o.alloc (.cells #[zA m,zA j,zB] 24));have A:=Aa (R2.o.alloc (.cells #[zA m,zA j,zB] 24));have P:=Aa (Ab.new ((w.alloc (.cells #[zA m,zA j,.slice a l.length c] 24)).alloc (.cells zJ 24)) #[zA m,zA j,zB] 24);have B3:=Aa (N.o.alloc N.o.size (.cells #[zA m,zA j,zB] 24));have C:((w.alloc (.cells #[zA m,zA j,.slice a l.length c] 24)).alloc (.cells zJ 24)).heap.size=w.heap.size+2:=(by simp);rw[C]at P;clear C N T2 R2;generalize ((w.alloc (.cells #[zA m,zA j,.slice a l.length c] 24)).alloc (.cells zJ 24)).alloc (.cells #[zA m,zA j,zB] 24)=w3 at *;obtain⟨O,C⟩:∃O,O=w.heap.size+2:=⟨_,rfl⟩;rw[<-C]at P;simp only[<-C];have hO:w.heap.size+2<=O:=(by omega);clear C;go_loopw [9] (λi wr=>∃(k:Nat) (u:Value),k<=l.length/\i=zA k/\Fa w (λb=>X b/\b<w.heap.size) O m j a l.length c u (Dd z d (l.take k)) wr) (λi wr=>l.length-(intOf i).toNat);case atStart=>exact⟨0,zB,Bm _,rfl,[],by have h:=Cc.start w3 (O+1) 24 (λb=>X b/\b<w.heap.size); simpa [Dd] using h,B3.o,T3.o,A.o,P.o,P.o.lt⟩
    case round=>
     obtain⟨k,u9,hk,rfl,y⟩:=hrel;have a6:=Aa y;obtain⟨xs,ai,a7,hT,hR,a8,aV⟩:=y;have XE:=Aa a7;have XT:=Aa hT;have D:=Aa hR;have r:=Aa a8;have XW:=Aa ai;clear ai a7 hR a8;have c0:=hT.c0;have c1:=hT.c1;have c2:=hT.c2;have o0:=r.o.c0;have o1:=r.o.c1;have o2:wr.cell? (zD O 2)=some u9:=r.o.cell 2;clear hT;by_cases n:k<l.length
     ·obtain⟨b,o,M,c',rfl,d0,ar,d1,hx⟩:=(HS.o.mono (Y:=(λb=>X b/\b<w.heap.size)) λb h1 h2=>⟨h1,h2⟩).get XE.o (λb h _=>h.2) k n;have HX:=Aa hx;have aG:(k:Int)<(l.length:Int):=(by omega);have aA:b<w.heap.size:=by
       obtain⟨_,h1⟩:=HS.o;rcases h1 with h1|⟨b',o',e',h1⟩
       ·rw[h1]at n; simp at n
       ·cases e'; exact GV (EZ _ _ _ h1 k n).2.1
      have aH:Ai [l[k]]<=Ai l:=(by have h1:=C9 l k n;have h2:=DE l (k+1);omega);have aB:Hid ((Dd z d (l.take k)).length<=1000000):=Aa (by rw[EG];simp;omega);have aI:=Aa (Cs.at k n aN.o);have aw:=Aa (QO z d l k n);have aC:Hid (Calls prog 67 #[.agg (zE l[k] M c'),.slice la 1 cl,zA d] wr.drew λe ax=>∃R c1,e=.returned (.agg #[zA (AX z d l[k]).kind,zA (AX z d l[k]).idx,.slice R (AX z d l[k]).subs.length c1])/\Ap ax (λb=>(X b/\b<w.heap.size)∨wr.heap.size<=b) R (AX z d l[k]).subs/\Below wr.heap.size wr ax):=(IH.o l[k] (Bu n) _ d wr.drew (λb=>X b/\b<w.heap.size) (HX.o.later ((Ac wr.heap.size wr).drew)) ((HZ.o.mono (Y:=λb=>X b/\b<w.heap.size) λb h1 h2=>⟨h1,h2⟩).below XE.o.drew (λb h _=>h.2)) (by omega) (by omega) aI.o).mono λe ax hp=>by
        obtain⟨R,c1,h1,h2,h3⟩:=hp;exact⟨R,c1,h1,h2.mono (λb hb _=>hb.imp (λh=>h.1) id),((Ac wr.heap.size wr).drew).trans h3⟩
      have ay:Hid (CU w.heap.size b (o+k*3) m j (some (zD b o)) l.length c l[k].kind l[k].idx (.slice M l[k].subs.length c') wr):=⟨XT.o,d0,ar,d1⟩;clear hx d0 ar d1 c0 c1 o0 o1;go_wp2_with fail;have aD:Hid (CU w.heap.size b (o+k*3) m j (some (zD b o)) l.length c l[k].kind l[k].idx (.slice M l[k].subs.length c') wr.drew):=ay.o;refine CC (S:=CU w.heap.size b (o+k*3) m j (some (zD b o)) l.length c l[k].kind l[k].idx (.slice M l[k].subs.length c')) (by kernel_rfl) aD.o λhH=>?_;refine tkz 0 ?_;refine tkz 2 ?_;refine tkz 3 ?_ (hy:=by intro w' E;have c2:w'.cell? (zD w.heap.size 2)=some (.slice (some (zD b o)) l.length c):=E.1.cell 2;go_simp<;>with_reducible rfl);refine tkz 4 ?_;refine tkz 5 ?_;refine tkz 6 ?_ (hy:=by intro w' E;have e0:=E.2.1;have e1:=E.2.2.1;have e2:=E.2.2.2;go_simp<;>with_reducible rfl);refine tkz 7 ?_;refine tkz 8 ?_;have aW:wr.drew.cell? (zD O 2)=some u9:=r.o.cell 2;refine Ca (rs:=[1,9]) (by kernel_rfl) (by simp) ?_;refine AJ rfl (λK f=>?_) (AJ rfl (λK f=>?_) Cb)
      ·go_simp;refine f.o _ _ (by exact aD.o) λhH=>?_;clear f K;(try simp only[Act.put,sq]);refine rdq 9 rfl λK f=>?_;go_simp;go_at_call 67;refine aC.o.mono ?_;rintro e w5 ⟨a5,c5,rfl,F,s⟩;obtain⟨g,cap,w3,G,H,I,B,o3,of,J,y⟩:=FF (c1:=c5) hO (λb h=>h.2) aA a6.o ay.o aB.o s F;have T:=Aa G;have U:=Aa y;have V:=Aa H;have L:=Aa I;have W:=Aa B;have Z:=Aa J;have aJ:w5.cell? (zD O 2)=some u9:=(s.cell (p:=(zD O 2)) r.o.lt).trans (r.o.cell 2);have aE:=Aa s;clear G y H I B J F s;go_simp;refine f.o _ _ (by exact V.o) λhH=>?_;clear f K;(try simp only[Act.put,sq]);refine rdq 10 rfl λK f=>?_;go_simp;refine f.o _ _ (by exact L.o) λhH=>?_;clear f K;(try simp only[Act.put,sq]);refine rdq 11 rfl λK f=>?_;refine BF rfl _ _ _ _ rfl rfl rfl T.o ?_;refine f.o _ _ (by exact W.o) λhH=>?_;clear f K;(try simp only[Act.put,sq]);refine tkz 12 ?_;refine rdq 13 rfl λK f=>?_;go_simp;refine f.o _ _ (by exact Z.o) λhH=>?_;clear f K;(try simp only[Act.put,sq]);refine dnq ?_;go_wp2_with fail;go_roundw
       case rel=>exact⟨k+1,_,by omega,by go_num,by rw[aw.o]; exact U.o⟩
       case measure=>simp[intOf]; omega
      ·go_simp;go_at_call 67;refine aC.o.mono ?_;rintro e w5 ⟨a5,c5,rfl,F,s⟩;obtain⟨g,cap,w3,G,H,I,B,o3,of,J,y⟩:=FF (c1:=c5) hO (λb h=>h.2) aA a6.o ay.o aB.o s F;have T:=Aa G;have U:=Aa y;have V:=Aa H;have L:=Aa I;have W:=Aa B;have Z:=Aa J;have aJ:w5.cell? (zD O 2)=some u9:=(s.cell (p:=(zD O 2)) r.o.lt).trans (r.o.cell 2);have aE:=Aa s;clear G y H I B J F s;go_simp;refine f.o _ _ (by exact V.o) λhH=>?_;clear f K;(try simp only[Act.put,sq]);refine Ca (rs:=[1,10]) (by kernel_rfl) (by simp) ?_;refine AJ rfl (λK f=>?_) (AJ rfl (λK f=>?_) Cb)
       ·go_simp;refine f.o _ _ (by exact V.o) λhH=>?_;clear f K;(try simp only[Act.put,sq]);refine rdq 10 rfl λK f=>?_;go_simp;refine f.o _ _ (by exact L.o) λhH=>?_;clear f K;(try simp only[Act.put,sq]);refine rdq 11 rfl λK f=>?_;refine BF rfl _ _ _ _ rfl rfl rfl T.o ?_;refine f.o _ _ (by exact W.o) λhH=>?_;clear f K;(try simp only[Act.put,sq]);refine tkz 12 ?_;refine rdq 13 rfl λK f=>?_;go_simp;refine f.o _ _ (by exact Z.o) λhH=>?_;clear f K;(try simp only[Act.put,sq]);refine dnq ?_;go_wp2_with fail;go_roundw
        case rel=>exact⟨k+1,_,by omega,by go_num,by rw[aw.o]; exact U.o⟩
        case measure=>simp[intOf]; omega
       ·go_simp;refine f.o _ _ (by exact L.o) λhH=>?_;clear f K;(try simp only[Act.put,sq]);refine rdq 1 rfl λK f=>?_;have aX:=((Aa (r.o.below aE.o r.o.lt)).o.alloc (.cells #[zA (AX z d l[k]).kind,zA (AX z d l[k]).idx,.slice a5 (AX z d l[k]).subs.length c5] 24)).cell 2;go_simp;refine f.o _ _ (by exact L.o) λhH=>?_;clear f K;(try simp only[Act.put,sq]);refine rdq 11 rfl λK f=>?_;refine BF rfl _ _ _ _ rfl rfl rfl T.o ?_;refine f.o _ _ (by exact W.o) λhH=>?_;clear f K;(try simp only[Act.put,sq]);refine tkz 12 ?_;refine rdq 13 rfl λK f=>?_;go_simp;refine f.o _ _ (by exact Z.o) λhH=>?_;clear f K;(try simp only[Act.put,sq]);refine dnq ?_;go_wp2_with fail;go_roundw
        case rel=>exact⟨k+1,_,by omega,by go_num,by rw[aw.o]; exact U.o⟩
        case measure=>simp[intOf]; omega
     ·have aY:¬((k:Int)<(l.length:Int)):=(by omega);have aK:l.take k=l:=Bv (by omega);rw[aK]at XW;obtain⟨ae,ce,rfl,aF⟩:=XW.o.sl;have aL:=Aa aF;clear aF;have r0:=D.o.c0;have r1:=D.o.c1;have r2:=D.o.c2;have rf:=D.o.frozen;have av:w.heap.size+1<wr.heap.size:=D.o.lt;have aZ:Hid ((Dd z d (l)).length=l.length):=Aa (by rw[EG];simp);go_wp2_with fail;refine Ao (v:=.agg #[zA m,zA j,.slice ae (Dd z d (l)).length ce]) (by simp[results,results67,go_sem,AK,AB,r0,r1,r2,av]) rfl ?_;rw[HT.o];refine⟨ae,ce,rfl,(aL.o.kept λb hb=>?_).mono λb hb _=>?_,((XE.o.setCell (by simp) _).setCell (by simp) _).setCell (by simp) _⟩
      ·have x:b≠w.heap.size+1:=by
        rcases hb with h|h
        ·have:=h.2; omega
        ·omega
       rw[Al _ _ _ _ (by simpa using x),Al _ _ _ _ (by simpa using x),Al _ _ _ _ (by simpa using x)]
      ·rcases hb with h|h
       ·exact Ad h
       ·right; omega
theorem Ji {a b:Bool} (h:a=b):Ending.returned (.bool a)=.returned (.bool b):=by rw[h]
def Es:List Lm->Prop
 | []=>True
 | ⟨k,_,l⟩::r=>l.length=Bw k/\Es l/\Es r
theorem Rp:Es []:=by simp[Es]
theorem Jj (k x:Int) (l r:List Lm):Es (⟨k,x,l⟩::r)↔l.length=Bw k/\Es l/\Es r:=by simp[Es]
theorem Es.at:∀ {l:List Lm} (k:Nat) (h:k<l.length),Es l->Es [l[k]]
 | [],k,h,_=>by simp at h
 | ⟨s,x,l⟩::r,0,h,hb=>by
  rw[Jj]at hb;exact(Jj s x l []).2 ⟨hb.1,hb.2.1,Rp⟩
 | ⟨s,x,l⟩::r,k+1,h,hb=>by
  rw[Jj]at hb;have:=Es.at (l:=r) k (by simpa using h) hb.2.2;simpa using this
def Ct (t:Lm):Bool:=decide (t.kind=3)&&(match t.subs with|[]=>false|y::_=>decide (y.kind=2))
def AG:List Lm->Bool
 | []=>false
 | ⟨k,x,l⟩::r=>Ct ⟨k,x,l⟩||AG l||AG r
theorem Jk (a b:List Lm):AG (a++b)=(AG a||AG b):=by
 induction a with
 |nil=>simp[AG]
 |cons t r c=>obtain⟨k,x,l⟩:=t; simp only[Di,AG,c,Bool.or_assoc]
theorem Md (l:List Lm) (k:Nat) (h:k<l.length):AG (l.take (k+1))=(AG (l.take k)||AG [l[k]]):=by
 rw[CB h,Jk]
theorem Rq {l:List Lm} {k:Nat} (h:k<l.length) (a:AG [l[k]]=true):AG l=true:=by
 have h1:=Jk (l.take (k+1)) (l.drop (k+1));rw[Fu,Md l k h,a]at h1;simpa using h1
theorem IA (k x:Int) (l:List Lm):AG [⟨k,x,l⟩]=(Ct ⟨k,x,l⟩||AG l):=by simp[AG]
theorem Rr (t:Lm) (v:Value) (w:World) (X:Nat->Prop) (n:MV w X v t) (h3:t.kind=3->t.subs≠[]):
  Calls prog 52 #[v] w λe w'=>e=.returned (.bool (Ct t))/\Below w.heap.size w w':=by
 obtain⟨g,f,l⟩:=t;obtain⟨a,c,rfl,j⟩:=n;dsimp only[zE];have i:Hid (Below w.heap.size w (w.alloc (.cells #[zA g,zA f,.slice a l.length c] 24))):=(Ac _ _).alloc (Ag _) _;have ad:=j.1;by_cases k:g=3
 ·subst k;cases l with
  |nil=>exact absurd rfl (h3 rfl)
  |cons y r=>
   obtain⟨b,o,a',c',rfl,d0,q,d1,hx⟩:=j.get i.o (λ_ _ h=>h) 0 (by simp);simp only[Nat.zero_mul,Hs,Q6,Cg] at d0;have d:Hid (decide (y.kind=2)=Ct ⟨3,f,y::r⟩):=Aa (by unfold Ct;simp);clear hx q d1 h3 j;by_cases hy:y.kind=2
   ·have m:Hid (true=Ct ⟨3,f,y::r⟩):=Aa (by rw[<-d.o,hy];rfl);rw[hy]at d0;clear hy d;go_enter func52,ntmps52;go_wp2_with fail;go_ret;exact⟨Ji m.o,i.o⟩
   ·have m:Hid (false=Ct ⟨3,f,y::r⟩):=Aa (by rw[<-d.o];simp[hy]);have ae:(y.kind==2)=false:=(by simpa using hy);clear hy d;go_enter func52,ntmps52;go_wp2_with fail;go_ret;exact⟨Ji m.o,i.o⟩
 ·have e3:(g==3)=false:=by simpa using k
  have d:Hid (false=Ct ⟨g,f,l⟩):=Aa (by unfold Ct;simp[k]);go_enter func52,ntmps52;go_wp2_with fail;go_ret;exact⟨Ji d.o,i.o⟩
theorem Rs (t:Lm):∀(v:Value) (w:World) (X:Nat->Prop),MV w X v t->Es [t]->
  Calls prog 30 #[v] w λe w'=>e=.returned (.bool (AG [t]))/\Below w.heap.size w w':=by
 induction t using Lm.ind with
 |h d f l B=>
  intro v w X I g;obtain⟨a,c,rfl,r⟩:=I;have J:=Aa B;have C:=Aa r;have az:=r.1;rw[Jj]at g;obtain⟨s,g,_⟩:=g;have L:=Aa g;have M:Hid (d=3->l≠[]):=λh e=>by rw[e,h] at s; simp[Bw] at s
  clear B r g s;have u:Hid (Below w.heap.size w (w.alloc (.cells #[zA d,zA f,.slice a l.length c] 24))):=(Ac _ _).alloc (Ag _) _;have x:=Aa (Ab.new w #[zA d,zA f,.slice a l.length c] 24);go_enter func30,ntmps30;go_wp2_with fail;refine(Rr ⟨d,f,l⟩ _ _ X ⟨a,c,rfl,C.o.later u.o⟩ M.o).mono ?_;rintro e w1 ⟨rfl,y⟩;have D:=Aa (u.o.trans (y.mono (by simp)));have ar:=Aa (x.o.below y x.o.lt);clear y u x;cases m:Ct ⟨d,f,l⟩ with
  |true=>have n:Hid (true=AG [⟨d,f,l⟩]):=Aa (by rw[IA,m];rfl);clear m;go_wp2_with fail;go_ret;exact⟨Ji n.o,D.o⟩
  |false=>
   have n:Hid (AG [⟨d,f,l⟩]=AG l):=Aa (by rw[IA,m];rfl);clear m;go_wp2_with fail;go_loopw [3] (λi wr=>∃k:Nat,k<=l.length/\i=zA k/\AG (l.take k)=false/\Below w.heap.size w wr/\Ab wr w.heap.size #[zA d,zA f,.slice a l.length c] 24) (λi wr=>l.length-(intOf i).toNat);case atStart=>exact⟨0,Bm _,rfl,by simp[AG],D.o,ar.o⟩
   case round=>
    obtain⟨k,hk,rfl,he,hb,hT⟩:=hrel;have E:=Aa he;have F:=Aa hb;have G:=Aa hT;have N:w.heap.size<=wr.heap.size:=hb.size;have t0:=hT.c0;have t1:=hT.c1;have t2:=hT.c2;by_cases j:k<l.length
    ·obtain⟨b,o,a',c',rfl,d0,a1,d1,hx⟩:=C.o.get hb (λ_ _ h=>h) k j;have av:(k:Int)<(l.length:Int):=(by omega);have O:=Aa hx;clear hx he hb hT;go_wp2_with fail;refine(J.o _ (Bu j) _ _ X O.o (Es.at k j L.o)).mono ?_;rintro e w2 ⟨rfl,z⟩;have H:Hid (Below w.heap.size w w2):=F.o.trans (z.mono N);have P:=Aa (G.o.below z G.o.lt);clear z;cases q:AG [l[k]] with
     |true=>have A:Hid (true=AG [⟨d,f,l⟩]):=Aa (by rw[n.o,Rq j q]);clear q;go_wp2_with fail;go_ret;exact⟨Ji A.o,H.o⟩
     |false=>
      have R:=Aa q;clear q;go_wp2_with fail;go_roundw
      case rel=>exact⟨k+1,by omega,by go_num,by rw[Md l k j,E.o,R.o]; rfl,H.o,P.o⟩
      case measure=>simp[intOf]; omega
    ·have T:l.take k=l:=Bv (by omega);have a6:¬((k:Int)<(l.length:Int)):=(by omega);have A:Hid (false=AG [⟨d,f,l⟩]):=Aa (by rw[n.o,<-T,E.o]);go_wp2_with fail;go_ret;exact⟨Ji A.o,F.o⟩
def GY:List Lm->Lm
 | [⟨_,_,[b]⟩,z]=>AX z 0 b
 |_=>⟨0,0,[]⟩
def Cx (f:Lm->Lm):List Lm->List Lm
 | []=>[]
 |y::r=>if AG [y]=true then f y::r else y::Cx f r
def Fo (inn:Bool) (t:Lm):Bool:=Ct t&&(!inn||!AG t.subs)
def Bx (inn:Bool):Nat->Lm->Lm
 |0,t=>t
 |n+1,⟨k,x,l⟩=>if Fo inn ⟨k,x,l⟩=true then GY l else ⟨k,x,Cx (Bx inn n) l⟩
def Bl (inn:Bool):Nat->Lm->Int×Lm×Nat
 |0,t=>if AG [t]=true then (9,t,0) else (0,t,0)
 |k+1,t=>if AG [t]=true then (if 2000<Ai [Bx inn 2001 t] then (8,t,0) else ((Bl inn k (Bx inn 2001 t)).1,(Bl inn k (Bx inn 2001 t)).2.1,(Bl inn k (Bx inn 2001 t)).2.2+1)) else (0,t,0)
theorem Et {u m k x:Int} {n:Nat}:AD u m k x n=0↔(1<=k/\k<=5)/\n=Bw k/\0<=x/\x<Bj u m k:=by
 unfold AD;constructor
 ·intro h;split at h
  ·cases h
  ·split at h
   ·cases h
   ·split at h
    ·cases h
    ·omega
 ·rintro⟨h1,h2,h3,h4⟩;rw[Am (by omega),Am (by omega),Am (by omega)]
theorem H6 {u m:Int} {t:Lm} {r:List Lm}:Au u m (t::r)=0↔Au u m [t]=0/\Au u m r=0:=by
 rw[Lu];constructor
 ·intro h;split at h
  ·rename_i h1; exact⟨h1,h⟩
  ·rename_i h1; exact absurd h h1
 ·rintro⟨h1,h2⟩; rw[Aq h1]; exact h2
theorem DV {u m k x:Int} {l:List Lm}:Au u m [⟨k,x,l⟩]=0↔AD u m k x l.length=0/\Au (AO u k) m l=0:=by
 constructor
 ·intro h;by_cases h1:AD u m k x l.length=0
  ·rw[GR h1]at h; exact⟨h1,h⟩
  ·rw[DY h1]at h; exact absurd h h1
 ·rintro⟨h1,h2⟩; rw[GR h1]; exact h2
theorem Me {u m:Int} {l:List Lm}:Au u m l=0↔∀t∈l,Au u m [t]=0:=by
 induction l with
 |nil=>simp[Au]
 |cons t r a=>rw[H6,a]; simp
theorem NJ (l:List Lm):∀u m,Au u m l=0->Es l:=by
 induction l using Lm.indL with
 |h0=>intro _ _ _; exact Rp
 |h k x l r a b=>intro u m h;obtain⟨h1,h2⟩:=H6.1 h;obtain⟨h3,c⟩:=DV.1 h1;exact(Jj k x l r).2 ⟨(Et.1 h3).2.1,a _ _ c,b _ _ h2⟩
theorem Xa (y d:Int) (l:List Lm):(CE y d l).length=l.length:=by rw[Ei]; simp
theorem Xb (z:Lm) (d:Int) (l:List Lm):(Dd z d l).length=l.length:=by rw[EG]; simp
theorem Rt {u u' m k:Int} (h:k≠1):Bj u m k=Bj u' m k:=by unfold Bj; rw[Am h,Am h]
theorem Xc (m:Int) (l:List Lm):∀u c y:Int,0<=u->0<=c->0<=y->Au (u+c) m l=0->Au (u+c+y) m (CE y c l)=0:=by
 induction l using Lm.indL with
 |h0=>intro u c y _ _ _ _; simp[CE,Au]
 |h k x l r b e=>
  intro u c y hu hc hy h;obtain⟨h1,h2⟩:=H6.1 h;obtain⟨h3,a⟩:=DV.1 h1;obtain⟨d,a2,a3,a4⟩:=Et.1 h3;rw[CE];refine H6.2 ⟨?_,e u c y hu hc hy h2⟩;by_cases hk:k=1
  ·subst hk;have f:l=[]:=GJ.1 (by rw[a2]; rfl);subst f;have a5:x<u+c:=(by simpa [Bj] using a4);rw[Aq rfl];split
   ·exact DV.2 ⟨Et.2 ⟨d,a2,a3,by show x<Bj _ _ 1; simp[Bj]; omega⟩,by simp[Au]⟩
   ·exact DV.2 ⟨Et.2 ⟨by omega,rfl,by omega,by show x+y<Bj _ _ 1; simp[Bj]; omega⟩,by simp[Au]⟩
  ·rw[Am hk];refine DV.2 ⟨Et.2 ⟨d,by rw[Xa]; exact a2,a3,by rw[Rt hk (u':=u+c)]; exact a4⟩,?_⟩;by_cases h2:k=2
   ·subst h2;have e1:AO (u+c+y) 2=u+(c+1)+y:=by simp[AO]; omega
    have e2:AO c 2=c+1:=(by simp[AO]);have e3:AO (u+c) 2=u+(c+1):=by simp[AO]; omega
    rw[e1,e2];rw[e3]at a;exact b u (c+1) y hu (by omega) hy a
   ·have e1:∀z,AO z k=z:=λz=>by simp[AO,h2]
    rw[e1,e1];rw[e1]at a;exact b u c y hu hc hy a
theorem Xd {m u c y:Int} {t:Lm} (hu:0<=u) (hc:0<=c) (hy:0<=y) (h:Au (u+c) m [t]=0):Au (u+c+y) m [AY y c t]=0:=by
 have:=Xc m [t] u c y hu hc hy h;rw[Ei]at this;exact this
theorem Xe (m:Int) (z:Lm) (l:List Lm):∀u c:Int,0<=u->0<=c->Au u m [z]=0->Au (u+c+1) m l=0->Au (u+c) m (Dd z c l)=0:=by
 induction l using Lm.indL with
 |h0=>intro u c _ _ _ _; simp[Dd,Au]
 |h k x l r b e=>
  intro u c hu hc hz h;obtain⟨h1,h2⟩:=H6.1 h;obtain⟨h3,a⟩:=DV.1 h1;obtain⟨d,a2,a3,a4⟩:=Et.1 h3;rw[Dd];refine H6.2 ⟨?_,e u c hu hc hz h2⟩;by_cases hk:k=1
  ·subst hk;have f:l=[]:=GJ.1 (by rw[a2]; rfl);subst f;have a5:x<u+c+1:=(by simpa [Bj] using a4);rw[Aq rfl];split
   ·exact DV.2 ⟨Et.2 ⟨d,a2,a3,by show x<Bj _ _ 1; simp[Bj]; omega⟩,by simp[Au]⟩
   ·split
    ·have g:=Xd (m:=m) (u:=u) (c:=0) (y:=c) (t:=z) hu (by omega) hc (by simpa using hz);simpa using g
    ·exact DV.2 ⟨Et.2 ⟨by omega,rfl,by omega,by show x-1<Bj _ _ 1; simp[Bj]; omega⟩,by simp[Au]⟩
  ·rw[Am hk];refine DV.2 ⟨Et.2 ⟨d,by rw[Xb]; exact a2,a3,by rw[Rt hk (u':=u+c+1)]; exact a4⟩,?_⟩;by_cases h2:k=2
   ·subst h2;have e1:AO (u+c) 2=u+(c+1):=by simp[AO]; omega
    have e2:AO c 2=c+1:=(by simp[AO]);have e3:AO (u+c+1) 2=u+(c+1)+1:=by simp[AO]; omega
    rw[e1,e2];rw[e3]at a;exact b u (c+1) hu (by omega) hz a
   ·have e1:∀z,AO z k=z:=λz=>by simp[AO,h2]
    rw[e1,e1];rw[e1]at a;exact b u c hu hc hz a
theorem Xf {m u:Int} {z t:Lm} (hu:0<=u) (hz:Au u m [z]=0) (h:Au (u+1) m [t]=0):Au u m [AX z 0 t]=0:=by
 have:=Xe m z [t] u 0 hu (by omega) hz (by simpa using h);rw[EG]at this;simpa using this
theorem Ru {t:Lm} {u m:Int} (he:Au u m [t]=0) (a:Ct t=true):∃x i b z,t=⟨3,x,[⟨2,i,[b]⟩,z]⟩/\Au (u+1) m [b]=0/\Au u m [z]=0:=by
 obtain⟨k,x,l⟩:=t;obtain⟨h3,c⟩:=DV.1 he;obtain⟨a1,a2,a3,a4⟩:=Et.1 h3;unfold Ct at a;simp only[Bool.and_eq_true,decide_eq_true_eq] at a;obtain⟨rfl,a⟩:=a;have a5:l.length=2:=by rw[a2]; rfl
 match l,a5 with
 | [⟨k1,i,lb⟩,z],_=>
  simp only[decide_eq_true_eq] at a;subst a;have e1:AO u 3=u:=by simp[AO]
  rw[e1]at c;obtain⟨h5,h6⟩:=H6.1 c;obtain⟨d,h8⟩:=DV.1 h5;obtain⟨b1,e,b3,b4⟩:=Et.1 d;have f:lb.length=1:=by rw[e]; rfl
  match lb,f with
  | [b],_=>have e2:AO u 2=u+1:=(by simp[AO]);rw[e2]at h8;exact⟨x,i,b,z,rfl,h8,h6⟩
theorem NK (f:Lm->Lm):∀l:List Lm,(Cx f l).length=l.length
 | []=>rfl
 |y::r=>by
  unfold Cx;split
  ·rfl
  ·simp[NK f r]
theorem Rv (f:Lm->Lm):∀(l:List Lm) (i:Nat) (h:i<l.length),AG (l.take i)=false->AG [l[i]]=true->Cx f l=l.set i (f l[i])
 |y::r,0,h,_,a=>by
  have b:AG [y]=true:=a;unfold Cx;rw[Aq b]; rfl
 |y::r,i+1,h,h0,a=>by
  have e:AG (y::r.take i)=(AG [y]||AG (r.take i)):=Jk [y] (r.take i);rw[JL,e,MP]at h0;unfold Cx;rw[Am (by rw[h0.1]; simp),Rv f r i (by simpa using h) h0.2 (by simpa using a)];rfl
theorem Rw (f:Lm->Lm):∀(l:List Lm),AG l=false->Cx f l=l
 | [],_=>rfl
 |y::r,h=>by
  have e:AG (y::r)=(AG [y]||AG r):=Jk [y] r;rw[e,MP]at h;unfold Cx;rw[Am (by rw[h.1]; simp),Rw f r h.2]
theorem Rx {f:Lm->Lm}:∀ {l:List Lm} {y:Lm},y∈Cx f l->y∈l∨∃z∈l,y=f z
 | [],y,h=>by simp[Cx] at h
 |z::r,y,h=>by
  unfold Cx at h;split at h
  ·rcases Cn.1 h with rfl|h
   ·exact Ae ⟨z,by simp,rfl⟩
   ·exact Ad (by simp[h])
  ·rcases Cn.1 h with rfl|h
   ·exact Ad (by simp)
   ·rcases Rx h with h|⟨q,hq,e⟩
    ·exact Ad (by simp[h])
    ·exact Ae ⟨q,by simp[hq],e⟩
theorem Xg (inn:Bool) (m:Int) (n:Nat):∀(t:Lm) (u:Int),0<=u->Au u m [t]=0->Au u m [Bx inn n t]=0:=by
 induction n with
 |zero=>intro t u _ h; exact h
 |succ n d=>
  intro t u hu h;obtain⟨k,x,l⟩:=t;rw[Bx];split
  ·rename_i a;unfold Fo at a;simp only[Bool.and_eq_true] at a;obtain⟨x',i,b,z,e,h1,h2⟩:=Ru h a.1;cases e;exact Xf hu h2 h1
  ·obtain⟨h3,c⟩:=DV.1 h;refine DV.2 ⟨by rw[NK]; exact h3,Me.2 λy hy=>?_⟩;have hd:0<=AO u k:=by unfold AO; split<;>omega
   rcases Rx hy with hy|⟨z,hz,rfl⟩
   ·exact Me.1 c y hy
   ·exact d z _ hd (Me.1 c z hz)
theorem Kj (k x:Int) (l:List Lm):Ai [⟨k,x,l⟩]=1+Ai l:=by simp[Ai]
theorem Ry (t:Lm):0<Ai [t]:=by obtain⟨k,x,l⟩:=t; rw[Kj]; omega
theorem Mf (l:List Lm) (i:Nat) (h:i<l.length):Ai [l[i]]<=Ai l:=by
 have h1:=J4 (l.take (i+1)) (l.drop (i+1));rw[Fu,C9 l i h]at h1;omega
theorem Xh (l:List Lm) (i:Nat) (h:i<l.length) (y:Lm):Ai [y]<=Ai (l.set i y):=by
 have h2:i<(l.set i y).length:=by simpa using h
 have:=Mf (l.set i y) i h2;simpa using this
def Gi (inn:Bool) (n:Nat) (t:Lm) (x:Lm) (ok:Bool):Prop:=(ok=true->x=Bx inn n t)/\(ok=false->2000<Ai [Bx inn n t])
theorem Gi.up {inn:Bool} {n:Nat} {k x:Int} {l:List Lm} {i:Nat} (h:i<l.length) (b:Fo inn ⟨k,x,l⟩=false) (h0:AG (l.take i)=false) (h1:AG [l[i]]=true) {y:Lm} {ok:Bool} (a:Gi inn n l[i] y ok):Gi inn (n+1) ⟨k,x,l⟩ ⟨k,x,l.set i y⟩ ok:=by
 have e:Bx inn (n+1) ⟨k,x,l⟩=⟨k,x,l.set i (Bx inn n l[i])⟩:=(by rw[Bx,Am (by rw[b]; simp),Rv _ l i h h0 h1]);refine⟨λhk=>by rw[e,a.1 hk],λhk=>?_⟩;have:=a.2 hk;have h3:=Xh l i h (Bx inn n l[i]);rw[e,Kj];omega
theorem Gi.at {inn:Bool} {n:Nat} {t:Lm} (a:Fo inn t=true) {y:Lm} {ok:Bool} (h1:ok=true->y=GY t.subs) (h2:ok=false->2000<Ai [GY t.subs]):Gi inn (n+1) t y ok:=by
 obtain⟨k,x,l⟩:=t;have e:Bx inn (n+1) ⟨k,x,l⟩=GY l:=by rw[Bx,Aq a]
 exact⟨λh=>by rw[e,h1 h],λh=>by rw[e]; exact h2 h⟩
def D4 (w:World) (Z:Nat->Prop):List (List Int)->List Value->Prop
 | [],xs=>xs=[]
 |z::r,xs=>∃u xs',xs=u::xs'/\PV w Z u z/\D4 w Z r xs'
theorem D4.len {w:World} {Z:Nat->Prop}:∀ {l:List (List Int)} {xs:List Value},D4 w Z l xs->xs.length=l.length
 | [],xs,h=>by simp[D4] at h; simp[h]
 |z::l,xs,h=>by obtain⟨u,aa,rfl,_,h⟩:=h; simp[D4.len h]
theorem D4.append {w:World} {Z:Nat->Prop}:∀ {l k:List (List Int)} {xs a:List Value},D4 w Z l xs->D4 w Z k a->D4 w Z (l++k) (xs++a)
 | [],k,xs,a,h,h'=>by simp[D4] at h; subst h; simpa using h'
 |z::l,k,xs,a,h,h'=>by obtain⟨u,b,rfl,hp,h⟩:=h; exact⟨u,b++a,rfl,hp,D4.append h h'⟩
theorem D4.imp {w w':World} {Z a:Nat->Prop} (b:∀u z,PV w Z u z->PV w' a u z):∀ {l:List (List Int)} {xs:List Value},D4 w Z l xs->D4 w' a l xs
 | [],xs,h=>h
 |z::l,xs,h=>by obtain⟨u,c,e,hp,h⟩:=h; exact⟨u,c,e,b _ _ hp,D4.imp b h⟩
theorem D4.get {w:World} {Z:Nat->Prop}:∀ {l:List (List Int)} {xs:List Value},D4 w Z l xs->∀i (h:i<l.length),∃u,xs[i]? = some u/\PV w Z u l[i]
 | [],xs,h,i,hi=>by simp at hi
 |z::l,xs,h,i,hi=>by
  obtain⟨u,aa,rfl,hp,h⟩:=h;cases i with
  |zero=>exact⟨u,rfl,hp⟩
  |succ i=>obtain⟨u',h1,h2⟩:=D4.get h i (by simpa using hi); exact⟨u',by simpa using h1,h2⟩
theorem PV.one {w:World} {Z:Nat->Prop} {u:Value} {z:List Int} (h:PV w Z u z):u.oneCell'=true:=by obtain⟨a,c,rfl,_⟩:=h; rfl
def GA (w0:World) (N:Nat) (q0:Value) (ps:List (List Int)) (q:Value) (xs:List Value) (wr:World):Prop:=
 wr.ownsRow N 47 1 q ps.length xs/\D4 wr (λb=>N<=b/\some b≠q.ownBlock) ps xs/\w0.grownBy wr q0.ownBlock/\(∀k,q.ownBlock=some k->q0.ownBlock=some k∨w0.heap.size<=k)
theorem PV.grownBy {w w':World} {Z:Nat->Prop} {u:Value} {z:List Int} {r:Option Nat} (h:PV w Z u z) (a:w.grownBy w' r) (c:∀b,Z b->some b≠r):PV w' Z u z:=by
 have h1:PV w (λb=>Z b/\b<w.heap.size) u z:=h.mono λb h1 h2=>⟨h1,h2⟩;have h2:PV w' (λb=>Z b/\b<w.heap.size) u z:=h1.kept λb hx=>a.block b hx.2 (c b hx.1);exact h2.mono λb hx _=>hx.1
theorem GA.mono {a w1 wr:World} {N:Nat} {b c q:Value} {d f:List (List Int)} {xs g:List Value} (h:GA a N b f c g w1) (h1:GA w1 N c d q xs wr):GA a N b d q xs wr:=by
 refine⟨h1.1,h1.2.1,Lo h.2.2.1 h1.2.2.1 h.2.2.2,λk hk=>?_⟩;rcases h1.2.2.2 k hk with e|e
 ·exact h.2.2.2 k e
 ·exact Ae (AN h.2.2.1.size e)
theorem GA.later {a w1 w2:World} {N:Nat} {b q:Value} {c:List (List Int)} {xs:List Value} (h:GA a N b c q xs w1) (hb:Below w1.heap.size w1 w2):GA a N b c q xs w2:=
 ⟨h.1.kept (w' := w2) (row := none) ⟨hb.os, hb.tape, hb.output, hb.size, λj d _ => hb.block j d⟩ (by rcases IV (Value.ownBlock q) with h | ⟨x, h⟩; exact Ad h; exact Ae (by rw [h]; simp)),
  h.2.1.imp λu z hp=>hp.later hb,Lo h.2.2.1 (Lp hb q.ownBlock) h.2.2.2,h.2.2.2⟩
theorem GA.here {w1:World} {N:Nat} {b q:Value} {a:List (List Int)} {xs:List Value} {c:World} (h:GA c N b a q xs w1):GA w1 N q a q xs w1:=⟨h.1,h.2.1,Lp (Ac _ _) _,λ_ h=>Ad h⟩
open Go.RowKit Go.Shelf
def Xi (l:Nat) (r rb rd:Loop) (Post:Bool->World->Prop):Exit->Act->World->Prop
 | .normal,_,w3=>w3.heap[l]? = some (.loop rb)/\Post true (w3.putObj l (.loop r))
 | .ret,_,w3=>w3.heap[l]? = some (.loop rb)/\Post false (w3.putObj l (.loop rd))
 |_,_,_=>False
theorem Xj {P:Program} {n l:Nat} {r:Loop} {args:Array Value} {W:World} {i:Bool->World->Prop} {assign body:Code} {b:Array Tmp} {tmps:Array Value} {d rd:Loop} (m:d={ r with state:=.busy}) (o:rd={ r with state:=.done,pending:=some .ret}) (q:r.assign=assign) (u:r.body=body) (x:r.params=b) (y:r.tmps=tmps) (z:W.heap[l]? = some (.loop r)) (f:r.state=.ready) (j:r.pending=none) (A:args.size=b.size)
  (h:assign.wpIn (Fence.wide.inRound l) n P (Exit.then (λB k=>k.heap[l]? = some (.loop r)/\body.wpIn (Fence.wide.inRound l) n P (Xi l r d rd i) B (k.putObj l (.loop d))) (λ_ _ _=>False)) { tmps:=(b.zip args).foldl (λt (p,v)=>t.setIfInBounds p v) tmps,defers:=[]} W):
  YieldAt Fence.wide n P l args W λe W'=>∃s,e=.returned (.bool s)/\i s W':=by
 subst m; subst o; subst q; subst u; subst x; subst y;refine⟨r.fn,_,r.assign,r.body,run_yield z A,roundIn_of_wpIn trivial (wpIn_mono h ?_)⟩;rintro e a w1 hp;cases e with
 |normal=>
  obtain⟨h1,h2⟩:=hp;refine⟨_,run_beginRound h1 f,wpIn_mono h2 ?_⟩;rintro e3 a3 w3 h3;cases e3 with
  |normal=>
   obtain⟨h3,g⟩:=h3;refine⟨_,_,run_endRound none h3,true,rfl,?_⟩;have C:({ r with state:=.ready,pending:=none}:Loop)=r:=by
    obtain⟨_,_,_,_,_,_,_,_⟩:=r;simp at f j;subst f; subst j;rfl
   have e5:({ ({ r with state:=.busy}:Loop) with state:=if (none:Option Code).isNone then .ready else .done,pending:=none}:Loop)=r:=by rw[<-C]; rfl
   rw[e5];exact g
  |ret=>obtain⟨h3,g⟩:=h3;exact⟨_,_,run_endRound (some .ret) h3,false,rfl,g⟩
  |exit id=>exact h3.elim
  |goto t=>exact h3.elim
  |panic c=>exact h3.elim
  |outgrown=>exact h3.elim
 |ret=>exact hp.elim
 |exit id=>exact hp.elim
 |goto t=>exact hp.elim
 |panic c=>exact hp.elim
 |outgrown=>exact hp.elim
theorem Xk {P:Program} {n:Nat} {g:Operand} {c:Array Tmp} {assign body:Code} {Q:Exit->Act->World->Prop} {a:Act} {w:World} {gf:Nat} {lb:Array Value} (f:a.eval g=.func (.func gf) #[] lb) (i:∀args w,(callFunc gf args).run P w=.ok (.enter gf args) w)
  (h:∀(r:Loop),r.state=.ready->r.pending=none->r.tmps=a.tmps->r.params=c->r.assign=assign->r.body=body -> 
   Calls P gf (#[.func (.yield (w.heap.size+1)) #[] #[]]++lb) ((w.alloc (.deferred (some []))).alloc (.loop r)) λe W=>(∃v,e=.returned v)/\((W.heap[w.heap.size+1]? = some (.loop r)/\Q .normal { a with defers:={ target:=.collected w.heap.size,args:=#[]}::a.defers} (W.putObj (w.heap.size+1) (.loop { r with state:=.exhausted})))∨
    (W.heap[w.heap.size+1]? = some (.loop { r with state:=.done,pending:=some .ret})/\Q .ret { a with defers:={ target:=.collected w.heap.size,args:=#[]}::a.defers} (W.putObj (w.heap.size+1) (.loop { r with state:=.exhausted,pending:=some .ret}))))):
  (Code.rangeFunc g c assign body).wpIn Fence.wide n P Q a w:=by
 refine wpIn_rangeFunc ?_;intro fn aa;obtain⟨r,b⟩:∃r:Loop,r={ state:=.ready,pending:=none,fn,tmps:=a.tmps,params:=c,assign,body,defers:=w.heap.size}:=⟨_,rfl⟩;refine⟨w.heap.size+1,[{ target:=.collected w.heap.size,args:=#[]}],(w.alloc (.deferred (some []))).alloc (.loop r),{ target:=.fn (.func gf) lb,args:=#[.func (.yield (w.heap.size+1)) #[] #[]]},(w.alloc (.deferred (some []))).alloc (.loop r),gf,#[.func (.yield (w.heap.size+1)) #[] #[]]++lb,(w.alloc (.deferred (some []))).alloc (.loop r),?_,?_,?_,?_,?_,?_⟩
 ·rw[b]; exact run_enterLoop_outer _ _ _ _ _
 ·simp only[resolve,f];simp[go_sem]
 ·intro f' ab; trivial
 ·simp[invoke,go_sem,i]
 ·intro h; simp[Fence.wide] at h
 ·refine(Fv.2 (h r (by rw[b]) (by rw[b]) (by rw[b]) (by rw[b]) (by rw[b]) (by rw[b]))).mono ?_;rintro e W ⟨⟨v,rfl⟩,hc⟩;rcases hc with ⟨d,hq⟩|⟨d,hq⟩
  ·have e1:=run_endLoop (P:=P) d (by rw[b]; simp);have e2:r.pending=none:=(by rw[b]);exact⟨none,_,e1.trans (by rw[e2]),hq⟩
  ·have e1:=run_endLoop (P:=P) d (by simp);exact⟨some .ret,_,e1,wpIn_ret hq⟩
abbrev Tk (α:Type):=List α->Bool->(Nat->Prop)->World->Prop
structure IB {α:Type} (J:Tk α) (K:Nat->Prop):Prop where
 inside:∀ {pre s f W},J pre s f W->∀b,f b∨K b->b<W.heap.size
 apart:∀ {pre s f W},J pre s f W->∀b,K b->¬f b
 abide:∀ {pre s f W W'},J pre s f W->W.heap.size<=W'.heap.size->(∀b,f b∨K b->W'.heap[b]? = W.heap[b]?)->J pre s f W'
theorem IB.exq {α:Type} {J:Tk α} {K:Nat->Prop} (h:IB J K) {pre:List α} {s:Bool} {f g:Nat->Prop} {W W':World} (a:J pre s f W) (he:Ak g W W') (c:∀b,f b∨K b->¬g b):J pre s f W':=
 h.abide a he.size λb hb=>he.block b (h.inside a b hb) (c b hb)
def Rz (S:World->Prop):Prop:=∀(W W':World),S W->W.heap.size<=W'.heap.size->(∀b,b<W.heap.size->W'.heap[b]? = W.heap[b]? ∨ (∃r,W.heap[b]? = some (.loop r))∨∃d,W.heap[b]? = some (.deferred d))->S W'
theorem Rz.put {S:World->Prop} (h:Rz S) {W:World} (a:S W) {l:Nat} {r:Loop} (c:W.heap[l]? = some (.loop r)) (o:Obj):S (W.putObj l o):=
 h _ _ a (by simp) λb hb=>by
  by_cases e:b=l
  ·subst e; exact Ae (Ad ⟨r,c⟩)
  ·exact Ad (World.putObj_heap_other e)
def Ej {α:Type} (J:Tk α) (all pre:List α) (f g:Nat->Prop) (W:World) (s:Bool) (W':World):Prop:=
 ∃(m:Nat) (f':Nat->Prop),m<=all.length/\(s=true->m=all.length)/\J (pre++all.take m) s f' W'/\Ak (λb=>f b∨g b) W W'/\∀b,f' b->f b∨W.heap.size<=b
theorem Ej.nil {α:Type} {J:Tk α} {pre:List α} {f g:Nat->Prop} {W:World} (h:J pre true f W):Ej J [] pre f g W true W:=
 ⟨0,f,Ag _,λ_=>rfl,by simpa using h,Ak.refl _ _,λb hb=>Ad hb⟩
theorem Ej.one {α:Type} {J:Tk α} {pre:List α} {x:α} {f f' g:Nat->Prop} {W W':World} {s:Bool} (h:J (pre++[x]) s f' W') (he:Ak f W W') (a:∀b,f' b->f b∨W.heap.size<=b):Ej J [x] pre f g W s W':=
 ⟨1,f',by simp,λ_=>rfl,by simpa using h,he.mono λb hb _=>Ad hb,a⟩
theorem Ej.trans {α:Type} {J:Tk α} {a a2 pre:List α} {f f1 g g2:Nat->Prop} {W c d:World} {s:Bool} (hj:J (pre++a) true f1 c) (he:Ak (λb=>f b∨g b) W c) (e:∀b,f1 b->f b∨W.heap.size<=b) (h:Ej J a2 (pre++a) f1 g2 c s d) (j:∀b,g2 b->g b∨W.heap.size<=b):Ej J (a++a2) pre f g W s d:=by
 obtain⟨m,f',hm,k,l,n,o⟩:=h;refine⟨a.length+m,f',by simp; omega,λh=>by simp[k h],?_,he.transN n ?_,?_⟩
 ·rw[List.take_append,Bv (by omega)];simpa [IX] using l
 ·rintro i hi hl;rcases hi with hi|hi
  ·rcases e i hi with h|h
   ·exact Ad h
   ·omega
  ·rcases j i hi with h|h
   ·exact Ae h
   ·omega
 ·intro b hb;have:=he.size;rcases o b hb with h|h
  ·exact e b h
  ·right; omega
theorem Ej.stop {α:Type} {J:Tk α} {a a2 pre:List α} {f g:Nat->Prop} {W W':World} (h:Ej J a pre f g W false W'):Ej J (a++a2) pre f g W false W':=by
 obtain⟨m,f',hm,hs,b,he,c⟩:=h;exact⟨m,f',by simp; omega,by simp,by rw[JN hm]; exact b,he,c⟩
theorem Ej.mono {α:Type} {J:Tk α} {a pre:List α} {f g c:Nat->Prop} {W W':World} {s:Bool} (h:Ej J a pre f g W s W') (d:∀b,g b->b<W.heap.size->c b):Ej J a pre f c W s W':=by
 obtain⟨m,f',hm,e,i,he,j⟩:=h;exact⟨m,f',hm,e,i,he.mono λb hb k=>hb.imp id (λh=>d b h k),j⟩
theorem Ej.exq {α:Type} {J:Tk α} {a pre:List α} {f g:Nat->Prop} {W W':World} {s:Bool} (h:Ej J a pre f g W s W'):Ak (λb=>f b∨g b) W W':=by
 obtain⟨_,_,_,_,_,he,_⟩:=h;exact he
theorem Ej.from {α:Type} {J:Tk α} {a pre:List α} {f g c:Nat->Prop} {d W W':World} {s:Bool} (h:Ej J a pre f g W s W') (he:Ak c d W) (e:∀b,g b->c b∨d.heap.size<=b):Ej J a pre f c d s W':=by
 obtain⟨m,f',hm,j,k,l,n⟩:=h;refine⟨m,f',hm,j,k,(he.mono (R:=λb=>f b∨c b) λb hb _=>Ae hb).transN l ?_,λb hb=>?_⟩
 ·rintro i hi hl;rcases hi with hi|hi
  ·exact Ad hi
  ·rcases e i hi with h|h
   ·exact Ae h
   ·omega
 ·have:=he.size;rcases n b hb with h|h
  ·exact Ad h
  ·right; omega
def Xl:Go.Shelf.Ren:=⟨fun|41=>113|n=>n,fun|22=>22|23=>24|4=>4|n=>n,fun|n=>n⟩
theorem Xm:Go.Proofs.SlLaysE0.n41 prog Xl:={
 mixed:=by kernel_rfl
 f41:=⟨Tryz.f113.name,by decide,func113.trans (Dl some (by kernel_rfl))⟩
 t4:=underlying4
 a4:=isAgg4
 z4:=sizeOf4
 v4:=zeroValue4
 t22:=underlying22
 a22:=isAgg22
 z22:=sizeOf22
 v22:=zeroValue22}
theorem Xn (b off n c:Nat) (news:List Value) (w:World) (d:news.length=n*3) (hn:n<=1000000) (hc:∀j u,news[j]? = some u->w.cell? ⟨b,off+j,none⟩=some u) (h1:∀u∈news,u.oneCell'=true):
  Calls prog 113 #[.slice (some (zD b off)) n c] w λe w'=>∃a,e=.returned a/\w'.ownsRow w.heap.size 24 3 a n news/\a≠zB/\Below w.heap.size w w':=by
 obtain⟨i0,hi,f,g,h⟩:=Dq Tryz.infoLam;exact AnyE.slices_Clone Xm i0 _ 3 40 hi f g h rfl (by decide) sizeOf24 b off n c news w d (by unfold maxLen; omega) (by omega) hc h1
theorem Xo {w:World} {X:Nat->Prop}:∀(l:List Lm) (b o:Nat),Dc w X b o l->∃xs,CT w X l xs/\∀j u,xs[j]? = some u->w.cell? ⟨b,o+j,none⟩=some u:=by
 intro l;induction l with
 |nil=>intro b o _; exact⟨[],rfl,by simp⟩
 |cons t r e=>
  intro b o h;obtain⟨s,x,k⟩:=t;simp only[Dc] at h;obtain⟨hx,h1,f,⟨a,c,h2,h3,g⟩,h5⟩:=h;obtain⟨xs,i,hc⟩:=e b (o+3) h5;refine⟨zA s::zA x::.slice a k.length c::xs,⟨a,c,xs,rfl,⟨h3,g⟩,i⟩,λj u d=>?_⟩;match j,d with
  |0,d=>simp at d; subst d; exact h1
  |1,d=>simp at d; subst d; exact f
  |2,d=>simp at d; subst d; exact h2
  |j+3,d=>rw[show o+(j+3)=o+3+j by omega]; exact hc j u (by simpa using d)
theorem CT.one {w:World} {X:Nat->Prop}:∀ {l:List Lm} {xs:List Value},CT w X l xs->∀u∈xs,u.oneCell'=true
 | [],xs,h,u,hu=>by simp[CT] at h; subst h; cases hu
 |t::l,xs,h,u,hu=>by
  obtain⟨a,c,r,rfl,_,h⟩:=h;rcases Cn.1 hu with e|hu
  ·subst e; rfl
  ·rcases Cn.1 hu with e|hu
   ·subst e; rfl
   ·rcases Cn.1 hu with e|hu
    ·subst e; rfl
    ·exact CT.one h u hu
theorem CT.put {w:World} {X:Nat->Prop} {y:Lm} {a:Option Addr} {c:Nat} (hy:Ap w X a y.subs):∀ {l:List Lm} {xs:List Value} (k:Nat),CT w X l xs->k<l.length->CT w X (l.set k y) (((xs.set (k*3) (zA y.kind)).set (k*3+1) (zA y.idx)).set (k*3+2) (.slice a y.subs.length c))
 | [],xs,k,h,hk=>by simp at hk
 |t::l,xs,0,h,_=>by
  obtain⟨b,c',r,rfl,h1,h2⟩:=h;exact⟨a,c,r,by simp,hy,h2⟩
 |t::l,xs,k+1,h,hk=>by
  obtain⟨b,c',r,rfl,h1,h2⟩:=h;refine⟨b,c',((r.set (k*3) (zA y.kind)).set (k*3+1) (zA y.idx)).set (k*3+2) (.slice a y.subs.length c),?_,h1,CT.put hy k h2 (by simpa using hk)⟩;have e:(k+1)*3=k*3+1+1+1:=by omega
  have e2:(k+1)*3+1=k*3+1+1+1+1:=by omega
  have e3:(k+1)*3+2=k*3+2+1+1+1:=by omega
  rw[e3,e2,e];simp
theorem NL {w:World} {b i O:Nat} {v u u' c:Value} (h:w.cell? (zD b i)=some v) (a:b≠O):(((w.setCell (zD O 0) u).setCell (zD O 1) u').setCell (zD O 2) c).cell? (zD b i)=some v:=by
 refine Ki ?_ h;rw[Al _ _ _ _ (by simpa using a),Al _ _ _ _ (by simpa using a),Al _ _ _ _ (by simpa using a)]
theorem RB {w:World} {N M e z n:Nat} {v:Value} {xs:List Value} (h:w.ownsRow N e z v n xs) (a:M<=N):w.ownsRow M e z v n xs:=
 ⟨h.1,h.2.imp id λ⟨g,cap,cur,h1,h2,h3⟩=>⟨g,cap,cur,h1,AN a h2,h3⟩⟩
theorem Xp {w:World} {N e z n G cap O:Nat} {u u' b:Value} {xs:List Value} (h:w.ownsRow N e z (.slice (some (zD G 0)) n cap) n xs) (hO:O≠G):(((w.setCell (zD O 0) u).setCell (zD O 1) u').setCell (zD O 2) b).ownsRow N e z (.slice (some (zD G 0)) n cap) n xs:=by
 obtain⟨c,h1⟩:=h;refine⟨c,?_⟩;rcases h1 with h1|⟨g,d,cur,a,f,i,j⟩
 ·exact Ad h1
 ·refine Ae ⟨g,d,cur,a,f,?_,j⟩;have e:g=G:=by simp at a; exact a.1.symm
  rw[Al _ _ _ _ (by simp; omega),Al _ _ _ _ (by simp; omega),Al _ _ _ _ (by simp; omega)];exact i
def NM (W:World) (N:Nat) (k x:Int) (n:Nat) (xs:List Value) (o8:Value) (wc:World):Prop:=
 ∃G O cap:Nat,o8=zC O/\N<=G/\N<=O/\G≠O/\Ab wc O #[zA k,zA x,.slice (some (zD G 0)) n cap] 24/\wc.ownsRow N 24 3 (.slice (some (zD G 0)) n cap) n xs/\Below N W wc
theorem Xq {W w1:World} {N n G cap:Nat} {k x:Int} {xs:List Value} (hN:W.heap.size=N) (a:w1.ownsRow N 24 3 (.slice (some (zD G 0)) n cap) n xs) (hb:Below N W w1):
  NM W N k x n xs (zC w1.heap.size) (w1.alloc (.cells #[zA k,zA x,.slice (some (zD G 0)) n cap] 24)):=by
 have b:=a.lt G rfl;have hs:=hb.size;exact⟨G,w1.heap.size,cap,rfl,b.1,by omega,by omega,Ab.new _ _ _,a.alloc _,hb.alloc (by omega) _⟩
theorem Xr {W w1:World} {N n G cap O:Nat} {k x:Int} {xs:List Value} (a:N<=O) (c:Ab w1 O zJ 24) (ab:O<G) (b:w1.ownsRow N 24 3 (.slice (some (zD G 0)) n cap) n xs) (hb:Below N W w1):
  NM W N k x n xs (zC O) (((w1.setCell (zD O 0) (zA k)).setCell (zD O 1) (zA x)).setCell (zD O 2) (.slice (some (zD G 0)) n cap)):=by
 have d:=b.lt G rfl;refine⟨G,O,cap,rfl,d.1,a,by omega,?_,Xp b (by omega),((hb.setCell (by simpa using a) _).setCell (by simpa using a) _).setCell (by simpa using a) _⟩;have:=((c.set 0 (zA k)).set 1 (zA x)).set 2 (.slice (some (zD G 0)) n cap);simpa using this
theorem Xs {wc:World} {X:Nat->Prop} {l:List Lm} {k G T:Nat} {xs:List Value} {cur:Array Value} {a9:Option Addr} {c9:Nat} {y:Lm} (g:∀b,X b->b≠G) (hk:k<l.length) (i:l.length<=9223372036854775807) (m:CT wc X l xs) (n:cur.toList.take (l.length*3)=xs) (o:Ab wc G cur T) (ht:Ap wc X a9 y.subs):
  Ap (((wc.setCell ⟨G,k*3,none⟩ (zA y.kind)).setCell ⟨G,k*3+1,none⟩ (zA y.idx)).setCell ⟨G,k*3+2,none⟩ (.slice a9 y.subs.length c9)) (λb=>X b∨b=G) (some (zD G 0)) (l.set k y):=by
 have keep:∀b,b≠G->(((wc.setCell ⟨G,k*3,none⟩ (zA y.kind)).setCell ⟨G,k*3+1,none⟩ (zA y.idx)).setCell ⟨G,k*3+2,none⟩ (.slice a9 y.subs.length c9)).heap[b]? = wc.heap[b]? := λb h1=>by
  rw[Al _ _ _ _ (by simpa using h1),Al _ _ _ _ (by simpa using h1),Al _ _ _ _ (by simpa using h1)]
 generalize q:(((wc.setCell ⟨G,k*3,none⟩ (zA y.kind)).setCell ⟨G,k*3+1,none⟩ (zA y.idx)).setCell ⟨G,k*3+2,none⟩ (.slice a9 y.subs.length c9))=f at *;have h1:CT f (λb=>X b∨b=G) l xs:=m.imp λa kk r=>(r.kept λb d=>keep b (g b d)).mono λb d _=>Ad d;have h2:Ap f (λb=>X b∨b=G) a9 y.subs:=(ht.kept λb d=>keep b (g b d)).mono λb d _=>Ad d;have h3:=CT.put (c:=c9) h2 k h1 hk;have s:Ab f G (((cur.setIfInBounds (k*3) (zA y.kind)).setIfInBounds (k*3+1) (zA y.idx)).setIfInBounds (k*3+2) (.slice a9 y.subs.length c9)) T:=by
  rw[<-q];exact((o.set (k*3) (zA y.kind)).set (k*3+1) (zA y.idx)).set (k*3+2) (.slice a9 y.subs.length c9)
 refine⟨by simpa using i,Ae ⟨G,0,rfl,QL G (Ae rfl) _ _ 0 h3 (λ_ _ h=>h) λj u e=>?_⟩⟩;rw[Hq];refine(s.cell j).trans ?_;rw[<-n,<-List.take_set,<-List.take_set,<-List.take_set,List.getElem?_take]at e;split at e
 ·rw[<-Array.getElem?_toList];simpa using e
 ·cases e
def Xt (y v:Value) (ok:Bool) (W:World) (Post:Ending->World->Prop):Prop:=
 (∃T I Y:Nat,y=.func (.func 112) #[] #[zC T,zC I,zC Y]/\Calls prog 112 #[v,.bool ok,zC T,zC I,zC Y] W Post)∨
 (∃lp:Nat,y=.func (.yield lp) #[] #[]/\∀n,YieldAt Fence.wide n prog lp #[v,.bool ok] W Post)
def RC (y:Value) (P:Nat->Prop) (J:World->Prop) (S:Lm->Bool->World->Prop):Prop:=
 ∀(W:World) (v:Value) (x:Lm) (ok:Bool) (Z:Nat->Prop),J W->MV W Z v x->(∀b,Z b->b<W.heap.size/\P b)->Xt y v ok W λe W'=>e=.returned (.bool false)/\S x ok W'
def G1 (y:Value) (P:Nat->Prop) (J:World->Prop) (S:Lm->Bool->World->Prop):Prop:=
 (∃T I Y:Nat,y=.func (.func 112) #[] #[zC T,zC I,zC Y]/\
  ∀(W:World) (v:Value) (x:Lm) (ok:Bool) (Z:Nat->Prop),J W->MV W Z v x->(∀b,Z b->b<W.heap.size/\P b)->Calls prog 112 #[v,.bool ok,zC T,zC I,zC Y] W λe W'=>e=.returned (.bool false)/\S x ok W')∨
 (∃lp:Nat,y=.func (.yield lp) #[] #[]/\
  ∀(W:World) (v:Value) (x:Lm) (ok:Bool) (Z:Nat->Prop),J W->MV W Z v x->(∀b,Z b->b<W.heap.size/\P b)->∀n,YieldAt Fence.wide n prog lp #[v,.bool ok] W λe W'=>e=.returned (.bool false)/\S x ok W')
theorem G1.at {y:Value} {P:Nat->Prop} {J:World->Prop} {S:Lm->Bool->World->Prop} (h:G1 y P J S):RC y P J S:=by
 intro W v x ok Z h1 h2 h3;rcases h with ⟨T,I,Y,e,h⟩|⟨lp,e,h⟩
 ·exact Ad ⟨T,I,Y,e,h W v x ok Z h1 h2 h3⟩
 ·exact Ae ⟨lp,e,h W v x ok Z h1 h2 h3⟩
def G7 (J:World->Prop):Prop:=∀W W':World,J W->Below W.heap.size W W'->J W'
structure H9 (t:Lm) (a:Option Addr) (c T I Y k:Nat) (y:Value) (X:Nat->Prop) (W:World):Prop where
 bt:Ab W T (zE t a c) 24
 bi:Ab W I #[zA k] 3
 by':Ab W Y #[y] 118
 sl:Ap W X a t.subs
theorem H9.later {t:Lm} {a:Option Addr} {c T I Y k:Nat} {y:Value} {X:Nat->Prop} {W W':World} (h:H9 t a c T I Y k y X W) (hb:Below W.heap.size W W'):H9 t a c T I Y k y X W':=
 ⟨h.bt.below hb h.bt.lt,h.bi.below hb h.bi.lt,h.by'.below hb h.by'.lt,h.sl.later hb⟩
abbrev DI:=Lm×Bool×Lm
def NN (k x:Int) (l:List Lm) (i:Nat) (p:DI):DI:=(⟨k,x,l.set i p.1⟩,p.2.1,⟨k,x,l.set i p.2.2⟩)
def Mg (J:Tk DI) (pre:List DI) (p:DI) (f:Nat->Prop) (W:World) (e:Ending) (W':World):Prop:=
 ∃s,e=.returned (.bool s)/\∃f',J (pre++[p]) s f' W'/\Ak f W W'/\∀b,f' b->f b∨W.heap.size<=b
def RD (y:Value) (J:Tk DI) (all:List DI) (N:Nat):Prop:=
 (∃T I Y:Nat,y=.func (.func 112) #[] #[zC T,zC I,zC Y]/\
  ∀(pre:List DI) (p:DI) (v:Value) (Z f:Nat->Prop) (W:World),p∈all->pre.length<N->J pre true f W->MV W Z v p.1->(∀b,Z b->b<W.heap.size/\¬f b)->Calls prog 112 #[v,.bool p.2.1,zC T,zC I,zC Y] W (Mg J pre p f W))∨
 (∃lp:Nat,y=.func (.yield lp) #[] #[]/\
  ∀(pre:List DI) (p:DI) (v:Value) (Z f:Nat->Prop) (W:World),p∈all->pre.length<N->J pre true f W->MV W Z v p.1->(∀b,Z b->b<W.heap.size/\¬f b)->∀n,YieldAt Fence.wide n prog lp #[v,.bool p.2.1] W (Mg J pre p f W))
theorem RD.form {y:Value} {J:Tk DI} {all:List DI} {N:Nat} (h:RD y J all N):∃fn p q,y=.func fn p q:=by
 rcases h with ⟨_,_,_,h,_⟩|⟨_,h,_⟩
 ·exact⟨_,_,_,h⟩
 ·exact⟨_,_,_,h⟩
theorem IB.later {α:Type} {J:Tk α} {K:Nat->Prop} (h:IB J K) {pre:List α} {s:Bool} {f:Nat->Prop} {W W':World} (a:J pre s f W) (hb:Below W.heap.size W W'):J pre s f W':=
 h.abide a hb.size λb c=>hb.block b (h.inside a b c)
theorem Ap.exq {w w':World} {Q X:Nat->Prop} {a:Option Addr} {l:List Lm} (h:Ap w X a l) (he:Ak Q w w') (c:∀b,X b->¬Q b):Ap w' X a l:=
 ((h.mono (Y:=λb=>X b/\b<w.heap.size) λb h1 h2=>⟨h1,h2⟩).kept λb hb=>he.block b hb.2 (c b hb.1)).mono λb hb _=>hb.1
def JC (J:Tk DI) (pre0:List DI) (k xi:Int) (l:List Lm) (a:Option Addr) (c T I Y q:Nat) (y:Value) (X:Nat->Prop):Tk DI:=λpre s f W=>
 J (pre0++pre.map (NN k xi l q)) s f W/\H9 ⟨k,xi,l⟩ a c T I Y q y X W/\¬f T/\¬f I/\¬f Y
def KC (K:Nat->Prop) (T I Y:Nat) (b:Nat):Prop:=K b∨b=T∨b=I∨b=Y
theorem JC.ok {J:Tk DI} {K:Nat->Prop} (d:IB J K) {h:List DI} {k i:Int} {l:List Lm} {a:Option Addr} {c T I Y q:Nat} {y:Value} {X:Nat->Prop} (j:∀b,X b->K b):IB (JC J h k i l a c T I Y q y X) (KC K T I Y) where
 inside:=by
  rintro pre s f W ⟨h1,h2,_⟩ b hb;rcases hb with hb|hb|rfl|rfl|rfl
  ·exact d.inside h1 b (Ad hb)
  ·exact d.inside h1 b (Ae hb)
  ·exact h2.bt.lt
  ·exact h2.bi.lt
  ·exact h2.by'.lt
 apart:=by
  rintro pre s f W ⟨h1,h2,hT,e,g⟩ b hb;rcases hb with hb|rfl|rfl|rfl
  ·exact d.apart h1 b hb
  ·exact hT
  ·exact e
  ·exact g
 abide:=by
  rintro pre s f W W' ⟨h1,h2,hT,e,g⟩ m hk;refine⟨d.abide h1 m λb hb=>hk b (hb.imp id Ad),⟨?_,?_,?_,?_⟩,hT,e,g⟩
  ·exact(hk T (Ae (Ae (Ad rfl)))).trans h2.bt
  ·exact(hk I (Ae (Ae (Ae (Ad rfl))))).trans h2.bi
  ·exact(hk Y (Ae (Ae (Ae (Ae rfl))))).trans h2.by'
  ·exact h2.sl.kept λb hb=>hk b (Ae (Ad (j b hb)))
theorem JC.post {J:Tk DI} {K:Nat->Prop} (t:IB J K) {m pre:List DI} {p:DI} {k g:Int} {l:List Lm} {a:Option Addr} {c T I Y q:Nat} {y:Value} {X f:Nat->Prop} (u:∀b,X b->K b) {W n W':World} {e:Ending} (h0:JC J m k g l a c T I Y q y X pre true f W) (hb:Below W.heap.size W n) (h:Mg J (m++pre.map (NN k g l q)) (NN k g l q p) f n e W'):Mg (JC J m k g l a c T I Y q y X) pre p f W e W':=by
 obtain⟨s,rfl,f',v,he,i⟩:=h;obtain⟨h1,h2,hT,o,r⟩:=h0;have hz:=hb.size;have j:=h2.later hb;have lT:=h2.bt.lt;have lI:=h2.bi.lt;have lY:=h2.by'.lt;refine⟨s,rfl,f',⟨by rw[CY,<-IX]; exact v,⟨j.bt.exq he hT,j.bi.exq he o,j.by'.exq he r,j.sl.exq he λb d=>t.apart h1 b (u b d)⟩,λh=>?_,λh=>?_,λh=>?_⟩,(Ak.ofBelow hb).transN he λb d _=>d,λb d=>(i b d).imp id λh=>by omega⟩
 ·rcases i _ h with h|h
  ·exact hT h
  ·omega
 ·rcases i _ h with h|h
  ·exact o h
  ·omega
 ·rcases i _ h with h|h
  ·exact r h
  ·omega
def CZ:List Lm->Prop
 | []=>True
 | ⟨k,_,l⟩::r=>(k=1->l=[])/\CZ l/\CZ r
theorem RE:CZ []:=by simp[CZ]
theorem ID (k x:Int) (l r:List Lm):CZ (⟨k,x,l⟩::r)↔(k=1->l=[])/\CZ l/\CZ r:=by simp[CZ]
theorem CZ.at:∀ {l:List Lm} (k:Nat) (h:k<l.length),CZ l->CZ [l[k]]
 | [],k,h,_=>by simp at h
 | ⟨s,x,l⟩::r,0,h,hb=>by
  rw[ID]at hb;exact(ID s x l []).2 ⟨hb.1,hb.2.1,RE⟩
 | ⟨s,x,l⟩::r,k+1,h,hb=>by
  rw[ID]at hb;have:=CZ.at (l:=r) k (by simpa using h) hb.2.2;simpa using this
theorem Mh:∀(l:List Lm) (u m:Int),Au u m l=0->CZ l:=by
 intro l;induction l using Lm.indL with
 |h0=>intros; exact RE
 |h k x l r a b=>
  intro u m he;rw[Au]at he;split at he
  ·rename_i h1;split at he
   ·rename_i h2;refine(ID k x l r).2 ⟨λhk=>?_,a (AO u k) m h2,b u m he⟩;subst hk;unfold AD at h1;split at h1
    ·cases h1
    ·split at h1
     ·cases h1
     ·rename_i h3;exact GJ.1 (by simpa [Bw] using h3)
   ·rename_i h2; exact absurd he h2
  ·rename_i h1; exact absurd he h1
def Fp (w:World) (F:Nat) (t:Lm) (n:Nat) (e:Ending) (w':World):Prop:=
 ∃(k' x':Int) (a':Option Addr) (l' c':Nat) (m:Int),e=.returned (.agg #[zA k',zA x',.slice a' l' c'])/\Ab w' F #[zA m] 152/\Ex F w w'/\(Ai [t]<=n->m=(n:Int)-Ai [t]/\k'=t.kind/\x'=t.idx/\l'=t.subs.length/\Ap w' (λb=>w.heap.size<=b) a' t.subs)/\(n<Ai [t]->m=-1)
theorem Ap.ex {w w':World} {F:Nat} {X:Nat->Prop} {a:Option Addr} {l:List Lm} (h:Ap w X a l) (he:Ex F w w') (c:∀b,X b->b≠F):Ap w' X a l:=
 ((h.mono (Y:=λb=>X b/\b<w.heap.size) λb h1 h2=>⟨h1,h2⟩).kept λb hb=>he.block b hb.2 (c b hb.1)).mono λb hb _=>hb.1
theorem Cc.ex {w w':World} {B N T:Nat} {Y:Nat->Prop} {v:Value} {l:List Lm} {xs:List Value} (h:Cc w N T Y v l xs) (he:Ex B w w') (hB:B<N) (c:¬Y B):Cc w' N T Y v l xs:=
 ⟨h.own.kept (w' := w') (row := some B) ⟨he.os, he.tape, he.output, he.size, λj d f => he.block j d (λe => f (by rw [e]))⟩ (Ae (λe => by have := (h.own.lt B e).1; omega)),
  h.row.imp λa l g=>((g.mono (Y:=λb=>(Y b∨(N<=b/\some b≠v.ownBlock))/\b<w.heap.size) λb h1 h2=>⟨h1,h2⟩).kept λb hb=>he.block b hb.2 (λe=>by
   rcases hb.1 with h1|h1
   ·rw[e]at h1; exact c h1
   ·omega)).mono λb hb _=>hb.1⟩
theorem Jl {w W a:World} {F R:Nat} {t:Lm} {n:Nat} {c x':Int} {d:Option Addr} {l' c':Nat} {m:Int} {v0 v1 v2:Value} (hF:F<w.heap.size) (hR:w.heap.size<=R) (hW:R<W.heap.size) (h1:Ab a F #[zA m] 152) (hx:Ex F w a) (hy:Ai [t]<=n->m=(n:Int)-Ai [t]/\c=t.kind/\x'=t.idx/\l'=t.subs.length/\Ap a (λb=>W.heap.size<=b) d t.subs) (e:n<Ai [t]->m=-1):
  Fp w F t n (.returned (.agg #[zA c,zA x',.slice d l' c'])) (((a.setCell (zD R 0) v0).setCell (zD R 1) v1).setCell (zD R 2) v2):=by
 refine⟨c,x',d,l',c',m,rfl,((h1.setOther _ _ (by omega)).setOther _ _ (by omega)).setOther _ _ (by omega),((hx.setNew (by omega) _ _).setNew (by omega) _ _).setNew (by omega) _ _,λh=>?_,e⟩;obtain⟨e1,e2,e3,f,e5⟩:=hy h;refine⟨e1,e2,e3,f,(e5.kept λb hb=>?_).mono λb hb _=>by omega⟩;rw[Al _ _ _ _ (by simp; omega),Al _ _ _ _ (by simp; omega),Al _ _ _ _ (by simp; omega)]
theorem RG (F:Nat) (x:Int) (n:Nat) (w:World) (hn:n<=9223372036854775807) (hF:Ab w F #[zA n] 152):
  Calls prog 128 #[zC F,zA x] w λe w'=>Fp w F ⟨1,x,[]⟩ n e w':=by
 have aa:=hF.lt;have f0:∀o,(w.alloc o).cell? (zD F 0)=some (zA n):=λo=>(hF.alloc o).cell 0;have ff:∀o,(w.alloc o).frozen? (zD F 0)=false:=λo=>(hF.alloc o).frozen 0;have ab:=hF.c0;have ad:w.frozen? (zD F 0)=false:=hF.frozen 0;have ae:IntKind.i64.wrap ((n:Int)-1)=(n:Int)-1:=by rw[Dm]; omega
 have a:=Aa hF;clear hF;go_enter func128,ntmps128;go_wp2_with fail;refine Ao (v:=.agg #[zA 1,zA x,zB]) (by simp[results,results128,go_sem,AK,AB]) rfl ?_;have e1:Ai [(⟨1,x,[]⟩:Lm)]=1:=by simp[Ai]
 exact⟨1,x,none,0,0,(n:Int)-1,rfl,(a.o.set 0 _).alloc _,((Ex.refl F w).set 0 _).alloc _,λh=>⟨by rw[e1]; omega,rfl,rfl,rfl,by simp,Ad rfl⟩,λh=>by omega⟩
def GC (w:World) (F O:Nat) (kd ix:Int) (u:Value) (cF:Array Value) (wr:World):Prop:=
 Ex F w wr/\Ab wr (w.heap.size+1) zJ 24/\Ab wr O #[zA kd,zA ix,u] 24/\Ab wr F cF 152/\O<wr.heap.size
theorem FJ {w wr w1 w3:World} {F O:Nat} {g i:Int} {u v:Value} {l j:Array Value} {a:Obj} (af:F<w.heap.size) (hO:w.heap.size+2<=O) (h:GC w F O g i u l wr) (hu:∀k,u.ownBlock=some k->O+1<=k)
  (d:Ex F wr w1) (m:Ab w1 F j 152) (c:(w1.alloc a).grownBy w3 u.ownBlock):GC w F O g i v j (w3.setCell (zD O 2) v):=by
 obtain⟨h1,h2,h3,h4,h5⟩:=h;have f:∀b,b<O+1->some b≠u.ownBlock:=λb hb e=>by have:=hu b e.symm; omega
 have ag:=d.size;have n:=c.size;simp at n;refine⟨(((h1.trans d).alloc a).grown c (λk hk=>by have:=hu k hk; omega)).setNew (by omega) _ _,?_,?_,?_,by simp[World.setCell]; omega⟩
 ·exact(((h2.ex d (by omega)).alloc a).grown c (f _ (by omega))).setOther _ _ (by omega)
 ·exact(((h3.ex d (by omega)).alloc a).grown c (f _ (by omega))).set 2 _
 ·exact((m.alloc a).grown c (f _ (by omega))).setOther _ _ (by omega)
theorem Jm {wr w1 w3:World} {F O:Nat} {u:Value} {L:List Lm} {xs:List Value} {a:Obj} {c d:Int} {e:Option Addr} {f c1 g cap:Nat} {t:Lm} (ai:F<O) (hOr:O<wr.heap.size) (i:Cc wr (O+1) 24 (λ_=>False) u L xs)
  (j:Ex F wr w1) (ht:MV w1 (λb=>wr.heap.size<=b) (.agg #[zA c,zA d,.slice e f c1]) t)
  (k:w3.ownsRow (O+1) 24 3 (.slice (some (zD g 0)) (L.length+1) cap) (L.length+1) (xs++[zA c,zA d,.slice e f c1])) (l:(w1.alloc a).grownBy w3 u.ownBlock) (m:u.ownBlock=some g∨g=(w1.alloc a).heap.size):
  Cc (w3.setCell (zD O 2) (.slice (some (zD g 0)) (L.length+1) cap)) (O+1) 24 (λ_=>False) (.slice (some (zD g 0)) (L.length+1) cap) (L++[t]) (xs++[zA c,zA d,.slice e f c1]):=by
 obtain⟨wm,n,aj,o⟩:=j.mid;have q:=i.ex o (by omega) (λh=>h);exact(q.push (w1:=w1) (w2:=w1.alloc a) (w3:=w3) (by omega) (λ_ h=>h.elim) n (ht.mono λb h _=>Ae (by omega)) a rfl k l m).setCell (by omega) (λh=>h) _
def Jn (w:World) (F O:Nat) (kd ix:Int) (L:List Lm) (n:Nat) (i:Value) (wr:World):Prop:=
 ∃(k:Nat) (u:Value),k<=L.length/\i=zA k/\
  ((∃(m:Nat) (xs:List Value),(m:Int)=(n:Int)-1-Ai (L.take k)/\GC w F O kd ix u #[zA m] wr/\Cc wr (O+1) 24 (λ_=>False) u (L.take k) xs)∨
   (n<1+Ai L/\GC w F O kd ix u #[zA (-1)] wr/\∃a9 l9 c9,u=.slice a9 l9 c9))

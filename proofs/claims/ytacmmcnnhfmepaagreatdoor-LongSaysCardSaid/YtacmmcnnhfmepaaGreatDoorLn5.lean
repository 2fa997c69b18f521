import Derived.Test.YtacmmcnnhfmepaaGreatDoorLn4
namespace Go.Proofs.YtacmmcnnhfmepaaGreatDoor
open Go.Proofs.Tryz
set_option linter.all false
set_option maxRecDepth 20000
set_option maxHeartbeats 8000000
open Go.RowKit Go.Shelf
def jM (n:Nat) (t:Lm) (S:Lm->Bool->World->Prop) (w:World) (e:Ending) (w':World):Prop:=
 (AG [t]=false/\e=.returned (.bool true)/\Below w.heap.size w w')∨(AG [t]=true/\e=.returned (.bool false)/\∃x ok,Gi false n t x ok/\S x ok w')
def jN (n:Nat) (k xi:Int) (l:List Lm) (S:Lm->Bool->World->Prop) (w:World) (e:Ending) (w':World):Prop:=
 (AG l=false/\e=.returned (.bool true)/\Below w.heap.size w w')∨(AG l=true/\e=.returned (.bool false)/\∃i,∃h:i<l.length,AG (l.take i)=false/\AG [l[i]]=true/\∃q ok,Gi false n l[i] q ok/\S ⟨k,xi,l.set i q⟩ ok w')
def Kw (n:Nat) (s:Lm):Prop:=∀(y:Value) (P:Nat->Prop) (hi:Nat) (J:World->Prop) (S:Lm->Bool->World->Prop),(∀b,hi<=b->P b)->G1 y P J S->G7 J->∀(v:Value) (w:World) (X:Nat->Prop),MV w X v s->(∀b,X b->b<w.heap.size/\P b)->hi<=w.heap.size->J w->
  Calls prog 78 #[v,y] w λe w'=>jM n s S w e w'
theorem jO {y:Value} {P:Nat->Prop} {hi:Nat} {J:World->Prop} {S:Lm->Bool->World->Prop} (hP:∀b,hi<=b->P b) (hT:G1 y P J S) (f:G7 J) (k d:Int) (l:List Lm) (i:Nat) (g:i<l.length) (hlen:l.length<=1000000) (a:Option Addr) (c T I Y N:Nat) (X:Nat->Prop) (h:hi<=T) (ad:N<=T) (e:∀b,X b->b<N/\P b):
  G1 (.func (.func 112) #[] #[zC T,zC I,zC Y]) P (λW=>J W/\H9 ⟨k,d,l⟩ a c T I Y i y X W) (λx ok W=>S ⟨k,d,l.set i x⟩ ok W):=
 Ad ⟨T,I,Y,rfl,λW v x ok Z h1 h2 h3=>XL hP hT.at f k d l i g hlen a c T I Y X h W h1.1 h1.2 (λb hb=>⟨by have:=(e b hb).1; have:=h1.2.bt.lt; omega,(e b hb).2⟩) v x ok Z h2 h3⟩
theorem jP {y:Value} {J:World->Prop} (b:G7 J) {k d:Int} {l:List Lm} {a:Option Addr} {c T I Y i:Nat} {X:Nat->Prop}:G7 (λW=>J W/\H9 ⟨k,d,l⟩ a c T I Y i y X W):=
 λW W' h hb=>⟨b W W' h.1 hb,h.2.later hb⟩
theorem jQ {y:Value} {P:Nat->Prop} {hi:Nat} {J:World->Prop} {S:Lm->Bool->World->Prop} (hP:∀b,hi<=b->P b) (hT:G1 y P J S) (H:G7 J) (n:Nat) (k f:Int) (l:List Lm) (hlen:l.length<=1000000) (I:∀s∈l,Kw n s) (a:Option Addr) (c:Nat) (w:World) (X:Nat->Prop) (D:Ap w X a l) (L:∀b,X b->b<w.heap.size/\P b) (az:hi<=w.heap.size) (M:J w):
  Calls prog 97 #[.agg #[zA k,zA f,.slice a l.length c],.func (.func 78) #[] #[],y] w λe w'=>jN n k f l S w e w':=by
 obtain⟨t,u,v,rfl⟩:∃fn p q,y=.func fn p q:=by
  rcases hT with ⟨_,_,_,h,_⟩|⟨_,h,_⟩
  ·exact⟨_,_,_,h⟩
  ·exact⟨_,_,_,h⟩
 have aH:=@hmq prog;obtain⟨g,m⟩:∃g,g=((w.alloc (.cells #[zA k,zA f,.slice a l.length c] 24)).alloc (.cells #[.func t u v] 118)):=⟨_,rfl⟩;have a1:Hid (Below w.heap.size w g):=Aa (by rw[m];exact Dn _ _);have N:Hid (Ab g w.heap.size #[zA k,zA f,.slice a l.length c] 24):=Aa (by rw[m];exact(Ab.new w _ _).alloc _);have O:Hid (Ab g (w.heap.size+1) #[.func t u v] 118):=Aa (by have h:=Ab.new (w.alloc (.cells #[zA k,zA f,.slice a l.length c] 24)) #[.func t u v] 118;rw[m];simpa using h);have R:Hid (g.heap.size=w.heap.size+2):=Aa (by rw[m];simp);have ar:=Aa m;clear m;have a6:=Aa I;have E:=Aa H;have HT:=Aa hT;have T:=Aa hP;have F:=Aa D;have r:=Aa L;have a7:=Aa M;have aI:=D.1;clear I H hT D L M hP;go_enter func97,ntmps97;go_wp2_with fail;rw[<-ar.o];clear ar;go_loopw [13] (λi wr=>∃q:Nat,q<=l.length/\i=zA q/\AG (l.take q)=false/\Below g.heap.size g wr) (λi wr=>l.length-(intOf i).toNat);case atStart=>exact⟨0,Bm _,rfl,by simp[AG],Ac _ _⟩
 case round=>
  obtain⟨q,hq,rfl,G,j⟩:=hrel;have z:=Aa (a1.o.trans (j.mono (by have:=R.o; omega)));have A:=Aa G;by_cases d:q<l.length
  ·have U:=N.o.below j N.o.lt;have V:=O.o.below j O.o.lt;obtain⟨b,o,B,c',a8,d0,d1,d2,Y⟩:=F.o.get z.o (λb hb _=>(r.o b hb).1) q d;subst a8;have aA:(q:Int)<(l.length:Int):=(by omega);have aB:w.heap.size+2<=wr.heap.size:=by have:=j.size; have:=R.o; omega
   have aJ:b<w.heap.size:=by
    obtain⟨_,h1⟩:=F.o;rcases h1 with h1|⟨b',o',e',h1⟩
    ·rw[h1]at d; simp at d
    ·cases e'; exact(r.o _ (EZ _ _ _ h1 q d).1).1
   have aC:=Aa Y;have aD:Hid (AG (l.take (q+1))=(AG (l.take q)||AG [l[q]])):=Md l q d;have aj:=Aa U;have ak:=Aa V;have Z:=a6.o l[q] (Bu d) (.func (.func 112) #[] #[zC w.heap.size,zC wr.heap.size,zC (w.heap.size+1)]) P hi (λW=>J W/\H9 ⟨k,f,l⟩ (some (zD b o)) c w.heap.size wr.heap.size (w.heap.size+1) q (.func t u v) X W) (λx ok W=>S ⟨k,f,l.set q x⟩ ok W) T.o (jO T.o HT.o E.o k f l q d hlen _ c _ _ _ w.heap.size X az (Ag _) r.o) (jP E.o) (.agg (zE l[q] B c')) ((wr.alloc (.cells #[zA q] 3)).alloc (.cells (zE l[q] B c') 24)) X (aC.o.later (Dn _ _)) (λb hb=>⟨by have:=(r.o b hb).1; simp; omega,(r.o b hb).2⟩) (by simp; omega) (by
    have aw:Below w.heap.size w ((wr.alloc (.cells #[zA q] 3)).alloc (.cells (zE l[q] B c') 24)):=z.o.trans ((Dn _ _).mono z.o.size);exact⟨E.o _ _ a7.o aw,(aj.o.alloc _).alloc _,(Ab.new wr _ _).alloc _,(ak.o.alloc _).alloc _,F.o.later aw⟩)
   have ad:=Aa Z;have aE:Hid (Below wr.heap.size wr ((wr.alloc (.cells #[zA q] 3)).alloc (.cells (zE l[q] B c') 24))):=Dn _ _;have ae:=Aa j;clear Z U V Y G j;go_wp2_with fail;refine ad.o.mono ?_;rintro e w5 (⟨h1,rfl,ax⟩|⟨h1,rfl,x,ok,hf,ay⟩)
   ·have HN:Hid (AG (l.take (q+1))=false):=Aa (by rw[aD.o,A.o,h1];rfl);have aF:=Aa (ae.o.trans ((aE.o.trans (ax.mono (by simp; omega))).mono ae.o.size));clear h1 ax;go_wp2_with fail;go_roundw
    case rel=>exact⟨q+1,by omega,by go_num,HN.o,aF.o⟩
    case measure=>simp[intOf]; omega
   ·have C:=Aa (And.intro h1 (And.intro hf ay));clear h1 hf ay;go_wp2_with fail;go_ret;exact Ae ⟨Rq d C.o.1,rfl,q,d,A.o,C.o.1,x,ok,C.o.2.1,C.o.2.2⟩
  ·have aG:l.take q=l:=Bv (by omega);rw[aG]at A;clear G j;go_wp2_with fail;go_ret;exact Ad ⟨A.o,rfl,z.o⟩
theorem jR (n:Nat):∀(t:Lm) (u:Int),Ai [t]<=n->Ek u t->Kw n t:=by
 induction n with
 |zero=>intro t u h; have:=Ry t; omega
 |succ n I=>
  intro t u hn j y P hi J S hP hT A v w X hv L aw M;have an:=Aa j;have N:=Aa (jL hP hT A t u j v);obtain⟨k,d,l⟩:=t;obtain⟨a,c,rfl,B⟩:=hv;dsimp only at B N ⊢;have ao:Ai [⟨k,d,l⟩]=1+Ai l:=Kj k d l;have O:Below w.heap.size w (w.alloc (.cells #[zA k,zA d,.slice a l.length c] 24)):=(Ac _ _).alloc (Ag _) _;have R:=Aa B;have m:=Aa L;have HT:=Aa hT;have HP:=Aa hP;have C:=Aa A;have T:=Aa M;have D:=Aa O;have aq:Hid (Ab (w.alloc (.cells #[zA k,zA d,.slice a l.length c] 24)) w.heap.size #[zA k,zA d,.slice a l.length c] 24):=Ab.new _ _ _;have ad:Hid (l.length<=1000000):=Aa (by have:=I6 l;have:=j.2.2.2;omega);have ar:Hid (∀s∈l,Kw n s):=λs U=>by
   obtain⟨i,E,rfl⟩:=List.mem_iff_getElem.1 U;have:=Mf l i E;exact I _ (AO u k) (by omega) (an.o.subs U)
  have V:Hid (Fo false ⟨k,d,l⟩=Ct ⟨k,d,l⟩):=Aa (by unfold Fo;simp);clear I B L hT A M O j ao hn hP;go_enter func78,ntmps78;go_wp2_with fail;refine(N.o _ X ⟨a,c,rfl,R.o.later D.o⟩ (λb hb=>⟨by have:=(m.o b hb).1; simp; omega,(m.o b hb).2⟩) (by simp; omega) (C.o _ _ T.o D.o)).mono ?_;rintro e w1 (⟨h1,rfl,r⟩|⟨h1,rfl,x,ok,h2,h3,W⟩)
  ·have F:=Aa (D.o.trans (r.mono (by simp)));have au:w.heap.size<w1.heap.size:=by have:=r.size; simp at this; omega
   have z:=aq.o.below r (by simp);have c0:=z.c0;have c1:=z.c1;have c2:=z.c2;have H1:=Aa h1;clear r z h1;go_wp2_with fail;refine(jQ HP.o HT.o C.o n k d l ad.o ar.o a c w1 X (R.o.later F.o) (λb hb=>⟨by have:=(m.o b hb).1; omega,(m.o b hb).2⟩) (by omega) (C.o _ _ T.o F.o)).mono ?_;rintro e w2 (⟨f,rfl,Y⟩|⟨f,rfl,i,E,h5,h6,q,ok,Z,h8⟩)
   ·have g:Hid (AG [⟨k,d,l⟩]=false):=Aa (by rw[IA,H1.o,f];rfl);have av:=Aa (F.o.trans (Y.mono (by omega)));clear f Y;go_wp2_with fail;go_ret;exact Ad ⟨g.o,rfl,av.o⟩
   ·have g:Hid (AG [⟨k,d,l⟩]=true):=Aa (by rw[IA,f];simp);have G:=Aa (Gi.up (k:=k) (x:=d) E (by rw[V.o]; exact H1.o) h5 h6 Z);have H:=Aa h8;clear f h5 h6 Z h8;go_wp2_with fail;go_ret;exact Ae ⟨g.o,rfl,_,ok,G.o,H.o⟩
  ·have g:Hid (AG [⟨k,d,l⟩]=true):=Aa (by rw[IA,h1];rfl);have G:=Aa (Gi.at (inn:=false) (n:=n) (t:=⟨k,d,l⟩) (by rw[V.o]; exact h1) h2 h3);have H:=Aa W;clear h1 h2 h3 W;go_wp2_with fail;go_ret;exact Ae ⟨g.o,rfl,_,ok,G.o,H.o⟩

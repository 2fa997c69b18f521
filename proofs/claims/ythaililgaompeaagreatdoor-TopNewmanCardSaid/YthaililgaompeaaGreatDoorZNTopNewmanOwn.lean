import Derived.WideKeyPair
import Derived.Test.YthaililgaompeaaGreatDoorZMTopNewmanOwn
import Derived.Deep.RegionHeld
import Derived.Deep.RegionHeld3
namespace Go.Proofs.YthaililgaompeaaGreatDoor
set_option linter.all false
set_option maxRecDepth 20000
set_option maxHeartbeats 8000000
open Go.RowKit Go.Proofs.Tryz
open Go.WideMaps
variable {w w' w1 w2:World} {B N ca cb k m r rk:Nat} {P:Program} {c d q v:Value} {row:List ByteArray} {S l:List Tm} {a b t:Tm} {X:Nat->Prop} {α:Type} {aa ab:Option Addr} {rs:List Pr}
def GP (p:Nat×Nat):Value:=.agg #[zA p.1,zA p.2]
def LT (p:Nat×Nat):Prop:=p.1<9000000000000000000/\p.2<9000000000000000000
def CN (w:World) (r:Nat) (Q:Nat×Nat->Bool->Prop):Prop:=
 ∃es clk,w.heap[r]? = some (.map es clk)/\∀e∈es.toList,∃p v,e.key=GP p/\LT p/\e.val=.agg #[.bool v]/\Q p v
theorem CN.new (w:World) (Q:Nat×Nat->Bool->Prop):CN (w.alloc (.map #[] 0)) w.heap.size Q:=⟨#[],0,Fk w _,by simp⟩
theorem CN.lt {Q:Nat×Nat->Bool->Prop} (h:CN w r Q):r<w.heap.size:=by
 obtain⟨es,aa,h,_⟩:=h;exact(CO.1 h).1
theorem CN.kept {Q:Nat×Nat->Bool->Prop} (h:CN w r Q) (hk:w'.heap[r]? = w.heap[r]?):CN w' r Q:=by
 obtain⟨es,aa,h1,h2⟩:=h;exact⟨es,aa,hk.trans h1,h2⟩
theorem CN.below {Q:Nat×Nat->Bool->Prop} (h:CN w r Q) (hb:Below B w w') (a:r<B):CN w' r Q:=h.kept (hb.block r a)
theorem NS {k e:TypeId} (A:ArrKey P k e 2) (he:P.underlying e=some (.int .i64)) (aa:∃m,P.types.size=m+1) {p:Nat×Nat} (h:LT p):∃l,keyOf P k (GP p)=some l:=by
 obtain⟨h1,h2⟩:=h;exact⟨_,keyOf_pair A he aa (by simp[Lit.wf,IntKind.min,IntKind.max,IntKind.signed,IntKind.bits]; omega) (by simp[Lit.wf,IntKind.min,IntKind.max,IntKind.signed,IntKind.bits]; omega)⟩
theorem qQ {p q:Nat×Nat} (h:GP p=GP q):p=q:=by
 obtain⟨a,b⟩:=p;obtain⟨c,d⟩:=q;simp[GP]at h;obtain⟨h1,h2⟩:=h;have e:a=c:=by omega
 have f:b=d:=by omega
 rw[e,f]
theorem qR {T k e c:TypeId} {Q:Nat×Nat->Bool->Prop} (A:ArrKey P k e 2) (he:P.underlying e=some (.int .i64)) (d:∃m,P.types.size=m+1) (hm:P.underlying T=some (.map k c)) (hz:(zeroValue c).run P w=.ok (.agg #[.bool false]) w) (h:CN w r Q) {p:Nat×Nat} (hp:LT p):
  (∃v,Q p v/\(Instr.lookup T (.map (some r)) (GP p) true).run P w=.ok (.tuple #[.agg #[.bool v],.bool true]) w)∨(Instr.lookup T (.map (some r)) (GP p) true).run P w=.ok (.tuple #[.agg #[.bool false],.bool false]) w:=by
 obtain⟨es,af,hb,f⟩:=h;obtain⟨l,g⟩:=NS A he d hp;have hc:=λb=>A.law.check w b g;have aa:∀x∈es.toList,∃l,keyOf P k x.key=some l:=λx hx=>by
  obtain⟨q,v,hk,hq,_⟩:=f x hx;rw[hk]; exact NS A he d hq
 rcases A.law.find w g es.toList aa with ⟨a,_⟩|⟨j,x,a,hj,hx⟩
 ·refine Ad ?_;simp[Instr.lookup,Fl hm,F5 hb,hc,a,Result.andThen,hz]
 ·have ab:x∈es.toList:=List.mem_of_getElem? hj;obtain⟨q,v,hk,hq,hv,i⟩:=f x ab;have n:q=p:=qQ (hk.symm.trans hx);subst n;refine Ae ⟨v,i,?_⟩;simp[Instr.lookup,Fl hm,F5 hb,hc,a,Result.andThen,hv]
theorem qS {T k e s:TypeId} {Q:Nat×Nat->Bool->Prop} (A:ArrKey P k e 2) (he:P.underlying e=some (.int .i64)) (f:∃m,P.types.size=m+1) (hm:P.underlying T=some (.map k s)) (h:CN w r Q) {p:Nat×Nat} (hp:LT p) {v:Bool} (g:Q p v):
  ∃w',(Instr.mapUpdate T (.map (some r)) (GP p) (.agg #[.bool v])).run P w=.ok () w'/\CN w' r Q/\w'.heap.size=w.heap.size/\w'.os=w.os/\w'.tape=w.tape/\w'.output=w.output/\(∀b,b≠r->w'.heap[b]? = w.heap[b]?):=by
 obtain⟨es,aa,hb,ab⟩:=h;obtain⟨l,a⟩:=NS A he f hp;have hc:=λb=>A.law.check w b a;have t:∀x∈es.toList,∃l,keyOf P k x.key=some l:=λx hx=>by
  obtain⟨q,v,hk,hq,_⟩:=ab x hx;rw[hk]; exact NS A he f hq
 rcases A.law.find w a es.toList t with ⟨c,_⟩|⟨j,x,c,hj,hx⟩
 ·refine⟨{ w with heap:=w.heap.setIfInBounds r (.map (es.push { key:=GP p,val:=.agg #[.bool v],born:=aa}) (aa+1))},?_,⟨_,_,(GU hb).1,λy hy=>?_⟩,by simp,rfl,rfl,rfl,λb d=>(GU hb).2 b d⟩
  ·simp[Instr.mapUpdate,Fl hm,F5 hb,hc,c,NW _ hb,Result.andThen]
  ·rw[Array.toList_push,Ba]at hy;rcases hy with hy|hy
   ·exact ab y hy
   ·have u:y={ key:=GP p,val:=.agg #[.bool v],born:=aa}:=(by simpa using hy);subst u;exact⟨p,v,rfl,hp,rfl,g⟩
 ·have n:es[j]? = some x:=by simpa using hj
  have z:=A.law.stays w a;refine⟨{ w with heap:=w.heap.setIfInBounds r (.map (es.modify j λe=>{ e with key:=GP p,val:=.agg #[.bool v]}) aa)},?_,⟨_,_,(GU hb).1,λy hy=>?_⟩,by simp,rfl,rfl,rfl,λb d=>(GU hb).2 b d⟩
  ·simp[Instr.mapUpdate,Fl hm,F5 hb,hc,c,n,hx,z,NW _ hb,Result.andThen]
  ·rw[Array.toList_modify]at hy;obtain⟨i,hi⟩:=List.getElem?_of_mem hy;by_cases o:j=i
   ·subst o;simp[List.getElem?_modify,n]at hi;subst hi;exact⟨p,v,rfl,hp,rfl,g⟩
   ·simp[List.getElem?_modify,o]at hi;exact ab y (by simpa using Array.mem_of_getElem? hi)
def Es (row:List ByteArray) (S:List Tm) (p:Nat×Nat) (v:Bool):Prop:=∃x y,x∈S/\y∈S/\p=(Am x S,Am y S)/\v=AC row x y
theorem Es.val {v:Bool} (h:Es row S (Am a S,Am b S) v) (ha:a∈S) (hb:b∈S):v=AC row a b:=by
 obtain⟨x,y,hx,hy,e,hv⟩:=h;simp only[IK] at e;rw[hv,Mr ha hx e.1,Mr hb hy e.2]
structure PS (row:List ByteArray) (S:List Tm) (rk m:Nat) (w:World):Prop where
 ranks:AO w rk (DZ 0 row)
 asked:CN w m (Es row S)
 ne:rk≠m
theorem PS.later (h:PS row S rk m w) (hb:Below w.heap.size w w'):PS row S rk m w':=⟨h.ranks.below hb h.ranks.lt,h.asked.below hb h.asked.lt,h.ne⟩
theorem PS.ex (h:PS row S rk m w) (he:Ex m w w') (ha:CN w' m (Es row S)):PS row S rk m w':=⟨h.ranks.kept (he.block rk h.ranks.lt h.ne),ha,h.ne⟩
theorem PS.alloc (h:PS row S rk m w) (o:Obj):PS row S rk m (w.alloc o):=h.later ((Ag _ _).alloc (Al _) o)
theorem IV.ex (h:IV w X S v t) (he:Ex B w w') (a:∀b,X b->b≠B):IV w' X S v t:=
 ((h.mono (Y:=λb=>X b/\b<w.heap.size) λb h1 h2=>⟨h1,h2⟩).kept λb hb=>he.block b hb.2 (a b hb.1)).mono λb hb _=>hb.1
theorem Ca.ex {a:Option Addr} (h:Ca w X S a l) (he:Ex B w w') (c:∀b,X b->b≠B):Ca w' X S a l:=
 ((h.mono (Y:=λb=>X b/\b<w.heap.size) λb h1 h2=>⟨h1,h2⟩).kept λb hb=>he.block b hb.2 (c b hb.1)).mono λb hb _=>hb.1
theorem Ex.ofBel (h:Below w.heap.size w w'):Ex B w w':=⟨h.os,h.tape,h.output,h.size,λk hk _=>h.block k hk⟩
theorem WV:ArrKey prog 62 3 2:=⟨underlying62,by kernel_rfl,by kernel_rfl,by kernel_rfl⟩
theorem WW:∃m,prog.types.size=m+1:=⟨_,rfl⟩
def LU (row:List ByteArray) (S:List Tm) (rk m N:Nat):Prop:=∀(a b:Tm) (va vb:Value) (w:World) (X:Nat->Prop),Ab [a]+Ab [b]<=N->(∀b,X b->b≠m)->PS row S rk m w->IV w X S va a->IV w X S vb b->
  Calls prog 54 #[.agg #[.map (some rk),.map (some m)],va,vb] w λe w'=>e=.returned (.bool (AC row a b))/\CN w' m (Es row S)/\Ex m w w'
def WX (row:List ByteArray) (S:List Tm) (rk m:Nat) (a b:Tm) (aa:Option Addr) (ca:Nat) (ab:Option Addr) (cb:Nat) (w:World) (i:Value) (wr:World):Prop:=
 ∃k:Nat,k<=a.args.length/\i=zA k/\((a.args.take k).any λx=>AP x b||AC row x b)=false/\Ac wr w.heap.size #[.map (some rk),.map (some m)] 101/\
  Ac wr (w.heap.size+1) #[.string a.name,.slice aa a.args.length ca,zA (Am a S),zA (Ab [a])] 104/\Ac wr (w.heap.size+2) #[.string b.name,.slice ab b.args.length cb,zA (Am b S),zA (Ab [b])] 104/\CN wr m (Es row S)/\Ex m w wr
theorem QE {f:α->Bool} {l:List α} (h:k<l.length) (h0:(l.take k).any f=false):(f l[k]=true->l.any f=true)/\(f l[k]=false->(l.take (k+1)).any f=false):=by
 refine⟨λh1=>D6.2 ⟨l[k],AM h,h1⟩,λh1=>?_⟩;rw[Ci h,KE,h0];simp[h1]
theorem WY {f:α->Bool} {l:List α} (h:k<l.length) (h0:(l.take k).all f=true):(f l[k]=false->l.all f=false)/\(f l[k]=true->(l.take (k+1)).all f=true):=by
 refine⟨λh1=>?_,λh1=>?_⟩
 ·rw[List.all_eq_false];exact⟨l[k],AM h,by rw[h1]; simp⟩
 ·rw[Ci h,List.all_append,h0];simp[h1]
theorem qT {x:Tm} (hx:x∈S) (hb:b∈S):((Am x S:Int)==(Am b S:Int))=AP x b:=by
 by_cases h:x=b
 ·subst h;rw[Cr.2 rfl];simp
 ·have h1:AP x b=false:=by
   cases hs:AP x b with
   |false=>rfl
   |true=>exact absurd (Cr.1 hs) h
  rw[h1,FY];exact λe=>h (Mr hx hb (by omega))
theorem qU (G:Hid (LU row S rk m N)) (a b:Tm) (u v:Value) (w:World) (X:Nat->Prop) (hN:Ab [a]+Ab [b]<=N+1) (q:∀b,X b->b≠m) (hP:PS row S rk m w) (ha:IV w X S u a) (hb:IV w X S v b):
  Calls prog 108 #[.agg #[.map (some rk),.map (some m)],u,v] w λe w'=>e=.returned (.bool (a.args.any λx=>AP x b||AC row x b))/\CN w' m (Es row S)/\Ex m w w':=by
 have H:=Aa hb;obtain⟨_,aa,ca,rfl,r⟩:=ha;obtain⟨I,ab,cb,rfl,J⟩:=hb;have L:=Aa r;have az:=r.1;have y:=Aa hP;have a6:=hP.asked.lt;clear r J hP;go_enter func108,ntmps108;go_wp2_with fail;have z:Hid (WX row S rk m a b aa ca ab cb w (zA 0) (((w.alloc (zh #[.map (some rk),.map (some m)] 101)).alloc (zh #[.string a.name,.slice aa a.args.length ca,zA (Am a S),zA (Ab [a])] 104)).alloc (zh #[.string b.name,.slice ab b.args.length cb,zA (Am b S),zA (Ab [b])] 104))):=by
  have k1:=Ac.new w #[.map (some rk),.map (some m)] 101;have A:(w.alloc (zh #[.map (some rk),.map (some m)] 101)).heap.size=w.heap.size+1:=by simp
  have M:Ex m w (w.alloc (zh #[.map (some rk),.map (some m)] 101)):=(Ex.refl m w).alloc _;have O:=y.o.alloc (zh #[.map (some rk),.map (some m)] 101);generalize (w.alloc (zh #[.map (some rk),.map (some m)] 101))=w1 at *;have k2:=Ac.new w1 #[.string a.name,.slice aa a.args.length ca,zA (Am a S),zA (Ab [a])] 104;have P:(w1.alloc (zh #[.string a.name,.slice aa a.args.length ca,zA (Am a S),zA (Ab [a])] 104)).heap.size=w.heap.size+2:=by simp[A]
  have R:Ex m w (w1.alloc (zh #[.string a.name,.slice aa a.args.length ca,zA (Am a S),zA (Ab [a])] 104)):=M.alloc _;have T:=O.alloc (zh #[.string a.name,.slice aa a.args.length ca,zA (Am a S),zA (Ab [a])] 104);have U:=k1.alloc (zh #[.string a.name,.slice aa a.args.length ca,zA (Am a S),zA (Ab [a])] 104);generalize w1.alloc (zh #[.string a.name,.slice aa a.args.length ca,zA (Am a S),zA (Ab [a])] 104)=w2 at *;have k3:=Ac.new w2 #[.string b.name,.slice ab b.args.length cb,zA (Am b S),zA (Ab [b])] 104;rw[A]at k2;rw[P]at k3;exact⟨0,Be _,rfl,by simp,U.alloc _,k2.alloc _,k3,(T.alloc _).asked,R.alloc _⟩
 generalize (((w.alloc (zh #[.map (some rk),.map (some m)] 101)).alloc (zh #[.string a.name,.slice aa a.args.length ca,zA (Am a S),zA (Ab [a])] 104)).alloc (zh #[.string b.name,.slice ab b.args.length cb,zA (Am b S),zA (Ab [b])] 104))=w3 at *;go_loopw [12] (λi wr=>WX row S rk m a b aa ca ab cb w i wr) (λi wr=>a.args.length-(intOf i).toNat);case atStart=>exact z.o
 case round=>
  clear z;obtain⟨k,hk,rfl,d,h1,h2,h3,s,n⟩:=hrel;have V:=Aa h1;have W:=Aa h2;have Y:=Aa h3;have f:=Aa s;have g:=Aa n;have t:=Aa d;have z1:w.heap.size+3<=wr.heap.size:=by have:=h3.lt; omega
  by_cases j:k<a.args.length
  ·have aw:(k:Int)<(a.args.length:Int):=(by omega);obtain⟨b1,o1,a1,c1,rfl,d10,d11,d12,d13,hx⟩:=(L.o.ex n q).get (Ag _ _) (λ_ _ h=>h) k j;have Z:=Aa hx;have q0:∀o,(wr.alloc o).cell? (zD w.heap.size 0)=some (.map (some rk)):=λo=>(h1.alloc o).cell 0;have q1:∀o,(wr.alloc o).cell? (zD w.heap.size 1)=some (.map (some m)):=λo=>(h1.alloc o).cell 1;have r0:∀o,(wr.alloc o).cell? (zD (w.heap.size+2) 0)=some (.string b.name):=λo=>(h3.alloc o).cell 0;have r1:∀o,(wr.alloc o).cell? (zD (w.heap.size+2) 1)=some (.slice ab b.args.length cb):=λo=>(h3.alloc o).cell 1;have r2:∀o,(wr.alloc o).cell? (zD (w.heap.size+2) 2)=some (zA (Am b S)):=λo=>(h3.alloc o).cell 2;have r3:∀o,(wr.alloc o).cell? (zD (w.heap.size+2) 3)=some (zA (Ab [b])):=λo=>(h3.alloc o).cell 3;have a7:=Cw (AM j);have heq:=qT hx.1 I;clear hx h1 h2 h3 s n d;cases hs:AP a.args[k] b with
   |true=>rw[hs]at heq;have c:=Aa ((QE j t.o).1 (by simp[hs]));clear hs;go_wp2_with fail;go_ret;exact⟨by rw[c.o]; rfl,f.o.kept (Ay _ _ _ f.o.lt),g.o.alloc _⟩
   |false=>
    rw[hs]at heq;have ax:=Aa hs;clear hs;go_wp2_with fail;have B:PS row S rk m wr:=y.o.ex g.o f.o;refine(G.o a.args[k] b _ _ _ X (by omega) q (B.alloc _) (by exact Z.o.alloc _) (by exact(H.o.ex g.o q).alloc _)).mono ?_;rintro e w5 ⟨rfl,C,l⟩;have D:=Aa C;have E:=Aa (g.o.trans (((Ex.refl m wr).alloc _).trans l));have ay:=f.o.lt;have K1:=Aa ((V.o.alloc _).ex l (by omega));have K2:=Aa ((W.o.alloc _).ex l (by omega));have K3:=Aa ((Y.o.alloc _).ex l (by omega));clear C l B;cases hp:AC row a.args[k] b with
    |true=>have c:=Aa ((QE j t.o).1 (by simp[hp]));clear hp;go_wp2_with fail;go_ret;exact⟨by rw[c.o]; rfl,D.o,E.o⟩
    |false=>
     have c:=Aa ((QE j t.o).2 (by simp[hp,ax.o]));clear hp;go_wp2_with fail;go_roundw
     case rel=>exact⟨k+1,by omega,by go_num,c.o,K1.o,K2.o,K3.o,D.o,E.o⟩
     case measure=>simp[intOf]; omega
  ·have F:a.args.take k=a.args:=BH (by omega);rw[F]at d;have c:=Aa d;clear h1 h2 h3 s n d F;go_wp2_with fail;go_ret;exact⟨by rw[c.o]; rfl,f.o,g.o⟩
def WZ (row:List ByteArray) (S:List Tm) (rk m:Nat) (a:Tm) (l:List Tm) (aa:Option Addr) (ca:Nat) (w:World) (i:Value) (wr:World):Prop:=
 ∃k:Nat,k<=l.length/\i=zA k/\((l.take k).all λy=>AC row a y)=true/\Ac wr w.heap.size #[.map (some rk),.map (some m)] 101/\
  Ac wr (w.heap.size+1) #[.string a.name,.slice aa a.args.length ca,zA (Am a S),zA (Ab [a])] 104/\CN wr m (Es row S)/\Ex m w wr
theorem qV (G:Hid (LU row S rk m N)) (a:Tm) (l:List Tm) (t:Value) (u:Option Addr) (H:Nat) (w:World) (X:Nat->Prop) (v:∀y∈l,Ab [a]+Ab [y]<=N) (n:∀b,X b->b≠m) (hP:PS row S rk m w) (ha:IV w X S t a) (q:Ca w X S u l):
  Calls prog 110 #[.agg #[.map (some rk),.map (some m)],t,.slice u l.length H] w λe w'=>e=.returned (.bool (l.all λy=>AC row a y))/\CN w' m (Es row S)/\Ex m w w':=by
 have I:=Aa ha;obtain⟨_,aa,ca,rfl,J⟩:=ha;have L:=Aa q;have au:=q.1;have x:=Aa hP;have av:=hP.asked.lt;have M:=Aa v;clear J q hP v;go_enter func110,ntmps110;go_wp2_with fail;have z:Hid (WZ row S rk m a l aa ca w (zA 0) ((w.alloc (zh #[.map (some rk),.map (some m)] 101)).alloc (zh #[.string a.name,.slice aa a.args.length ca,zA (Am a S),zA (Ab [a])] 104))):=by
  have k1:=Ac.new w #[.map (some rk),.map (some m)] 101;have O:(w.alloc (zh #[.map (some rk),.map (some m)] 101)).heap.size=w.heap.size+1:=by simp
  have P:Ex m w (w.alloc (zh #[.map (some rk),.map (some m)] 101)):=(Ex.refl m w).alloc _;have R:=x.o.alloc (zh #[.map (some rk),.map (some m)] 101);generalize (w.alloc (zh #[.map (some rk),.map (some m)] 101))=w1 at *;have k2:=Ac.new w1 #[.string a.name,.slice aa a.args.length ca,zA (Am a S),zA (Ab [a])] 104;rw[O]at k2;exact⟨0,Be _,rfl,by simp,k1.alloc _,k2,(R.alloc _).asked,P.alloc _⟩
 generalize ((w.alloc (zh #[.map (some rk),.map (some m)] 101)).alloc (zh #[.string a.name,.slice aa a.args.length ca,zA (Am a S),zA (Ab [a])] 104))=w3 at *;go_loopw [11] (λi wr=>WZ row S rk m a l aa ca w i wr) (λi wr=>l.length-(intOf i).toNat);case atStart=>exact z.o
 case round=>
  clear z;obtain⟨k,hk,rfl,ab,h1,h2,r,d⟩:=hrel;have T:=Aa h1;have U:=Aa h2;have s:=Aa r;have f:=Aa d;have A:=Aa ab;have z1:w.heap.size+2<=wr.heap.size:=by have:=h2.lt; omega
  by_cases g:k<l.length
  ·have aq:(k:Int)<(l.length:Int):=(by omega);obtain⟨b1,o1,a1,c1,rfl,d10,d11,d12,d13,hx⟩:=(L.o.ex d n).get (Ag _ _) (λ_ _ h=>h) k g;have V:=Aa hx;have W:∀o,(wr.alloc o).cell? (zD w.heap.size 0)=some (.map (some rk)):=λo=>(h1.alloc o).cell 0;have Y:∀o,(wr.alloc o).cell? (zD w.heap.size 1)=some (.map (some m)):=λo=>(h1.alloc o).cell 1;have Z:∀o,(wr.alloc o).cell? (zD (w.heap.size+1) 0)=some (.string a.name):=λo=>(h2.alloc o).cell 0;have r1:∀o,(wr.alloc o).cell? (zD (w.heap.size+1) 1)=some (.slice aa a.args.length ca):=λo=>(h2.alloc o).cell 1;have r2:∀o,(wr.alloc o).cell? (zD (w.heap.size+1) 2)=some (zA (Am a S)):=λo=>(h2.alloc o).cell 2;have r3:∀o,(wr.alloc o).cell? (zD (w.heap.size+1) 3)=some (zA (Ab [a])):=λo=>(h2.alloc o).cell 3;clear hx h1 h2 r d ab;go_wp2_with fail;have B:PS row S rk m wr:=x.o.ex f.o s.o;refine(G.o a l[k] _ _ _ X (M.o _ (AM g)) n (B.alloc _) (by exact(I.o.ex f.o n).alloc _) (by exact V.o.alloc _)).mono ?_;rintro e w5 ⟨rfl,C,j⟩;have D:=Aa C;have E:=Aa (f.o.trans (((Ex.refl m wr).alloc _).trans j));have ar:=s.o.lt;have K1:=Aa ((T.o.alloc _).ex j (by omega));have K2:=Aa ((U.o.alloc _).ex j (by omega));clear C j B W Y Z r1 r2 r3;cases hp:AC row a l[k] with
   |false=>have c:=Aa ((WY g A.o).1 hp);clear hp;go_wp2_with fail;go_ret;exact⟨by rw[c.o]; rfl,D.o,E.o⟩
   |true=>
    have c:=Aa ((WY g A.o).2 hp);clear hp;go_wp2_with fail;go_roundw
    case rel=>exact⟨k+1,by omega,by go_num,c.o,K1.o,K2.o,D.o,E.o⟩
    case measure=>simp[intOf]; omega
  ·have F:l.take k=l:=BH (by omega);rw[F]at ab;have c:=Aa ab;clear h1 h2 r d ab F;go_wp2_with fail;go_ret;exact⟨by rw[c.o]; rfl,s.o,f.o⟩
structure GQ (row:List ByteArray) (S:List Tm) (rk m:Nat) (a b:Tm) (aa:Option Addr) (ca:Nat) (ab:Option Addr) (cb:Nat) (w wr:World):Prop where
 k1:Ac wr w.heap.size #[.map (some rk),.map (some m)] 101
 k2:Ac wr (w.heap.size+1) #[.string a.name,.slice aa a.args.length ca,zA (Am a S),zA (Ab [a])] 104
 k3:Ac wr (w.heap.size+2) #[.string b.name,.slice ab b.args.length cb,zA (Am b S),zA (Ab [b])] 104
 mp:CN wr m (Es row S)
 ex:Ex m w wr
theorem GQ.later (h:GQ row S rk m a b aa ca ab cb w w1) (hb:Below w1.heap.size w1 w2):GQ row S rk m a b aa ca ab cb w w2:=
 ⟨h.k1.below hb h.k1.lt,h.k2.below hb h.k2.lt,h.k3.below hb h.k3.lt,h.mp.below hb h.mp.lt,h.ex.trans (Ex.ofBel hb)⟩
theorem GQ.step (h:GQ row S rk m a b aa ca ab cb w w1) (hm:m<w.heap.size) (d:CN w2 m (Es row S)) (c:Ex m w1 w2):GQ row S rk m a b aa ca ab cb w w2:=
 ⟨h.k1.ex c (by omega),h.k2.ex c (by omega),h.k3.ex c (by omega),d,h.ex.trans c⟩
theorem GQ.start (a b:Tm) (aa:Option Addr) (ca:Nat) (ab:Option Addr) (cb:Nat) (hP:PS row S rk m w):GQ row S rk m a b aa ca ab cb w (((w.alloc (zh #[.map (some rk),.map (some m)] 101)).alloc (zh #[.string a.name,.slice aa a.args.length ca,zA (Am a S),zA (Ab [a])] 104)).alloc (zh #[.string b.name,.slice ab b.args.length cb,zA (Am b S),zA (Ab [b])] 104)):=by
 have k1:=Ac.new w #[.map (some rk),.map (some m)] 101;have c:(w.alloc (zh #[.map (some rk),.map (some m)] 101)).heap.size=w.heap.size+1:=by simp
 have d:Ex m w (w.alloc (zh #[.map (some rk),.map (some m)] 101)):=(Ex.refl m w).alloc _;have e:=hP.alloc (zh #[.map (some rk),.map (some m)] 101);generalize (w.alloc (zh #[.map (some rk),.map (some m)] 101))=w1 at *;have k2:=Ac.new w1 #[.string a.name,.slice aa a.args.length ca,zA (Am a S),zA (Ab [a])] 104;have f:(w1.alloc (zh #[.string a.name,.slice aa a.args.length ca,zA (Am a S),zA (Ab [a])] 104)).heap.size=w.heap.size+2:=by simp[c]
 have g:Ex m w (w1.alloc (zh #[.string a.name,.slice aa a.args.length ca,zA (Am a S),zA (Ab [a])] 104)):=d.alloc _;have h:=e.alloc (zh #[.string a.name,.slice aa a.args.length ca,zA (Am a S),zA (Ab [a])] 104);have i:=k1.alloc (zh #[.string a.name,.slice aa a.args.length ca,zA (Am a S),zA (Ab [a])] 104);generalize w1.alloc (zh #[.string a.name,.slice aa a.args.length ca,zA (Am a S),zA (Ab [a])] 104)=w2 at *;have k3:=Ac.new w2 #[.string b.name,.slice ab b.args.length cb,zA (Am b S),zA (Ab [b])] 104;rw[c]at k2;rw[f]at k3;exact⟨i.alloc _,k2.alloc _,k3,(h.alloc _).asked,g.alloc _⟩
theorem qW (T:Hid (LU row S rk m N)) (a b:Tm) (Z vb:Value) (w:World) (X:Nat->Prop) (hN:Ab [a]+Ab [b]<=N+1) (j:∀b,X b->b≠m) (hP:PS row S rk m w) (ha:IV w X S Z a) (hb:IV w X S vb b):
  Calls prog 83 #[.agg #[.map (some rk),.map (some m)],Z,vb] w λe w'=>e=.returned (.bool (AC row a b))/\CN w' m (Es row S)/\Ex m w w':=by
 have B:=Aa ha;have G:=Aa hb;obtain⟨_,aa,ca,rfl,aH⟩:=ha;obtain⟨_,ab,cb,rfl,aw⟩:=hb;have az:=Aa aw;have C:=Aa hP;have U:=hP.asked.lt;have D:=Aa (Ra row a b);clear aH aw hP;have V:=Aa (GQ.start a b aa ca ab cb C.o);go_enter func83,ntmps83;go_wp2_with fail;generalize (((w.alloc (zh #[.map (some rk),.map (some m)] 101)).alloc (zh #[.string a.name,.slice aa a.args.length ca,zA (Am a S),zA (Ab [a])] 104)).alloc (zh #[.string b.name,.slice ab b.args.length cb,zA (Am b S),zA (Ab [b])] 104))=w3 at *;refine(WP S a _ _ X (by exact B.o.ex V.o.ex j)).mono ?_;rintro e w4 ⟨rfl,a1⟩;have f:=Aa (V.o.later a1);clear a1 V;have k:=f.o.k1.c0;have l:=f.o.k1.c1;have n:=f.o.k2.c0;have q:=f.o.k2.c1;have r:=f.o.k2.c2;have s:=f.o.k2.c3;have t:=f.o.k3.c0;have s1:=f.o.k3.c1;have s2:=f.o.k3.c2;have u:=f.o.k3.c3;cases H:Aj a.name with
 |true=>have h:Hid (AC row a b=false):=Aa (by rw[D.o,Ao H]);clear H;go_wp2_with fail;go_ret;exact⟨by rw[h.o]; rfl,f.o.mp,f.o.ex⟩
 |false=>
  have I:=Aa H;clear H;go_wp2_with fail;refine(qU T a b _ _ _ X hN j (C.o.ex f.o.ex f.o.mp) (by exact B.o.ex f.o.ex j) (by exact G.o.ex f.o.ex j)).mono ?_;rintro e w5 ⟨rfl,a6,a7⟩;have i:=Aa (f.o.step U a6 a7);clear a6 a7 f;clear k l n q r s t s1 s2 u;have k:=i.o.k1.c0;have l:=i.o.k1.c1;have n:=i.o.k2.c0;have q:=i.o.k2.c1;have r:=i.o.k2.c2;have s:=i.o.k2.c3;have t:=i.o.k3.c0;have s1:=i.o.k3.c1;have s2:=i.o.k3.c2;have u:=i.o.k3.c3;cases J:a.args.any λx=>AP x b||AC row x b with
  |true=>have h:Hid (AC row a b=true):=Aa (by rw[D.o,Ah (by rw[I.o]; simp),Ao J]);clear J;go_wp2_with fail;go_ret;exact⟨by rw[h.o]; rfl,i.o.mp,i.o.ex⟩
  |false=>
   have W:=Aa J;clear J;go_wp2_with fail;refine(WP S b _ _ X (by exact G.o.ex i.o.ex j)).mono ?_;rintro e w6 ⟨rfl,a8⟩;have g:=Aa (i.o.later a8);clear a8 i;clear k l n q r s t s1 s2 u;have k:=g.o.k1.c0;have l:=g.o.k1.c1;have n:=g.o.k2.c0;have q:=g.o.k2.c1;have r:=g.o.k2.c2;have s:=g.o.k2.c3;have t:=g.o.k3.c0;have s1:=g.o.k3.c1;have s2:=g.o.k3.c2;have u:=g.o.k3.c3;cases L:Aj b.name with
   |true=>have h:Hid (AC row a b=false):=Aa (by rw[D.o,Ah (by rw[I.o]; simp),Ah (by rw[W.o]; simp),Ao L]);clear L;go_wp2_with fail;go_ret;exact⟨by rw[h.o]; rfl,g.o.mp,g.o.ex⟩
   |false=>
    have aA:=Aa L;clear L;go_wp2_with fail;refine(qM row S a b rk _ _ _ X (C.o.ex g.o.ex g.o.mp).ranks (by exact B.o.ex g.o.ex j) (by exact G.o.ex g.o.ex j)).mono ?_;rintro e M ⟨rfl,aB⟩;have c:=Aa (g.o.later aB);clear aB g;clear k l n q r s t s1 s2 u;have k:=c.o.k1.c0;have l:=c.o.k1.c1;have n:=c.o.k2.c0;have q:=c.o.k2.c1;have r:=c.o.k2.c2;have s:=c.o.k2.c3;have t:=c.o.k3.c0;have s1:=c.o.k3.c1;have s2:=c.o.k3.c2;have u:=c.o.k3.c3;have A:Hid (AC row a b=if Bq row b a=true then false else if (b.args.all λy=>AC row a y)=false then false else if Bq row a b=true then true else match AV a.args b.args with|none=>false|some (x,y)=>AC row x y):=by
     unfold Hid;rw[D.o,Ah (by rw[I.o]; simp),Ah (by rw[W.o]; simp),Ah (by rw[aA.o]; simp)];cases AV a.args b.args with
     |none=>rfl
     |some p=>rfl
    clear D I W aA;have ae:∀O Y,Ca M X S O b.args->Calls prog 110 #[.agg #[.map (some rk),.map (some m)],.agg #[.string a.name,.slice aa a.args.length ca,zA (Am a S),zA (Ab [a])],.slice O b.args.length Y] M λe w'=>e=.returned (.bool (b.args.all λy=>AC row a y))/\CN w' m (Es row S)/\Ex m M w':=λO Y hl=>
     qV T a b.args _ O Y M X (λy hy=>by have:=Cw hy; omega) j (C.o.ex c.o.ex c.o.mp) (by exact B.o.ex c.o.ex j) hl
    have P:=Aa ae;clear ae;rcases qC row a b with ⟨g1,hc⟩|⟨g1,hc⟩|⟨g1,g2,hc⟩
    ·have g2:=Ok g1;rw[hc];go_wp2_with fail;refine(P.o _ _ (by exact az.o.ex c.o.ex j)).mono ?_;rintro e w8 ⟨rfl,E,F⟩;have d:=Aa (c.o.step U E F);clear E F c P;clear k l n q r s t s1 s2 u;cases v:b.args.all λy=>AC row a y with
     |false=>have h:Hid (AC row a b=false):=Aa (by rw[A.o,Ah (by rw[g2]; simp),Ao v]);clear v;go_wp2_with fail;go_ret;exact⟨by rw[h.o]; rfl,d.o.mp,d.o.ex⟩
     |true=>have h:Hid (AC row a b=true):=Aa (by rw[A.o,Ah (by rw[g2]; simp),Ah (by rw[v]; simp),Ao g1]);clear v;go_wp2_with fail;go_ret;exact⟨by rw[h.o]; rfl,d.o.mp,d.o.ex⟩
    ·have h:Hid (AC row a b=false):=Aa (by rw[A.o,Ao g1]);rw[hc];go_wp2_with fail;go_ret;exact⟨by rw[h.o]; rfl,c.o.mp,c.o.ex⟩
    ·rw[hc];go_wp2_with fail;refine(P.o _ _ (by exact az.o.ex c.o.ex j)).mono ?_;rintro e w8 ⟨rfl,E,F⟩;have d:=Aa (c.o.step U E F);clear E F c P;clear k l n q r s t s1 s2 u;have k:=d.o.k1.c0;have l:=d.o.k1.c1;have n:=d.o.k2.c0;have q:=d.o.k2.c1;have r:=d.o.k2.c2;have s:=d.o.k2.c3;have t:=d.o.k3.c0;have s1:=d.o.k3.c1;have s2:=d.o.k3.c2;have u:=d.o.k3.c3;cases v:b.args.all λy=>AC row a y with
     |false=>have h:Hid (AC row a b=false):=Aa (by rw[A.o,Ah (by rw[g2]; simp),Ao v]);clear v;go_wp2_with fail;go_ret;exact⟨by rw[h.o]; rfl,d.o.mp,d.o.ex⟩
     |true=>
      have ah:Hid (AC row a b=match AV a.args b.args with|none=>false|some (x,y)=>AC row x y):=Aa (by rw[A.o,Ah (by rw[g2]; simp),Ah (by rw[v]; simp),Ah (by rw[g1]; simp)]);have av:=Aa (OM g1 g2).2;clear v g1 g2 hc A;go_wp2_with fail;refine(qP S a b av.o _ _ _ X (by exact B.o.ex d.o.ex j) (by exact G.o.ex d.o.ex j)).mono ?_;rintro e R ⟨aC,an⟩;have z:=Aa (d.o.later aC);clear aC d;clear k l n q r s t s1 s2 u;rcases an with ⟨x,y,vx,vy,hu,rfl,aD,aE⟩|⟨hu,rfl⟩
      ·have aI:=Aa aD;have aJ:=Aa aE;obtain⟨_,ax,cx,rfl,_⟩:=aD;obtain⟨_,ay,cy,rfl,_⟩:=aE;obtain⟨mx,my⟩:=JI hu;have sx:=Cw mx;have sy:=Cw my;have HU:=Aa hu;have k:∀o o',((R.alloc o).alloc o').cell? (zD w.heap.size 0)=some (.map (some rk)):=λo o'=>((z.o.k1.alloc o).alloc o').cell 0;have l:∀o o',((R.alloc o).alloc o').cell? (zD w.heap.size 1)=some (.map (some m)):=λo o'=>((z.o.k1.alloc o).alloc o').cell 1;clear hu mx my;go_wp2_with fail;have P9:PS row S rk m R:=C.o.ex z.o.ex z.o.mp;refine(T.o x y _ _ _ X (by omega) j ((P9.alloc _).alloc _) (by exact(aI.o.alloc _).alloc _) (by exact(aJ.o.alloc _).alloc _)).mono ?_;rintro e wA ⟨rfl,aF,aG⟩;have aK:=Aa aF;have aL:=Aa (z.o.ex.trans ((((Ex.refl m R).alloc _).alloc _).trans aG));have h:Hid (AC row a b=AC row x y):=Aa (by rw[ah.o,HU.o]);clear aF aG P9 k l;go_wp2_with fail;go_ret;exact⟨by rw[h.o]; rfl,aK.o,aL.o⟩
      ·have h:Hid (AC row a b=false):=Aa (by rw[ah.o,hu]);go_wp2_with fail;go_ret;exact⟨by rw[h.o]; rfl,(z.o.mp.kept (Ay _ _ _ z.o.mp.lt)).kept (Ay _ _ _ (by have:=z.o.mp.lt; simp; omega)),(z.o.ex.alloc _).alloc _⟩
theorem qX (hS:S.length<9000000000000000000) (U:Hid (LU row S rk m N)) (a b:Tm) (s t:Value) (w:World) (X:Nat->Prop) (V:Ab [a]+Ab [b]<=N+1) (j:∀b,X b->b≠m) (hP:PS row S rk m w) (ha:IV w X S s a) (hb:IV w X S t b):
  Calls prog 54 #[.agg #[.map (some rk),.map (some m)],s,t] w λe w'=>e=.returned (.bool (AC row a b))/\CN w' m (Es row S)/\Ex m w w':=by
 have W:=Aa ha;have Y:=Aa hb;have u:=ha.1;have x:=hb.1;obtain⟨_,aa,ca,rfl,Z⟩:=ha;obtain⟨_,ab,cb,rfl,az⟩:=hb;have y:=Aa hP;have a1:=hP.asked.lt;have l:LT (Am a S,Am b S):=⟨by have:=Mq a S; show Am a S<_; omega,by have:=Mq b S; show Am b S<_; omega⟩;have a6:=Aa l;have c:=Aa (GQ.start a b aa ca ab cb y.o);have hz:∀w',(zeroValue 135).run prog w'=.ok (.agg #[.bool false]) w':=λw'=>zeroValue135 w';have A:CN ((((w.alloc (zh #[.map (some rk),.map (some m)] 101)).alloc (zh #[.string a.name,.slice aa a.args.length ca,zA (Am a S),zA (Ab [a])] 104)).alloc (zh #[.string b.name,.slice ab b.args.length cb,zA (Am b S),zA (Ab [b])] 104)).alloc (zh #[zA (Am a S),zA (Am b S)] 62)) m (Es row S):=c.o.mp.kept (Ay _ _ _ c.o.mp.lt);have a7:=qR (P:=prog) WV underlying3 WW underlying99 (hz _) A l;clear Z az hP A hz l;rcases a7 with ⟨v,B,hrun⟩|hrun
 ·have HV:=Aa (B.val u x);have C:(Instr.lookup 99 (.map (some m)) (.agg #[zA (Am a S),zA (Am b S)]) true).run prog ((((w.alloc (zh #[.map (some rk),.map (some m)] 101)).alloc (zh #[.string a.name,.slice aa a.args.length ca,zA (Am a S),zA (Ab [a])] 104)).alloc (zh #[.string b.name,.slice ab b.args.length cb,zA (Am b S),zA (Ab [b])] 104)).alloc (zh #[zA (Am a S),zA (Am b S)] 62))=.ok (.tuple #[.agg #[.bool v],.bool true]) ((((w.alloc (zh #[.map (some rk),.map (some m)] 101)).alloc (zh #[.string a.name,.slice aa a.args.length ca,zA (Am a S),zA (Ab [a])] 104)).alloc (zh #[.string b.name,.slice ab b.args.length cb,zA (Am b S),zA (Ab [b])] 104)).alloc (zh #[zA (Am a S),zA (Am b S)] 62)):=hrun;clear hrun B;go_enter func54,ntmps54;go_wp2_with fail;go_ret;refine⟨by rw[<-HV.o]; rfl,?_,((c.o.ex.alloc _).alloc _)⟩;exact(c.o.mp.kept (Ay _ _ _ c.o.mp.lt)).kept (Ay _ _ _ (by have:=c.o.mp.lt; simp at this ⊢; omega))
 ·have C:(Instr.lookup 99 (.map (some m)) (.agg #[zA (Am a S),zA (Am b S)]) true).run prog ((((w.alloc (zh #[.map (some rk),.map (some m)] 101)).alloc (zh #[.string a.name,.slice aa a.args.length ca,zA (Am a S),zA (Ab [a])] 104)).alloc (zh #[.string b.name,.slice ab b.args.length cb,zA (Am b S),zA (Ab [b])] 104)).alloc (zh #[zA (Am a S),zA (Am b S)] 62))=.ok (.tuple #[.agg #[.bool false],.bool false]) ((((w.alloc (zh #[.map (some rk),.map (some m)] 101)).alloc (zh #[.string a.name,.slice aa a.args.length ca,zA (Am a S),zA (Ab [a])] 104)).alloc (zh #[.string b.name,.slice ab b.args.length cb,zA (Am b S),zA (Ab [b])] 104)).alloc (zh #[zA (Am a S),zA (Am b S)] 62)):=hrun;clear hrun;go_enter func54,ntmps54;go_wp2_with fail;have d:Hid (GQ row S rk m a b aa ca ab cb w (((((w.alloc (zh #[.map (some rk),.map (some m)] 101)).alloc (zh #[.string a.name,.slice aa a.args.length ca,zA (Am a S),zA (Ab [a])] 104)).alloc (zh #[.string b.name,.slice ab b.args.length cb,zA (Am b S),zA (Ab [b])] 104)).alloc (zh #[zA (Am a S),zA (Am b S)] 62)).alloc (zh #[.bool false] 135))):=(c.o.later ((Ag _ _).alloc (Al _) _)).later ((Ag _ _).alloc (Al _) _);have D:(((w.alloc (zh #[.map (some rk),.map (some m)] 101)).alloc (zh #[.string a.name,.slice aa a.args.length ca,zA (Am a S),zA (Ab [a])] 104)).alloc (zh #[.string b.name,.slice ab b.args.length cb,zA (Am b S),zA (Ab [b])] 104)).heap.size=w.heap.size+3:=by simp
  have KB:Hid (Ac (((((w.alloc (zh #[.map (some rk),.map (some m)] 101)).alloc (zh #[.string a.name,.slice aa a.args.length ca,zA (Am a S),zA (Ab [a])] 104)).alloc (zh #[.string b.name,.slice ab b.args.length cb,zA (Am b S),zA (Ab [b])] 104)).alloc (zh #[zA (Am a S),zA (Am b S)] 62)).alloc (zh #[.bool false] 135)) (w.heap.size+3) #[zA (Am a S),zA (Am b S)] 62):=(by have h:=(Ac.new (((w.alloc (zh #[.map (some rk),.map (some m)] 101)).alloc (zh #[.string a.name,.slice aa a.args.length ca,zA (Am a S),zA (Ab [a])] 104)).alloc (zh #[.string b.name,.slice ab b.args.length cb,zA (Am b S),zA (Ab [b])] 104)) #[zA (Am a S),zA (Am b S)] 62).alloc (zh #[.bool false] 135);rw[D]at h;exact h);have KK:Hid (Ac (((((w.alloc (zh #[.map (some rk),.map (some m)] 101)).alloc (zh #[.string a.name,.slice aa a.args.length ca,zA (Am a S),zA (Ab [a])] 104)).alloc (zh #[.string b.name,.slice ab b.args.length cb,zA (Am b S),zA (Ab [b])] 104)).alloc (zh #[zA (Am a S),zA (Am b S)] 62)).alloc (zh #[.bool false] 135)) (w.heap.size+4) #[.bool false] 135):=(by have h:=Ac.new ((((w.alloc (zh #[.map (some rk),.map (some m)] 101)).alloc (zh #[.string a.name,.slice aa a.args.length ca,zA (Am a S),zA (Ab [a])] 104)).alloc (zh #[.string b.name,.slice ab b.args.length cb,zA (Am b S),zA (Ab [b])] 104)).alloc (zh #[zA (Am a S),zA (Am b S)] 62)) #[.bool false] 135;have e4:((((w.alloc (zh #[.map (some rk),.map (some m)] 101)).alloc (zh #[.string a.name,.slice aa a.args.length ca,zA (Am a S),zA (Ab [a])] 104)).alloc (zh #[.string b.name,.slice ab b.args.length cb,zA (Am b S),zA (Ab [b])] 104)).alloc (zh #[zA (Am a S),zA (Am b S)] 62)).heap.size=w.heap.size+4:=(by simp);rw[e4]at h;exact h);clear D C;generalize ((((w.alloc (zh #[.map (some rk),.map (some m)] 101)).alloc (zh #[.string a.name,.slice aa a.args.length ca,zA (Am a S),zA (Ab [a])] 104)).alloc (zh #[.string b.name,.slice ab b.args.length cb,zA (Am b S),zA (Ab [b])] 104)).alloc (zh #[zA (Am a S),zA (Am b S)] 62)).alloc (zh #[.bool false] 135)=w5 at *;refine(qW U a b _ _ _ X V j (y.o.ex d.o.ex d.o.mp) (by exact W.o.ex d.o.ex j) (by exact Y.o.ex d.o.ex j)).mono ?_;rintro e f ⟨rfl,n,g⟩;have E:=Aa (d.o.step a1 n g);have F:=Aa (KB.o.ex g (by omega));have q:=Aa (KK.o.ex g (by omega));have G:CN (f.setCell (zD (w.heap.size+4) 0) (.bool (AC row a b))) m (Es row S):=n.kept (An _ _ _ _ (by simp; omega));obtain⟨i,H,I,J,L,M,O,r⟩:=qS (P:=prog) WV underlying3 WW underlying99 G a6.o (v:=AC row a b) ⟨a,b,u,x,rfl,rfl⟩;have aw:(Instr.mapUpdate 99 (.map (some m)) (.agg #[zA (Am a S),zA (Am b S)]) (.agg #[.bool (AC row a b)])).run prog (f.setCell (zD (w.heap.size+4) 0) (.bool (AC row a b)))=.ok () i:=H;have E7:Hid (Ex m w i):=(by have h1:=E.o.ex.setNew (b:=w.heap.size+4) (by omega) 0 (.bool (AC row a b));exact⟨L.trans h1.os,M.trans h1.tape,O.trans h1.output,by rw[J]; exact h1.size,λk hk R=>(r k R).trans (h1.block k hk R)⟩);have a8:=Aa I;have aB:i.cell? (zD (w.heap.size+4) 0)=some (.bool (AC row a b)):=(by have h1:=q.o.set 0 (.bool (AC row a b));have h2:Ac i (w.heap.size+4) _ 135:=(r (w.heap.size+4) (by omega)).trans h1;exact h2.cell 0);have kf:=q.o.frozen 0;have aC:=q.o.c0;have z0:∀v,(f.setCell (zD (w.heap.size+4) 0) v).cell? (zD w.heap.size 1)=some (.map (some m)):=λv=>(E.o.k1.setOther 0 v (by omega)).cell 1;have z1:∀v,(f.setCell (zD (w.heap.size+4) 0) v).cell? (zD (w.heap.size+3) 0)=some (zA (Am a S)):=λv=>(F.o.setOther 0 v (by omega)).cell 0;have z2:∀v,(f.setCell (zD (w.heap.size+4) 0) v).cell? (zD (w.heap.size+3) 1)=some (zA (Am b S)):=λv=>(F.o.setOther 0 v (by omega)).cell 1;clear n g G H I J L M O r;generalize T:AC row a b=z at *;have aA:=Aa T;clear T;go_wp2_with fail;go_ret;exact⟨by rw[aA.o]; rfl,a8.o,E7.o⟩
theorem W4 (row:List ByteArray) (S:List Tm) (rk m:Nat) (c:S.length<9000000000000000000):∀N,LU row S rk m N
 |0=>λa b d e w X f _ _ _ _=>by have:=I1 a; omega
 |N+1=>by
  have g:=Aa (W4 row S rk m c N);intro a b d e w X f h hP ha hb;exact qX c g a b d e w X f h hP ha hb
def FW (w:World) (r:Nat) (f:ByteArray->Int):Prop:=∃L,AO w r L/\(∀p∈L,p.2=zA (f p.1))/\(∀v,AG L v=none->f v=0)/\(L.map (·.1)).Nodup
theorem FW.lt {f:ByteArray->Int} (h:FW w r f):r<w.heap.size:=by obtain⟨L,h,_⟩:=h; exact h.lt
theorem FW.kept {f:ByteArray->Int} (h:FW w r f) (hk:w'.heap[r]? = w.heap[r]?):FW w' r f:=by obtain⟨L,h,h2⟩:=h; exact⟨L,h.kept hk,h2⟩
theorem FW.congr {f g:ByteArray->Int} (h:FW w r f) (e:∀v,f v=g v):FW w r g:=by
 have:f=g:=funext e;rw[<-this]; exact h
theorem W8 {n:ByteArray} {v:Value}:∀ {L:List (ByteArray×Value)},AG L n=some v->(n,v)∈L
 | [],h=>by simp[AG] at h
 |p::L,h=>by
  by_cases hp:p.1=n
  ·simp only[AG,hp,F4,Gr] at h;obtain⟨a,b⟩:=p;simp only at hp h;subst hp; subst h;simp
  ·rw[AG,Ah hp]at h;exact N7 _ (W8 h)
theorem Kv {n:ByteArray}:∀ {L:List (ByteArray×Value)},AG L n=none↔n∉L.map (·.1)
 | []=>by simp[AG]
 |p::L=>by
  by_cases hp:p.1=n
  ·simp[AG,hp]
  ·rw[AG,Ah hp,Kv,Bo,Bh,not_or];exact⟨λh=>⟨λe=>hp e.symm,h⟩,λh=>h.2⟩
theorem QF (n:ByteArray) (v:Value):∀L:List (ByteArray×Value),(EO L n v).map (·.1)=L.map (·.1)
 | []=>rfl
 |p::L=>by
  by_cases hp:p.1=n
  ·simp[EO,hp]
  ·simp[EO,hp,QF n v L]
theorem Xa {n:ByteArray} {v:Value}:∀ {L:List (ByteArray×Value)},(L.map (·.1)).Nodup->∀p∈EO L n v,p=(n,v)∨(p∈L/\p.1≠n)
 | [],_,p,h=>by simp[EO] at h
 |q::L,a,p,h=>by
  rw[Bo,List.nodup_cons]at a;by_cases hq:q.1=n
  ·rw[EO,Ao hq,Bh]at h;rcases h with rfl|h
   ·exact Ae (by rw[hq])
   ·refine Ad ⟨N7 _ h,λe=>a.1 ?_⟩;rw[hq,<-e];exact Bk.2 ⟨p,h,rfl⟩
  ·rw[EO,Ah hq,Bh]at h;rcases h with rfl|h
   ·exact Ad ⟨by simp,hq⟩
   ·rcases Xa a.2 p h with h|⟨h,h'⟩
    ·exact Ae h
    ·exact Ad ⟨N7 _ h,h'⟩
def Jm (f:ByteArray->Int) (n:ByteArray) (d:Int):ByteArray->Int:=λv=>if n=v then f v+d else f v
theorem FW.look {f:ByteArray->Int} (h:FW w r f) (n:ByteArray):(Instr.lookup 96 (.map (some r)) (.string n) false).run prog w=.ok (zA (f n)) w:=by
 obtain⟨L,b,h1,h2,h3⟩:=h;rw[OG (P:=prog) underlying96 underlying9 (zeroValue3 w) b n];cases a:AG L n with
 |none=>rw[h2 n a]; rfl
 |some z=>have e:z=zA (f n):=h1 _ (W8 a);rw[e]; rfl
theorem FW.put {f:ByteArray->Int} (h:FW w r f) (n:ByteArray) (d:Int):
  ∃w',(Instr.mapUpdate 96 (.map (some r)) (.string n) (zA (f n+d))).run prog w=.ok () w'/\FW w' r (Jm f n d)/\Ex r w w':=by
 obtain⟨L,l,h1,h2,h3⟩:=h;cases g:AG L n with
 |none=>
  obtain⟨w',i,aa,hz,ho,ht,hu,hk⟩:=Iw (P:=prog) underlying96 underlying9 l n (zA (f n+d)) g;have ab:=Kv.1 g;refine⟨w',i,⟨_,aa,λp hp=>?_,λv hv=>?_,?_⟩,⟨ho,ht,hu,by omega,λk _ j=>hk k j⟩⟩
  ·rw[Ba]at hp;rcases hp with hp|hp
   ·have c:n≠p.1:=λe=>ab (Bk.2 ⟨p,hp,e.symm⟩);rw[h1 p hp,Jm,Ah c]
   ·have e:p=(n,zA (f n+d)):=(by simpa using hp);rw[e,Jm,Ao rfl]
  ·rw[Kv,CI,Ba,not_or]at hv;have c:n≠v:=λe=>hv.2 (by simp[e]);rw[Jm,Ah c];exact h2 v (Kv.2 hv.1)
  ·rw[CI,List.nodup_append];refine⟨h3,by simp,λa ha b hb=>?_⟩;have e:b=n:=(by simpa using hb);rw[e];exact λm=>ab (by rw[<-m]; exact ha)
 |some z=>
  obtain⟨w',i,aa,hz,ho,ht,hu,hk⟩:=RC (P:=prog) underlying96 underlying9 l n (zA (f n+d)) z g;refine⟨w',i,⟨_,aa,λp hp=>?_,λv hv=>?_,by rw[QF]; exact h3⟩,⟨ho,ht,hu,by omega,λk _ j=>hk k j⟩⟩
  ·rcases Xa h3 p hp with e|⟨hp,c⟩
   ·rw[e,Jm,Ao rfl]
   ·rw[h1 p hp,Jm,Ah λe=>c e.symm]
  ·rw[Kv,QF,<-Kv]at hv;have c:n≠v:=λe=>by rw[e,hv] at g; cases g
   rw[Jm,Ah c];exact h2 v hv
theorem TV.bfr {b:Nat} (h:TV w X v t) (d:Dq w w' b q c) (a:∀x,X x->x≠b/\some x≠q.ownBlock):TV w' X v t:=by
 have h1:TV w (λx=>X x/\x<w.heap.size) v t:=h.mono λb h1 h2=>⟨h1,h2⟩;have h2:TV w' (λx=>X x/\x<w.heap.size) v t:=h1.kept λx hx=>d.2.2.2.2.1 x hx.2 (a x hx.1).1 (a x hx.1).2;exact h2.mono λb hx _=>hx.1
theorem Sl.bfr {a:Option Addr} {b:Nat} (h:Sl w X a l) (e:Dq w w' b q d) (c:∀x,X x->x≠b/\some x≠q.ownBlock):Sl w' X a l:=by
 have h1:Sl w (λx=>X x/\x<w.heap.size) a l:=h.mono λb h1 h2=>⟨h1,h2⟩;have h2:Sl w' (λx=>X x/\x<w.heap.size) a l:=h1.kept λx hx=>e.2.2.2.2.1 x hx.2 (c x hx.1).1 (c x hx.1).2;exact h2.mono λb hx _=>hx.1
theorem Dk.alloc {b:Nat} {a:List Value} (h:Dk w B b a v) (o:Obj):Dk (w.alloc o) B b a v:=by
 obtain⟨c,⟨p,hp,hb⟩,aa⟩:=h;exact⟨c,⟨p,hp,by rw[Ay _ _ _ (K8 hb)]; exact hb⟩,aa.alloc o⟩
theorem Dk.lt {b:Nat} {a:List Value} (h:Dk w B b a v):b<w.heap.size:=by
 obtain⟨_,⟨p,_,hb⟩,_⟩:=h;exact K8 hb
theorem Dk.old {b:Nat} {a:List Value} (h:Dk w B b a v) {x:Nat} (hx:x<B):x≠b/\some x≠v.ownBlock:=by
 refine⟨by have:=h.1; omega,λe=>?_⟩;have:=(h.2.2.lt x e.symm).1; omega
theorem Ac.bfr {b T:Nat} {a:Value} {cs:Array Value} (h:Ac w k cs T) (c:Dq w w' b q a) (hk:k≠b) (hq:some k≠q.ownBlock):Ac w' k cs T:=by
 unfold Ac at *; rw[c.2.2.2.2.1 k (Ac.lt h) hk hq]; exact h
def Eh (l:List UInt8):List Value:=l.map λb=>Value.int .u8 b.toNat
theorem NT (l:List UInt8):(Eh l).length=l.length:=by simp[Eh]
theorem qY (pre:List UInt8) (s:ByteArray):Eh pre++Lib.strCells s=Eh (pre++s.data.toList):=by simp[Eh,Lib.strCells]
theorem QG (pre:List UInt8) (c:UInt8):Eh pre++[.int .u8 c.toNat]=Eh (pre++[c]):=by simp[Eh]
theorem Dk.box {b:Nat} {a:List Value} (h:Dk w B b a v):w.heap.size≠b/\some w.heap.size≠v.ownBlock:=by
 refine⟨by have:=h.lt; omega,λe=>?_⟩;have:=(h.2.2.lt _ e.symm).2; omega
theorem qZ {wr:World} {b:Nat} {a:Value} {o:Obj} (h:some w.heap.size≠a.ownBlock) (c:Dq (w.alloc o) wr b a q):some w.heap.size≠q.ownBlock:=λe=>by
 rcases c.2.2.2.2.2 _ e.symm with h1|h1
 ·exact h h1.symm
 ·simp at h1; omega
def rA (w:World) (B b:Nat) (v0:Value) (pre:List UInt8) (s:ByteArray) (l:List Tm) (i:Value) (wr:World):Prop:=
 ∃(k:Nat) (q:Value),k<=l.length/\i=zA k/\Dk wr B b (Eh (pre++s.data.toList++40::AK (l.take k))) q/\Dq w wr b v0 q
theorem rB (pre:List UInt8) (s:ByteArray) (l:List Tm):pre++s.data.toList++([40]:List UInt8)=pre++s.data.toList++40::AK (l.take 0):=by simp[AK]
theorem rC (pre:List UInt8) (s:ByteArray) (l:List Tm) (h:0<l.length):pre++s.data.toList++40::AK (l.take 0)++AK [l[0]'h]=pre++s.data.toList++40::AK (l.take (0+1)):=by
 rw[Ci h]; simp[AK]
theorem rD (pre:List UInt8) (s:ByteArray) (l:List Tm) (k:Nat) (hk:0<k) (h:k<l.length):pre++s.data.toList++40::AK (l.take k)++([44]:List UInt8)++AK [l[k]]=pre++s.data.toList++40::AK (l.take (k+1)):=by
 have h1:l.take k≠[]:=(by intro e;have h3:=Cb List.length e;rw[List.length_take]at h3;simp only[DB] at h3;omega);rw[Ci h,Rr _ _ h1 (by simp)]; simp
theorem rE (pre:List UInt8) (s:ByteArray) (l:List Tm) (h:l≠[]):pre++s.data.toList++40::AK l++([41]:List UInt8)=pre++AK [(⟨s,l⟩:Tm)]:=by
 rw[IX,Ah (by simpa using h)]; simp
theorem QH (pre:List UInt8) (s:ByteArray) (l:List Tm) (k:Nat) (h:l≠[]) (hk:k<=l.length):(pre++s.data.toList++40::AK (l.take k)).length<=pre.length+(AK [(⟨s,l⟩:Tm)]).length:=by
 by_cases h0:k=0
 ·subst h0;rw[IX,Ah (by simpa using h)];simp[AK]
 ·have h1:=Yi s l k hk;unfold OA at h1;rw[Ah h0]at h1;simp only[Cv] at *;omega
theorem rF (t:Tm):∀(v f:Value) (pre:List UInt8) (B b:Nat) (w:World) (X:Nat->Prop),TV w X v t->(∀x,X x->x<B)->Dk w B b (Eh pre) f->B<=w.heap.size->pre.length+(AK [t]).length<=900000000->
  Calls prog 123 #[zC b,v] w λe w'=>e=.returned (.tuple #[])/\∃q,Dk w' B b (Eh (pre++AK [t])) q/\Dq w w' b f q:=by
 induction t using Tm.ind with
 |h s l Z=>
  intro v f pre B b w X hv C H hB aQ;have IH:=Aa Z;clear Z;obtain⟨a,c,rfl,hs⟩:=hv;have hl:=hs.1;have aR:s.size<=(AK [(⟨s,l⟩:Tm)]).length:=by
   rw[IX]; have h2:s.data.toList.length=s.size:=by rw[L8]; rfl
   simp only[Cv]; omega
  have aE:=Aa H;have D:=H.box;clear H;go_enter func123,ntmps123;go_wp2_with fail;refine(Yo B b _ f s _ (by exact aE.o.alloc _) (by rw[NT]; omega) (by simp; omega)).mono ?_;rintro e w1 ⟨rfl,q1,I,J⟩;rw[qY]at I;have K1:=Aa ((Ac.new w #[.string s,.slice a l.length c] 31).bfr J D.1 D.2);have E:=Aa J;have aF:=Aa (Dq.of_below ((Ag w.heap.size w).alloc (Al _) (.cells #[.string s,.slice a l.length c] 31)) b f);have c1:=K1.o.c1;have ax:=Aa I;clear J I;by_cases j:l=[]
  ·subst j;have d:=Aa (Yh s);go_wp2_with fail;refine Aq (v:=.tuple #[]) (by simp[results,results123,go_sem]) rfl ?_;exact⟨rfl,q1,by rw[d.o]; exact ax.o,aF.o.trans E.o⟩
  ·have aS:0<l.length:=Gq.2 j;have aK:(((l.length:Nat):Int)==0)=false:=by simp; omega
   have L:=Aa j;have aG:=QH pre s l 0 j (Be _);have aT:(Eh (pre++s.data.toList)).length<=900000000:=by rw[NT]; simp only[Cv,Bg] at aG ⊢; omega
   clear j aG;go_wp2_with fail;refine(OC B b _ q1 40 _ (by exact ax.o) (by omega) (by have:=E.o.2.2.2.1; simp at this; omega)).mono ?_;rintro e w2 ⟨rfl,q2,ay,M⟩;have al:Dk w2 B b (Eh (pre++s.data.toList++40::AK (l.take 0))) q2:=by
    have h3:=QG (pre++s.data.toList) 40;rw[<-rB,<-h3]; exact ay
   have a7:=Aa al;have a8:=Aa (E.o.trans M);have K2:=Aa (K1.o.bfr M D.1 (qZ D.2 E.o));have c2:=K2.o.c1;clear ay al M c1;go_wp2_with fail;go_loopw [19] (λi wr=>rA (w.alloc (zh #[.string s,.slice a l.length c] 31)) B b f pre s l i wr) (λi wr=>l.length-(intOf i).toNat);case atStart=>exact⟨0,q2,Be _,rfl,a7.o,a8.o⟩
   case round=>
    obtain⟨k,q,hk,rfl,m,n⟩:=hrel;have F:=Aa m;have N:=Aa n;have O:=QH pre s l k L.o hk;have aL:B<=wr.heap.size:=by have:=n.2.2.2.1; simp at this; omega
    by_cases r:k<l.length
    ·have aH:=(hs.later ((Ag w.heap.size w).alloc (Al _) (.cells #[.string s,.slice a l.length c] 31))).bfr n (λx hx=>aE.o.old (C x hx));obtain⟨bx,o,a',c',rfl,d0,d1,hx⟩:=aH.get (Ag wr.heap.size wr) (λ_ _ h=>h) k r;have HX:=Aa hx;have g:=QH pre s l (k+1) L.o (by omega);clear m n aH hx;by_cases aI:k=0
     ·subst aI;simp only[Nat.zero_mul,Hp] at d0 d1;have d:=Aa (rC pre s l r);have P:(pre++s.data.toList++40::AK (l.take 0)).length+(AK [l[0]]).length<=900000000:=by
       rw[<-d.o]at g; simp only[Cv] at g ⊢; omega
      clear O g;go_wp2_with fail;refine(IH.o _ (AM r) _ q _ B b _ X (by exact HX.o.alloc _) C (by exact F.o.alloc _) (by simp; omega) P).mono ?_;rintro e w5 ⟨rfl,R,u,y⟩;have T:=Aa u;have U:=Aa (N.o.trans ((Dq.of_below ((Ag wr.heap.size wr).alloc (Al _) _) b q).trans y));clear u y;go_wp2_with fail;go_roundw
      case rel=>exact⟨0+1,R,by omega,by go_num,by rw[<-d.o]; exact T.o,U.o⟩
      case measure=>simp[intOf]; omega
     ·have aM:0<k:=(by omega);have d:=Aa (rD pre s l k aM r);have P:(pre++s.data.toList++40::AK (l.take k)++([44]:List UInt8)).length+(AK [l[k]]).length<=900000000:=(by rw[<-d.o]at g; simp only[Cv] at g ⊢; omega);have a1:(Eh (pre++s.data.toList++40::AK (l.take k))).length<=1000000000:=by rw[NT]; omega
      clear O g aI;go_wp2_with fail;refine(OC B b _ q 44 _ (by exact F.o.alloc _) a1 (by simp; omega)).mono ?_;rintro e G ⟨rfl,z,A,aa⟩;have ab:Dk G B b (Eh (pre++s.data.toList++40::AK (l.take k)++([44]:List UInt8))) z:=by
       have h3:=QG (pre++s.data.toList++40::AK (l.take k)) 44;rw[<-h3]; exact A
      have aN:=Aa ((HX.o.alloc (ze l[k] a' c')).bfr aa (λx hx=>F.o.old (C x hx)));have V:=F.o.box;have K4:=Aa ((Ac.new wr (zF l[k] a' c') 31).bfr aa V.1 V.2);have e0:=K4.o.c0;have e1:=K4.o.c1;have aO:B<=G.heap.size:=by have:=aa.2.2.2.1; simp at this; omega
      have W:=Aa ab;have Y:=Aa (N.o.trans ((Dq.of_below ((Ag wr.heap.size wr).alloc (Al _) _) b q).trans aa));clear A ab aa V;go_wp2_with fail;refine(IH.o _ (AM r) _ z _ B b _ X (by exact aN.o) C (by exact W.o) aO P).mono ?_;rintro e w5 ⟨rfl,R,u,y⟩;have T:=Aa u;have U:=Aa (Y.o.trans y);clear u y;go_wp2_with fail;go_roundw
      case rel=>exact⟨k+1,R,by omega,by go_num,by rw[<-d.o]; exact T.o,U.o⟩
      case measure=>simp[intOf]; omega
    ·have aJ:l.take k=l:=BH (by omega);have a1:(Eh (pre++s.data.toList++40::AK (l.take k))).length<=1000000000:=by rw[NT]; omega
     rw[aJ]at m a1;have aP:=Aa m;have d:=Aa (rE pre s l L.o);clear m n O aJ;go_wp2_with fail;refine(OC B b _ q 41 _ (by exact aP.o) a1 aL).mono ?_;rintro e G ⟨rfl,z,A,aa⟩;have ab:Dk G B b (Eh (pre++AK [(⟨s,l⟩:Tm)])) z:=by
      have h3:=QG (pre++s.data.toList++40::AK l) 41;rw[<-d.o,<-h3]; exact A
     have W:=Aa ab;have Y:=Aa (aF.o.trans (N.o.trans aa));clear A ab aa;go_wp2_with fail;go_end0
     exact⟨rfl,z,W.o,Y.o⟩
theorem rG {s:ByteArray} (h:AF s=true):s.size<=8:=by
 simp[AF]at h; omega
theorem rH (l:List Tm) (h:Af l=0):(AK l).length<=11*Ab l:=by
 induction l using Tm.indL with
 |h0=>simp[AK]
 |h s l r aa ab=>
  rw[FD]at h;by_cases h0:Af [(⟨s,l⟩:Tm)]=0
  ·rw[Ao h0]at h;obtain⟨a,b⟩:=VZ h0;have h1:=aa b;have h2:=ab h;have h3:=rG a;have h4:s.data.toList.length=s.size:=by rw[L8]; rfl
   simp only[AK,Ab,Cv];split<;>split<;>simp only[DB,Bg,Cv]<;>omega
  ·rw[Ah h0]at h; exact absurd h h0
theorem rI (l:List UInt8):Eh l=Lib.byteCells l:=rfl
theorem rJ (t:Tm) (v:Value) (w:World) (X:Nat->Prop) (hv:TV w X v t) (hlen:(AK [t]).length<=1000000):
  Calls prog 106 #[v] w λe w'=>e=.returned (.string ⟨(AK [t]).toArray⟩)/\Below w.heap.size w w':=by
 obtain⟨d,s,u⟩:∃d:Nat->Prop,(∀b,d b->b<w.heap.size)/\TV w d v t:=⟨λb=>X b/\b<w.heap.size,λ_ h=>h.2,hv.mono λb h1 h2=>⟨h1,h2⟩⟩;clear hv;obtain⟨a,c,rfl,hs⟩:=u;have x:=Aa (show TV w d (.agg (zF t a c)) t from ⟨a,c,rfl,hs⟩);clear hs;generalize i:(.string ⟨(AK [t]).toArray⟩:Value)=R;have y:=Aa i;clear i;have j:=Aa (Ac.new w (zF t a c) 31);have f:=Aa ((Ag w.heap.size w).alloc (Al _) (ze t a c));have c0:∀o,((w.alloc (ze t a c)).alloc o).cell? (zD w.heap.size 0)=some (.string t.name):=λo=>(j.o.alloc o).cell 0;have c1:∀o,((w.alloc (ze t a c)).alloc o).cell? (zD w.heap.size 1)=some (.slice a t.args.length c):=λo=>(j.o.alloc o).cell 1;have l:Hid (Dk ((w.alloc (ze t a c)).alloc (zh #[.pointer none,zB] 189)) (w.heap.size+1) (w.heap.size+1) (Eh []) zB):=⟨Al _,⟨_,Ae rfl,by have h:=Fk (w.alloc (ze t a c)) (.cells #[.pointer none,zB] 189); simpa using h⟩,GT _ _ _ _⟩;go_enter func106,ntmps106;go_wp2_with fail;have m:(w.alloc (ze t a c)).heap.size=w.heap.size+1:=by simp
 generalize (w.alloc (ze t a c))=w1 at *;rw[<-m]at l ⊢;clear m;refine(rF t _ _ [] w1.heap.size w1.heap.size _ d (by exact(x.o.later f.o).alloc _) (λb hb=>by have:=s b hb; have:=f.o.size; omega) (by exact l.o) (by simp) (by simp; omega)).mono ?_;rintro e w3 ⟨rfl,g,ab,aa⟩;have z:Hid (Lib.IsBuilder 189 5 w1.heap.size w1.heap.size (Lib.byteCells (AK [t])) w3):=by
  have h1:Dk w3 w1.heap.size w1.heap.size (Lib.byteCells (AK [t])) g:=by simpa [rI] using ab
  have n:=Rx h1;obtain⟨g1,⟨p,hp,hb⟩,q⟩:=h1;rcases hp with rfl|rfl
  ·exact Ae ⟨g1,g,hb,q,n⟩
  ·exact Ad ⟨g1,g,hb,q,n⟩
 have r:w1.heap.size<=w3.heap.size:=by have:=aa.2.2.2.1; simp at this; omega
 have A:Hid (Below w.heap.size w w3):=(by refine f.o.trans ⟨aa.1,aa.2.1,aa.2.2.1,r,λk hk=>?_⟩;have B:k<w1.heap.size:=B7 hk f.o.size;rw[aa.2.2.2.2.1 k (by simp; omega) (by omega) (by simp[Value.ownBlock]),Ay _ _ _ B]);clear ab aa c0 c1;go_wp2_with fail;refine(Tryz.Builder_String_any w1.heap.size w1.heap.size (AK [t]) _ z.o r).mono ?_;rintro e w4 ⟨rfl,C⟩;go_wp2_with fail;go_ret;exact⟨by rw[<-y.o]; rfl,A.o.trans (C.mono f.o.size)⟩
theorem Tryz.infoItem:(prog.info? 104).map (λi=>(i.zero,i.size,i.bytes))=some (some (.agg #[.string ByteArray.empty,zB,zA 0,zA 0]),4,56):=by kernel_rfl
theorem rK (w:World) (c0 c1 c2 c3:Value) (T:Nat):∀j u,[c0,c1,c2,c3][j]? = some u->(w.alloc (zh #[c0,c1,c2,c3] T)).cell? (((zD w.heap.size 0):Addr).add j)=some u:=
 World.news_of_block (cs:=#[c0,c1,c2,c3]) (Fk w _)
theorem Xb {xs:List Value} (h:Dj w N 104 S v l xs) (hN:N<=w.heap.size) {M:Nat} (ab:N<=M) {a:Option Addr} {c:Nat} (e:∀b,some b=v.ownBlock->b<M)
  (ht:IV w (λb=>M<=b) S (.agg #[.string t.name,.slice a t.args.length c,zA (Am t S),zA (Ab [t])]) t) (hn:l.length<=1000000) (A:Nat) (f:w.heap.size=A):
  ∃g cap w3 i,(Builtin.append_ #[102,102] 102 #[v,.slice (some (zD A 0)) 1 1]).run prog (w.alloc (zh #[.string t.name,.slice a t.args.length c,zA (Am t S),zA (Ab [t])] 104))=.ok (.slice (some (zD g 0)) (l.length+1) cap) w3/\Dj w3 N 104 S (.slice (some (zD g 0)) (l.length+1) cap) (l++[t]) i/\
   (w.alloc (zh #[.string t.name,.slice a t.args.length c,zA (Am t S),zA (Ab [t])] 104)).grownBy w3 v.ownBlock/\(v.ownBlock=some g∨w.heap.size<=g):=by
 subst f;obtain⟨i0,hi,j,k,m⟩:=DO Tryz.infoItem;obtain⟨g,cap,w3,n,ho,d,aa,hlt⟩:=run_append_lies (P:=prog) (w:=w.alloc (zh #[.string t.name,.slice a t.args.length c,zA (Am t S),zA (Ab [t])] 104)) 102 102 N 104 i0 _ 4 56 underlying102 hi j k m rfl (by decide) v l.length xs (h.own.alloc _)
  (zD w.heap.size 0) 1 1 [.string t.name,.slice a t.args.length c,zA (Am t S),zA (Ab [t])] rfl (rK _ _ _ _ _ _) (λy hy=>by simp at hy; rcases hy with rfl|rfl|rfl|rfl<;>rfl) (by decide) (by unfold maxLen; omega) (by omega) (by simp; omega) _ rfl
 refine⟨g,cap,w3,_,n,h.push ab e ht _ rfl ho d aa,d,?_⟩;rcases aa with h1|h1
 ·exact Ae h1
 ·right; simp at h1; omega
theorem rL {L:List (ByteArray×Value)} (h:AO w r L) {T a b ty:TypeId} (hm:P.underlying T=some (.map a b)):(Builtin.len_ #[T] ty #[.map (some r)]).run P w=.ok (zA L.length) w:=by
 obtain⟨es,aa,hb,he,_⟩:=h;have:es.size=L.length:=by simpa using Cb List.length he
 simp[Builtin.len_,Fl hm,F5 hb,goInt,Result.andThen,this]
def Kw (r B O:Nat) (t:Tm) (a:Option Addr) (c:Nat) (S1:List Tm) (w:World) (i:Value) (wr:World):Prop:=
 ∃(k:Nat) (R0 S2:List Tm) (vr:Value) (xs:List Value),k<=t.args.length/\i=zA k/\((∃R,S2=S1++R)/\S2.length<=S1.length+Ab (t.args.take k))/\(∀x∈S2,Af [x]=0)/\Ac wr O #[.string t.name,vr,zA (Am t S1),zA (1+Ab (t.args.take k))] 104/\
  Dj wr (O+1) 104 S2 vr (t.args.take k) xs/\AO wr r (EG 0 S2)/\Ac wr B (zF t a c) 31/\Ac wr (B+1) #[.string ⟨#[]⟩,zB,zA 0,zA 0] 104/\Ex r w wr
theorem Xc (t:Tm):∀(S:List Tm) (r:Nat) (v:Value) (w:World) (X:Nat->Prop),Af [t]=0->Ab [t]<=20000->(∀x∈S,Af [x]=0)->AO w r (EG 0 S)->TV w X v t->(∀b,X b->b≠r)->
  Calls prog 82 #[v,.map (some r)] w λe w'=>∃S' v',e=.returned v'/\((∃R,S'=S++R)/\S'.length<=S.length+Ab [t])/\(∀x∈S',Af [x]=0)/\AO w' r (EG 0 S')/\IV w' (λb=>w.heap.size<=b) S' v' t/\Ex r w w':=by
 induction t using Tm.ind with
 |h s l ih=>
  intro S r v w X he b9 hS D hv aR;obtain⟨a,c,rfl,hs⟩:=hv;have IH:=Aa ih;have HS:=Aa hs;have hl:=hs.1;have bo:=D.lt;have bp:r<w.heap.size:=bo;have aI:Hid (∀k (h:k<l.length),Af [l[k]]=0):=λk h=>NE (MA he) k h;have b0:Ab [(⟨s,l⟩:Tm)]=1+Ab l:=by simp[Ab]
  have aS:Hid (Ab l+1<=20000):=Aa (by omega);have bq:Hid (∀k (h:k<l.length),Ab [l[k]]<=Ab l):=λk h=>by
   have:=Cw (t:=⟨s,l⟩) (AM h);omega
  have b1:=Aa (rH [(⟨s,l⟩:Tm)] he);have HE:=Aa he;have HT:=Aa (show TV w X (.agg #[.string s,.slice a l.length c]) (⟨s,l⟩:Tm) from ⟨a,c,rfl,hs⟩);have br:=Aa D;have aU:=Aa hS;clear ih hs D hS;go_enter func82,ntmps82;go_wp2_with fail;refine(rJ (⟨s,l⟩:Tm) _ _ X (by exact(HT.o.alloc _).alloc _) (by have:=b1.o; omega)).mono ?_;rintro e w1 ⟨rfl,aF⟩;have N:Hid (Below w.heap.size w w1):=((((Ag w.heap.size w).alloc (Al _) (.cells #[.string s,.slice a l.length c] 31)).alloc (by simp) (.cells #[.string ⟨#[]⟩,zB,zA 0,zA 0] 104)).trans (aF.mono (by simp; omega)));have KT:Hid (Ac w1 w.heap.size #[.string s,.slice a l.length c] 31):=((Ac.new w _ _).alloc _).below aF (by simp; omega);have KQ:Hid (Ac w1 (w.heap.size+1) #[.string ⟨#[]⟩,zB,zA 0,zA 0] 104):=(by have h:=Ac.new (w.alloc (zh #[.string s,.slice a l.length c] 31)) #[.string ⟨#[]⟩,zB,zA 0,zA 0] 104;have e:(w.alloc (zh #[.string s,.slice a l.length c] 31)).heap.size=w.heap.size+1:=(by simp);rw[e]at h;exact h.below aF (by simp));have T:=Aa (br.o.below N.o bo);have O:Hid (Ex r w w1):=⟨N.o.os,N.o.tape,N.o.output,N.o.size,λk hk _=>N.o.block k hk⟩;clear aF br;have U:=WH HE.o S 0 aU.o;have hz:=zeroValue3 w1;by_cases aG:Am (⟨s,l⟩:Tm) S<S.length
  ·rw[Ao aG]at U;have ax:(Instr.lookup 96 (.map (some r)) (.string ⟨(AK [(⟨s,l⟩:Tm)]).toArray⟩) true).run prog w1=.ok (.tuple #[zA (Am (⟨s,l⟩:Tm) S),.bool true]) w1:=by
    rw[El (P:=prog) underlying96 underlying9 hz T.o _];rw[show(⟨(AK [(⟨s,l⟩:Tm)]).toArray⟩:ByteArray)=GO ⟨s,l⟩ from rfl,U];simp
   clear U hz;obtain⟨d,y⟩:∃d,d=S:=⟨S,rfl⟩;obtain⟨w2,aH⟩:∃w2,w2=w1:=⟨w1,rfl⟩;obtain⟨A,V⟩:∃A:Int,A=Am (⟨s,l⟩:Tm) S:=⟨_,rfl⟩;rw[<-V,<-aH]at ax;have aV:Hid ((Am (⟨s,l⟩:Tm) d:Int)=A):=Aa (by rw[y,V]);have aJ:Hid ((⟨s,l⟩:Tm)∈d):=Aa (by rw[y];exact Ol.1 aG);have GS:Hid ((∃R,d=S++R)/\d.length<=S.length+1):=⟨⟨[],by rw[y]; simp⟩,by rw[y]; omega⟩;have ES:Hid (∀x∈d,Af [x]=0):=Aa (by rw[y];exact aU.o);have M2:Hid (AO w2 r (EG 0 d)):=Aa (by rw[y,aH];exact T.o);have E:Hid (Ac w2 w.heap.size #[.string s,.slice a l.length c] 31):=Aa (by rw[aH];exact KT.o);have KR:Hid (Ac w2 (w.heap.size+1) #[.string ⟨#[]⟩,zB,zA 0,zA 0] 104):=Aa (by rw[aH];exact KQ.o);have E2:Hid (Ex r w w2):=Aa (by rw[aH];exact O.o);clear T KT KQ O N y V aG;subst aH;have Q0:∀o,(w2.alloc o).cell? (zD w.heap.size 0)=some (.string s):=λo=>(E.o.alloc o).cell 0;have Q1:∀o,(w2.alloc o).cell? (zD w.heap.size 1)=some (.slice a l.length c):=λo=>(E.o.alloc o).cell 1;have Q2:=E.o.c0;have Q3:=E.o.c1;go_wp2_with fail;have af:Hid (Kw r w.heap.size w2.heap.size (⟨s,l⟩:Tm) a c d w (zA 0) (w2.alloc (zh #[.string s,zB,zA A,zA 1] 104))):=by
    refine⟨0,[],d,zB,[],Be _,rfl,⟨⟨[],by simp⟩,by simp⟩,ES.o,by have h:=Ac.new w2 #[.string s,zB,zA A,zA 1] 104; simpa [aV.o,Ab] using h,Dj.start _ _ _ _,M2.o.kept (Ay _ _ _ M2.o.lt),E.o.alloc _,KR.o.alloc _,E2.o.alloc _⟩
   generalize w2.alloc (zh #[.string s,zB,zA A,zA 1] 104)=w3 at *;clear Q0 Q1 Q2 Q3;have hO:w.heap.size+2<=w2.heap.size:=by have:=KR.o.lt; omega
   go_loopw [34] (λi wr=>Kw r w.heap.size w2.heap.size (⟨s,l⟩:Tm) a c d w i wr) (λi wr=>l.length-(intOf i).toNat);case atStart=>exact af.o
   case round=>
    clear af;obtain⟨k,R0,B,I,xs,hk,rfl,⟨⟨R,F⟩,aW⟩,a1,n,ab,D,J,q,L⟩:=hrel;have XO:=Aa n;have ao:=Aa ab;have W:=Aa D;have XT:=Aa J;have XR:=Aa q;have XE:=Aa L;have aK:=Aa a1;have c1:=J.c1;by_cases C:k<l.length
    ·have aX:(k:Int)<(l.length:Int):=(by omega);have aq:Sl wr X a l:=HS.o.exq (Ak.ofEx (Q:=λb=>b=r) L rfl) (λb hb=>aR b hb);obtain⟨b,o,a',c',rfl,d0,d1,hx⟩:=aq.get (Ag _ _) (λ_ _ h=>h) k C;have HX:=Aa hx;clear hx aq n ab D J q L a1;go_wp2_with fail;refine(IH.o l[k] (AM C) B r _ _ X (aI.o k C) (by have:=bq.o k C; omega) aK.o (W.o.kept (Ay _ _ _ W.o.lt)) (by exact HX.o.alloc _) aR).mono ?_;rintro e f ⟨z,v3,rfl,⟨⟨R3,aL⟩,aY⟩,ar,aM,aZ,Y⟩;obtain⟨au,a3,c3,rfl,av⟩:=aZ;have b2:w2.heap.size<wr.heap.size:=XO.o.lt;have g:Ex r wr f:=((Ex.refl r wr).alloc _).trans Y;have Z:r≠w2.heap.size:=by have:=bp; omega
     have ba:=g.size;have bb:wr.heap.size+1<=f.heap.size:=by have:=Y.size; simpa using this
     have aN:=Aa aL;have bc:=Aa F;clear F;have YO:=Aa (XO.o.ex g (λe=>Z e.symm));have YT:=Aa (XT.o.ex g (by omega));have YR:=Aa (XR.o.ex g (by omega));have YE:=Aa (XE.o.trans g);have YM:=Aa aM;have bd:=Aa ar;have YI:Hid (IV f (λb=>wr.heap.size+1<=b) z (.agg #[.string l[k].name,.slice a3 l[k].args.length c3,zA (Am l[k] z),zA (Ab [l[k]])]) l[k]):=⟨au,a3,c3,rfl,av.mono λb hb _=>by simp at hb; omega⟩;have aa:Hid (Dj f (w2.heap.size+1) 104 z I (l.take k) xs):=Aa (by rw[aN.o];exact(ao.o.kept (λb aF hb2=>g.block b hb2 (by omega)) ba g.os g.tape g.output).more R3);clear aM ar av Y g aL;have bf:(l.take k).length=k:=by simp; omega
     have b3:l.length<=20000:=by have:=E4 l; have:=aS.o; omega
     have aw:∀b,some b=I.ownBlock->b<wr.heap.size+1:=λb hb=>by have:=(ao.o.own.lt b hb.symm).2; omega
     obtain⟨g5,al,G,bg,hrun,ad,u,a8⟩:=Xb (t:=l[k]) (a:=a3) (c:=c3) (aa.o.kept (w':=f.alloc (zh #[.string l[k].name,.slice a3 l[k].args.length c3,zA (Am l[k] z),zA (Ab [l[k]])] 104)) (λb _ hb=>Ay _ _ _ hb) (by simp) rfl rfl rfl) (by simp; omega) (M:=wr.heap.size+1) (by omega) aw (YI.o.alloc _) (by omega) (f.heap.size+1) (by simp);rw[bf]at hrun ad;have aA:=Aa hrun;have H:Ac G w2.heap.size #[.string s,I,zA (Am (⟨s,l⟩:Tm) d),zA (1+Ab (l.take k))] 104:=((YO.o.alloc _).alloc _).grown u (aa.o.ne (by omega));have ZX:Ac G f.heap.size #[.string l[k].name,.slice a3 l[k].args.length c3,zA (Am l[k] z),zA (Ab [l[k]])] 104:=((Ac.new f _ _).alloc _).grown u (λe=>by have:=aw _ e; omega);have z0:=H.c1;have z1:=H.c3;have z2:=ZX.c3;have zf:=H.frozen;have aO:=DP l k C;have b4:Ab (l.take (k+1))<=20000:=by have h1:=Ej (l.take (k+1)) (l.drop (k+1)); rw[DM] at h1; have:=aS.o; omega
     have y1:∀o,(f.alloc o).cell? (zD w2.heap.size 1)=some I:=λo=>(YO.o.alloc o).cell 1;have YS:Ab [l[k]]<=20000:=(by omega);have aB:Hid (Kw r w.heap.size w2.heap.size (⟨s,l⟩:Tm) (some (zD b o)) c d w (zA ((k+1:Nat):Int)) ((G.setCell (zD w2.heap.size 1) (.slice (some (zD g5 0)) (k+1) al)).setCell (zD w2.heap.size 3) (zA (1+(Ab (l.take k):Int)+(Ab [l[k]]:Int))))):=by
      have b5:=u.size;refine⟨k+1,R0,z,(.slice (some (zD g5 0)) (k+1) al),bg,by show k+1<=l.length; omega,rfl,⟨⟨R++R3,by rw[aN.o,bc.o,DN]⟩,by show z.length<=d.length+Ab (l.take (k+1)); omega⟩,bd.o,?_,?_,?_,?_,?_,?_⟩
      ·have:=(H.set 1 (.slice (some (zD g5 0)) (k+1) al)).set 3 (zA (1+(Ab (l.take k):Int)+(Ab [l[k]]:Int)));simpa [aO,Int.add_assoc] using this
      ·have e:l.take (k+1)=l.take k++[l[k]]:=Ci C;rw[e];exact(ad.setCell (by omega) _).setCell (by omega) _
      ·have bh:=YM.o.lt;refine YM.o.kept ?_;rw[An _ _ _ _ (by simpa using Z),An _ _ _ _ (by simpa using Z),u.block r (by simp; omega) (λe=>by have:=(aa.o.own.lt r e.symm).1; omega),Ay _ _ _ (by simp; omega),Ay _ _ _ bh]
      ·exact((((YT.o.alloc _).alloc _).grown u (aa.o.ne (by omega))).setOther _ _ (by omega)).setOther _ _ (by omega)
      ·exact((((YR.o.alloc _).alloc _).grown u (aa.o.ne (by omega))).setOther _ _ (by omega)).setOther _ _ (by omega)
      ·exact((((YE.o.alloc _).alloc _).grown u (λj hj=>by have:=(aa.o.own.lt j hj).1; omega)).setNew (by omega) _ _).setNew (by omega) _ _
     have b6:Ab (l.take k)<=20000:=(by omega);clear hrun ad u a8 ZX aO;have y3:∀v,(G.setCell (zD w2.heap.size 1) v).cell? (zD w2.heap.size 3)=some (zA (1+Ab (l.take k))):=λv=>by rw[Aw _ _ _ _ (by simp)]; exact z1
     have y4:∀v,(G.setCell (zD w2.heap.size 1) v).cell? (zD f.heap.size 3)=some (zA (Ab [l[k]])):=λv=>by rw[Aw _ _ _ _ (by simp)]; exact z2
     have b7:=λv=>(H.set 1 v).frozen;go_wp2_with (at_builtin; refine Gt rfl _ _ _ _ rfl rfl rfl aA.o ?_);go_roundw
     case rel=>have h:=aB.o;have e:((k+1:Nat):Int)=(k:Int)+1:=(by omega);rw[e]at h;exact h
     case measure=>simp[intOf]; omega
    ·have aC:l.take k=l:=BH (by omega);rw[aC]at n ab;obtain⟨a9,c9,bj,aP⟩:=ab.sl;subst bj;have p0:=n.cell 0;have p1:=n.cell 1;have p2:=n.cell 2;have p3:=n.cell 3;have r0:=q.cell 0;have r1:=q.cell 1;have r2:=q.cell 2;have r3:=q.cell 3;have rf:=q.frozen;simp only[D7,Ei,Et] at p0 p1 p2 p3 r0 r1 r2 r3;have bk:=Aa aP;have bl:Hid (Ab [(⟨s,l⟩:Tm)]=1+Ab l):=Aa (by simp[Ab]);have aD:Hid (B.length<=d.length+Ab l):=Aa (by simpa [aC] using aW);have HZ:Hid ((1:Int)+Ab l=Ab [(⟨s,l⟩:Tm)]):=Aa (by simp[Ab]);have HN:Hid (Am (⟨s,l⟩:Tm) d=Am (⟨s,l⟩:Tm) B):=Aa (by rw[F,IU R aJ.o]);have bm:Hid ((⟨s,l⟩:Tm)∈B):=Aa (by rw[F];exact GX _ aJ.o);clear aP aC n ab D J q L a1;go_wp2_with fail;refine Aq (v:=.agg #[.string s,.slice a9 l.length c9,zA (Am (⟨s,l⟩:Tm) d),zA (1+Ab l)]) (by simp[results,results82,go_sem,Az,Aw,r0,r1,r2,r3]) rfl ?_;refine⟨B,_,rfl,?_,aK.o,?_,?_,?_⟩
     ·obtain⟨⟨R1,bn⟩,b8⟩:=GS.o;refine⟨⟨R1++R,by rw[F,bn,DN]⟩,?_⟩;have:=bl.o;have h3:B.length<=d.length+Ab l:=aD.o;omega
     ·refine W.o.kept ?_;have m:r≠w.heap.size+1:=(by omega);rw[An _ _ _ _ (by simpa using m),An _ _ _ _ (by simpa using m),An _ _ _ _ (by simpa using m),An _ _ _ _ (by simpa using m)]
     ·refine⟨bm.o,a9,c9,by rw[HZ.o,HN.o],?_⟩;refine(bk.o.kept λb hb=>?_).mono λb hb _=>by omega
      have m:b≠w.heap.size+1:=(by omega);rw[An _ _ _ _ (by simpa using m),An _ _ _ _ (by simpa using m),An _ _ _ _ (by simpa using m),An _ _ _ _ (by simpa using m)]
     ·exact(((XE.o.setNew (by omega) _ _).setNew (by omega) _ _).setNew (by omega) _ _).setNew (by omega) _ _
  ·rw[Ah aG]at U;have ax:(Instr.lookup 96 (.map (some r)) (.string ⟨(AK [(⟨s,l⟩:Tm)]).toArray⟩) true).run prog w1=.ok (.tuple #[zA 0,.bool false]) w1:=by
    rw[El (P:=prog) underlying96 underlying9 hz T.o _];rw[show(⟨(AK [(⟨s,l⟩:Tm)]).toArray⟩:ByteArray)=GO ⟨s,l⟩ from rfl,U];simp
   have hlen:(Builtin.len_ #[96] 3 #[.map (some r)]).run prog w1=.ok (zA (S.length:Int)) w1:=(by rw[rL T.o underlying96,WF]);obtain⟨w2,ay,bs,bt,bu,bw,bx,aT⟩:=Iw (P:=prog) underlying96 underlying9 T.o (GO ⟨s,l⟩) (zA (S.length:Int)) U;have aE:(Instr.mapUpdate 96 (.map (some r)) (.string ⟨(AK [(⟨s,l⟩:Tm)]).toArray⟩) (zA (S.length:Int))).run prog w1=.ok () w2:=ay;have bz:Am (⟨s,l⟩:Tm) S=S.length:=by have:=Mq (⟨s,l⟩:Tm) S; omega
   obtain⟨A,V⟩:∃A:Int,A=S.length:=⟨_,rfl⟩;rw[<-V]at hlen aE;obtain⟨d,y⟩:∃d,d=S++[(⟨s,l⟩:Tm)]:=⟨_,rfl⟩;have aQ:Ms S (⟨s,l⟩:Tm)=d:=by rw[y]; unfold Ms; rw[Ah aG]
   have aV:Hid ((Am (⟨s,l⟩:Tm) d:Int)=A):=Aa (by rw[<-aQ,XN,bz,V]);have aJ:Hid ((⟨s,l⟩:Tm)∈d):=Aa (by rw[y];simp);have GS:Hid ((∃R,d=S++R)/\d.length<=S.length+1):=⟨⟨_,y⟩,by rw[y]; simp⟩;have ES:Hid (∀x∈d,Af [x]=0):=by
    unfold Hid;rw[y];intro x hx;rw[Ba]at hx;rcases hx with hx|hx
    ·exact aU.o x hx
    ·have e:x=⟨s,l⟩:=(by simpa using hx);rw[e]; exact HE.o
   have M2:Hid (AO w2 r (EG 0 d)):=Aa (by rw[y,WG];simpa using bs);have E2:Hid (Ex r w w2):=⟨bu.trans O.o.os,bw.trans O.o.tape,bx.trans O.o.output,by rw[bt]; exact O.o.size,λk hk hn=>(aT k hn).trans (O.o.block k hk hn)⟩;have E:Hid (Ac w2 w.heap.size #[.string s,.slice a l.length c] 31):=(aT _ (by omega)).trans KT.o;have KR:Hid (Ac w2 (w.heap.size+1) #[.string ⟨#[]⟩,zB,zA 0,zA 0] 104):=(aT _ (by omega)).trans KQ.o;clear T KT KQ O N y V aG bs bt bu bw bx aT U hz bz aQ ay;have Q0:∀o,(w2.alloc o).cell? (zD w.heap.size 0)=some (.string s):=λo=>(E.o.alloc o).cell 0;have Q1:∀o,(w2.alloc o).cell? (zD w.heap.size 1)=some (.slice a l.length c):=λo=>(E.o.alloc o).cell 1;have Q2:=E.o.c0;have Q3:=E.o.c1;go_wp2_with fail;have af:Hid (Kw r w.heap.size w2.heap.size (⟨s,l⟩:Tm) a c d w (zA 0) (w2.alloc (zh #[.string s,zB,zA A,zA 1] 104))):=(by refine⟨0,[],d,zB,[],Be _,rfl,⟨⟨[],by simp⟩,by simp⟩,ES.o,by have h:=Ac.new w2 #[.string s,zB,zA A,zA 1] 104; simpa [aV.o,Ab] using h,Dj.start _ _ _ _,M2.o.kept (Ay _ _ _ M2.o.lt),E.o.alloc _,KR.o.alloc _,E2.o.alloc _⟩);generalize w2.alloc (zh #[.string s,zB,zA A,zA 1] 104)=w3 at *;clear Q0 Q1 Q2 Q3;have hO:w.heap.size+2<=w2.heap.size:=by have:=KR.o.lt; omega
   go_loopw [34] (λi wr=>Kw r w.heap.size w2.heap.size (⟨s,l⟩:Tm) a c d w i wr) (λi wr=>l.length-(intOf i).toNat);case atStart=>exact af.o
   case round=>
    clear af;obtain⟨k,R0,B,I,xs,hk,rfl,⟨⟨R,F⟩,aW⟩,a1,n,ab,D,J,q,L⟩:=hrel;have XO:=Aa n;have ao:=Aa ab;have W:=Aa D;have XT:=Aa J;have XR:=Aa q;have XE:=Aa L;have aK:=Aa a1;have c1:=J.c1;by_cases C:k<l.length
    ·have aX:(k:Int)<(l.length:Int):=(by omega);have aq:Sl wr X a l:=HS.o.exq (Ak.ofEx (Q:=λb=>b=r) L rfl) (λb hb=>aR b hb);obtain⟨b,o,a',c',rfl,d0,d1,hx⟩:=aq.get (Ag _ _) (λ_ _ h=>h) k C;have HX:=Aa hx;clear hx aq n ab D J q L a1;go_wp2_with fail;refine(IH.o l[k] (AM C) B r _ _ X (aI.o k C) (by have:=bq.o k C; omega) aK.o (W.o.kept (Ay _ _ _ W.o.lt)) (by exact HX.o.alloc _) aR).mono ?_;rintro e f ⟨z,v3,rfl,⟨⟨R3,aL⟩,aY⟩,ar,aM,aZ,Y⟩;obtain⟨au,a3,c3,rfl,av⟩:=aZ;have b2:w2.heap.size<wr.heap.size:=XO.o.lt;have g:Ex r wr f:=((Ex.refl r wr).alloc _).trans Y;have Z:r≠w2.heap.size:=by have:=bp; omega
     have ba:=g.size;have bb:wr.heap.size+1<=f.heap.size:=by have:=Y.size; simpa using this
     have aN:=Aa aL;have bc:=Aa F;clear F;have YO:=Aa (XO.o.ex g (λe=>Z e.symm));have YT:=Aa (XT.o.ex g (by omega));have YR:=Aa (XR.o.ex g (by omega));have YE:=Aa (XE.o.trans g);have YM:=Aa aM;have bd:=Aa ar;have YI:Hid (IV f (λb=>wr.heap.size+1<=b) z (.agg #[.string l[k].name,.slice a3 l[k].args.length c3,zA (Am l[k] z),zA (Ab [l[k]])]) l[k]):=⟨au,a3,c3,rfl,av.mono λb hb _=>by simp at hb; omega⟩;have aa:Hid (Dj f (w2.heap.size+1) 104 z I (l.take k) xs):=Aa (by rw[aN.o];exact(ao.o.kept (λb aF hb2=>g.block b hb2 (by omega)) ba g.os g.tape g.output).more R3);clear aM ar av Y g aL;have bf:(l.take k).length=k:=by simp; omega
     have b3:l.length<=20000:=by have:=E4 l; have:=aS.o; omega
     have aw:∀b,some b=I.ownBlock->b<wr.heap.size+1:=λb hb=>by have:=(ao.o.own.lt b hb.symm).2; omega
     obtain⟨g5,al,G,bg,hrun,ad,u,a8⟩:=Xb (t:=l[k]) (a:=a3) (c:=c3) (aa.o.kept (w':=f.alloc (zh #[.string l[k].name,.slice a3 l[k].args.length c3,zA (Am l[k] z),zA (Ab [l[k]])] 104)) (λb _ hb=>Ay _ _ _ hb) (by simp) rfl rfl rfl) (by simp; omega) (M:=wr.heap.size+1) (by omega) aw (YI.o.alloc _) (by omega) (f.heap.size+1) (by simp);rw[bf]at hrun ad;have aA:=Aa hrun;have H:Ac G w2.heap.size #[.string s,I,zA (Am (⟨s,l⟩:Tm) d),zA (1+Ab (l.take k))] 104:=((YO.o.alloc _).alloc _).grown u (aa.o.ne (by omega));have ZX:Ac G f.heap.size #[.string l[k].name,.slice a3 l[k].args.length c3,zA (Am l[k] z),zA (Ab [l[k]])] 104:=((Ac.new f _ _).alloc _).grown u (λe=>by have:=aw _ e; omega);have z0:=H.c1;have z1:=H.c3;have z2:=ZX.c3;have zf:=H.frozen;have aO:=DP l k C;have b4:Ab (l.take (k+1))<=20000:=by have h1:=Ej (l.take (k+1)) (l.drop (k+1)); rw[DM] at h1; have:=aS.o; omega
     have y1:∀o,(f.alloc o).cell? (zD w2.heap.size 1)=some I:=λo=>(YO.o.alloc o).cell 1;have YS:Ab [l[k]]<=20000:=(by omega);have aB:Hid (Kw r w.heap.size w2.heap.size (⟨s,l⟩:Tm) (some (zD b o)) c d w (zA ((k+1:Nat):Int)) ((G.setCell (zD w2.heap.size 1) (.slice (some (zD g5 0)) (k+1) al)).setCell (zD w2.heap.size 3) (zA (1+(Ab (l.take k):Int)+(Ab [l[k]]:Int))))):=by
      have b5:=u.size;refine⟨k+1,R0,z,(.slice (some (zD g5 0)) (k+1) al),bg,by show k+1<=l.length; omega,rfl,⟨⟨R++R3,by rw[aN.o,bc.o,DN]⟩,by show z.length<=d.length+Ab (l.take (k+1)); omega⟩,bd.o,?_,?_,?_,?_,?_,?_⟩
      ·have:=(H.set 1 (.slice (some (zD g5 0)) (k+1) al)).set 3 (zA (1+(Ab (l.take k):Int)+(Ab [l[k]]:Int)));simpa [aO,Int.add_assoc] using this
      ·have e:l.take (k+1)=l.take k++[l[k]]:=Ci C;rw[e];exact(ad.setCell (by omega) _).setCell (by omega) _
      ·have bh:=YM.o.lt;refine YM.o.kept ?_;rw[An _ _ _ _ (by simpa using Z),An _ _ _ _ (by simpa using Z),u.block r (by simp; omega) (λe=>by have:=(aa.o.own.lt r e.symm).1; omega),Ay _ _ _ (by simp; omega),Ay _ _ _ bh]
      ·exact((((YT.o.alloc _).alloc _).grown u (aa.o.ne (by omega))).setOther _ _ (by omega)).setOther _ _ (by omega)
      ·exact((((YR.o.alloc _).alloc _).grown u (aa.o.ne (by omega))).setOther _ _ (by omega)).setOther _ _ (by omega)
      ·exact((((YE.o.alloc _).alloc _).grown u (λj hj=>by have:=(aa.o.own.lt j hj).1; omega)).setNew (by omega) _ _).setNew (by omega) _ _
     have b6:Ab (l.take k)<=20000:=(by omega);clear hrun ad u a8 ZX aO;have y3:∀v,(G.setCell (zD w2.heap.size 1) v).cell? (zD w2.heap.size 3)=some (zA (1+Ab (l.take k))):=λv=>by rw[Aw _ _ _ _ (by simp)]; exact z1
     have y4:∀v,(G.setCell (zD w2.heap.size 1) v).cell? (zD f.heap.size 3)=some (zA (Ab [l[k]])):=λv=>by rw[Aw _ _ _ _ (by simp)]; exact z2
     have b7:=λv=>(H.set 1 v).frozen;go_wp2_with (at_builtin; refine Gt rfl _ _ _ _ rfl rfl rfl aA.o ?_);go_roundw
     case rel=>have h:=aB.o;have e:((k+1:Nat):Int)=(k:Int)+1:=(by omega);rw[e]at h;exact h
     case measure=>simp[intOf]; omega
    ·have aC:l.take k=l:=BH (by omega);rw[aC]at n ab;obtain⟨a9,c9,bj,aP⟩:=ab.sl;subst bj;have p0:=n.cell 0;have p1:=n.cell 1;have p2:=n.cell 2;have p3:=n.cell 3;have r0:=q.cell 0;have r1:=q.cell 1;have r2:=q.cell 2;have r3:=q.cell 3;have rf:=q.frozen;simp only[D7,Ei,Et] at p0 p1 p2 p3 r0 r1 r2 r3;have bk:=Aa aP;have bl:Hid (Ab [(⟨s,l⟩:Tm)]=1+Ab l):=Aa (by simp[Ab]);have aD:Hid (B.length<=d.length+Ab l):=Aa (by simpa [aC] using aW);have HZ:Hid ((1:Int)+Ab l=Ab [(⟨s,l⟩:Tm)]):=Aa (by simp[Ab]);have HN:Hid (Am (⟨s,l⟩:Tm) d=Am (⟨s,l⟩:Tm) B):=Aa (by rw[F,IU R aJ.o]);have bm:Hid ((⟨s,l⟩:Tm)∈B):=Aa (by rw[F];exact GX _ aJ.o);clear aP aC n ab D J q L a1;go_wp2_with fail;refine Aq (v:=.agg #[.string s,.slice a9 l.length c9,zA (Am (⟨s,l⟩:Tm) d),zA (1+Ab l)]) (by simp[results,results82,go_sem,Az,Aw,r0,r1,r2,r3]) rfl ?_;refine⟨B,_,rfl,?_,aK.o,?_,?_,?_⟩
     ·obtain⟨⟨R1,bn⟩,b8⟩:=GS.o;refine⟨⟨R1++R,by rw[F,bn,DN]⟩,?_⟩;have:=bl.o;have h3:B.length<=d.length+Ab l:=aD.o;omega
     ·refine W.o.kept ?_;have m:r≠w.heap.size+1:=(by omega);rw[An _ _ _ _ (by simpa using m),An _ _ _ _ (by simpa using m),An _ _ _ _ (by simpa using m),An _ _ _ _ (by simpa using m)]
     ·refine⟨bm.o,a9,c9,by rw[HZ.o,HN.o],?_⟩;refine(bk.o.kept λb hb=>?_).mono λb hb _=>by omega
      have m:b≠w.heap.size+1:=(by omega);rw[An _ _ _ _ (by simpa using m),An _ _ _ _ (by simpa using m),An _ _ _ _ (by simpa using m),An _ _ _ _ (by simpa using m)]
     ·exact(((XE.o.setNew (by omega) _ _).setNew (by omega) _ _).setNew (by omega) _ _).setNew (by omega) _ _
def IG (a b:Tm) (aa:Option Addr) (ca:Nat) (ab:Option Addr) (cb:Nat) (w w':World):Prop:=
 Ac w' w.heap.size (zF a aa ca) 31/\Ac w' (w.heap.size+1) (zF b ab cb) 31/\Ex (w.heap.size+4) w w'
theorem IG.step (h:IG a b aa ca ab cb w w1) (c:Ex (w.heap.size+4) w1 w2):IG a b aa ca ab cb w w2:=⟨h.1.ex c (by omega),h.2.1.ex c (by omega),h.2.2.trans c⟩
theorem IG.set (h:IG a b aa ca ab cb w w1) (hk:w.heap.size+2<=k) (i:Nat) (v:Value):IG a b aa ca ab cb w (w1.setCell (zD k i) v):=⟨h.1.setOther i v (by omega),h.2.1.setOther i v (by omega),h.2.2.setNew (by omega) i v⟩
theorem rM {S0:List Tm} {e:Ending} {f:World} (g:Below w.heap.size w f) (hq:Ak (λb=>b=w.heap.size+2∨b=w.heap.size+3) f w') (he:e=.returned (.tuple #[c,d])) (i:S.length<=Ab [a]+Ab [b]) (hx:IV f (λb=>w.heap.size+5<=b) S c a) (hy:IV f (λb=>w.heap.size+5<=b) S d b):
  ∃S c d,e=.returned (.tuple #[c,d])/\S.length<=Ab [a]+Ab [b]/\IV w' (λb=>w.heap.size<=b) S c a/\IV w' (λb=>w.heap.size<=b) S d b/\Below w.heap.size w w':=by
 have hz:=g.size;have key:∀v x,IV f (λb=>w.heap.size+5<=b) S v x->IV w' (λb=>w.heap.size<=b) S v x:=λv x h=>
  ((h.mono (Y:=λb=>w.heap.size+5<=b/\b<f.heap.size) λb h1 h2=>⟨h1,h2⟩).kept λb hb=>hq.block b hb.2 (λh=>by have:=hb.1; rcases h with h|h<;>omega)).mono λb hb _=>by have:=hb.1; omega
 exact⟨S,c,d,he,i,key _ _ hx,key _ _ hy,g.trans (hq.below g.size λb hb=>by rcases hb with h|h<;>omega)⟩
theorem rN (a b:Tm) (u x:Value) (w:World) (X:Nat->Prop) (y:Af [a]=0) (z:Af [b]=0) (za:Ab [a]<=20000) (zb:Ab [b]<=20000) (ha:TV w X u a) (hb:TV w X x b):
  Calls prog 53 #[u,x] w λe w'=>∃S A B,e=.returned (.tuple #[A,B])/\S.length<=Ab [a]+Ab [b]/\IV w' (λb=>w.heap.size<=b) S A a/\IV w' (λb=>w.heap.size<=b) S B b/\Below w.heap.size w w':=by
 have HA:=Aa (ha.mono (Y:=λb=>X b/\b<w.heap.size) λb h1 h2=>⟨h1,h2⟩);have HB:=Aa (hb.mono (Y:=λb=>X b/\b<w.heap.size) λb h1 h2=>⟨h1,h2⟩);obtain⟨aa,ca,rfl,aA⟩:=ha;obtain⟨ab,cb,rfl,aB⟩:=hb;clear aA aB;have aC:=Aa y;have aD:=Aa z;clear y z;have aE:=@run_makeMap prog;have d:Hid (IG a b aa ca ab cb w (((((w.alloc (ze a aa ca)).alloc (ze b ab cb)).alloc (zh #[.string ⟨#[]⟩,zB,zA 0,zA 0] 104)).alloc (zh #[.string ⟨#[]⟩,zB,zA 0,zA 0] 104)).alloc (.map #[] 0)).drew/\Ac (((((w.alloc (ze a aa ca)).alloc (ze b ab cb)).alloc (zh #[.string ⟨#[]⟩,zB,zA 0,zA 0] 104)).alloc (zh #[.string ⟨#[]⟩,zB,zA 0,zA 0] 104)).alloc (.map #[] 0)).drew (w.heap.size+2) #[.string ⟨#[]⟩,zB,zA 0,zA 0] 104/\Ac (((((w.alloc (ze a aa ca)).alloc (ze b ab cb)).alloc (zh #[.string ⟨#[]⟩,zB,zA 0,zA 0] 104)).alloc (zh #[.string ⟨#[]⟩,zB,zA 0,zA 0] 104)).alloc (.map #[] 0)).drew (w.heap.size+3) #[.string ⟨#[]⟩,zB,zA 0,zA 0] 104/\AO (((((w.alloc (ze a aa ca)).alloc (ze b ab cb)).alloc (zh #[.string ⟨#[]⟩,zB,zA 0,zA 0] 104)).alloc (zh #[.string ⟨#[]⟩,zB,zA 0,zA 0] 104)).alloc (.map #[] 0)).drew (w.heap.size+4) (EG 0 [])/\Below w.heap.size w (((((w.alloc (ze a aa ca)).alloc (ze b ab cb)).alloc (zh #[.string ⟨#[]⟩,zB,zA 0,zA 0] 104)).alloc (zh #[.string ⟨#[]⟩,zB,zA 0,zA 0] 104)).alloc (.map #[] 0)).drew):=by
  have k1:=Ac.new w (zF a aa ca) 31;have C:(w.alloc (ze a aa ca)).heap.size=w.heap.size+1:=by simp
  have D:=(Ag w.heap.size w).alloc (Al _) (ze a aa ca);generalize (w.alloc (ze a aa ca))=w1 at *;have k2:=Ac.new w1 (zF b ab cb) 31;have E:=D.alloc D.size (ze b ab cb);have aF:=k1.alloc (ze b ab cb);have F:(w1.alloc (ze b ab cb)).heap.size=w.heap.size+2:=by simp[C]
  generalize w1.alloc (ze b ab cb)=w2 at *;have k3:=Ac.new w2 #[.string ⟨#[]⟩,zB,zA 0,zA 0] 104;have G:=E.alloc E.size (.cells #[.string ⟨#[]⟩,zB,zA 0,zA 0] 104);have aG:=k2.alloc (zh #[.string ⟨#[]⟩,zB,zA 0,zA 0] 104);have ao:=aF.alloc (zh #[.string ⟨#[]⟩,zB,zA 0,zA 0] 104);have H:(w2.alloc (zh #[.string ⟨#[]⟩,zB,zA 0,zA 0] 104)).heap.size=w.heap.size+3:=by simp[F]
  generalize w2.alloc (zh #[.string ⟨#[]⟩,zB,zA 0,zA 0] 104)=w3 at *;have I:=Ac.new w3 #[.string ⟨#[]⟩,zB,zA 0,zA 0] 104;have b4:=G.alloc G.size (.cells #[.string ⟨#[]⟩,zB,zA 0,zA 0] 104);have J:=k3.alloc (zh #[.string ⟨#[]⟩,zB,zA 0,zA 0] 104);have L:=aG.alloc (zh #[.string ⟨#[]⟩,zB,zA 0,zA 0] 104);have aH:=ao.alloc (zh #[.string ⟨#[]⟩,zB,zA 0,zA 0] 104);have e4:(w3.alloc (zh #[.string ⟨#[]⟩,zB,zA 0,zA 0] 104)).heap.size=w.heap.size+4:=by simp[H]
  generalize w3.alloc (zh #[.string ⟨#[]⟩,zB,zA 0,zA 0] 104)=w4 at *;have m5:=AO.new w4;rw[C]at L;rw[F]at J;rw[H]at I;rw[e4]at m5;have b5:=b4.alloc b4.size (.map #[] 0);exact⟨⟨aH.alloc _,L.alloc _,⟨b5.os,b5.tape,b5.output,b5.size,λk hk _=>b5.block k hk⟩⟩,J.alloc _,I.alloc _,m5,below_drewN b5 1⟩
 go_enter func53,ntmps53;go_wp2_with fail;refine D9 (S:=IG a b aa ca ab cb w) (by kernel_rfl) d.o.1 λhH=>?_;refine tkz 0 ?_ (hy:=by intro w' c;have t0:=c.1.cell 0;have t1:=c.1.cell 1;have u0:=c.2.1.cell 0;have u1:=c.2.1.cell 1;simp only[D7,Ei,Et] at t0 t1 u0 u1;go_simp<;>with_reducible rfl);refine tkz 1 ?_ (hy:=by intro w' c;have t0:=c.1.cell 0;have t1:=c.1.cell 1;have u0:=c.2.1.cell 0;have u1:=c.2.1.cell 1;simp only[D7,Ei,Et] at t0 t1 u0 u1;go_simp<;>with_reducible rfl);refine tkz 3 ?_ (hy:=by intro w' c;have t0:=c.1.cell 0;have t1:=c.1.cell 1;have u0:=c.2.1.cell 0;have u1:=c.2.1.cell 1;simp only[D7,Ei,Et] at t0 t1 u0 u1;go_simp<;>with_reducible rfl);refine tkz 4 ?_ (hy:=by intro w' c;have t0:=c.1.cell 0;have t1:=c.1.cell 1;have u0:=c.2.1.cell 0;have u1:=c.2.1.cell 1;simp only[D7,Ei,Et] at t0 t1 u0 u1;go_simp<;>with_reducible rfl);have M:w.heap.size+1+1+1+1=w.heap.size+4:=rfl;rw[M];clear M aE;generalize (((((w.alloc (ze a aa ca)).alloc (ze b ab cb)).alloc (zh #[.string ⟨#[]⟩,zB,zA 0,zA 0] 104)).alloc (zh #[.string ⟨#[]⟩,zB,zA 0,zA 0] 104)).alloc (.map #[] 0)).drew=w5 at *;refine rdq 2 rfl λK f=>?_;go_simp;go_at_call 82;refine(Xc a [] (w.heap.size+4) _ _ (λb=>X b/\b<w.heap.size) aC.o za (by simp) d.o.2.2.2.1 (by exact HA.o.later d.o.2.2.2.2) (λb hb=>by have:=hb.2; omega)).mono ?_;rintro e w6 ⟨N,v1,rfl,⟨⟨R1,aI⟩,O⟩,P,R,T,g⟩;have q:=Aa (d.o.1.step g);have U:=Aa (d.o.2.1.ex g (by omega));have V:=Aa (d.o.2.2.1.ex g (by omega));have j:Hid (Below w.heap.size w w6):=⟨g.os.trans d.o.2.2.2.2.os,g.tape.trans d.o.2.2.2.2.tape,g.output.trans d.o.2.2.2.2.output,Bf d.o.2.2.2.2.size g.size,λk hk=>(g.block k (by have:=d.o.2.2.2.2.size; omega) (by omega)).trans (d.o.2.2.2.2.block k hk)⟩;have aP:w.heap.size+5<=w5.heap.size:=by have:=d.o.2.2.2.1.lt; omega
 have r:=Aa (T.mono (Y:=λb=>w.heap.size+5<=b) λb hb _=>by omega);have W:=Aa R;have aJ:=Aa O;have Z:=Aa P;have ar:=Aa g;obtain⟨_,a1,c1,rfl,_⟩:=T;clear R g P aI O;go_simp;refine f.o _ _ (by exact q.o) λhH=>?_;clear f K;(try simp only[Act.put,sq]);refine rdq 5 rfl λK f=>?_;go_simp;go_at_call 82;refine(Xc b N (w.heap.size+4) _ _ (λb=>X b/\b<w.heap.size) aD.o zb Z.o W.o (by exact HB.o.later j.o) (λb hb=>by have:=hb.2; omega)).mono ?_;rintro e w7 ⟨l,v2,rfl,⟨⟨a8,s⟩,aK⟩,av,aL,an,i⟩;have N2:=Aa (q.o.step i);have m:=Aa (U.o.ex i (by omega));have n:=Aa (V.o.ex i (by omega));have aM:Hid (Below w.heap.size w w7):=⟨i.os.trans j.o.os,i.tape.trans j.o.tape,i.output.trans j.o.output,Bf j.o.size i.size,λk hk=>(i.block k (by have:=j.o.size; omega) (by omega)).trans (j.o.block k hk)⟩;have aN:Hid (l.length<=Ab [a]+Ab [b]):=Aa (by have:=aJ.o;simp at this;omega);have aO:=Aa (an.mono (Y:=λb=>w.heap.size+5<=b) λb hb _=>by have:=ar.o.size; omega);have ah:=r.o.1;have t:Am a N=Am a l:=by rw[s,IU a8 ah]
 have ax:Hid (IV w7 (λb=>w.heap.size+5<=b) l (.agg #[.string a.name,.slice a1 a.args.length c1,zA (Am a l),zA (Ab [a])]) a):=(by have h:=(r.o.ex i (λb hb=>by omega)).more a8;rw[<-s,t]at h;exact h);obtain⟨_,a2,c2,rfl,_⟩:=an;rw[t];clear aL i av s aK r W Z U V q j t ah;go_simp;refine f.o _ _ (by exact N2.o) λhH=>?_;clear f K;(try simp only[Act.put,sq]);have r0:=m.o.cell 0;have r1:=m.o.cell 1;have r2:=m.o.cell 2;have r3:=m.o.cell 3;have rf:=m.o.frozen;have s0:=n.o.cell 0;have s1:=n.o.cell 1;have s2:=n.o.cell 2;have s3:=n.o.cell 3;have sf:=n.o.frozen;simp only[D7,Ei,Et] at r0 r1 r2 r3 s0 s1 s2 s3;refine rdq 6 rfl λK f=>?_;go_simp;refine f.o _ _ (by exact(((N2.o.set (by omega) _ _).set (by omega) _ _).set (by omega) _ _).set (by omega) _ _) λhH=>?_;clear f K;(try simp only[Act.put,sq]);refine rdq 7 rfl λK f=>?_;go_simp;refine f.o _ _ (by exact(((hH.set (by omega) _ _).set (by omega) _ _).set (by omega) _ _).set (by omega) _ _) λhH=>?_;clear f K;(try simp only[Act.put,sq]);refine dnq ?_;go_wp2_with fail;refine Aq (v:=.tuple #[.agg #[.string a.name,.slice a1 a.args.length c1,zA (Am a l),zA (Ab [a])],.agg #[.string b.name,.slice a2 b.args.length c2,zA (Am b l),zA (Ab [b])]]) (by simp[results,results53,go_sem,Az,Aw,r0,r1,r2,r3,s0,s1,s2,s3]) rfl ?_;refine rM (S0:=[]) aM.o ?_ rfl aN.o ax.o aO.o;iterate 8 refine Ak.set ?_ (by simp) _ _
 exact Ak.refl _ _
structure LW (S:List Tm) (a b:Tm) (aa:Option Addr) (ca:Nat) (ab:Option Addr) (cb:Nat) (w wr:World):Prop where
 k1:Ac wr w.heap.size #[.string a.name,.slice aa a.args.length ca,zA (Am a S),zA (Ab [a])] 104
 k2:Ac wr (w.heap.size+1) #[.string b.name,.slice ab b.args.length cb,zA (Am b S),zA (Ab [b])] 104
 bl:Below w.heap.size w wr
theorem LW.later (h:LW S a b aa ca ab cb w w1) (hb:Below w1.heap.size w1 w2):LW S a b aa ca ab cb w w2:=⟨h.k1.below hb h.k1.lt,h.k2.below hb h.k2.lt,h.bl.trans (hb.mono h.bl.size)⟩
theorem LW.start (S:List Tm) (a b:Tm) (aa:Option Addr) (ca:Nat) (ab:Option Addr) (cb:Nat) (w:World):LW S a b aa ca ab cb w ((w.alloc (zh #[.string a.name,.slice aa a.args.length ca,zA (Am a S),zA (Ab [a])] 104)).alloc (zh #[.string b.name,.slice ab b.args.length cb,zA (Am b S),zA (Ab [b])] 104)):=by
 have k1:=Ac.new w #[.string a.name,.slice aa a.args.length ca,zA (Am a S),zA (Ab [a])] 104;have d:(w.alloc (zh #[.string a.name,.slice aa a.args.length ca,zA (Am a S),zA (Ab [a])] 104)).heap.size=w.heap.size+1:=by simp
 have c:=(Ag w.heap.size w).alloc (Al _) (.cells #[.string a.name,.slice aa a.args.length ca,zA (Am a S),zA (Ab [a])] 104);generalize (w.alloc (zh #[.string a.name,.slice aa a.args.length ca,zA (Am a S),zA (Ab [a])] 104))=w1 at *;have k2:=Ac.new w1 #[.string b.name,.slice ab b.args.length cb,zA (Am b S),zA (Ab [b])] 104;rw[d]at k2;exact⟨k1.alloc _,k2,c.alloc c.size _⟩
theorem rO (row:List ByteArray) (ho:QA row) (a b:Tm) (u r s:Value) (w:World) (X:Nat->Prop) (t:Af [a]=0) (v:Af [b]=0) (F:Ab [a]<=20000) (G:Ab [b]<=20000) (hu:LV Value.string w X u row) (ha:TV w X r a) (hb:TV w X s b):
  Calls prog 33 #[u,r,s] w λe w'=>e=.returned (.bool (AC row a b))/\Below w.heap.size w w':=by
 have H:=Aa ha;have I:=Aa hb;have J:=Aa hu;obtain⟨aa,ca,rfl,L⟩:=ha;obtain⟨ab,cb,rfl,M⟩:=hb;clear L M hu;have N:=Aa t;have O:=Aa v;have P:=Aa ho;clear t v ho;have a6:=@run_makeMap prog;have i:Hid (Below w.heap.size w ((w.alloc (ze a aa ca)).alloc (ze b ab cb))):=((Ag w.heap.size w).alloc (Al _) _).alloc (by simp) _;have j:Hid (Ac ((w.alloc (ze a aa ca)).alloc (ze b ab cb)) w.heap.size (zF a aa ca) 31):=(Ac.new w _ _).alloc _;have l:Hid (Ac ((w.alloc (ze a aa ca)).alloc (ze b ab cb)) (w.heap.size+1) (zF b ab cb) 31):=by
  have h:=Ac.new (w.alloc (ze a aa ca)) (zF b ab cb) 31;have e:(w.alloc (ze a aa ca)).heap.size=w.heap.size+1:=by simp
  rw[e]at h;exact h
 go_enter func33,ntmps33;go_wp2_with fail;generalize ((w.alloc (ze a aa ca)).alloc (ze b ab cb))=w2 at *;refine(qJ row P.o _ _ X (by exact J.o.later i.o)).mono ?_;rintro e w3 ⟨rfl,m,f⟩;have B3:=Aa (i.o.trans (f.mono i.o.size));have R:=Aa m;have x:=Aa (j.o.below f j.o.lt);have y:=Aa (l.o.below f l.o.lt);have T:=m.lt;clear m f j l;have t0:∀o o',((w3.alloc o).alloc o').cell? (zD w.heap.size 0)=some (.string a.name):=λo o'=>((x.o.alloc o).alloc o').cell 0;have t1:∀o o',((w3.alloc o).alloc o').cell? (zD w.heap.size 1)=some (.slice aa a.args.length ca):=λo o'=>((x.o.alloc o).alloc o').cell 1;have u0:∀o o',((w3.alloc o).alloc o').cell? (zD (w.heap.size+1) 0)=some (.string b.name):=λo o'=>((y.o.alloc o).alloc o').cell 0;have u1:∀o o',((w3.alloc o).alloc o').cell? (zD (w.heap.size+1) 1)=some (.slice ab b.args.length cb):=λo o'=>((y.o.alloc o).alloc o').cell 1;go_wp2_with fail;have z:Hid (AO ((w3.alloc (.map #[] 0)).alloc (zh #[.map (some w2.heap.size),.map (some w3.heap.size)] 101)) w2.heap.size (DZ 0 row)):=(R.o.kept (Ay _ _ _ T)).kept (Ay _ _ _ (by simp; omega));have A:Hid (∀S,CN ((w3.alloc (.map #[] 0)).alloc (zh #[.map (some w2.heap.size),.map (some w3.heap.size)] 101)) w3.heap.size (Es row S)):=λS=>(CN.new w3 (Es row S)).kept (Ay _ _ _ (by simp));have g:Hid (Below w.heap.size w ((w3.alloc (.map #[] 0)).alloc (zh #[.map (some w2.heap.size),.map (some w3.heap.size)] 101))):=(B3.o.alloc B3.o.size _).alloc (by have:=B3.o.size; simp; omega) _;have B:Hid (Ac ((w3.alloc (.map #[] 0)).alloc (zh #[.map (some w2.heap.size),.map (some w3.heap.size)] 101)) (w3.heap.size+1) #[.map (some w2.heap.size),.map (some w3.heap.size)] 101):=by
  have h:=Ac.new (w3.alloc (.map #[] 0)) #[.map (some w2.heap.size),.map (some w3.heap.size)] 101;have e:(w3.alloc (.map #[] 0)).heap.size=w3.heap.size+1:=by simp
  rw[e]at h;exact h
 generalize (w3.alloc (.map #[] 0)).alloc (zh #[.map (some w2.heap.size),.map (some w3.heap.size)] 101)=U at *;refine(rN a b _ _ _ X N.o O.o F G (by exact H.o.later g.o) (by exact I.o.later g.o)).mono ?_;rintro e n ⟨S,vx,vy,rfl,hS,C,D,d⟩;have V:=Aa C;have W:=Aa D;obtain⟨_,Y,Z,rfl,_⟩:=C;obtain⟨_,ay,cy,rfl,_⟩:=D;have q:=Aa (g.o.trans (d.mono g.o.size));have aw:=B.o.lt;have P6:Hid (PS row S w2.heap.size w3.heap.size n):=⟨z.o.below d z.o.lt,(A.o S).below d (A.o S).lt,by omega⟩;have E:=B.o.below d aw;have q0:∀o o',((n.alloc o).alloc o').cell? (zD (w3.heap.size+1) 0)=some (.map (some w2.heap.size)):=λo o'=>((E.alloc o).alloc o').cell 0;have q1:∀o o',((n.alloc o).alloc o').cell? (zD (w3.heap.size+1) 1)=some (.map (some w3.heap.size)):=λo o'=>((E.alloc o).alloc o').cell 1;have az:S.length<9000000000000000000:=by omega
 clear d t0 t1 u0 u1;go_wp2_with fail;refine(W4 row S w2.heap.size w3.heap.size az (Ab [a]+Ab [b]) a b _ _ _ (λb=>U.heap.size<=b) (Al _) (λb hb=>by omega) ((P6.o.alloc _).alloc _) (by exact(V.o.alloc _).alloc _) (by exact(W.o.alloc _).alloc _)).mono ?_;rintro e w7 ⟨rfl,_,c⟩;have a1:Hid (Below w.heap.size w w7):=by
  have h1:=(q.o.alloc q.o.size (.cells #[.string a.name,.slice Y a.args.length Z,zA (Am a S),zA (Ab [a])] 104)).alloc (by have:=q.o.size; simp; omega) (.cells #[.string b.name,.slice ay b.args.length cy,zA (Am b S),zA (Ab [b])] 104);dsimp only[zA]at h1;exact⟨c.os.trans h1.os,c.tape.trans h1.tape,c.output.trans h1.output,Bf h1.size c.size,λk hk=>(c.block k (by have:=h1.size; omega) (by have:=B3.o.size; omega)).trans (h1.block k hk)⟩
 clear c;go_wp2_with fail;go_ret;exact⟨rfl,a1.o⟩
def QI (S:List Tm) (a b:Tm) (ax:Option Addr) (cx:Nat) (ay:Option Addr) (cy:Nat) (w w6 w':World):Prop:=
 Ac w' w6.heap.size #[.string a.name,.slice ax a.args.length cx,zA (Am a S),zA (Ab [a])] 104/\Ac w' (w6.heap.size+1) #[.string b.name,.slice ay b.args.length cy,zA (Am b S),zA (Ab [b])] 104/\Below w.heap.size w w'
theorem QI.later {c d:Option Addr} {e f:Nat} {g:World} (h:QI S a b c e d f w g w1) (hb:Below w1.heap.size w1 w2):QI S a b c e d f w g w2:=⟨h.1.below hb h.1.lt,h.2.1.below hb h.2.1.lt,h.2.2.trans (hb.mono h.2.2.size)⟩
def EW (row:List ByteArray) (k:Nat):Int:=if AF (row.getD k ⟨#[]⟩)=false∨Aj (row.getD k ⟨#[]⟩)=true then 1 else if Bb (row.getD k ⟨#[]⟩) (row.take k)=true then 4 else 0
def EH (row:List ByteArray):Int:=if 40<row.length then 3 else Gp ((List.range row.length).map (EW row))
theorem Xd (h:k<row.length):EW row k=if AF row[k]=false∨Aj row[k]=true then 1 else if Bb row[k] (row.take k)=true then 4 else 0:=by
 have e:row.getD k ⟨#[]⟩=row[k]:=by simp[List.getD,h]
 unfold EW;rw[e]
theorem NU (h:k<row.length) (h0:∀j<k,EW row j=0) (hz:EW row k≠0):Gp ((List.range row.length).map (EW row))=EW row k:=by
 have b:k<((List.range row.length).map (EW row)).length:=by simpa using h
 have a:((List.range row.length).map (EW row))[k]=EW row k:=by simp
 rw[<-a];refine WM b (λz aa=>?_) (by rw[a]; exact hz);rw[List.mem_iff_getElem]at aa;obtain⟨j,hj,rfl⟩:=aa;simp at hj ⊢;exact h0 j (by omega)
theorem rP (h0:∀j<row.length,EW row j=0):Gp ((List.range row.length).map (EW row))=0:=by
 refine WN λz hz=>?_;rw[Bk]at hz;obtain⟨j,hj,rfl⟩:=hz;exact h0 j (by simpa using hj)
theorem rQ (h:EH row=0):QA row:=by
 intro k hk hm;unfold EH at h;split at h
 ·cases h
 ·have key:∀j,j<row.length->EW row j=0:=by
   intro j;induction j using Nat.strongRecOn with
   |ind j b=>intro hj;apply EX;intro a;rw[NU hj (λi hi=>b i hi (by omega)) a]at h;exact a h
  have h1:=key k hk;rw[Xd hk]at h1;have aa:Bb row[k] (row.take k)=true:=(by unfold Bb;rw[D6];exact⟨_,hm,by simp⟩);rw[aa]at h1;split at h1
  ·cases h1
  ·simp at h1
theorem LV.take {f:α->Value} {a:Option Addr} {n c:Nat} {l:List α} (h:LV f w X (.slice a n c) l) (k:Nat) (hk:k<=l.length):LV f w X (.slice a k c) (l.take k):=by
 obtain⟨a2,c2,e,⟨h1,h2⟩,h3⟩:=h;simp at e;obtain⟨rfl,rfl,rfl⟩:=e;have d:(l.take k).length=k:=by simp; omega
 refine⟨a,c,by rw[d],⟨by omega,by omega⟩,?_⟩;rcases h3 with h3|⟨b,o,e,hx,h3⟩
 ·exact Ae (by rw[h3]; simp)
 ·exact Ad ⟨b,o,e,hx,λi hi=>by rw[List.getElem_take]; exact h3 i (by simp at hi; omega)⟩
def rR (row:List ByteArray) (w:World) (i:Value) (wr:World):Prop:=∃k n:Nat,k<=row.length/\i=zA k/\wr=w.drewN n/\∀j<k,EW row j=0
theorem rS (row:List ByteArray) (u:Value) (w:World) (X:Nat->Prop) (hu:LV Value.string w X u row):
  Calls prog 50 #[u] w λe w'=>e=.returned (zA (EH row))/\Below w.heap.size w w':=by
 have v:=Aa hu;obtain⟨a,c,rfl,⟨hl,al⟩,hu⟩:=hu;by_cases t:40<row.length
 ·have x:(40:Int)<(row.length:Int):=by omega
  have d:Hid (EH row=3):=Aa (by unfold EH;rw[Ao t]);go_enter func50,ntmps50;go_wp2_with fail;go_ret;exact⟨by rw[d.o]; rfl,Ag _ _⟩
 ·have x:¬(40:Int)<(row.length:Int):=by omega
  have q:Hid (EH row=Gp ((List.range row.length).map (EW row))):=Aa (by unfold EH;rw[Ah t]);go_enter func50,ntmps50;go_wp2_with fail;go_loopw [10] (λi wr=>rR row w i wr) (λi wr=>row.length-(intOf i).toNat);case atStart=>exact⟨0,0,Be _,rfl,rfl,λj h=>by omega⟩
  case round=>
   obtain⟨k,n,hk,rfl,ab,h0⟩:=hrel;have l:=Aa h0;have m:=Aa ab;by_cases f:k<row.length
   ·obtain⟨b,o,rfl,hX,hc⟩:=hu.resolve_left (λh=>by rw[h] at f; simp at f);have d0:wr.cell? ⟨b,o+k,none⟩=some (.string row[k]):=by rw[ab]; exact hc k f
    have ai:(k:Int)<(row.length:Int):=(by omega);have an:(k:Int)<=(c:Int):=(by omega);have aa:=Aa (Xd f);have y:=Aa (v.o.take k (by omega));have r:Hid (LV Value.string wr X (.slice (some (zD b o)) k c) (row.take k)):=Aa (by rw[ab];exact y.o);have ao:=Aa (λ(n:Nat)=>show LV Value.string (wr.drewN n) X (.slice (some (zD b o)) k c) (row.take k) from r.o);clear h0 hc ab;cases g:AF row[k] with
    |false=>have d:Hid (EH row=1):=Aa (by rw[q.o,NU f l.o (by rw[aa.o,Ao (Ae g)]; decide),aa.o,Ao (Ae g)]);go_wp2_with (go_at_call 79; refine(Ir _ _).mono ?_; rintro e w' ⟨rfl,rfl⟩; rw[g]);go_ret;exact⟨by rw[d.o]; rfl,by rw[m.o]; exact below_drewN (Ag _ _) _⟩
    |true=>
     cases hv:Aj row[k] with
     |true=>have d:Hid (EH row=1):=Aa (by rw[q.o,NU f l.o (by rw[aa.o,Ao (Ad hv)]; decide),aa.o,Ao (Ad hv)]);go_wp2_with (first|(go_at_call 79; refine(Ir _ _).mono ?_; rintro e w' ⟨rfl,rfl⟩; rw[g])|(go_at_call 65; refine(BR _ _).mono ?_; rintro e w' ⟨rfl,rfl⟩; rw[hv]));go_ret;exact⟨by rw[d.o]; rfl,by rw[m.o]; exact below_drewN (Ag _ _) _⟩
     |false=>
      have s:¬(AF row[k]=false∨Aj row[k]=true):=by rw[g,hv]; simp
      cases hi:Bb row[k] (row.take k) with
      |true=>have d:Hid (EH row=4):=Aa (by rw[q.o,NU f l.o (by rw[aa.o,Ah s,Ao hi]; decide),aa.o,Ah s,Ao hi]);go_wp2_with (first|(go_at_call 79; refine(Ir _ _).mono ?_; rintro e w' ⟨rfl,rfl⟩; rw[g])|(go_at_call 65; refine(BR _ _).mono ?_; rintro e w' ⟨rfl,rfl⟩; rw[hv])|(go_at_call 80; refine(Mv _ _ _ _ X r.o).mono ?_; rintro e w' ⟨rfl,rfl⟩; rw[hi]));go_ret;exact⟨by rw[d.o]; rfl,by rw[m.o]; exact below_drewN (Ag _ _) _⟩
      |false=>
       have z:Hid (EW row k=0):=Aa (by rw[aa.o,Ah s,Ah (by rw[hi]; simp)]);go_wp2_with (first|(go_at_call 79; refine(Ir _ _).mono ?_; rintro e w' ⟨rfl,rfl⟩; rw[g])|(go_at_call 65; refine(BR _ _).mono ?_; rintro e w' ⟨rfl,rfl⟩; rw[hv])|(go_at_call 80; refine(Mv _ _ _ _ X r.o).mono ?_; rintro e w' ⟨rfl,rfl⟩; rw[hi]));go_roundw
       case rel=>
        refine⟨k+1,_,by omega,by go_num,m.o,λj hj=>?_⟩;by_cases e:j=k
        ·subst e; exact z.o
        ·exact l.o j (by omega)
       case measure=>simp[intOf]; omega
   ·have A:k=row.length:=(by omega);clear ab;have d:Hid (EH row=0):=Aa (by rw[q.o];exact rP (by rw[<-A]; exact l.o));go_wp2_with fail;go_ret;exact⟨by rw[d.o]; rfl,by rw[m.o]; exact below_drewN (Ag _ _) _⟩
def DL (row:List ByteArray) (a b:Tm):Int:=if EH row=0 then CJ a b else EH row
theorem rT (h:DL row a b=0):EH row=0/\Av a=0/\Av b=0:=by
 unfold DL at h;split at h
 ·rename_i h0;unfold CJ at h;split at h
  ·rename_i h1;exact⟨h0,h1,h⟩
  ·rename_i h1; exact absurd h h1
 ·rename_i h0; exact absurd h h0
theorem Xe (h:Av t=0):Af [t]=0/\Ab [t]<=200:=by
 unfold Av at h;split at h
 ·exact absurd h (by decide)
 ·exact⟨h,by omega⟩
structure Jn (a b:Tm) (aa:Option Addr) (ca:Nat) (ab:Option Addr) (cb:Nat) (w wr:World):Prop where
 k1:Ac wr w.heap.size (zF a aa ca) 31
 k2:Ac wr (w.heap.size+1) (zF b ab cb) 31
 bl:Below w.heap.size w wr
theorem Jn.later (h:Jn a b aa ca ab cb w w1) (hb:Below w1.heap.size w1 w2):Jn a b aa ca ab cb w w2:=⟨h.k1.below hb h.k1.lt,h.k2.below hb h.k2.lt,h.bl.trans (hb.mono h.bl.size)⟩
theorem Jn.start (a b:Tm) (aa:Option Addr) (ca:Nat) (ab:Option Addr) (cb:Nat) (w:World):Jn a b aa ca ab cb w ((w.alloc (ze a aa ca)).alloc (ze b ab cb)):=by
 have k1:=Ac.new w (zF a aa ca) 31;have d:(w.alloc (ze a aa ca)).heap.size=w.heap.size+1:=by simp
 have c:=(Ag w.heap.size w).alloc (Al _) (ze a aa ca);generalize (w.alloc (ze a aa ca))=w1 at *;have k2:=Ac.new w1 (zF b ab cb) 31;rw[d]at k2;exact⟨k1.alloc _,k2,c.alloc c.size _⟩
theorem rU (row:List ByteArray) (a b:Tm) (u i j:Value) (w:World) (X:Nat->Prop) (hu:LV Value.string w X u row) (ha:TV w X i a) (hb:TV w X j b):
  Calls prog 32 #[u,i,j] w λe w'=>e=.returned (zA (DL row a b))/\Below w.heap.size w w':=by
 have n:=Aa ha;have q:=Aa hb;have r:=Aa hu;obtain⟨aa,ca,rfl,s⟩:=ha;obtain⟨ab,cb,rfl,t⟩:=hb;clear s t hu;have g:=Aa (Jn.start a b aa ca ab cb w);go_enter func32,ntmps32;go_wp2_with fail;generalize ((w.alloc (ze a aa ca)).alloc (ze b ab cb))=w2 at *;refine(rS row _ _ X (by exact r.o.later g.o.bl)).mono ?_;rintro e w3 ⟨rfl,k⟩;have c:=Aa (g.o.later k);clear k g;have v:=c.o.k1.c0;have x:=c.o.k1.c1;by_cases h0:EH row=0
 ·have f:Hid (DL row a b=CJ a b):=Aa (by unfold DL;rw[Ao h0]);rw[h0];clear h0;go_wp2_with fail;refine(JE a _ _ X (by exact n.o.later c.o.bl)).mono ?_;rintro e w4 ⟨rfl,l⟩;have d:=Aa (c.o.later l);clear l c v x;have y:=d.o.k2.c0;have s1:=d.o.k2.c1;by_cases h1:Av a=0
  ·have h:Hid (DL row a b=Av b):=Aa (by rw[f.o];unfold CJ;rw[Ao h1]);rw[h1];clear h1;go_wp2_with fail;refine(JE b _ _ X (by exact q.o.later d.o.bl)).mono ?_;rintro e w5 ⟨rfl,m⟩;have z:=Aa (d.o.later m);clear m d y s1;go_wp2_with fail;go_ret;exact⟨by rw[h.o]; rfl,z.o.bl⟩
  ·have h:Hid (DL row a b=Av a):=Aa (by rw[f.o];unfold CJ;rw[Ah h1]);have aj:(Av a==0)=false:=(by simpa using h1);go_wp2_with fail;go_ret;exact⟨by rw[h.o]; rfl,d.o.bl⟩
 ·have f:Hid (DL row a b=EH row):=Aa (by unfold DL;rw[Ah h0]);have ak:(EH row==0)=false:=by simpa using h0
  go_wp2_with fail;go_ret;exact⟨by rw[f.o]; rfl,c.o.bl⟩
theorem rV (row:List ByteArray) (a b:Tm) (u g h:Value) (w:World) (X:Nat->Prop) (hu:LV Value.string w X u row) (ha:TV w X g a) (hb:TV w X h b):
  Calls prog 20 #[u,g,h] w λe w'=>e=.returned (.tuple #[.bool (decide (DL row a b=0)&&AC row a b),zA (DL row a b)])/\Below w.heap.size w w':=by
 have i:=Aa ha;have j:=Aa hb;have k:=Aa hu;obtain⟨aa,ca,rfl,v⟩:=ha;obtain⟨ab,cb,rfl,x⟩:=hb;clear v x hu;have d:=Aa (Jn.start a b aa ca ab cb w);go_enter func20,ntmps20;go_wp2_with fail;generalize ((w.alloc (ze a aa ca)).alloc (ze b ab cb))=w2 at *;refine(rU row a b _ _ _ _ X (by exact k.o.later d.o.bl) (by exact i.o.later d.o.bl) (by exact j.o.later d.o.bl)).mono ?_;rintro e w3 ⟨rfl,l⟩;have c:=Aa (d.o.later l);clear l d;have y:=c.o.k1.c0;have z:=c.o.k1.c1;have A:=c.o.k2.c0;have s1:=c.o.k2.c1;by_cases h0:DL row a b=0
 ·have f:Hid ((decide (DL row a b=0)&&AC row a b)=AC row a b/\DL row a b=0):=Aa (by rw[h0];simp);obtain⟨m,n,q⟩:=rT h0;have B:=Aa (rQ m);have r:=Aa (Xe n);have s:=Aa (Xe q);rw[h0];clear h0 m n q;go_wp2_with fail;refine(rO row B.o a b _ _ _ _ X r.o.1 s.o.1 (by have:=r.o.2; omega) (by have:=s.o.2; omega) (by exact k.o.later c.o.bl) (by exact i.o.later c.o.bl) (by exact j.o.later c.o.bl)).mono ?_;rintro e w4 ⟨rfl,t⟩;have C:=Aa (c.o.later t);clear t c y z A s1;go_wp2_with fail;go_ret2
  exact⟨by rw[f.o.1,f.o.2]; rfl,C.o.bl⟩
 ·have f:Hid ((decide (DL row a b=0)&&AC row a b)=false):=Aa (by simp[h0]);have aj:(DL row a b==0)=false:=by simpa using h0
  go_wp2_with fail;go_ret2
  exact⟨by rw[f.o]; rfl,c.o.bl⟩
def II (row:List ByteArray) (rs:List Pr):Bool:=rs.all λp=>decide (DL row p.l p.r=0)&&AC row p.l p.r
theorem rW (h:k<rs.length):II row (rs.take (k+1))=(II row (rs.take k)&&(decide (DL row rs[k].l rs[k].r=0)&&AC row rs[k].l rs[k].r)):=by
 unfold II;rw[Ci h,List.all_append];simp
theorem rX (h:k<rs.length) (h0:(decide (DL row rs[k].l rs[k].r=0)&&AC row rs[k].l rs[k].r)=false):II row rs=false:=by
 rw[Bool.eq_false_iff];intro h1;have:=GR.1 h1 rs[k] (AM h);rw[h0]at this;cases this
def rY (row:List ByteArray) (rs:List Pr) (w:World) (v:Value) (wr:World):Prop:=∃k:Nat,v=zA k/\k<=rs.length/\II row (rs.take k)=true/\Below w.heap.size w wr
theorem rZ (row:List ByteArray) (rs:List Pr) (t u:Value) (w:World) (X:Nat->Prop) (x:LV Value.string w X t row) (hu:QV w X u rs):
  Calls prog 8 #[t,u] w λe w'=>e=.returned (.bool (II row rs))/\Below w.heap.size w w':=by
 have H:=Aa (hu.mono (Y:=λb=>X b/\b<w.heap.size) λb h1 h2=>⟨h1,h2⟩);have I:=Aa (x.mono (Y:=λb=>X b/\b<w.heap.size) λb h1 h2=>⟨h1,h2⟩);obtain⟨a,c,rfl,hl,J⟩:=hu;obtain⟨ra,rc,rfl,ay,_⟩:=x;clear J;go_enter func8,ntmps8;go_wp2_with fail;go_loopw [5] (λv wr=>rY row rs w v wr) (λv wr=>rs.length-(intOf v).toNat);case atStart=>exact⟨0,rfl,Be _,rfl,Ag _ _⟩
 case round=>
  obtain⟨k,rfl,hk,y,hb⟩:=hrel;have f:=Aa hb;have z:=Aa y;clear y;by_cases m:k<rs.length
  ·obtain⟨b,o,a1,c1,a2,c2,rfl,d0,d1,d2,d3,A,B⟩:=(H.o.later hb).get k m;have ao:(k:Int)<(rs.length:Int):=(by omega);have L:=Aa A;have M:=Aa B;have N:=Aa (I.o.later hb);have O:=Aa (rW (row:=row) m);have C:=Aa (rX (row:=row) m);clear A B hb;generalize rs[k]=d at *;go_wp2_with fail;have D:=Aa (And.intro d0 (And.intro d1 (And.intro d2 d3)));obtain⟨g,n⟩:∃g,g=DL row d.l d.r:=⟨_,rfl⟩;obtain⟨i,q⟩:∃i,i=(decide (DL row d.l d.r=0)&&AC row d.l d.r):=⟨_,rfl⟩;have P:=Aa n;have j:=Aa q;have E:Hid (∀w',Below wr.heap.size wr w'->Calls prog 20 #[.slice ra row.length rc,.agg (zF d.l a1 c1),.agg (zF d.r a2 c2)] w' λe aa=>e=.returned (.tuple #[.bool i,zA g])/\Below wr.heap.size wr aa/\aa.cell? ⟨b,o+k*4,none⟩=some (.string d.l.name)/\aa.cell? ⟨b,o+k*4+1,none⟩=some (.slice a1 d.l.args.length c1)/\aa.cell? ⟨b,o+k*4+2,none⟩=some (.string d.r.name)/\aa.cell? ⟨b,o+k*4+3,none⟩=some (.slice a2 d.r.args.length c2)):=λw' hb=>by
    refine(rV row d.l d.r _ _ _ w' _ (N.o.later hb) ⟨_,_,rfl,L.o.later hb⟩ ⟨_,_,rfl,M.o.later hb⟩).mono ?_;rintro e aa ⟨rfl,hb2⟩;have ab:=hb.trans (hb2.mono hb.size);exact⟨by rw[n,q],ab,cell_later ab d0,cell_later ab d1,cell_later ab d2,cell_later ab d3⟩
   clear n q;go_region_held3 (λw'=>w'.cell? ⟨b,o+k*4,none⟩=some (.string d.l.name)/\w'.cell? ⟨b,o+k*4+1,none⟩=some (.slice a1 d.l.args.length c1)/\w'.cell? ⟨b,o+k*4+2,none⟩=some (.string d.r.name)/\w'.cell? ⟨b,o+k*4+3,none⟩=some (.slice a2 d.r.args.length c2)) (first|exact D.o|exact F|go_keep)
    (first
     | (go_at_call 20; refine(E.o _ (by first|exact Ag _ _|exact(Ag _ _).drew)).mono ?_; rintro e w5 ⟨rfl,G,F⟩))
   have s:=Aa G;clear G F E D d0 d1 d2 d3;by_cases h0:g=0
   ·subst h0;cases hq:i with
    |true=>
     go_wp2_with fail;go_roundw
     case rel=>exact⟨k+1,by go_num,by omega,by rw[O.o,z.o,<-j.o,hq]; rfl,f.o.trans (s.o.mono f.o.size)⟩
     case measure=>simp[intOf]; omega
    |false=>go_wp2_with fail;go_ret;exact⟨by rw[C.o (by rw[<-j.o,hq])]; rfl,f.o.trans (s.o.mono f.o.size)⟩
   ·have az:(g==0)=false:=(by simpa using h0);have R:Hid (i=false):=Aa (by rw[j.o,<-P.o];simp[h0]);go_wp2_with fail;go_ret;exact⟨by rw[C.o (by rw[<-j.o,R.o])]; rfl,f.o.trans (s.o.mono f.o.size)⟩
  ·have T:rs.take k=rs:=BH (by omega);have U:Hid (II row rs=true):=by have h:=z.o; rw[T] at h; exact h
   go_wp2_with fail;go_ret;exact⟨by rw[U.o]; rfl,f.o⟩

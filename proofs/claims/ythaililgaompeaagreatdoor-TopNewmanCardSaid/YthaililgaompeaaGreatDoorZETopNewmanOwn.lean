import Derived.Test.YthaililgaompeaaGreatDoorZDTopNewmanOwn
import Derived.Laws.EntriesVeiled
import Derived.Ground.SlgnProg
import Derived.Shelf.SlicesE.Clone
import Derived.Deep.RegionHeld3
import Derived.Deep.DeepCutAuto
import Derived.Test.YthaililgaompeaaGreatDoorW12
import Derived.Deep.RegionHeld
namespace Go.Proofs.YthaililgaompeaaGreatDoor
set_option linter.all false
set_option maxRecDepth 20000
set_option maxHeartbeats 8000000
open Go.RowKit Go.Shelf Go.Proofs.Tryz
attribute [local go_sem] Ho
variable {K X:Nat->Prop} {S:World->Prop} {W w w1:World} {y:Tm} {a:Act} {G M N O cap e l n z:Nat} {xs:List Value} {s:ByteArray} {P:Program}
theorem Sn {J:Tk Dn} {all:List Dn} (c:EQ J K) (lp:Nat) (g:Hu lp MK J all S) (t:Tm) (a:List Int) (T F:Nat) (aa:Option Addr) (ca:Nat) (fv:Value) (pre:List Dn) (f:Nat->Prop) (w:World) (X:Nat->Prop) (d:Ac w T (zF t aa ca) 31) (hs:Sl w X aa t.args) (hF:Ac w F #[fv] 22) (m:PV w X fv a) (ab:(AA t a).isSome=true) (h:∀b,X b->b<w.heap.size/\¬f b) (hj:J pre true f w) (hz:Ab [t]<=800000) (i:(pre++BB [] a t) <+: all):
  Calls prog 60 #[.func (.yield lp) #[] #[],zC T,zC F] w λe w'=>OT J (BB [] a t) pre f S w e w':=by
 have t0:=d.cell 0;have t1:=d.cell 1;have f0:=hF.cell 0;have j:∀b,K b->b<w.heap.size:=λb hb=>c.inside hj b (Ad hb);obtain⟨fa,fc,rfl,k,l⟩:=m;have n:=Aa (Zc c w.heap.size lp j g t (.agg (zF t aa ca)) zB (.slice fa a.length fc) [] a pre f w X ⟨aa,ca,rfl,hs⟩ ⟨fa,fc,rfl,k,l⟩ ab h (Al _) (GT _ _ _ _) (by simp[Value.ownBlock]) hj (by simp; omega) i);simp only[D7,Ei,Et] at t0 t1 f0;clear d hs hF k l ab h hj hz j g c i;go_enter func60,ntmps60;go_wp2_with fail;refine n.o.mono ?_;rintro e w1 ⟨b,rfl,hw,_,q⟩;go_wp2_with fail;go_end0
 exact⟨⟨_,rfl⟩,b,(hw.mono λb hb _=>by simp[Value.ownBlock] at hb),q⟩
theorem OW (b:Value) (ab:∃a n c,b=.slice a n c) (s:ByteArray) (aa:Option Addr) (n ca:Nat) (w:World):
  Calls prog 59 #[b,.agg #[.string s,.slice aa n ca]] w λe w'=>e=.returned (.func (.func 87) #[] #[zC w.heap.size,zC (w.heap.size+1)])/\w'=(w.alloc (zh #[b] 23)).alloc (zh #[.string s,.slice aa n ca] 31):=by
 obtain⟨a,n1,c,rfl⟩:=ab;have ad:=@hmq prog;go_enter func59,ntmps59;go_wp2_with fail;go_ret;exact⟨rfl,rfl⟩
abbrev Ch:=Dn×Ft
def Cm (rs:List Pr) (d:Dn):List Ch:=(Bs rs d.2).map λx=>(d,x)
def Ct (rs:List Pr) (t:Tm) (fs:List Int):List Ch:=(BB [] fs t).flatMap (Cm rs)
def FH (x:Ch) (args:Array Value) (W:World) (Z:Nat->Prop):Prop:=
 ∃ua uc xa xc ra rc q L,args=#[.agg #[.slice ua x.1.1.length uc,.string x.1.2.name,.slice xa x.1.2.args.length xc,.string x.2.1.r.name,.slice ra x.2.1.r.args.length rc,.map (some q)]]/\PV W Z (.slice ua x.1.1.length uc) x.1.1/\Sl W Z xa x.1.2.args/\Sl W Z ra x.2.1.r.args/\Z q/\Dy W q Z x.2.2 L
theorem So {J:Tk Ch} {all:List Ch} (hJ:EQ J K) (lp:Nat) (bE:Hv S) (RH:Hu lp FH J all S) (rs:List Pr) (t:Tm) (O:List Int) (P R T F:Nat) (uv:Value) (aa:Option Addr) (ca:Nat) (fv:Value) (pre:List Ch) (f:Nat->Prop) (w:World) (X:Nat->Prop) (hP:Ac w P #[.func (.func 60) #[] #[zC T,zC F]] 80) (hR:Ac w R #[uv] 23) (hu:QV w X uv rs) (hT:Ac w T (zF t aa ca) 31) (hs:Sl w X aa t.args) (hF:Ac w F #[fv] 22) (bF:PV w X fv O) (bG:(AA t O).isSome=true) (hX:∀b,X b->b<w.heap.size/\¬f b) (cJ:¬f R) (hj:J pre true f w) (hz:Ab [t]<=800000) (bH:(pre++Ct rs t O) <+: all):
  Calls prog 58 #[.func (.yield lp) #[] #[],zC P,zC R] w λe w'=>OT J (Ct rs t O) pre f S w e w':=by
 have aD:=Aa bE;clear bE;have p0:=hP.cell 0;have dS:=hP.lt;have cK:=hR.lt;have cL:Hid (∀b,X b->b<w.heap.size/\¬f b):=hX;simp only[D7,Ei,Et] at p0;have p1:∀o,(w.alloc o).cell? (zD P 0)=some (.func (.func 60) #[] #[zC T,zC F]):=λo=>(hP.alloc o).cell 0;have HI:Hid (∀b,f b∨K b->b<w.heap.size):=hJ.inside hj;have cM:Hid (∀b,K b->¬f b):=hJ.apart hj;have cN:Below w.heap.size w (w.alloc (zh #[.func (.yield lp) #[] #[]] 112)):=(Ag _ _).alloc (Al _) _;have D:=Aa hJ;have cO:=Aa RH;have HR:=Aa hR;have HU:=Aa hu;have HT:=Aa hT;have HS:=Aa hs;have HF:=Aa hF;have cQ:=Aa bF;have cS:=Aa hj;clear hJ RH hR hu hT hs hF bF hj hX hP;refine(CP (n:=3)).1 ?_;refine callsIn_of_wp_marks func58 rfl trivial ?_ rfl;simp only[ntmps58,Js,Bg,DB,Nat.reduceAdd,Nat.reduceSub,Jt,Ju,Jv,Jw,CE,Bj];gi_wp2
 refine La (gf:=60) (lb:=#[zC T,zC F]) rfl (enters_of func60 (by kernel_rfl) rfl) ?_;intro r bI bJ bK bL bM bN;have bk:(w.alloc (zh #[.func (.yield lp) #[] #[]] 112)).heap.size=w.heap.size+1:=by simp
 rw[bk];have dT:(((w.alloc (zh #[.func (.yield lp) #[] #[]] 112)).alloc (.deferred (some []))).alloc (.loop r)).heap.size=w.heap.size+3:=by simp
 have C:Below w.heap.size w (((w.alloc (zh #[.func (.yield lp) #[] #[]] 112)).alloc (.deferred (some []))).alloc (.loop r)):=EP _ _ _;have cT:Ac (((w.alloc (zh #[.func (.yield lp) #[] #[]] 112)).alloc (.deferred (some []))).alloc (.loop r)) w.heap.size #[.func (.yield lp) #[] #[]] 112:=((Ac.new w #[.func (.yield lp) #[] #[]] 112).alloc _).alloc _;have bl:(((w.alloc (zh #[.func (.yield lp) #[] #[]] 112)).alloc (.deferred (some []))).alloc (.loop r)).heap[w.heap.size+1]? = some (.deferred (some [])):=(by have h1:=(Ay ((w.alloc (zh #[.func (.yield lp) #[] #[]] 112)).alloc (.deferred (some []))) (.loop r) (w.alloc (zh #[.func (.yield lp) #[] #[]] 112)).heap.size (by simp)).trans (World.alloc_heap_new (w.alloc (zh #[.func (.yield lp) #[] #[]] 112)) (.deferred (some [])));rw[bk]at h1;exact h1);have bm:(((w.alloc (zh #[.func (.yield lp) #[] #[]] 112)).alloc (.deferred (some []))).alloc (.loop r)).heap[w.heap.size+1+1]? = some (.loop r):=(by have h1:=World.alloc_heap_new ((w.alloc (zh #[.func (.yield lp) #[] #[]] 112)).alloc (.deferred (some []))) (.loop r);rw[Cp,bk]at h1;exact h1);generalize (((w.alloc (zh #[.func (.yield lp) #[] #[]] 112)).alloc (.deferred (some []))).alloc (.loop r))=H at *;have e5:∀b,b<w.heap.size->H.heap[b]? = w.heap[b]? := λb hb=>C.block b hb;obtain⟨B,au⟩:∃B:Nat->Prop,B=λb=>K b∨X b∨b=R∨b=w.heap.size∨b=w.heap.size+1:=⟨_,rfl⟩;have I:Hid (∀b,K b->B b):=λb hb=>by rw[au]; exact Ae hb
 have a7:Hid (∀b,X b->B b):=λb hb=>by rw[au]; exact Ad (Ae hb)
 have bn:Hid (B R):=Aa (by rw[au];exact Ad (Ad (Ae rfl)));have bO:Hid (B w.heap.size):=Aa (by rw[au];exact Ad (Ad (Ad (Ae rfl))));have bP:Hid (B (w.heap.size+1)):=Aa (by rw[au];exact Ad (Ad (Ad (Ad rfl))));have ba:Hid (∀b,B b->b<H.heap.size/\¬f b/\b≠w.heap.size+1+1):=λb hb=>by
  rw[au]at hb;have aE:=HI.o;rcases hb with h|h|h|h|h
  ·have:=HI.o b (Ad h); exact⟨by omega,cM.o b h,by omega⟩
  ·have:=cL.o b h; exact⟨by omega,this.2,by omega⟩
  ·subst h; exact⟨by omega,cJ,by omega⟩
  ·subst h; exact⟨by omega,λh=>by have:=aE _ (Ae h); omega,by omega⟩
  ·subst h; exact⟨by omega,λh=>by have:=aE _ (Ae h); omega,by omega⟩
 clear au;obtain⟨rd,bo⟩:∃rd:Loop,rd={ r with state:=.done,pending:=some .ret}:=⟨_,rfl⟩;obtain⟨rb,bQ⟩:∃rb:Loop,rb={ r with state:=.busy}:=⟨_,rfl⟩;have bp:EQ (JL J B (Cm rs) pre (w.heap.size+1+1) r rd H) B:=JL.ok D.o I.o;have cU:=Aa cT;have cV:Hid (Ac H R #[uv] 23):=(e5 R cK).trans HR.o;have cW:=Aa (HU.o.later C);obtain⟨un,ul,k,cX⟩:∃a n c,uv=.slice a n c:=by obtain⟨a,c,e,_⟩:=HU.o; exact⟨a,_,c,e⟩
 have cZ:=Aa bH;clear bH;have bR:Hu (w.heap.size+1+1) MK (JL J B (Cm rs) pre (w.heap.size+1+1) r rd H) (BB [] O t) S:=by
  have da:=Aa bI;have db:=Aa bJ;have dc:=Aa bK;have dd:=Aa bL;have bq:=Aa bM;have de:=Aa bN;clear bI bJ bK bL bM bN p0 p1 bl bm bp cN C bG hz;intro n ag x args Z f2 W aF br hl hZ;have bs:=Aa aF;clear aF;obtain⟨f1,m,bS,hm,aG,bb,bT,hL,bU,dU,hC⟩:=br;obtain⟨u,v,rfl,df,dh⟩:=hl;obtain⟨ua,uc,rfl,bV,bW⟩:=df;obtain⟨d,g,rfl,bX⟩:=dh;have di:Hid (PV W Z (.slice ua x.1.length uc) x.1):=⟨ua,uc,rfl,bV,bW⟩;have dj:=Aa bX;have em:=aG rfl;subst em;rw[D8]at bb;simp only[F4] at hL;have dk:=Aa bb;have aj:=Aa (D.o.inside bb);have a8:=Aa bS;have E:=Aa bU;have HC:=Aa hC;have HZ:=Aa hZ;have HL:=Aa hL;have dm:w.heap.size+1+1<W.heap.size:=(CO.1 hL).1;clear bV bW bX bb bS bU hC hZ hm aG;refine JU bQ bo bq.o de.o dd.o dc.o hL da.o db.o rfl ?_;have dV:((W.alloc (zh #[.slice ua x.1.length uc] 22)).alloc (ze x.2 d g)).heap[w.heap.size+1+1]? = some (.loop r):=(Ay _ _ _ (by simp; omega)).trans ((Ay _ _ _ dm).trans hL);have kV:∀b,b<W.heap.size->b≠w.heap.size+1+1->(((W.alloc (zh #[.slice ua x.1.length uc] 22)).alloc (ze x.2 d g)).putObj (w.heap.size+1+1) (.loop rb)).heap[b]? = W.heap[b]? := λb hb hne=>(World.putObj_heap_other hne).trans ((Ay _ _ _ (by simp; omega)).trans (Ay _ _ _ hb));have bY:(((W.alloc (zh #[.slice ua x.1.length uc] 22)).alloc (ze x.2 d g)).putObj (w.heap.size+1+1) (.loop rb)).heap.size=W.heap.size+2:=by simp
  have aH:Ac (((W.alloc (zh #[.slice ua x.1.length uc] 22)).alloc (ze x.2 d g)).putObj (w.heap.size+1+1) (.loop rb)) W.heap.size #[.slice ua x.1.length uc] 22:=(World.putObj_heap_other (by omega)).trans ((Ac.new W _ _).alloc _);have av:Ac (((W.alloc (zh #[.slice ua x.1.length uc] 22)).alloc (ze x.2 d g)).putObj (w.heap.size+1+1) (.loop rb)) (W.heap.size+1) (zF x.2 d g) 31:=(World.putObj_heap_other (by omega)).trans (by
   have h:=Ac.new (W.alloc (zh #[.slice ua x.1.length uc] 22)) (zF x.2 d g) 31;rw[Cp]at h;exact h)
  have bZ:(((W.alloc (zh #[.slice ua x.1.length uc] 22)).alloc (ze x.2 d g)).putObj (w.heap.size+1+1) (.loop rb)).heap[w.heap.size+1+1]? = some (.loop rb):=World.putObj_heap_same (by simp; omega);have cb:Ac (((W.alloc (zh #[.slice ua x.1.length uc] 22)).alloc (ze x.2 d g)).putObj (w.heap.size+1+1) (.loop rb)) R #[uv] 23:=(kV R (by have:=E.o R bn.o; omega) (E.o R bn.o).2.2).trans ((HC.o R bn.o).trans cV.o);have cR:(((W.alloc (zh #[.slice ua x.1.length uc] 22)).alloc (ze x.2 d g)).putObj (w.heap.size+1+1) (.loop rb)).cell? (zD R 0)=some uv:=cb.cell 0;have cc:(((W.alloc (zh #[.slice ua x.1.length uc] 22)).alloc (ze x.2 d g)).putObj (w.heap.size+1+1) (.loop rb)).cell? (zD (W.heap.size+1) 0)=some (.string x.2.name):=av.cell 0;have cd:(((W.alloc (zh #[.slice ua x.1.length uc] 22)).alloc (ze x.2 d g)).putObj (w.heap.size+1+1) (.loop rb)).cell? (zD (W.heap.size+1) 1)=some (.slice d x.2.args.length g):=av.cell 1;have bt:Hid ((((W.alloc (zh #[.slice ua x.1.length uc] 22)).alloc (ze x.2 d g)).putObj (w.heap.size+1+1) (.loop rb)).os=W.os/\(((W.alloc (zh #[.slice ua x.1.length uc] 22)).alloc (ze x.2 d g)).putObj (w.heap.size+1+1) (.loop rb)).tape=W.tape/\(((W.alloc (zh #[.slice ua x.1.length uc] 22)).alloc (ze x.2 d g)).putObj (w.heap.size+1+1) (.loop rb)).output=W.output):=⟨rfl,rfl,rfl⟩;have dn:=Aa aH;have dp:=Aa av;have cf:=Aa bZ;have dq:=Aa kV;clear aH av bZ kV cb bQ bo;have dW:(Fence.wide.inRound (w.heap.size+1+1)).fn 59:=trivial;subst cX;gi_wp2
  generalize (((W.alloc (zh #[.slice ua x.1.length uc] 22)).alloc (ze x.2 d g)).putObj (w.heap.size+1+1) (.loop rb))=V at *;refine⟨trivial,(λh=>by simp[Fence.wide] at h),?_⟩;refine(CallsIn.inRound _ (CP.2 (OW _ ⟨_,_,_,rfl⟩ _ _ _ _ _))).mono ?_;rintro e w' ⟨rfl,rfl⟩;gi_wp2
  clear cR cc cd;refine Y4 (l₀:=w.heap.size+1+1) (r₀:=rb) (by exact(Ay _ _ _ (by simp; omega)).trans ((Ay _ _ _ (by omega)).trans cf.o)) (gf:=87) (lb:=#[zC (W.heap.size+2),.pointer (some (zD (W.heap.size+2+1) 0))]) rfl (enters_of func87 (by kernel_rfl) rfl) ?_;intro i dr ds dt du dv dw;have bu:((V.alloc (zh #[.slice un ul k] 23)).alloc (ze x.2 d g)).heap.size=W.heap.size+4:=by simp; omega
  rw[bu];have dX:(((V.alloc (zh #[.slice un ul k] 23)).alloc (ze x.2 d g)).alloc (.loop i)).heap.size=W.heap.size+5:=by simp; omega
  have aI:Below V.heap.size V (((V.alloc (zh #[.slice un ul k] 23)).alloc (ze x.2 d g)).alloc (.loop i)):=EP _ _ _;have cg:Ac (((V.alloc (zh #[.slice un ul k] 23)).alloc (ze x.2 d g)).alloc (.loop i)) (W.heap.size+2) #[.slice un ul k] 23:=(by have h:=((Ac.new V #[.slice un ul k] 23).alloc (ze x.2 d g)).alloc (.loop i);rw[bY]at h;exact h);have ch:Ac (((V.alloc (zh #[.slice un ul k] 23)).alloc (ze x.2 d g)).alloc (.loop i)) (W.heap.size+2+1) (zF x.2 d g) 31:=(by have h:=(Ac.new (V.alloc (zh #[.slice un ul k] 23)) (zF x.2 d g) 31).alloc (.loop i);rw[Cp,bY]at h;exact h);have cj:(((V.alloc (zh #[.slice un ul k] 23)).alloc (ze x.2 d g)).alloc (.loop i)).heap[W.heap.size+4]? = some (.loop i):=(by have h1:=World.alloc_heap_new ((V.alloc (zh #[.slice un ul k] 23)).alloc (ze x.2 d g)) (.loop i);rw[bu]at h1;exact h1);have aw:Hid ((((V.alloc (zh #[.slice un ul k] 23)).alloc (ze x.2 d g)).alloc (.loop i)).os=W.os/\(((V.alloc (zh #[.slice un ul k] 23)).alloc (ze x.2 d g)).alloc (.loop i)).tape=W.tape/\(((V.alloc (zh #[.slice un ul k] 23)).alloc (ze x.2 d g)).alloc (.loop i)).output=W.output):=bt.o;generalize (((V.alloc (zh #[.slice un ul k] 23)).alloc (ze x.2 d g)).alloc (.loop i))=j at *;have e6:∀b,b<W.heap.size->b≠w.heap.size+1+1->j.heap[b]? = W.heap[b]? := λb hb hne=>(aI.block b (by omega)).trans (dq.o b hb hne);have aJ:j.heap[w.heap.size+1+1]? = some (.loop rb):=(aI.block _ (by omega)).trans cf.o;have aH:Ac j W.heap.size #[.slice ua x.1.length uc] 22:=dn.o.below aI (by omega);have av:Ac j (W.heap.size+1) (zF x.2 d g) 31:=dp.o.below aI (by omega);obtain⟨A,ax⟩:∃A:Nat->Prop,A=λb=>B b∨(Z b/\b≠w.heap.size+1+1)∨b=w.heap.size+1+1∨b=W.heap.size∨b=W.heap.size+1:=⟨_,rfl⟩;have L:Hid (∀b,B b->A b):=λb hb=>by rw[ax]; exact Ae hb
  have bc:Hid (∀b,Z b->A b):=λb hb=>by
   rw[ax];by_cases h:b=w.heap.size+1+1
   ·exact Ad (Ad (Ae h))
   ·exact Ad (Ae ⟨hb,h⟩)
  have dx:Hid (A (w.heap.size+1+1)):=Aa (by rw[ax];exact Ad (Ad (Ae rfl)));have dy:Hid (A W.heap.size):=Aa (by rw[ax];exact Ad (Ad (Ad (Ae rfl))));have ck:Hid (A (W.heap.size+1)):=Aa (by rw[ax];exact Ad (Ad (Ad (Ad rfl))));have aK:Hid (∀b,Z b->b<W.heap.size/\¬f1 b/\b≠w.heap.size+1+1):=λb hb=>⟨(HZ.o b hb).1,λh=>(HZ.o b hb).2 ((a8.o b).2 (Ae h)),λh=>(HZ.o b hb).2 ((a8.o b).2 (Ad h))⟩;have cl:Hid (∀b,A b->b<j.heap.size/\¬f1 b/\b≠W.heap.size+4):=λb hb=>by
   rw[ax]at hb;have aE:=aj.o;rcases hb with h|h|h|h|h
   ·have:=E.o b h; exact⟨by omega,this.2.1,by omega⟩
   ·have:=aK.o b h.1; exact⟨by omega,this.2.1,by omega⟩
   ·subst h; exact⟨by omega,bT,by omega⟩
   ·subst h; exact⟨by omega,λh=>by have:=aE _ (Ae h); omega,by omega⟩
   ·subst h; exact⟨by omega,λh=>by have:=aE _ (Ae h); omega,by omega⟩
  clear ax;obtain⟨bd,ay⟩:∃rd:Loop,rd={ i with state:=.done,pending:=some .ret}:=⟨_,rfl⟩;obtain⟨ab,aL⟩:∃rb:Loop,rb={ i with state:=.busy}:=⟨_,rfl⟩;have cm:J (pre++ag.flatMap (Cm rs)) true f1 j:=D.o.abide dk.o (by omega) λb hb=>e6 b (aj.o b hb) (λh=>by
   rcases hb with hb|hb
   ·rw[h]at hb; exact bT hb
   ·exact(E.o b (I.o b hb)).2.2 h)
  have aM:EQ (JL J A (λy:Ft=>[((x,y):Ch)]) (pre++ag.flatMap (Cm rs)) (W.heap.size+4) i bd j) A:=JL.ok D.o λb hb=>L.o b (I.o b hb);have cn:QV j X (.slice un ul k) rs:=((cW.o.mono (Y:=λb=>X b/\b<H.heap.size) λb h1 h2=>⟨h1,h2⟩).kept λb hb=>by
   have h1:=E.o b (a7.o b hb.1);exact(e6 b (by omega) h1.2.2).trans (HC.o b (a7.o b hb.1))).mono λb hb _=>hb.1
  have bw:Hid (PV j Z (.slice ua x.1.length uc) x.1):=di.o.kept λb hb=>e6 b (aK.o b hb).1 (aK.o b hb).2.2;have aN:Sl j Z d x.2.args:=dj.o.kept λb hb=>e6 b (aK.o b hb).1 (aK.o b hb).2.2;have aO:=Aa aN;have cp:Ac j w.heap.size #[.func (.yield lp) #[] #[]] 112:=(e6 _ (by omega) (by omega)).trans ((HC.o _ bO.o).trans cU.o);have dz:=Aa cp;have bx:=Aa aH;have aP:=Aa av;have aQ:=Aa aJ;have cq:=Aa e6;have dA:=Aa cj;have dB:=Aa cm;have dC:=Aa ch;have bz:=Aa cg;have dD:=Aa cn;have b0:=Aa aM;clear cp aH av aJ e6 cj cm ch cg cn aN aM aI bu;have cr:Hu (W.heap.size+4) Gx (JL J A (λy:Ft=>[((x,y):Ch)]) (pre++ag.flatMap (Cm rs)) (W.heap.size+4) i bd j) (Bs rs x.2) S:=by
   intro n3 aR y args Z3 f3 U aS br hl ct;have b1:=Aa aS;clear aS;obtain⟨g1,m3,cu,dE,aT,bf,b2,aU,aV,dY,cv⟩:=br;obtain⟨ra,rc,q,Lm,rfl,cw,hq,aW⟩:=hl;have dF:=aT rfl;subst dF;rw[D8]at bf;simp only[F4] at aU;have dG:=Aa cw;have HQ:=Aa hq;have cx:=Aa aW;have dH:=Aa bf;have b3:=Aa (D.o.inside bf);have aA:=Aa cu;have G:=Aa aV;have dI:=Aa cv;have b4:=Aa ct;have dZ:=Aa aU;have b5:W.heap.size+4<U.heap.size:=(CO.1 aU).1;clear cw hq aW bf cu aV cv ct dE aT;refine JU aL ay dv dw du dt aU dr ds rfl ?_;have b6:(U.alloc (zh #[.string y.1.r.name,.slice ra y.1.r.args.length rc,.map (some q)] 71)).heap[W.heap.size+4]? = some (.loop i):=(Ay _ _ _ b5).trans aU;have kU:∀b,b<U.heap.size->b≠W.heap.size+4->((U.alloc (zh #[.string y.1.r.name,.slice ra y.1.r.args.length rc,.map (some q)] 71)).putObj (W.heap.size+4) (.loop ab)).heap[b]? = U.heap[b]? := λb hb hne=>(World.putObj_heap_other hne).trans (Ay _ _ _ hb);have dJ:((U.alloc (zh #[.string y.1.r.name,.slice ra y.1.r.args.length rc,.map (some q)] 71)).putObj (W.heap.size+4) (.loop ab)).heap.size=U.heap.size+1:=(by simp);have bg:Ac ((U.alloc (zh #[.string y.1.r.name,.slice ra y.1.r.args.length rc,.map (some q)] 71)).putObj (W.heap.size+4) (.loop ab)) U.heap.size #[.string y.1.r.name,.slice ra y.1.r.args.length rc,.map (some q)] 71:=(World.putObj_heap_other (by omega)).trans (Ac.new U _ _);have cy:((U.alloc (zh #[.string y.1.r.name,.slice ra y.1.r.args.length rc,.map (some q)] 71)).putObj (W.heap.size+4) (.loop ab)).heap[W.heap.size+4]? = some (.loop ab):=World.putObj_heap_same (by simp; omega);have k6:∀b,A b->((U.alloc (zh #[.string y.1.r.name,.slice ra y.1.r.args.length rc,.map (some q)] 71)).putObj (W.heap.size+4) (.loop ab)).heap[b]? = j.heap[b]? := λb hb=>(kU b (by have:=(G.o b hb).1; omega) (G.o b hb).2.2).trans (dI.o b hb);have cY:((U.alloc (zh #[.string y.1.r.name,.slice ra y.1.r.args.length rc,.map (some q)] 71)).putObj (W.heap.size+4) (.loop ab)).cell? (zD w.heap.size 0)=some (.func (.yield lp) #[] #[]):=Ac.cell (show Ac _ w.heap.size _ _ from (k6 _ (L.o _ bO.o)).trans dz.o) 0;have cP:((U.alloc (zh #[.string y.1.r.name,.slice ra y.1.r.args.length rc,.map (some q)] 71)).putObj (W.heap.size+4) (.loop ab)).cell? (zD W.heap.size 0)=some (.slice ua x.1.length uc):=Ac.cell (show Ac _ W.heap.size _ _ from (k6 _ dy.o).trans bx.o) 0;have cc:((U.alloc (zh #[.string y.1.r.name,.slice ra y.1.r.args.length rc,.map (some q)] 71)).putObj (W.heap.size+4) (.loop ab)).cell? (zD (W.heap.size+1) 0)=some (.string x.2.name):=Ac.cell (show Ac _ (W.heap.size+1) _ _ from (k6 _ ck.o).trans aP.o) 0;have cd:((U.alloc (zh #[.string y.1.r.name,.slice ra y.1.r.args.length rc,.map (some q)] 71)).putObj (W.heap.size+4) (.loop ab)).cell? (zD (W.heap.size+1) 1)=some (.slice d x.2.args.length g):=Ac.cell (show Ac _ (W.heap.size+1) _ _ from (k6 _ ck.o).trans aP.o) 1;have ea:((U.alloc (zh #[.string y.1.r.name,.slice ra y.1.r.args.length rc,.map (some q)] 71)).putObj (W.heap.size+4) (.loop ab)).cell? (zD U.heap.size 0)=some (.string y.1.r.name):=bg.cell 0;have eb:((U.alloc (zh #[.string y.1.r.name,.slice ra y.1.r.args.length rc,.map (some q)] 71)).putObj (W.heap.size+4) (.loop ab)).cell? (zD U.heap.size 1)=some (.slice ra y.1.r.args.length rc):=bg.cell 1;have ec:((U.alloc (zh #[.string y.1.r.name,.slice ra y.1.r.args.length rc,.map (some q)] 71)).putObj (W.heap.size+4) (.loop ab)).cell? (zD U.heap.size 2)=some (.map (some q)):=bg.cell 2;have cz:J ((pre++ag.flatMap (Cm rs))++aR.flatMap (λy:Ft=>[((x,y):Ch)])) true g1 ((U.alloc (zh #[.string y.1.r.name,.slice ra y.1.r.args.length rc,.map (some q)] 71)).putObj (W.heap.size+4) (.loop ab)):=D.o.abide dH.o (by omega) λb hb=>kU b (b3.o b hb) (λh=>by
    rcases hb with hb|hb
    ·rw[h]at hb; exact b2 hb
    ·exact(G.o b (L.o b (I.o b hb))).2.2 h)
   have ah:Hid (∀b,Z3 b->b<U.heap.size/\¬g1 b/\b≠W.heap.size+4):=λb hb=>⟨(b4.o b hb).1,λh=>(b4.o b hb).2 ((aA.o b).2 (Ae h)),λh=>(b4.o b hb).2 ((aA.o b).2 (Ad h))⟩;have b7:Hid (((U.alloc (zh #[.string y.1.r.name,.slice ra y.1.r.args.length rc,.map (some q)] 71)).putObj (W.heap.size+4) (.loop ab)).os=U.os/\((U.alloc (zh #[.string y.1.r.name,.slice ra y.1.r.args.length rc,.map (some q)] 71)).putObj (W.heap.size+4) (.loop ab)).tape=U.tape/\((U.alloc (zh #[.string y.1.r.name,.slice ra y.1.r.args.length rc,.map (some q)] 71)).putObj (W.heap.size+4) (.loop ab)).output=U.output):=⟨rfl,rfl,rfl⟩;have bh:=Aa kU;have dK:=Aa cy;have az:=Aa k6;clear kU cy k6 bg;have dL:=cO.o (n3-1) _ (x,y) #[.agg #[.slice ua x.1.length uc,.string x.2.name,.slice d x.2.args.length g,.string y.1.r.name,.slice ra y.1.r.args.length rc,.map (some q)]] (λb=>Z b∨Z3 b) g1 ((U.alloc (zh #[.string y.1.r.name,.slice ra y.1.r.args.length rc,.map (some q)] 71)).putObj (W.heap.size+4) (.loop ab)) (by
     obtain⟨q3,e3⟩:=b1.o;obtain⟨q2,e2⟩:=bs.o;refine List.IsPrefix.trans ⟨(q3.map λz=>(x,z))++q2.flatMap (Cm rs),?_⟩ cZ.o;unfold Ct;rw[<-e2,Hn,Hn,List.flatMap_singleton,Cm,<-e3,CI,CI,<-List.map_eq_flatMap];simp) cz
    ⟨ua,uc,d,g,ra,rc,q,Lm,rfl,(bw.o.kept λb hb=>az.o b (bc.o b hb)).mono λb hb _=>Ae hb,(aO.o.kept λb hb=>az.o b (bc.o b hb)).mono λb hb _=>Ae hb,(dG.o.kept λb hb=>bh.o b (ah.o b hb).1 (ah.o b hb).2.2).mono λb hb _=>Ad hb,Ad HQ.o,cx.o.1.kept (bh.o q (ah.o q HQ.o).1 (ah.o q HQ.o).2.2),cx.o.2.imp λa l hs=>(hs.kept λb hb=>bh.o b (ah.o b hb).1 (ah.o b hb).2.2).mono λb hb _=>Ad hb⟩
    (λb hb=>by
     rcases hb with hb|hb
     ·have h1:=G.o b (bc.o b hb); exact⟨by omega,h1.2.1⟩
     ·have h1:=ah.o b hb; exact⟨by omega,h1.2.1⟩)
   obtain⟨ed,c0,dM,c1,hy,hR⟩:=dL;have dN:=Aa hR;clear hR cz aL ay;gi_wp2
   refine⟨(CO.1 b6).2,?_⟩;generalize ((U.alloc (zh #[.string y.1.r.name,.slice ra y.1.r.args.length rc,.map (some q)] 71)).putObj (W.heap.size+4) (.loop ab))=V3 at *;gi_wp2
   refine⟨(λh=>by simp[Fence.wide] at h),?_⟩;refine RoundIn.mono (F:=Fence.wide.inRound (W.heap.size+4)) dN.o ?_;rintro e W9 ⟨s9,rfl,f9,c2,M,an,c4⟩;have dO:=Aa c4;clear c4;have ee:=M.size;have b8:Hid (W9.heap[W.heap.size+4]? = some (.loop ab)):=(M.block _ (by omega) b2).trans dK.o;have N:Hid (∀o:Loop,o=(if s9=true then i else bd)->∃f',JL J A (λy:Ft=>[((x,y):Ch)]) (pre++ag.flatMap (Cm rs)) (W.heap.size+4) i bd j (aR++[y]) s9 f' (W9.putObj (W.heap.size+4) (.loop o))/\Ak f3 U (W9.putObj (W.heap.size+4) (.loop o))/\(∀b,f' b->f3 b∨U.heap.size<=b)/\JV s9 (S (W9.putObj (W.heap.size+4) (.loop o)))):=λo ho=>by
    subst ho;have c6:¬f9 (W.heap.size+4):=λh=>by
     rcases an _ h with h|h
     ·exact b2 h
     ·omega
    have c7:∀b,A b->W9.heap[b]? = j.heap[b]? /\ ¬f9 b:=λb hb=>by
     have h1:=G.o b hb;refine⟨(M.block b (by omega) h1.2.1).trans (az.o b hb),λh=>?_⟩;rcases an _ h with h|h
     ·exact h1.2.1 h
     ·omega
    refine⟨λb=>f9 b∨b=W.heap.size+4,⟨f9,_,λb=>Iff.rfl,Al _,λ_=>rfl,?_,c6,World.putObj_heap_same (by omega),λb hb=>⟨(G.o b hb).1,(c7 b hb).2,(G.o b hb).2.2⟩,by simp; omega,λb hb=>(World.putObj_heap_other (G.o b hb).2.2).trans (c7 b hb).1⟩,?_,(λb hb=>?_),λh=>aD.o.put (dO.o h) b8.o _⟩
    ·rw[D8,Hn];refine D.o.abide (by simpa using c2) (by simp) λb hb=>World.putObj_heap_other λh=>?_;rcases hb with hb|hb
     ·rw[h]at hb; exact c6 hb
     ·exact(G.o b (L.o b (I.o b hb))).2.2 h
    ·refine⟨?_,?_,?_,by simp; omega,λb hb hn=>?_⟩
     ·exact M.os.trans b7.o.1
     ·exact M.tape.trans b7.o.2.1
     ·exact M.output.trans b7.o.2.2
     ·have h1:b≠W.heap.size+4:=λh=>hn ((aA.o b).2 (Ad h));rw[World.putObj_heap_other h1,M.block b (by omega) (λh=>hn ((aA.o b).2 (Ae h))),bh.o b hb h1]
    ·rcases hb with hb|hb
     ·rcases an b hb with h|h
      ·exact Ae ((aA.o b).2 (Ae h))
      ·right; omega
     ·exact Ae ((aA.o b).2 (Ad hb))
   clear c2 M an;cases s9 with
   |true=>
    gi_wp2
    exact⟨b8.o,N.o _ rfl⟩
   |false=>
    gi_wp2
    exact⟨b8.o,N.o _ rfl⟩
  have c8:∀b,X b∨Z b->b<j.heap.size/\¬(f1 b∨b=W.heap.size+4):=λb hb=>by
   have h1:A b:=by
    rcases hb with hb|hb
    ·exact L.o b (a7.o b hb)
    ·exact bc.o b hb
   have h2:=cl.o b h1;exact⟨h2.1,λh=>by
    rcases h with h|h
    ·exact h2.2.1 h
    ·exact h2.2.2 h⟩
  refine(Sm b0.o (W.heap.size+4) cr rs x.2 (W.heap.size+2) (W.heap.size+2+1) (.slice un ul k) d g [] (λb=>f1 b∨b=W.heap.size+4) j (λb=>X b∨Z b) bz.o (dD.o.mono λb hb _=>Ae hb) dC.o (aO.o.mono λb hb _=>Ad hb) c8 (λh=>by
   rcases h with h|h
   ·have:=aj.o _ (Ae h); omega
   ·omega) (λh=>by
   rcases h with h|h
   ·have:=aj.o _ (Ae h); omega
   ·omega) (JL.start dB.o (λh=>by have:=aj.o _ (Ae h); omega) dA.o cl.o) (by simp)).mono ?_
  clear cr c8;rintro e W7 ⟨ak,s7,c9,cA⟩;have dP:=Aa cA;clear cA;obtain⟨f7,m7,cB,a1,b9,bA,cC,aX,aB,aY⟩:=c9.unJL;have ef:=aB.size;have a6:=Aa ak;have N:Hid (∀(o:Loop) (o3:Obj),o=(if s7=true then r else rd)->(W7.putObj (W.heap.size+4) o3).heap[w.heap.size+1+1]? = some (.loop rb)/\∃f',JL J B (Cm rs) pre (w.heap.size+1+1) r rd H (ag++[x]) s7 f' ((W7.putObj (W.heap.size+4) o3).putObj (w.heap.size+1+1) (.loop o))/\Ak f2 W ((W7.putObj (W.heap.size+4) o3).putObj (w.heap.size+1+1) (.loop o))/\(∀b,f' b->f2 b∨W.heap.size<=b)/\JV s7 (S ((W7.putObj (W.heap.size+4) o3).putObj (w.heap.size+1+1) (.loop o)))):=λo o3 ho=>by
   subst ho;have bj:=aX _ dx.o;have kk:∀b,b≠W.heap.size+4->b≠w.heap.size+1+1->((W7.putObj (W.heap.size+4) o3).putObj (w.heap.size+1+1) (.loop (if s7=true then r else rd))).heap[b]? = W7.heap[b]? := λb h1 h2=>(World.putObj_heap_other h2).trans (World.putObj_heap_other h1);have bB:(Bs rs x.2).flatMap (λy:Ft=>[((x,y):Ch)])=Cm rs x:=by unfold Cm; rw[List.map_eq_flatMap]
   rw[bB]at cB a1 b9;refine⟨(World.putObj_heap_other (by omega)).trans (bj.2.2.2.trans aQ.o),λb=>f7 b∨b=w.heap.size+1+1,⟨f7,(ag.flatMap (Cm rs)).length+m7,λb=>Iff.rfl,by rw[Hn,Cv]; simp; omega,λh=>by rw[Hn,Cv,a1 h]; simp,?_,bj.2.1,World.putObj_heap_same (by simp; omega),λb hb=>⟨(E.o b hb).1,(aX b (L.o b hb)).2.1,(E.o b hb).2.2⟩,by simp; omega,λb hb=>?_⟩,?_,(λb hb=>?_),λh=>aD.o.put (aD.o.put (dP.o h) cC _) ((World.putObj_heap_other (by omega)).trans (bj.2.2.2.trans aQ.o)) _⟩
   ·refine D.o.abide (W:=W7) (by
     rw[Hn,List.take_append,BH (by omega)];simpa [DN] using b9) (by simp) λb hb=>kk b (λh=>?_) (λh=>?_)
    ·rcases hb with hb|hb
     ·rw[h]at hb; exact bA hb
     ·exact(aX b (L.o b (I.o b hb))).2.2.1 h
    ·rcases hb with hb|hb
     ·rw[h]at hb; exact bj.2.1 hb
     ·exact(E.o b (I.o b hb)).2.2 h
   ·have h1:=aX b (L.o b hb);have h2:=E.o b hb;exact(kk b h1.2.2.1 h2.2.2).trans (h1.2.2.2.trans ((cq.o b (by omega) h2.2.2).trans (HC.o b hb)))
   ·refine⟨?_,?_,?_,by simp; omega,λb hb hn=>?_⟩
    ·exact aB.os.trans aw.o.1
    ·exact aB.tape.trans aw.o.2.1
    ·exact aB.output.trans aw.o.2.2
    ·have h1:b≠w.heap.size+1+1:=λh=>hn ((a8.o b).2 (Ad h));have h2:¬f1 b:=λh=>hn ((a8.o b).2 (Ae h));rw [kk b (by omega) h1, aB.block b (by omega) (λh => by
      rcases h with (h|h)|h
      ·exact h2 h
      ·omega
      ·exact h),cq.o b hb h1]
   ·rcases hb with hb|hb
    ·rcases aY b hb with (h|h)|h
     ·exact Ae ((a8.o b).2 (Ae h))
     ·right; omega
     ·right; omega
    ·exact Ae ((a8.o b).2 (Ad hb))
  have cD:=Aa cC;clear c9 b9 aX aB aY cB a1 ak;refine⟨a6.o,?_⟩;cases s7 with
  |true=>
   left;refine⟨cD.o,?_⟩;gi_wp2
   exact N.o _ _ rfl
  |false=>
   right;refine⟨by rw[<-ay]; exact cD.o,?_⟩;gi_wp2
   exact N.o _ _ rfl
 refine(Sn bp (w.heap.size+1+1) bR t O T F aa ca fv [] (λb=>f b∨b=w.heap.size+1+1) H X (HT.o.below C HT.o.lt) (HS.o.later C) (HF.o.below C HF.o.lt) (cQ.o.later C) bG (λb hb=>⟨(ba.o b (a7.o b hb)).1,λh=>by
  rcases h with h|h
  ·exact(ba.o b (a7.o b hb)).2.1 h
  ·exact(ba.o b (a7.o b hb)).2.2 h⟩) (JL.start (D.o.abide cS.o (by omega) λb hb=>e5 b (HI.o b hb)) (λh=>by have:=HI.o _ (Ae h); omega) bm ba.o) hz (by simp)).mono ?_
 rintro e W ⟨ak,s,hw,cE⟩;have dQ:=Aa cE;clear cE;obtain⟨f',m,hm,aG,cF,bC,cG,hK',aC,aZ⟩:=hw.unJL;have eg:=aC.size;have bD:Hid (∀o,(W.putObj (w.heap.size+1+1) o).heap[w.heap.size+1]? = some (.deferred (some []))):=λo=>(World.putObj_heap_other (by omega)).trans ((hK' _ bP.o).2.2.2.trans bl);have N:Hid (∀o o1,B9 J (Ct rs t O) pre f (λ_=>False) w s ((W.putObj (w.heap.size+1+1) o).putObj (w.heap.size+1) o1)):=λo o1=>by
  have kk:∀b,b≠w.heap.size+1+1->b≠w.heap.size+1->((W.putObj (w.heap.size+1+1) o).putObj (w.heap.size+1) o1).heap[b]? = W.heap[b]? := λb h1 h2=>(World.putObj_heap_other h2).trans (World.putObj_heap_other h1);have dR:=hK' _ bP.o;refine⟨m,f',hm,aG,D.o.abide cF (by simp) λb hb=>kk b (λh=>?_) (λh=>?_),⟨?_,?_,?_,by simp; omega,λb hb hn=>?_⟩,λb hb=>?_⟩
  ·rcases hb with hb|hb
   ·rw[h]at hb; exact bC hb
   ·exact(hK' b (I.o b hb)).2.2.1 h
  ·rcases hb with hb|hb
   ·rw[h]at hb; exact dR.2.1 hb
   ·have:=HI.o b (Ad hb); omega
  ·exact aC.os.trans C.os
  ·exact aC.tape.trans C.tape
  ·exact aC.output.trans C.output
  ·rw [kk b (by omega) (by omega), aC.block b (by omega) (λh => by
    rcases h with (h|h)|h
    ·exact hn (Ae h)
    ·omega
    ·exact h),e5 b hb]
  ·rcases aZ b hb with (h|h)|h
   ·exact Ae h
   ·right; omega
   ·right; omega
 have cH:Hid (∀o o1,JV s (S ((W.putObj (w.heap.size+1+1) o).putObj (w.heap.size+1) o1))):=λo o1 h=>aD.o.putD (aD.o.put (dQ.o h) cG _) (bD.o _) _;have cI:=Aa cG;have a6:=Aa ak;clear hw cF hK' aC aZ hm aG ak bR bp C bl bm e5;refine⟨a6.o,?_⟩;cases s with
 |true=>
  left;refine⟨cI.o,?_⟩;gi_wp2
  refine⟨by simp,.inl ⟨_,_,rfl,run_takeDeferred (bD.o _),?_⟩⟩;exact⟨_,results_none rfl _ _ _,⟨_,rfl⟩,⟨true,N.o _ _,cH.o _ _⟩⟩
 |false=>
  right;refine⟨by rw[<-bo]; exact cI.o,?_⟩;gi_wp2
  refine⟨by simp,.inl ⟨_,_,rfl,run_takeDeferred (bD.o _),?_⟩⟩;exact⟨_,results_none rfl _ _ _,⟨_,rfl⟩,⟨false,N.o _ _,cH.o _ _⟩⟩
theorem Zu {J:Tk Ch} {all:List Ch} (d:EQ J K) (lp:Nat) (g:Lb lp FH J all) (rs:List Pr) (t:Tm) (a:List Int) (P R T F:Nat) (c:Value) (aa:Option Addr) (ca:Nat) (fv:Value) (pre:List Ch) (f:Nat->Prop) (w:World) (X:Nat->Prop) (hP:Ac w P #[.func (.func 60) #[] #[zC T,zC F]] 80) (h:Ac w R #[c] 23) (hu:QV w X c rs) (i:Ac w T (zF t aa ca) 31) (hs:Sl w X aa t.args) (hF:Ac w F #[fv] 22) (ab:PV w X fv a) (j:(AA t a).isSome=true) (k:∀b,X b->b<w.heap.size/\¬f b) (l:¬f R) (hj:J pre true f w) (hz:Ab [t]<=800000) (m:(pre++Ct rs t a) <+: all):
  Calls prog 58 #[.func (.yield lp) #[] #[],zC P,zC R] w λe w'=>(∃v,e=.returned v)/\∃b,B9 J (Ct rs t a) pre f (λ_=>False) w b w':=by
 refine(So d lp Hv.triv g.toS rs t a P R T F c aa ca fv pre f w X hP h hu i hs hF ab j k l hj hz m).mono ?_;rintro e w' ⟨h1,b,h2,_⟩;exact⟨h1,b,h2⟩
open Go.RowKit
theorem Zv (F:Nat) (r T rc:Nat) (U:ByteArray) (ra:Option Addr) (ls:List Bd) (L:List (ByteArray×Value)) (aF:r≠F) (t:Tm):∀(n:Nat) (v:Value) (w:World) (X:Nat->Prop),TV w X v t->(∀b,X b->b≠F)->n<=1000000->Ac w F #[zA n,.func (.func 63) #[.agg #[.string U,.slice ra T rc,.map (some r)]] #[]] 146->Dy w r X ls L->
  Calls prog 114 #[zC F,v,.func (.func 90) #[zC F] #[]] w λe w'=>E6 w F (.func (.func 63) #[.agg #[.string U,.slice ra T rc,.map (some r)]] #[]) ⟨t.name,fL ls t.args⟩ n e w':=by
 induction t using Tm.ind with
 |h s l ih=>
  intro n v w X hv aG hn hF hE;obtain⟨a,c,rfl,hs⟩:=hv;(try dsimp only[zF]);(try dsimp only[zG]);(try dsimp only[zE]);(try dsimp only);generalize aP:Value.func (.func 63) #[.agg #[.string U,.slice ra T rc,.map (some r)]] #[]=C at *;obtain⟨M,V⟩:∃M,fL ls l=M:=⟨_,rfl⟩;rw[V];have aQ:M.length=l.length:=by rw[<-V,Lc]; simp
  have aR:Hid (∀k (h:k<M.length) (h':k<l.length),M[k]=fT ls l[k]):=λk h h'=>by subst V; simp[Lc]
  have HE:=Aa hE;clear hE V;have IH:=Aa ih;clear ih;obtain⟨i0,aH,aI,aJ,aK⟩:=DO Tryz.infoTerm;have f0:∀o,(w.alloc o).cell? (zD F 0)=some (zA n):=λo=>(hF.alloc o).cell 0;have ff:∀o,(w.alloc o).frozen? (zD F 0)=false:=λo=>(hF.alloc o).frozen 0;have aL:F<w.heap.size:=hF.lt;go_enter func114,ntmps114;go_wp2_with fail;have E3:Hid (IY w F (w.heap.size+1+1) s zB #[zA ((n:Int)-1),C] ((((w.setCell (zD F 0) (zA ((n:Int)-1))).alloc (zh #[.string s,.slice a l.length c] 31)).alloc zc).alloc (zh #[.string s,zB] 31))):=by
   refine⟨((((Ex.refl F w).set 0 _).alloc _).alloc _).alloc _,?_,?_,(((hF.set 0 _).alloc _).alloc _).alloc _,by simp[World.setCell]⟩
   ·have h:=(Ac.new ((w.setCell (zD F 0) (zA ((n:Int)-1))).alloc (zh #[.string s,.slice a l.length c] 31)) zd 31).alloc (zh #[.string s,zB] 31);simpa [World.setCell] using h
   ·have h:=Ac.new (((w.setCell (zD F 0) (zA ((n:Int)-1))).alloc (zh #[.string s,.slice a l.length c] 31)).alloc zc) #[.string s,zB] 31;simpa [World.setCell] using h
  generalize ((((w.setCell (zD F 0) (zA ((n:Int)-1))).alloc (zh #[.string s,.slice a l.length c] 31)).alloc zc).alloc (zh #[.string s,zB] 31))=w3 at *;generalize aS:w.heap.size+1+1=O at *;have hO:w.heap.size+2<=O:=by omega
  clear aS;clear f0 ff;have HS:=Aa hs;have hl:=hs.1;have E:=Aa aG;have hz:Ab [(⟨s,M⟩:Tm)]=1+Ab M:=by simp[Ab]
  clear hs aG;go_loopw [23] (λi wr=>OJ w F O s C M n i wr) (λi wr=>l.length-(intOf i).toNat);case atStart=>
   refine⟨0,zB,Be _,rfl,?_⟩;by_cases aT:n=0
   ·subst aT;exact Ad ⟨by omega,E3.o,none,0,0,rfl⟩
   ·refine Ae ⟨n-1,[],by simp[Ab]; omega,?_,A1.start _ _ _ _⟩;rw[show((n-1:Nat):Int)=(n:Int)-1 by omega];exact E3.o
  case round=>
   obtain⟨k,u,hk,rfl,an⟩:=hrel;rcases an with ⟨m,xs,hm,G,ao⟩|⟨aU,G,a9,H,z,rfl⟩
   ·have d:=Aa G;have f:=Aa ao;have I:=Aa hm;clear G ao;by_cases J:k<l.length
    ·obtain⟨b,o,a',c',rfl,d0,d1,hx⟩:=(HS.o.ex d.o.1 E.o).get (Ag _ _) (λ_ _ h=>h) k J;obtain⟨av,cv,ev,aV⟩:=hx;simp at ev;obtain⟨rfl,rfl⟩:=ev;have W:k<M.length:=(by omega);obtain⟨y,hy⟩:∃y,fT ls l[k]=y:=⟨_,rfl⟩;have az:Hid (M[k]=y):=Aa (by rw[aR.o k W J,hy]);have aM:m<=1000000:=(by omega);have D:Hid (O≠F):=Aa (by omega);have ar:Hid (F<O+1):=Aa (by omega);have hlen:=E4 M;have a6:(M.take k).length=k:=by simp; omega
     have bg:k<=1000000:=by have h1:=E4 (M.take k); rw[a6] at h1; omega
     have Y:Hid ((M.take k).length+1<=maxLen/\((M.take k).length+1)*40<=140737488355328):=Aa (by rw[a6];exact⟨by unfold maxLen; omega,by omega⟩);clear a6;have Z:Hid (Calls prog 90 #[zC F,.agg (zF l[k] a' c')] (wr.alloc (ze l[k] a' c')).drew λe q=>E6 (wr.alloc (ze l[k] a' c')).drew F C y m e q):=(by have aW:Dy (wr.alloc (ze l[k] a' c')).drew r X ls L:=((HE.o.ex d.o.1 aF E.o).later ((Ag _ _).alloc (Al _) _)).later ((Ag _ _).drew);have aX:Ac (wr.alloc (ze l[k] a' c')).drew F #[zA m,C] 146:=(d.o.2.2.2.1.alloc _).drewN 1;have aY:Sl (wr.alloc (ze l[k] a' c')).drew X a' l[k].args:=(aV.later ((Ag _ _).alloc (Al _) _)).later ((Ag _ _).drew);have aZ:=IH.o l[k] (AM J) m;rw[<-hy];clear I d f;subst aP;exact Sj F r T rc U ra ls L l[k] m a' c' _ X aM E.o aF aY aX aW (λw' h1 h2 h3=>aZ _ w' X ⟨a',c',rfl,h1⟩ E.o aM h2 h3));have f0:∀o,(wr.alloc o).cell? (zD F 0)=some (zA m):=λo=>(d.o.2.2.2.1.alloc o).cell 0;have o1:∀o,(wr.alloc o).cell? (zD O 1)=some u:=λo=>(d.o.2.2.1.alloc o).cell 1;have bh:¬(m:Int)<0:=(by omega);by_cases hle:Ab [y]<=m
     ·have a7:Hid (Calls prog 90 #[zC F,.agg (zF l[k] a' c')] (wr.alloc (ze l[k] a' c')).drew λe q=>∃a1 c1,e=.returned (.agg (zF y a1 c1))/\Ac q F #[zA ((m:Int)-Ab [y]),C] 146/\Ex F wr q/\Sl q (λb=>wr.heap.size<=b) a1 y.args):=Z.o.mono λe q hp=>by
       obtain⟨s1,a1,l1,c1,m1,h1,h2,h3,h4,_⟩:=hp;obtain⟨rfl,rfl,rfl,h5⟩:=h4 hle;exact⟨a1,c1,h1,h2,(((Ex.refl F wr).alloc _).drew).trans h3,h5.mono λb hb _=>by simp at hb; omega⟩
      clear Z;go_wp2_with fail;go_region_law (first
       | (go_simp; go_at_call 90; refine a7.o.mono ?_; rintro e w1 ⟨a1,c1,rfl,N,ab,aN⟩; have a8:∀o,(w1.alloc o).cell? (zD O 1)=some u:=λo=>((Ac.ex d.o.2.2.1 ab D.o).alloc o).cell 1; have aA:w1.cell? (zD O 1)=some u:=(Ac.ex d.o.2.2.1 ab D.o).cell 1)
       | (refine step_append_lies _ rfl _ _ 29 rfl (O+1) 31 i0 _ 2 40 underlying29 aH aI aJ aK rfl (by decide) u (M.take k).length xs rfl (by exact(A1.ex (B:=F) f.o ab ar.o (λh=>h)).own.alloc _) (zD w1.heap.size 0) 1 1 [.string y.name,.slice a1 y.args.length c1] rfl rfl (cell_two_new _ _ _ _) (λx hx=>by simp at hx; rcases hx with rfl|rfl<;>rfl) (by decide) Y.o.1 Y.o.2 (by have:=ab.size; have:=d.o.2.2.2.2; simp; omega) _ rfl ?_; intro g cap w3 ad aa ah ai; have A:=Aa (((Ac.ex d.o.2.2.1 ab D.o).alloc _).grown aa (f.o.ne (F2 _))); have aB:w3.cell? (zD O 1)=some u:=A.o.cell 1; have aC:=A.o.frozen 1))
      all_goals
       have HK:=Aa (JR (v:=.slice (some (zD g 0)) ((M.take k).length+1) cap) aL hO d.o (λj hj=>(f.o.own.lt j hj).1) ab N aa);have ba:=Aa (OI (by omega) d.o.2.2.2.2 f.o ab ⟨a1,c1,rfl,aN⟩ ad aa ah);clear ad aa ah a8 aA aB aC A N ab aN ai;go_wp2_with fail;go_roundw
       case rel=>
        have aD:(M.take k).length=k:=by simp; omega
        have h1:=HK.o;have h2:=ba.o;have aO:=I.o;simp only[aD] at h1 h2;have aE:min k l.length=k:=(by omega);simp only[aE];refine⟨k+1,.slice (some (zD g 0)) (k+1) cap,by omega,by go_num,Ae ⟨m-Ab [y],xs++[.string y.name,.slice a1 y.args.length c1],by rw[DP M k W,az.o]; omega,?_,?_⟩⟩
        ·rw[show((m-Ab [y]:Nat):Int)=(m:Int)-Ab [y] by omega];exact h1
        ·rw[Ci W,az.o];exact h2
       case measure=>simp[intOf]; omega
     ·have a7:Hid (Calls prog 90 #[zC F,.agg (zF l[k] a' c')] (wr.alloc (ze l[k] a' c')).drew λe q=>∃s1 a1 l1 c1,e=.returned (.agg #[.string s1,.slice a1 l1 c1])/\Ac q F #[zA (-1),C] 146/\Ex F wr q):=Z.o.mono λe q hp=>by
       obtain⟨s1,a1,l1,c1,m1,h1,h2,h3,_,h4⟩:=hp;obtain rfl:=h4 (by omega);exact⟨s1,a1,l1,c1,h1,h2,(((Ex.refl F wr).alloc _).drew).trans h3⟩
      clear Z;go_wp2_with fail;go_region_law (first
       | (go_simp; go_at_call 90; refine a7.o.mono ?_; rintro e w1 ⟨s1,a1,l1,c1,rfl,N,ab⟩; have a8:∀o,(w1.alloc o).cell? (zD O 1)=some u:=λo=>((Ac.ex d.o.2.2.1 ab D.o).alloc o).cell 1; have aA:w1.cell? (zD O 1)=some u:=(Ac.ex d.o.2.2.1 ab D.o).cell 1)
       | (refine step_append_lies _ rfl _ _ 29 rfl (O+1) 31 i0 _ 2 40 underlying29 aH aI aJ aK rfl (by decide) u (M.take k).length xs rfl (by exact(A1.ex (B:=F) f.o ab ar.o (λh=>h)).own.alloc _) (zD w1.heap.size 0) 1 1 [.string s1,.slice a1 l1 c1] rfl rfl (cell_two_new _ _ _ _) (λx hx=>by simp at hx; rcases hx with rfl|rfl<;>rfl) (by decide) Y.o.1 Y.o.2 (by have:=ab.size; have:=d.o.2.2.2.2; simp; omega) _ rfl ?_; intro g cap w3 ad aa ah ai; have A:=Aa (((Ac.ex d.o.2.2.1 ab D.o).alloc _).grown aa (f.o.ne (F2 _))); have aB:w3.cell? (zD O 1)=some u:=A.o.cell 1; have aC:=A.o.frozen 1))
      all_goals
       have HK:=Aa (JR (v:=.slice (some (zD g 0)) ((M.take k).length+1) cap) aL hO d.o (λj hj=>(f.o.own.lt j hj).1) ab N aa);clear ad aa ah a8 aA aB aC A N ab ai;go_wp2_with fail;go_roundw
       case rel=>
        have aD:(M.take k).length=k:=by simp; omega
        have h0:=HK.o;have aO:=I.o;simp only[aD] at h0;have aE:min k l.length=k:=(by omega);simp only[aE];refine⟨k+1,.slice (some (zD g 0)) (k+1) cap,by omega,by go_num,Ad ⟨?_,h0,_,_,_,rfl⟩⟩;have h1:=DP M k W;rw[az.o]at h1;have h2:=Eu M (k+1);omega
       case measure=>simp[intOf]; omega
    ·have bb:M.take k=M:=BH (by omega);rw[bb]at f I;obtain⟨a9,z,bc,aw⟩:=f.o.sl;subst bc;have S9:=Aa aw;clear aw;have P:=d.o.2.1.c0;have R:=d.o.2.1.c1;have rf:=d.o.2.1.frozen;have o0:=d.o.2.2.1.c0;have o1:=d.o.2.2.1.c1;go_wp2_with fail;refine Aq (v:=.agg #[.string s,.slice a9 M.length z]) (by simp[results,results114,go_sem,Az,Aw,P,R,aQ]) rfl ?_;have aO:=I.o;refine⟨s,a9,M.length,z,m,rfl,(d.o.2.2.2.1.setOther _ _ (by omega)).setOther _ _ (by omega),(d.o.1.setNew (by omega) _ _).setNew (by omega) _ _,λh=>⟨by rw[hz]; omega,rfl,rfl,(S9.o.kept λb hb=>?_).mono λb hb _=>?_⟩,λh=>by omega⟩
     ·have bd:O+1<=b:=hb.elim False.elim id;rw[An _ _ _ _ (by simp; omega),An _ _ _ _ (by simp; omega)]
     ·have bd:O+1<=b:=hb.elim False.elim id;omega
   ·have d:=Aa G;clear G;have f0:∀o,(wr.alloc o).cell? (zD F 0)=some (zA (-1)):=λo=>(d.o.2.2.2.1.alloc o).cell 0;by_cases J:k<l.length
    ·obtain⟨b,o,a',c',rfl,d0,d1,hx⟩:=(HS.o.ex d.o.1 E.o).get (Ag _ _) (λ_ _ h=>h) k J;clear hx;have o0:∀o,(wr.alloc o).cell? (zD O 0)=some (.string s):=λo=>(d.o.2.2.1.alloc o).cell 0;have o1:∀o,(wr.alloc o).cell? (zD O 1)=some (.slice a9 H z):=λo=>(d.o.2.2.1.alloc o).cell 1;have P:=d.o.2.1.c0;have R:=d.o.2.1.c1;have rf:=d.o.2.1.frozen;have bf:w.heap.size+1<wr.heap.size:=d.o.2.1.lt;go_wp2_with fail;refine Aq (v:=.agg #[.string s,.slice a9 H z]) (by simp[results,results114,go_sem,Az,Aw,P,R,bf,Cz]) rfl ?_;exact⟨s,a9,H,z,-1,rfl,((d.o.2.2.2.1.setOther _ _ (by omega)).setOther _ _ (by omega)).alloc _,((d.o.1.setNew (by omega) _ _).setNew (by omega) _ _).alloc _,λh=>by omega,λ_=>rfl⟩
    ·have P:=d.o.2.1.c0;have R:=d.o.2.1.c1;have rf:=d.o.2.1.frozen;have o0:=d.o.2.2.1.c0;have o1:=d.o.2.2.1.c1;go_wp2_with fail;refine Aq (v:=.agg #[.string s,.slice a9 H z]) (by simp[results,results114,go_sem,Az,Aw,P,R]) rfl ?_;exact⟨s,a9,H,z,-1,rfl,(d.o.2.2.2.1.setOther _ _ (by omega)).setOther _ _ (by omega),(d.o.1.setNew (by omega) _ _).setNew (by omega) _ _,λh=>by omega,λ_=>rfl⟩
theorem Zw (F:Nat) (r d rc:Nat) (f:ByteArray) (ra:Option Addr) (ls:List Bd) (L:List (ByteArray×Value)) (t:Tm) (n:Nat) (a:Option Addr) (c:Nat) (w:World) (X:Nat->Prop) (g:n<=1000000) (aa:∀b,X b->b≠F) (ab:r≠F) (hs:Sl w X a t.args) (hF:Ac w F #[zA n,.func (.func 63) #[.agg #[.string f,.slice ra d rc,.map (some r)]] #[]] 146) (h:Dy w r X ls L):
  Calls prog 90 #[zC F,.agg (zF t a c)] w λe w'=>E6 w F (.func (.func 63) #[.agg #[.string f,.slice ra d rc,.map (some r)]] #[]) (fT ls t) n e w':=
 Sj F r d rc f ra ls L t n a c w X g aa ab hs hF h (λw' h1 h2 h3=>Zv F r d rc f ra ls L ab t n _ w' X ⟨a,c,rfl,h1⟩ aa g h2 h3)
theorem Zx (r d rc:Nat) (f:ByteArray) (ra:Option Addr) (ls:List Bd) (L:List (ByteArray×Value)) (t:Tm) (n:Nat) (a:Option Addr) (c:Nat) (w:World) (X:Nat->Prop) (D:n<=1000000) (hs:Sl w X a t.args) (g:Dy w r X ls L):
  Calls prog 62 #[.agg (zF t a c),zA n,.func (.func 63) #[.agg #[.string f,.slice ra d rc,.map (some r)]] #[]] w λe w'=>Below w.heap.size w w'/\
   ((Ab [fT ls t]<=n/\∃a' c',e=.returned (.tuple #[.agg #[.string (fT ls t).name,.slice a' (fT ls t).args.length c'],.bool true])/\Sl w' (λb=>w.heap.size<=b) a' (fT ls t).args)∨(n<Ab [fT ls t]/\e=.returned (.tuple #[.agg zd,.bool false]))):=by
 have al:=@hmq prog;have E:=Aa (hs.mono (Y:=λb=>X b/\b<w.heap.size) λb h1 h2=>⟨h1,h2⟩);have F:Hid (Dy w r (λb=>X b/\b<w.heap.size) ls L):=⟨g.1,g.2.imp λa l hs=>hs.mono λb h1 h2=>⟨h1,h2⟩⟩;have an:r<w.heap.size:=g.1.lt;clear hs g;go_enter func62,ntmps62;go_wp2_with fail;have aa:Hid (Below w.heap.size w (((w.alloc (ze t a c)).alloc zc).alloc (zh #[zA n,.func (.func 63) #[.agg #[.string f,.slice ra d rc,.map (some r)]] #[]] 146))):=((((Ag w.heap.size w).alloc (Al _) _).alloc (by simp) _).alloc (by simp; omega) _);have G:Hid (Ac (((w.alloc (ze t a c)).alloc zc).alloc (zh #[zA n,.func (.func 63) #[.agg #[.string f,.slice ra d rc,.map (some r)]] #[]] 146)) (w.heap.size+1+1) #[zA n,.func (.func 63) #[.agg #[.string f,.slice ra d rc,.map (some r)]] #[]] 146):=Aa (by have h:=Ac.new ((w.alloc (ze t a c)).alloc zc) #[zA n,.func (.func 63) #[.agg #[.string f,.slice ra d rc,.map (some r)]] #[]] 146;simpa using h);have H:Hid (Ac (((w.alloc (ze t a c)).alloc zc).alloc (zh #[zA n,.func (.func 63) #[.agg #[.string f,.slice ra d rc,.map (some r)]] #[]] 146)) (w.heap.size+1) zd 31):=Aa (by have h:=(Ac.new (w.alloc (ze t a c)) zd 31).alloc (zh #[zA n,.func (.func 63) #[.agg #[.string f,.slice ra d rc,.map (some r)]] #[]] 146);simpa using h);have z3:(((w.alloc (ze t a c)).alloc zc).alloc (zh #[zA n,.func (.func 63) #[.agg #[.string f,.slice ra d rc,.map (some r)]] #[]] 146)).heap.size=w.heap.size+3:=by simp
 generalize (((w.alloc (ze t a c)).alloc zc).alloc (zh #[zA n,.func (.func 63) #[.agg #[.string f,.slice ra d rc,.map (some r)]] #[]] 146))=w3 at *;refine(Zw (w.heap.size+1+1) r d rc f ra ls L t n a c w3 (λb=>X b/\b<w.heap.size) D (λb hb=>by have:=hb.2; omega) (by omega) (E.o.later aa.o) G.o (F.o.later aa.o)).mono ?_;rintro e i ⟨s',a',l',c',m,rfl,u,ab,hy,s⟩;have x:=Aa u;have j:=Aa ab;have q:=Aa (H.o.ex ab (by omega));have ao:=ab.size;clear u ab;have y:=q.o.c0;have z:=q.o.c1;have rf:=q.o.frozen;have A:w.heap.size+1<i.heap.size:=q.o.lt;have B:Hid (Below w.heap.size w i):=⟨j.o.os.trans aa.o.os,j.o.tape.trans aa.o.tape,j.o.output.trans aa.o.output,by omega,λk hk=>(j.o.block k (by omega) (by omega)).trans (aa.o.block k hk)⟩;by_cases hle:Ab [fT ls t]<=n
 ·obtain⟨rfl,rfl,rfl,C⟩:=hy hle;have I:=Aa C;clear hy s C;have f0:∀o,(i.alloc o).cell? (zD (w.heap.size+1+1) 0)=some (zA ((n:Int)-Ab [fT ls t])):=λo=>(x.o.alloc o).cell 0;have hlt:¬((n:Int)-Ab [fT ls t])<0:=by omega
  go_wp2_with fail;refine Aq (v:=.tuple #[.agg #[.string (fT ls t).name,.slice a' (fT ls t).args.length c'],.bool true]) (by simp[results,results62,go_sem,Az,Aw,y,z,A,Cz]) rfl ?_;refine⟨((B.o.setCell (by simp) _).setCell (by simp) _).alloc (by simp[World.setCell]; omega) _,Ae ⟨hle,a',c',rfl,((I.o.kept λb hb=>?_).later ((Ag _ _).alloc (Al _) _)).mono λb hb _=>by omega⟩⟩;rw[An _ _ _ _ (by simp; omega),An _ _ _ _ (by simp; omega)]
 ·obtain rfl:=s (by omega);clear hy s;have f0:∀o,(i.alloc o).cell? (zD (w.heap.size+1+1) 0)=some (zA (-1)):=λo=>(x.o.alloc o).cell 0;go_wp2_with fail;refine Aq (v:=.tuple #[.agg zd,.bool false]) (by simp[results,results62,go_sem,Az,Aw,y,z,A,Cz]) rfl ?_;exact⟨((B.o.setCell (by simp) _).setCell (by simp) _).alloc (by simp[World.setCell]; omega) _,Ad ⟨by omega,rfl⟩⟩
def Zy:Go.Shelf.Ren:=⟨fun|41=>91|n=>n,fun|22=>29|23=>31|4=>4|n=>n,fun|n=>n⟩
theorem Zz:Go.Proofs.SlLaysE0.n41 prog Zy:={
 mixed:=by kernel_rfl
 f41:=⟨Tryz.f91.name,by decide,func91.trans (Cb some (by kernel_rfl))⟩
 t4:=underlying4
 a4:=isAgg4
 z4:=sizeOf4
 v4:=zeroValue4
 t22:=underlying29
 a22:=isAgg29
 z22:=sizeOf29
 v22:=zeroValue29}
theorem ZA (b off n c:Nat) (news:List Value) (w:World) (d:news.length=n*2) (hn:n<=1000000) (hc:∀j u,news[j]? = some u->w.cell? ⟨b,off+j,none⟩=some u) (h1:∀u∈news,u.oneCell'=true):
  Calls prog 91 #[.slice (some (zD b off)) n c] w λe w'=>∃a,e=.returned a/\w'.ownsRow w.heap.size 31 2 a n news/\a≠zB/\Below w.heap.size w w':=by
 obtain⟨i0,hi,aa,ab,f⟩:=DO Tryz.infoTerm;exact AnyE.slices_Clone Zz i0 _ 2 40 hi aa ab f rfl (by decide) sizeOf31 b off n c news w d (by unfold maxLen; omega) (by omega) hc h1
theorem BK.put {a:Option Addr} {c:Nat} (hy:Sl w X a y.args):∀ {l:List Tm} {xs:List Value} (k:Nat),BK w X l xs->k<l.length->BK w X (l.set k y) ((xs.set (k*2) (.string y.name)).set (k*2+1) (.slice a y.args.length c))
  | [],xs,k,h,hk=>by simp at hk
  |t::l,xs,0,h,_=>by
    obtain⟨a',c',r,rfl,h1,h2⟩:=h;exact⟨a,c,r,by simp,hy,h2⟩
  |t::l,xs,k+1,h,hk=>by
    obtain⟨a',c',r,rfl,h1,h2⟩:=h;refine⟨a',c',(r.set (k*2) (.string y.name)).set (k*2+1) (.slice a y.args.length c),?_,h1,BK.put hy k h2 (by simpa using hk)⟩;have e:(k+1)*2=k*2+1+1:=(by omega);rw[e];simp
theorem Le (f:Tm->Tm):∀(l:List Tm) (j k:Nat) (h:k<l.length),Dp f ((j+k:Nat):Int) j l=l.set k (f l[k])
  | [],j,k,h=>by simp at h
  |a::r,j,0,h=>by
    simp only[Hp,Dp,F4,List.set_cons_zero,Gs];have:∀(r:List Tm) (m:Nat),j<m->Dp f (j:Int) m r=r:=λr=>by
      induction r with
      |nil=>intro m _; rfl
      |cons b r c=>intro m hm; rw[Dp,Ah (by omega),c (m+1) (by omega)]
    rw[this r (j+1) (by omega)]
  |a::r,j,k+1,h=>by
    rw[Dp,Ah (by omega)];have:=Le f r (j+1) k (by simpa using h);rw[show j+(k+1)=j+1+k by omega,this];simp
theorem Lf {v:Value} (h:w.ownsRow N e z v n xs) (a:M<=N):w.ownsRow M e z v n xs:=
  ⟨h.1,h.2.imp id λ⟨g,cap,cur,h1,h2,h3⟩=>⟨g,cap,cur,h1,Bf a h2,h3⟩⟩
theorem ZB {i j:Nat} {u a:Value} (h:w.ownsRow N e z (.slice (some (zD G 0)) n cap) n xs) (hO:O≠G):((w.setCell (zD O i) u).setCell (zD O j) a).ownsRow N e z (.slice (some (zD G 0)) n cap) n xs:=by
  obtain⟨b,h1⟩:=h;refine⟨b,?_⟩;rcases h1 with h1|⟨g,aa,cur,hv,c,d,f⟩
  · exact Ae h1
  · refine Ad ⟨g,aa,cur,hv,c,?_,f⟩
    have e:g=G:=by simp at hv; exact hv.1.symm
    rw[An _ _ _ _ (by simp; omega),An _ _ _ _ (by simp; omega)];exact d
def OX (W:World) (N:Nat) (s:ByteArray) (n:Nat) (xs:List Value) (o7:Value) (wc:World):Prop:=
  ∃G O cap:Nat,o7=zC O/\N<=G/\N<=O/\G≠O/\Ac wc O #[.string s,.slice (some (zD G 0)) n cap] 31/\wc.ownsRow N 31 2 (.slice (some (zD G 0)) n cap) n xs/\Below N W wc
theorem ZC (hN:W.heap.size=N) (aa:w1.ownsRow N 31 2 (.slice (some (zD G 0)) n cap) n xs) (hb:Below N W w1):
    OX W N s n xs (zC w1.heap.size) (w1.alloc (zh #[.string s,.slice (some (zD G 0)) n cap] 31)):=by
  have a:=aa.lt G rfl;have hs:=hb.size;exact⟨G,w1.heap.size,cap,rfl,a.1,by omega,by omega,Ac.new _ _ _,aa.alloc _,hb.alloc (by omega) _⟩
theorem ZD (a:N<=O) (b:Ac w1 O zd 31) (ab:O<G) (aa:w1.ownsRow N 31 2 (.slice (some (zD G 0)) n cap) n xs) (hb:Below N W w1):
    OX W N s n xs (zC O) ((w1.setCell (zD O 0) (.string s)).setCell (zD O 1) (.slice (some (zD G 0)) n cap)):=by
  have c:=aa.lt G rfl;refine⟨G,O,cap,rfl,c.1,a,by omega,?_,ZB aa (by omega),(hb.setCell (by simpa using a) _).setCell (by simpa using a) _⟩;have:=(b.set 0 (.string s)).set 1 (.slice (some (zD G 0)) n cap);simpa using this
theorem ZE {d:World} {l:List Tm} {k R T n9 f:Nat} {cur:Array Value} {g:ByteArray} {a9:Option Addr} (i:∀b,X b->b<w.heap.size) (hk:k<l.length) (m:l.length<=9223372036854775807) (aa:BK w X l xs) (ab:cur.toList.take (l.length*2)=xs) (n:w.heap.size<=G) (ag:G<M) (hR:w.heap.size<=R) (o:R≠G) (ah:R<M) (q:Ac d G cur T) (hb:Below w.heap.size w d)
    (ht:TV d (λb=>(X b/\b<M)∨M<=b) (.agg #[.string g,.slice a9 n9 f]) y):∀wF:World,(∀b,b≠R->wF.heap[b]? = ((d.setCell ⟨G,k*2,none⟩ (.string g)).setCell ⟨G,k*2+1,none⟩ (.slice a9 n9 f)).heap[b]?)->Sl wF (λb=>X b∨w.heap.size<=b) (some (zD G 0)) (l.set k y):=by
  intro wF hF;obtain⟨a',c',e,r⟩:=ht;simp at e;obtain⟨rfl,rfl,rfl,rfl⟩:=e;have keep:∀b,b≠G->b≠R->wF.heap[b]? = d.heap[b]? := λb h1 h2=>by
    rw[hF b h2,An _ _ _ _ (by simpa using h1),An _ _ _ _ (by simpa using h1)]
  have h1:BK wF (λb=>X b∨w.heap.size<=b) l xs:=aa.imp λa kk hs=>(hs.kept λb hb2=>by
    have:=i b hb2;rw[keep b (by omega) (by omega),hb.block b this]).mono λb hb2 _=>Ae hb2
  have h2:Sl wF (λb=>X b∨w.heap.size<=b) a9 y.args:=(r.kept λb hb2=>by
    rcases hb2 with hb2|hb2
    · have:=i b hb2.1
      exact keep b (by omega) (by omega)
    · exact keep b (by omega) (by omega)).mono λb hb2 _=>by
    rcases hb2 with hb2|hb2
    · exact Ae hb2.1
    · exact Ad (by omega)
  have h3:=BK.put (c:=f) h2 k h1 hk;have s:Ac wF G ((cur.setIfInBounds (k*2) (.string y.name)).setIfInBounds (k*2+1) (.slice a9 y.args.length f)) T:=(by have t:=(q.set (k*2) (.string y.name)).set (k*2+1) (.slice a9 y.args.length f);unfold Ac at *;rw[hF G (λe=>o e.symm)];exact t);refine⟨by simpa using m,Ad ⟨G,0,rfl,Od G (Ad n) _ _ 0 h3 (λ_ _ h=>h) λj u hj=>?_⟩⟩;rw[DA];refine(s.cell j).trans ?_;rw[<-ab,<-KH,<-KH,List.getElem?_take]at hj;split at hj
  · rw[<-Array.getElem?_toList]
    simpa using hj
  · cases hj
theorem Sp (x:Tm) (d:List Int):∀(t:Tm) (v p u:Value) (w:World) (X Y:Nat->Prop),TV w X v t->PV w Y p d->TV w X u x->(AA t d).isSome=true->Ab [t]<=1000000->
    Calls prog 64 #[v,p,u] w λe w'=>∃P,e=.returned P/\TV w' (λb=>(X b/\b<w.heap.size)∨w.heap.size<=b) P (AJ x d t)/\Below w.heap.size w w':=by
  induction d with
  |nil=>
    intro t v p u w X Y hv hp hu F aI;obtain⟨a,c,rfl,hs⟩:=hv;obtain⟨f,i,rfl,T⟩:=hu;obtain⟨pa,C,rfl,av,hz⟩:=hp;have HU:=Aa T;go_enter func64,ntmps64;go_wp2_with fail;refine Aq (v:=.agg (zF x f i)) (by simp[results,results64,go_sem]) rfl ⟨_,rfl,?_,?_⟩
    · exact⟨f,i,by simp[AJ],(HU.o.mono (Y:=λb=>(X b/\b<w.heap.size)∨w.heap.size<=b) λb h1 h2=>Ae ⟨h1,h2⟩).later (EP _ _ _)⟩
    · exact EP _ _ _
  |cons z d ih=>
    intro t v p u w X0 Y0 aJ aK aL F aI;have IH:=Aa ih;clear ih;obtain⟨X,Y,U,aT,aU,hv,hp,hu⟩:∃X Y:Nat->Prop,(∀b,X b->b<w.heap.size)/\(∀b,Y b->b<w.heap.size)/\(∀b,X b->X0 b)/\TV w X v t/\PV w Y p (z::d)/\TV w X u x:=⟨λb=>X0 b/\b<w.heap.size,λb=>Y0 b/\b<w.heap.size,λ_ h=>h.2,λ_ h=>h.2,λ_ h=>h.1,aJ.mono λb h1 h2=>⟨h1,h2⟩,aK.mono λb h1 h2=>⟨h1,h2⟩,aL.mono λb h1 h2=>⟨h1,h2⟩⟩;clear aJ aK aL;obtain⟨a,c,rfl,hs⟩:=hv;obtain⟨f,i,rfl,T⟩:=hu;have HU:=Aa (show TV w X (.agg (zF x f i)) x from ⟨f,i,rfl,T⟩);clear T;obtain⟨pa,C,rfl,av,hz⟩:=hp;obtain⟨b,o,rfl,Lj,ab⟩:=hz.resolve_left (λh=>by cases h);have h0:=ab 0 (by simp);simp only[Hp,Gs] at h0;have aw:d.length+1<=9223372036854775807/\d.length+1<=C:=(by simpa using av);obtain⟨ay,ai⟩:=aw;obtain⟨s,l⟩:=t;have aM:Ab [(⟨s,l⟩:Tm)]=1+Ab l:=(by simp[Ab]);rw[aM]at aI;clear aM;have hlen:=E4 l;rw[AA]at F;split at F;case isFalse=>cases F
    case isTrue aN=>
    obtain⟨k,rfl⟩:∃k:Nat,z=(k:Int):=⟨z.toNat,by omega⟩;have hk:k<l.length:=(by simpa using aN.2);have aV:Hid ((AA l[k] d).isSome=true):=Aa (by simpa using F);obtain⟨J,aW,HT⟩:∃J:Option Addr,Hid ((if C=1 then some ((zD b o):Addr) else some ⟨b,o+1,none⟩)=J)/\Hid (PV w Y (.slice J d.length (C-1)) d):=by
      by_cases h1:C=1
      · refine⟨_,rfl,?_⟩
        have:d=[]:=Fj.1 (by omega);subst this;exact⟨_,_,rfl,by simp,Ae rfl⟩
      · refine⟨_,rfl,?_⟩
        rw[Ah h1];exact PV.tail ⟨ay,ai⟩ Lj ab
    simp only[Bg] at *;clear ab av hz F aN;go_enter func64,ntmps64;go_upto_region 3 with fail;have aO:Below w.heap.size w (((w.alloc (zh #[.string s,.slice a l.length c] 31)).alloc (ze x f i)).alloc zc):=EP _ _ _;have V:(((w.alloc (zh #[.string s,.slice a l.length c] 31)).alloc (ze x f i)).alloc zc).heap.size=w.heap.size+3:=(by simp);obtain⟨ba,m,rfl,ae⟩:=hs.2.resolve_left (λe=>by rw[e] at hk; simp at hk);obtain⟨xs,az,aX⟩:=XG l ba m ae;have aY:=Aa az;have a1:ba<w.heap.size:=U _ (Ip _ _ _ ae 0 (by omega)).1;have CL:Hid (∀w',Below w.heap.size w w'->Calls prog 91 #[.slice (some (zD ba m)) l.length c] w' λe aa=>∃G cap,e=.returned (.slice (some (zD G 0)) l.length cap)/\aa.ownsRow w'.heap.size 31 2 (.slice (some (zD G 0)) l.length cap) l.length xs/\Below w'.heap.size w' aa):=λw' hb=>by
      refine(ZA ba m l.length c xs w' az.len (by omega) (λj u hj=>(hb.cell (p:=⟨ba,m+j,none⟩) a1).trans (aX j u hj)) az.one).mono ?_;rintro e aa ⟨P,rfl,ho,hne,hb2⟩;rcases ho.2 with ⟨h1,_⟩|⟨g,cap,cur,hv,_⟩
      · exact absurd h1 hne
      · subst hv
        exact⟨g,cap,rfl,ho,hb2⟩
    go_cut [7] (λo7 wc=>OX (((w.alloc (zh #[.string s,.slice (some (zD ba m)) l.length c] 31)).alloc (ze x f i)).alloc zc) (w.heap.size+3) s l.length xs o7 wc);case first=>
      have Z:Ac (((w.alloc (zh #[.string s,.slice (some (zD ba m)) l.length c] 31)).alloc (ze x f i)).alloc zc) w.heap.size #[.string s,.slice (some (zD ba m)) l.length c] 31:=((Ac.new w _ _).alloc _).alloc _;have aZ:=Aa aO;generalize (((w.alloc (zh #[.string s,.slice (some (zD ba m)) l.length c] 31)).alloc (ze x f i)).alloc zc)=W at *;have t0:=Z.c0;have t1:=Z.c1;have a6:=Aa (And.intro t0 t1);have L:Hid (∀w',Below (w.heap.size+3) W w'->w'.cell? (zD w.heap.size 0)=some (.string s)/\w'.cell? (zD w.heap.size 1)=some (.slice (some (zD ba m)) l.length c)):=λw' hb=>⟨(hb.cell (p:=(zD w.heap.size 0)) (by simp)).trans t0,(hb.cell (p:=(zD w.heap.size 1)) (by simp)).trans t1⟩;have HD:Hid (Below (w.heap.size+3) W W.drew):=(Ag _ _).drew;have HA:Hid (∀o,Below (w.heap.size+3) W (W.drew.alloc o)):=λo=>((Ag _ _).drew).alloc (by simp; omega) o;have aP:Hid (∀w',Below (w.heap.size+3) W w'->Calls prog 91 #[.slice (some (zD ba m)) l.length c] w' λe aa=>∃G cap,e=.returned (.slice (some (zD G 0)) l.length cap)/\aa.ownsRow w'.heap.size 31 2 (.slice (some (zD G 0)) l.length cap) l.length xs/\Below w'.heap.size w' aa/\Below (w.heap.size+3) W aa):=λw' hb=>(CL.o w' (aZ.o.trans (hb.mono (by omega)))).mono λe aa ⟨G,cap,h1,h2,h3⟩=>⟨G,cap,h1,h2,h3,hb.trans (h3.mono (by have:=hb.size; omega))⟩;have a7:=Aa V;have nW:w.heap.size≠W.heap.size:=(by omega);clear V;go_region_held3 (λw'=>w'.cell? (zD w.heap.size 0)=some (.string s)/\w'.cell? (zD w.heap.size 1)=some (.slice (some (zD ba m)) l.length c)) (first|exact r|exact a6.o|exact L.o _ (HA.o _)|exact⟨It r.1 nW,It r.2 nW⟩|go_keep)
        (first
          | (go_at_call 91;
              first
                | (refine(aP.o _ (by first|exact Ag _ _|exact HD.o)).mono ?_; rintro e D ⟨G,cap,rfl,ar,B,M⟩; have r:=L.o _ M)
                | (refine(aP.o _ (by exact HA.o zc)).mono ?_; rintro e D ⟨G,cap,rfl,ar,B,M⟩; have r:=L.o _ M; have QB:Ac D W.heap.size zd 31:=(Ac.new W.drew _ _).below B (by simp); have q0:D.cell? (zD W.heap.size 0)=some (.string ⟨#[]⟩):=QB.cell 0; have q1:D.cell? (zD W.heap.size 1)=some (zB):=QB.cell 1; have qf:=QB.frozen)))
      all_goals have au:=ar.lt G rfl
      all_goals go_wp2_with fail
      all_goals go_meet
      all_goals first
        |exact ZC (by exact a7.o) (Lf ar (by have:=a7.o; simp; omega)) M
        | (have V:=a7.o; have e:W.heap.size=w.heap.size+3:=V; exact ZD (by omega) QB (by have:=au.1; simp at this; omega) (Lf ar (by simp; omega)) M)
    case rest=>
      obtain⟨G,O,cap,rfl,bw,bx,bb,a8,aA,H⟩:=hcut;have Z:Ac (((w.alloc (zh #[.string s,.slice (some (zD ba m)) l.length c] 31)).alloc (ze x f i)).alloc zc) w.heap.size #[.string s,.slice (some (zD ba m)) l.length c] 31:=((Ac.new w _ _).alloc _).alloc _;have X3:Ac (((w.alloc (zh #[.string s,.slice (some (zD ba m)) l.length c] 31)).alloc (ze x f i)).alloc zc) (w.heap.size+1) (zF x f i) 31:=by
        have:=(Ac.new (w.alloc (zh #[.string s,.slice (some (zD ba m)) l.length c] 31)) (zF x f i) 31).alloc zc;rw[Cp]at this;exact this
      have I:Below w.heap.size w wc:=aO.trans (H.mono (by omega));have aB:wc.cell? (zD w.heap.size 1)=some (.slice (some (zD ba m)) l.length c):=(H.cell (p:=(zD w.heap.size 1)) (by simp)).trans (Z.cell 1);have cz:wc.cell? (zD b o)=some (zA k):=(I.cell (p:=(zD b o)) (by simpa using aT b Lj)).trans h0;have bz:(k:Int)<(l.length:Int):=(by omega);have x0:wc.cell? (zD (w.heap.size+1) 0)=some (.string x.name):=(H.cell (p:=(zD (w.heap.size+1) 0)) (by simp)).trans (X3.cell 0);have x1:wc.cell? (zD (w.heap.size+1) 1)=some (.slice f x.args.length i):=(H.cell (p:=(zD (w.heap.size+1) 1)) (by simp)).trans (X3.cell 1);obtain⟨n,q,a',c',aC,d0,d1,hx⟩:=hs.get I (λb hb _=>U b hb) k hk;have bc:n=ba/\q=m:=by simp at aC; exact⟨aC.1.symm,aC.2.symm⟩
      obtain⟨rfl,rfl⟩:=bc;have aD:=a8.c1;have HX:=Aa hx;have aE:Ab [l[k]]<=1000000:=by
        have:=DP l k hk; have:=Eu l (k+1); omega
      have bd:∀w':World,Sem.run prog (Instr.slice 22 (.slice (some (zD b o)) (d.length+1) C) (some (zA 1)) none none) w'=.ok (.slice J d.length (C-1)) w':=λw'=>by
        rw[YU b o d.length C ai w',aW.o]
      have b0:∀b,b<w.heap.size+3->b≠G:=λb hb=>by omega
      have ak:=hs.1;have al:AJ x ((k:Int)::d) ⟨s,l⟩=⟨s,l.set k (AJ x d l[k])⟩:=(by have:=Le (AJ x d) l 0 k hk;rw[DA]at this;rw[AJ,this]);have PU:Hid (∀w',Below wc.heap.size wc w'->Calls prog 64 #[.agg (zF l[k] a' c'),.slice J d.length (C-1),.agg (zF x f i)] w' λe aa=>∃E a9 n9 A,e=.returned (.agg #[.string E,.slice a9 n9 A])/\TV aa (λb=>(X b/\b<w'.heap.size)∨w'.heap.size<=b) (.agg #[.string E,.slice a9 n9 A]) (AJ x d l[k])/\Below wc.heap.size wc aa):=λw' hb=>by
        refine(IH.o l[k] _ _ _ w' X Y (HX.o.later hb) ((HT.o.later I).later hb) ((HU.o.later I).later hb) aV.o aE).mono ?_;rintro e aa ⟨P,rfl,ht,hb2⟩;obtain⟨a9,A,rfl,bf⟩:=ht;exact⟨_,a9,_,A,rfl,⟨a9,A,rfl,bf⟩,hb.trans (hb2.mono hb.size)⟩
      have an:wc.cell? (zD O 1)=some (.slice (some (zD G 0)) l.length cap)/\wc.cell? (zD w.heap.size 1)=some (.slice (some (zD n q)) l.length c)/\wc.cell? ⟨n,q+k*2,none⟩=some (.string l[k].name)/\wc.cell? ⟨n,q+k*2+1,none⟩=some (.slice a' l[k].args.length c')/\wc.cell? (zD (w.heap.size+1) 0)=some (.string x.name)/\wc.cell? (zD (w.heap.size+1) 1)=some (.slice f x.args.length i):=⟨aD,aB,d0,d1,x0,x1⟩;have a6:=Aa an;have aQ:O<wc.heap.size:=a8.lt;have aF:w.heap.size+3<=wc.heap.size:=by have:=H.size; omega
      have L:Hid (∀w',Below wc.heap.size wc w'->w'.cell? (zD O 1)=some (.slice (some (zD G 0)) l.length cap)/\w'.cell? (zD w.heap.size 1)=some (.slice (some (zD n q)) l.length c)/\w'.cell? ⟨n,q+k*2,none⟩=some (.string l[k].name)/\w'.cell? ⟨n,q+k*2+1,none⟩=some (.slice a' l[k].args.length c')/\w'.cell? (zD (w.heap.size+1) 0)=some (.string x.name)/\w'.cell? (zD (w.heap.size+1) 1)=some (.slice f x.args.length i)):=λw' hb=>⟨(hb.cell (p:=(zD O 1)) aQ).trans aD,(hb.cell (p:=(zD w.heap.size 1)) (by simp; omega)).trans aB,(hb.cell (p:=⟨n,q+k*2,none⟩) (by simp; omega)).trans d0,(hb.cell (p:=⟨n,q+k*2+1,none⟩) (by simp; omega)).trans d1,(hb.cell (p:=(zD (w.heap.size+1) 0)) (by simp; omega)).trans x0,(hb.cell (p:=(zD (w.heap.size+1) 1)) (by simp; omega)).trans x1⟩;obtain⟨cur,aR,bg,bh,bj⟩:∃cur:Array Value,Ac wc G cur 31/\cur.size=cap*2/\cur.toList.take (l.length*2)=xs/\l.length<=cap:=by
        rcases aA.2 with ⟨h1,_⟩|⟨g,bk,cur,hv,_,hh,bl,_,hz,ht⟩
        · cases h1
        · simp at hv
          obtain⟨rfl,rfl⟩:=hv;exact⟨cur,hh,hz,ht,bl⟩
      have bm:=Aa aR;obtain⟨y0,bn⟩:∃y,cur[k*2]? = some y:=⟨_,Array.getElem?_eq_getElem (by omega)⟩;obtain⟨y1,bo⟩:∃y,cur[k*2+1]? = some y:=⟨_,Array.getElem?_eq_getElem (by omega)⟩;have nO:O≠G:=λe=>bb e.symm;have n1:w.heap.size≠G:=(by omega);have n2:n≠G:=(by omega);have n3:w.heap.size+1≠G:=(by omega);have n4:w.heap.size+1+1≠G:=(by omega);have bp:Ac wc (w.heap.size+1+1) zd 31:=(by have h1:=Ac.new ((w.alloc (zh #[.string s,.slice (some (zD n q)) l.length c] 31)).alloc (ze x f i)) zd 31;rw[Cp,Cp]at h1;unfold Ac at *;rw[H.block _ (by omega)];exact h1);have au:G<wc.heap.size:=aR.lt;clear aD aB d0 d1 x0 x1 an;go_wp2_with fail;go_region_held3 (λw'=>w'.cell? (zD O 1)=some (.slice (some (zD G 0)) l.length cap)/\w'.cell? (zD w.heap.size 1)=some (.slice (some (zD n q)) l.length c)/\w'.cell? ⟨n,q+k*2,none⟩=some (.string l[k].name)/\w'.cell? ⟨n,q+k*2+1,none⟩=some (.slice a' l[k].args.length c')/\w'.cell? (zD (w.heap.size+1) 0)=some (.string x.name)/\w'.cell? (zD (w.heap.size+1) 1)=some (.slice f x.args.length i)) (first|exact r|exact a6.o|exact⟨It r.1 nO,It r.2.1 n1,It r.2.2.1 n2,It r.2.2.2.1 n2,It r.2.2.2.2.1 n3,It r.2.2.2.2.2 n3⟩|go_keep)
        (first
          | (go_at_call 64; refine(PU.o _ (by first|exact Ag _ _|exact(Ag _ _).drew)).mono ?_; rintro e D ⟨E,a9,n9,A,rfl,bq,B⟩; have r:=L.o _ B; have N:=bm.o.below B au; have gf:=N.frozen; have g0:D.cell? ⟨G,k*2,none⟩=some y0:=(N.cell (k*2)).trans bn; have g1:D.cell? ⟨G,k*2+1,none⟩=some y1:=(N.cell (k*2+1)).trans bo))
      all_goals
        have OB:=(a8.below B aQ);have aS:=(OB.setOther (k*2) (.string E) nO).setOther (k*2+1) (.slice a9 n9 A) nO;have b2:=(N.set (k*2) (.string E)).set (k*2+1) (.slice a9 n9 A);have aG:=((bp.below B (by omega)).setOther (k*2) (.string E) n4).setOther (k*2+1) (.slice a9 n9 A) n4;have br:Below w.heap.size w ((D.setCell ⟨G,k*2,none⟩ (.string E)).setCell ⟨G,k*2+1,none⟩ (.slice a9 n9 A)):=((I.trans (B.mono (by omega))).setCell (p:=⟨G,k*2,none⟩) (by simp; omega) _).setCell (p:=⟨G,k*2+1,none⟩) (by simp; omega) _;have aH:=Aa (ZE (R:=w.heap.size+1+1) U hk ak aY.o bh (by omega) (by exact au) (by omega) n4 (by have:=aF; simp; omega) N (I.trans (B.mono (by omega))) bq);have bs:=B.size;generalize ((D.setCell ⟨G,k*2,none⟩ (.string E)).setCell ⟨G,k*2+1,none⟩ (.slice a9 n9 A))=w9 at *;have u0:=aS.c0;have u1:=aS.c1;have bt:=aG.c0;have bu:=aG.c1;have rf:=aG.frozen;go_wp2_with fail;refine Aq (v:=.agg #[.string s,.slice (some (zD G 0)) l.length cap]) (by simp[results,results64,go_sem,bt,bu,Az,Aw]) rfl ⟨_,rfl,?_,?_⟩
        · refine⟨some (zD G 0),cap,?_,?_⟩
          · rw[al]; simp
          · rw[al]
            exact(aH.o _ (λb hb=>by rw[An _ _ _ _ (by simpa using hb),An _ _ _ _ (by simpa using hb)])).mono λb hb _=>hb.imp (λh=>⟨aU b h,U b h⟩) id
        · exact(br.setCell (by simp; omega) _).setCell (by simp; omega) _
theorem Lg {t:Tm} (h:Av t=0):Ab [t]<=400:=by
 unfold Av at h;split at h
 ·omega
 ·omega
theorem Sq:∀(l:List Tm) (k:Nat) (h:k<l.length) (y:Tm),Ab (l.set k y)+Ab [l[k]]=Ab l+Ab [y]
 | [],k,h,y=>by simp at h
 | ⟨s,a⟩::l,0,h,⟨s',a'⟩=>by simp[Ab]; omega
 | ⟨s,a⟩::l,k+1,h,y=>by
  have:=Sq l k (by simpa using h) y;simp only[List.set_cons_succ,FX];have e1:Ab (⟨s,a⟩::l.set k y)=1+Ab a+Ab (l.set k y):=by simp[Ab]
  have e2:Ab (⟨s,a⟩::l)=1+Ab a+Ab l:=by simp[Ab]
  omega
def DV (y:Ft):Tm:=fT y.2 y.1.r
def Ga (t:Tm) (d:Dn) (y:Ft):Prop:=2000<Ab [t]-Ab [d.2]+Ab [DV y]
def ZF (w:World) (X:Nat->Prop) (t:Tm) (d:Dn) (y:Ft) (e:Ending) (w':World):Prop:=
 Below w.heap.size w w'/\((¬Ga t d y/\∃a' c',e=.returned (.tuple #[.agg #[.string (AJ (DV y) d.1 t).name,.slice a' (AJ (DV y) d.1 t).args.length c'],zA 0])/\Sl w' (λb=>(X b/\b<w.heap.size)∨w.heap.size<=b) a' (AJ (DV y) d.1 t).args)∨
  (Ga t d y/\e=.returned (.tuple #[.agg zd,zA 8])))
theorem Lh:∀(p:List Int) (t x:Tm),AA t p=some x->Ab [x]<=Ab [t]
 | [],t,x,h=>by simp[AA] at h; subst h; exact Al _
 |i::r,t,x,h=>by
  rw[AA]at h;split at h;next hi=>
   have h1:=Lh r _ x h;obtain⟨s,l⟩:=t;have h2:=Sd l i.toNat hi.2;have e:Ab [(⟨s,l⟩:Tm)]=1+Ab l:=(by simp[Ab]);rw[e];simp only at h1;omega
  next=>cases h
theorem Sr (d:Dn) (y:Ft) (t:Tm) (ua a ra aa:Option Addr) (uc c rc ca q:Nat) (Lm:List (ByteArray×Value)) (w:World) (X Z:Nat->Prop) (hp:PV w Z (.slice ua d.1.length uc) d.1) (hx:Sl w Z a d.2.args) (J:Sl w Z ra y.1.r.args) (L:Dy w q Z y.2 Lm) (hs:Sl w X aa t.args) (E:AA t d.1=some d.2) (hz:Ab [t]<=2000):
  Calls prog 40 #[.agg #[.slice ua d.1.length uc,.string d.2.name,.slice a d.2.args.length c,.string y.1.r.name,.slice ra y.1.r.args.length rc,.map (some q)],.agg (zF t aa ca)] w λe w'=>ZF w X t d y e w':=by
 have a8:=@hmq prog;have aA:=Lh _ _ _ E;have HP:=Aa hp;have HX:=Aa hx;have HR:=Aa J;have aw:=Aa L;have M:=Aa hs;have ax:Hid ((AA t d.1).isSome=true):=Aa (by rw[E];rfl);clear hp hx J L hs E;have N:Below w.heap.size w (((w.alloc (zh #[.slice ua d.1.length uc,.string d.2.name,.slice a d.2.args.length c,.string y.1.r.name,.slice ra y.1.r.args.length rc,.map (some q)] 73)).alloc (ze t aa ca)).alloc zc):=EP _ _ _;have aB:(((w.alloc (zh #[.slice ua d.1.length uc,.string d.2.name,.slice a d.2.args.length c,.string y.1.r.name,.slice ra y.1.r.args.length rc,.map (some q)] 73)).alloc (ze t aa ca)).alloc zc).heap.size=w.heap.size+3:=by simp
 have O:Ac (((w.alloc (zh #[.slice ua d.1.length uc,.string d.2.name,.slice a d.2.args.length c,.string y.1.r.name,.slice ra y.1.r.args.length rc,.map (some q)] 73)).alloc (ze t aa ca)).alloc zc) w.heap.size #[.slice ua d.1.length uc,.string d.2.name,.slice a d.2.args.length c,.string y.1.r.name,.slice ra y.1.r.args.length rc,.map (some q)] 73:=((Ac.new w _ _).alloc _).alloc _;have P:Ac (((w.alloc (zh #[.slice ua d.1.length uc,.string d.2.name,.slice a d.2.args.length c,.string y.1.r.name,.slice ra y.1.r.args.length rc,.map (some q)] 73)).alloc (ze t aa ca)).alloc zc) (w.heap.size+1) (zF t aa ca) 31:=(by have h:=(Ac.new (w.alloc (zh #[.slice ua d.1.length uc,.string d.2.name,.slice a d.2.args.length c,.string y.1.r.name,.slice ra y.1.r.args.length rc,.map (some q)] 73)) (zF t aa ca) 31).alloc zc;rw[Cp]at h;exact h);have R:Ac (((w.alloc (zh #[.slice ua d.1.length uc,.string d.2.name,.slice a d.2.args.length c,.string y.1.r.name,.slice ra y.1.r.args.length rc,.map (some q)] 73)).alloc (ze t aa ca)).alloc zc) (w.heap.size+1+1) zd 31:=(by have h:=Ac.new ((w.alloc (zh #[.slice ua d.1.length uc,.string d.2.name,.slice a d.2.args.length c,.string y.1.r.name,.slice ra y.1.r.args.length rc,.map (some q)] 73)).alloc (ze t aa ca)) zd 31;rw[Cp,Cp]at h;exact h);have x:=Aa N;have j:=Aa O;have k:=Aa P;have T:=Aa R;clear N O P R;go_enter func40,ntmps40;go_upto_region 1 with fail;generalize (((w.alloc (zh #[.slice ua d.1.length uc,.string d.2.name,.slice a d.2.args.length c,.string y.1.r.name,.slice ra y.1.r.args.length rc,.map (some q)] 73)).alloc (ze t aa ca)).alloc zc)=W at *;go_cut [6] (λv wc=>v=zA ((Ab [t]:Int)-Ab [d.2])/\Below W.heap.size W wc);case first=>
  have aC:IntKind.i64.wrap ((Ab [t]:Int)-Ab [d.2])=(Ab [t]:Int)-Ab [d.2]:=by rw[Fm]; omega
  have z:Hid (Below W.heap.size W W.drew):=below_drewN (Ag _ _) 1;refine D9 (S:=λw'=>Below W.heap.size W w') (by kernel_rfl) z.o λhH=>?_;refine tkz 0 ?_ (hy:=by intro w' l;have c0:w'.cell? (zD (w.heap.size+1) 0)=some (.string t.name):=(k.o.below l k.o.lt).cell 0;have c1:w'.cell? (zD (w.heap.size+1) 1)=some (.slice aa t.args.length ca):=(k.o.below l k.o.lt).cell 1;go_simp<;>with_reducible rfl);refine tkz 2 ?_;refine tkz 3 ?_ (hy:=by intro w' l;have c0:w'.cell? (zD w.heap.size 1)=some (.string d.2.name):=(j.o.below l j.o.lt).cell 1;have c1:w'.cell? (zD w.heap.size 2)=some (.slice a d.2.args.length c):=(j.o.below l j.o.lt).cell 2;go_simp<;>with_reducible rfl);generalize W.drew=wd at *;refine rdq 1 rfl λK m=>?_;go_simp;go_at_call 35;refine(Is 2000 (by omega) (by omega) t _ _ _ ⟨aa,ca,rfl,(M.o.later x.o).later z.o⟩).mono ?_;rintro e v1 ⟨rfl,hb⟩;have A:=Aa (z.o.trans (hb.mono z.o.size));clear hb;have em:min (Ab [t]:Int) (2000+1)=Ab [t]:=by omega
  rw[em];clear em;go_simp;refine m.o _ _ (by exact A.o) λhH=>?_;clear m K;(try simp only[Act.put,sq]);refine rdq 4 rfl λK m=>?_;go_simp;go_at_call 35;refine(Is 2000 (by omega) (by omega) d.2 _ _ _ ⟨a,c,rfl,(HX.o.later x.o).later A.o⟩).mono ?_;rintro e v2 ⟨rfl,hb⟩;have U:=Aa (A.o.trans (hb.mono A.o.size));clear hb;have em:min (Ab [d.2]:Int) (2000+1)=Ab [d.2]:=by omega
  rw[em];clear em;go_simp;refine m.o _ _ (by exact U.o) λhH=>?_;clear m K;(try simp only[Act.put,sq]);refine tkz 5 ?_;refine tkz 6 ?_;refine dnq ?_;go_wp2_with fail;go_meet;exact⟨rfl,U.o⟩
 case rest=>
  obtain⟨rfl,hb⟩:=hcut;have g:=Aa (x.o.trans (hb.mono x.o.size));have s:=Aa (j.o.below hb j.o.lt);have V:=Aa (k.o.below hb k.o.lt);have u:=Aa (T.o.below hb T.o.lt);clear hb;obtain⟨n,hn⟩:∃n:Nat,n+(Ab [t]-Ab [d.2])=2000:=⟨2000-(Ab [t]-Ab [d.2]),by omega⟩;have e1:(2000:Int)-((Ab [t]:Int)-Ab [d.2])=(n:Int):=by omega
  have aD:IntKind.i64.wrap (2000-((Ab [t]:Int)-Ab [d.2]))=(n:Int):=by rw[Fm]; omega
  have aE:(n:Int)<=2000:=by omega
  have af:Hid (Ga t d y↔n<Ab [DV y]):=Aa (by unfold Ga;omega);have c0:=s.o.c3;have c1:wc.cell? (zD w.heap.size 4)=some (.slice ra y.1.r.args.length rc):=s.o.cell 4;have c2:wc.cell? (zD w.heap.size 5)=some (.map (some q)):=s.o.cell 5;go_wp2_with fail;refine(Zx q y.1.r.args.length rc y.1.r.name ra y.2 Lm y.1.r n ra rc wc Z (by omega) (HR.o.later g.o) (aw.o.later g.o)).mono ?_;rintro e B ⟨f,⟨hle,a9,F,rfl,aq⟩|⟨ar,rfl⟩⟩
  ·have ab:=Aa (g.o.trans (f.mono g.o.size));have C9:=Aa (s.o.below f s.o.lt);have T9:=Aa (V.o.below f V.o.lt);have i:=Aa (u.o.below f u.o.lt);have ay:=Aa aq;have az:=Aa hle;have aG:=f.size;have aH:w.heap.size+3<=wc.heap.size:=by have:=u.o.lt; have:=g.o.size; omega
   clear f aq hle c0 c1 c2;have t0:∀o,(B.alloc o).cell? (zD (w.heap.size+1) 0)=some (.string t.name):=λo=>(T9.o.alloc o).cell 0;have t1:∀o,(B.alloc o).cell? (zD (w.heap.size+1) 1)=some (.slice aa t.args.length ca):=λo=>(T9.o.alloc o).cell 1;have p0:∀o,(B.alloc o).cell? (zD w.heap.size 0)=some (.slice ua d.1.length uc):=λo=>(C9.o.alloc o).cell 0;go_wp2_with fail;refine(Sp (DV y) d.1 t _ _ _ _ (λb=>(X b/\b<w.heap.size)∨wc.heap.size<=b) (λb=>Z b/\b<w.heap.size) ⟨aa,ca,rfl,((M.o.mono (Y:=λb=>X b/\b<w.heap.size) λb h1 h2=>⟨h1,h2⟩).later (ab.o.alloc ab.o.size _)).mono λb hb _=>Ae hb⟩ ((HP.o.mono (Y:=λb=>Z b/\b<w.heap.size) λb h1 h2=>⟨h1,h2⟩).later (ab.o.alloc ab.o.size _)) ⟨a9,F,rfl,(ay.o.later ((Ag _ _).alloc (Al _) _)).mono λb hb _=>Ad hb⟩ ax.o (by omega)).mono ?_;rintro e v1 ⟨v',rfl,⟨aF,cF,rfl,au⟩,C⟩;have a1:=Aa ((ab.o.alloc ab.o.size (.cells #[.string (DV y).name,.slice a9 (DV y).args.length F] 31)).trans (C.mono (by have:=ab.o.size; simp; omega)));have D:=Aa ((i.o.alloc (zh #[.string (DV y).name,.slice a9 (DV y).args.length F] 31)).below C (by have:=i.o.lt; simp; omega));have a6:=Aa au;have aI:=C.size;clear au C t0 t1 p0;have G:=D.o.c0;have H:=D.o.c1;have rf:=D.o.frozen;have I:w.heap.size+1+1<v1.heap.size:=D.o.lt;go_wp2_with fail;refine Aq (v:=.tuple #[.agg #[.string (AJ (DV y) d.1 t).name,.slice aF (AJ (DV y) d.1 t).args.length cF],zA 0]) (by simp[results,results40,go_sem,Az,Aw,G,H,I]) rfl ?_;refine⟨(a1.o.setCell (by simp; omega) _).setCell (by simp; omega) _,Ae ⟨λh=>by have:=af.o.1 h; have:=az.o; unfold DV at *; omega,aF,cF,rfl,(a6.o.kept λb hb=>?_).mono λb hb _=>?_⟩⟩
   ·have av:b≠w.heap.size+1+1:=by
     rcases hb with ⟨(h|h),_⟩|h
     ·have:=h.2; omega
     ·omega
     ·simp at h; omega
    rw[An _ _ _ _ (by simpa using av),An _ _ _ _ (by simpa using av)]
   ·rcases hb with ⟨(h|h),_⟩|h
    ·exact Ae h
    ·right; omega
    ·right; simp at h; omega
  ·have ab:=Aa (g.o.trans (f.mono g.o.size));have i:=Aa (u.o.below f u.o.lt);have a7:=Aa ar;clear f ar c0 c1 c2;have G:=i.o.c0;have H:=i.o.c1;have rf:=i.o.frozen;have I:w.heap.size+1+1<B.heap.size:=i.o.lt;go_wp2_with fail;refine Aq (v:=.tuple #[.agg zd,zA 8]) (by simp[results,results40,go_sem,Az,Aw,G,H,I,Cz]) rfl ?_;exact⟨by first|exact((ab.o.setCell (by simp; omega) _).setCell (by simp; omega) _).alloc (by have:=ab.o.size; simp[World.setCell]; omega) _|exact((ab.o.alloc ab.o.size _).setCell (by simp; omega) _).setCell (by simp; omega) _,Ad ⟨af.o.2 a7.o,rfl⟩⟩
def Li (Q:Exit->Act->World->Prop):Exit->Act->World->Prop:=λe a w=>e≠.outgrown/\Q e a w
theorem OY (Q:Exit->Act->World->Prop):¬LetsOut (Li Q):=λ⟨_,_,h⟩=>h.1 rfl
theorem Ss {o:Oper} {K:Act->World->Prop} {Q:Exit->Act->World->Prop} (ab:∀c,o.op≠.defer c) (h:Oper.wp P o a w K (Li Q)):Oper.wpIn (Fence.wide.inRound l) n P o a w K Q:=by
 unfold Oper.wp at h;unfold Oper.wpIn;refine⟨λf _=>trivial,?_⟩;rw[show(Fence.wide.inRound l).round=some l from rfl,Ho l _ _ ab];generalize (execOp a.eval o).run P w=r at h ⊢;cases r with
 |ok x w'=>
  cases x with
  |value v=>exact h
  |skip=>exact h
  |defer d=>exact h
  |enter f args=>
   refine⟨λh=>by simp[Fence.wide] at h,CallsIn.inRound l (CP.2 (h.mono ?_))⟩;intro e aa he;cases e with
   |returned v=>exact he
   |panicked c=>exact he.2
   |outgrown=>exact absurd he (OY Q)
  |row row args=>exact⟨λh=>by simp[Fence.wide] at h,λc cs _=>let ⟨v,aa,r,s⟩:=h c cs; ⟨v,aa,r,stepsIn_wide.2 s⟩⟩
  |round _ _ _ _ _=>exact h.elim
  |_=>exact h.elim
 |halt x w' => 
  cases x with
  |panic v=>exact h.2
  |_=>exact h.elim
theorem MM {P:Program} {md:Region.Mode} {ops:Array Oper} {Q:Exit->Act->World->Prop} {l n:Nat} (aa:∀(i:Nat) (o:Oper),ops[i]? = some o->∀c,o.op≠.defer c):∀(fuel:Nat) (listed:Array Bool) (a:Act) (w:World),wpAny P md ops (Li Q) fuel listed a w->wpAnyIn (Fence.wide.inRound l) n P md ops Q fuel listed a w
 |0,_,_,_,h=>⟨h.1,h.2.2⟩
 |fuel+1,listed,a,w,h=>by
  refine⟨λh0=>(h.1 h0).2,λi hi=>?_⟩;have h1:=h.2 i hi;unfold wpOp at h1;unfold wpOpIn;cases ho:ops[i]? with
  |none=>simp only[ho] at h1;exact MM aa fuel _ _ _ h1
  |some o=>
   simp only[ho] at h1;have b:=aa i o ho;split at h1;next hw=>
    simp only[hw,F4];rcases h1 with h1|h1
    ·exact Oper.wpIn_mono (λa' w' h'=>MM aa fuel _ a' w' h') (Ss b h1)
    ·exact absurd h1.2 (OY Q)
   next hw=>
    (try dsimp only[zF]);(try dsimp only[zG]);(try dsimp only[zE]);(try dsimp only);rw[Ah hw];exact⟨λf _=>trivial,MM aa fuel _ _ _ h1⟩
theorem ZG {ops:Array Oper} {Q:Exit->Act->World->Prop} {id:Nat} (hm:P.follows .mixedOrders=true) (aa:∀(i:Nat) (o:Oper),ops[i]? = some o->∀c,o.op≠.defer c) (b:S w.drew)
  (h:S w.drew->wpAnyH P .any ops (Li Q) S ops.size (Array.replicate ops.size false) a w.drew):(Code.region id ops true).wpIn (Fence.wide.inRound l) n P Q a w:=
 wpIn_region_any hm (MM aa _ _ _ _ (wpAny_of_held _ _ _ _ (h b)))

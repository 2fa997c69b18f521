import Derived.Test.YtacmmcnnhfmepaaGreatDoorZDLongMadeOwn
import Derived.Deep.RegionLaw
import Derived.Deep.RegionHeld3
import Derived.ProofKit
import Derived.Test.YtacmmcnnhfmepaaGreatDoorIf6
namespace Go.Proofs.YtacmmcnnhfmepaaGreatDoor
set_option linter.all false
set_option maxRecDepth 9999
set_option maxHeartbeats 0
open Go.RowKit Go.Shelf Go.Proofs.Tryz
variable {c0 c1 v0 v1 y:Value} {A B D F H I N O T c c' i j k l' n q:Nat} {K Mt Q X Y f:Nat->Prop} {W W' w w' w1 w3 wr:World} {a d:Option Addr} {l:List Lm} {g left z:Int} {xs:List Value} {t:Tm} {u:List Ty} {b:Bool} {o:Lm} {cs:Array Value} {x:ByteArray} {h:List (ByteArray×Tm)}
abbrev DN:=Lm×Bool×Lm
def Oj (k x:Int) (l:List Lm) (i:Nat) (p:DN):DN:=(⟨k,x,l.set i p.1⟩,p.2.1,⟨k,x,l.set i p.2.2⟩)
def MH (J:Tk DN) (pre:List DN) (p:DN) (f:Nat->Prop) (W:World) (e:Ending) (W':World):Prop:=
 ∃s,e=.returned (.bool s)/\∃f',J (pre++[p]) s f' W'/\Al f W W'/\∀b,f' b->f b∨W.heap.size<=b
def SU (y:Value) (J:Tk DN) (all:List DN) (N:Nat):Prop:=
 (∃T I Y:Nat,y=.func (.func 112) #[] #[zC T,zC I,zC Y]/\
  ∀(pre:List DN) (p:DN) (v:Value) (Z f:Nat->Prop) (W:World),p∈all->pre.length<N->J pre true f W->MV W Z v p.1->(∀b,Z b->b<W.heap.size/\¬f b)->Calls prog 112 #[v,.bool p.2.1,zC T,zC I,zC Y] W (MH J pre p f W))∨
 (∃lp:Nat,y=.func (.yield lp) #[] #[]/\
  ∀(pre:List DN) (p:DN) (v:Value) (Z f:Nat->Prop) (W:World),p∈all->pre.length<N->J pre true f W->MV W Z v p.1->(∀b,Z b->b<W.heap.size/\¬f b)->∀n,YieldAt Fence.wide n prog lp #[v,.bool p.2.1] W (MH J pre p f W))
theorem SU.form {J:Tk DN} {all:List DN} (h:SU y J all N):∃fn p q,y=.func fn p q:=by
 rcases h with ⟨_,_,_,h,_⟩|⟨_,h,_⟩
 ·exact⟨_,_,_,h⟩
 ·exact⟨_,_,_,h⟩
theorem IX.later {α:Type} {J:Tk α} (h:IX J K) {pre:List α} {s:Bool} (a:J pre s f W) (hb:Below W.heap.size W W'):J pre s f W':=
 h.abide a hb.size λb c=>hb.block b (h.inside a b c)
theorem Ap.exq (h:Ap w X a l) (he:Al Q w w') (c:∀b,X b->¬Q b):Ap w' X a l:=
 ((h.mono (Y:=λb=>X b/\b<w.heap.size) λb h1 h2=>⟨h1,h2⟩).kept λb hb=>he.block b hb.2 (c b hb.1)).mono λb hb _=>hb.1
def JC (J:Tk DN) (pre0:List DN) (k xi:Int) (l:List Lm) (a:Option Addr) (c T I Y q:Nat) (y:Value) (X:Nat->Prop):Tk DN:=λpre s f W=>
 J (pre0++pre.map (Oj k xi l q)) s f W/\Ip ⟨k,xi,l⟩ a c T I Y q y X W/\¬f T/\¬f I/\¬f Y
def KC (K:Nat->Prop) (T I Y:Nat) (b:Nat):Prop:=K b∨b=T∨b=I∨b=Y
theorem JC.ok {J:Tk DN} (d:IX J K) {h:List DN} {k i:Int} {Y:Nat} (j:∀b,X b->K b):IX (JC J h k i l a c T I Y q y X) (KC K T I Y) where
 inside:=by
  rintro pre s f W ⟨h1,h2,_⟩ b hb;rcases hb with hb|hb|rfl|rfl|rfl
  ·exact d.inside h1 b (Ad hb)
  ·exact d.inside h1 b (Ae hb)
  ·exact h2.bt.lt
  ·exact h2.bi.lt
  ·exact h2.by'.lt
 apart:=by
  rintro pre s f W ⟨h1,h2,hT,e,g⟩ b hb;rcases hb with hb|rfl|rfl|rfl
  ·exact d.apart h1 b hb
  ·exact hT
  ·exact e
  ·exact g
 abide:=by
  rintro pre s f W W' ⟨h1,h2,hT,e,g⟩ m hk;refine⟨d.abide h1 m λb hb=>hk b (hb.imp id Ad),⟨?_,?_,?_,?_⟩,hT,e,g⟩
  ·exact(hk T (Ae (Ae (Ad rfl)))).trans h2.bt
  ·exact(hk I (Ae (Ae (Ae (Ad rfl))))).trans h2.bi
  ·exact(hk Y (Ae (Ae (Ae (Ae rfl))))).trans h2.by'
  ·exact h2.sl.kept λb hb=>hk b (Ae (Ad (j b hb)))
theorem JC.post {J:Tk DN} (t:IX J K) {m pre:List DN} {p:DN} {k:Int} {Y:Nat} (u:∀b,X b->K b) {n:World} {e:Ending} (h0:JC J m k g l a c T I Y q y X pre true f W) (hb:Below W.heap.size W n) (h:MH J (m++pre.map (Oj k g l q)) (Oj k g l q p) f n e W'):MH (JC J m k g l a c T I Y q y X) pre p f W e W':=by
 obtain⟨s,rfl,f',v,he,i⟩:=h;obtain⟨h1,h2,hT,o,r⟩:=h0;have hz:=hb.size;have j:=h2.later hb;have lT:=h2.bt.lt;have lI:=h2.bi.lt;have lY:=h2.by'.lt;refine⟨s,rfl,f',⟨by rw[Db,<-Jh]; exact v,⟨j.bt.exq he hT,j.bi.exq he o,j.by'.exq he r,j.sl.exq he λb d=>t.apart h1 b (u b d)⟩,λh=>?_,λh=>?_,λh=>?_⟩,(Al.ofBelow hb).transN he λb d _=>d,λb d=>(i b d).imp id λh=>by omega⟩
 ·rcases i _ h with h|h
  ·exact hT h
  ·omega
 ·rcases i _ h with h|h
  ·exact o h
  ·omega
 ·rcases i _ h with h|h
  ·exact r h
  ·omega
open Go.RowKit
def Dd:List Lm->Prop
 | []=>True
 | ⟨k,_,l⟩::r=>(k=1->l=[])/\Dd l/\Dd r
theorem SV:Dd []:=by simp[Dd]
theorem IZ (k x:Int) (l r:List Lm):Dd (⟨k,x,l⟩::r)↔(k=1->l=[])/\Dd l/\Dd r:=by simp[Dd]
theorem Dd.at:∀ {l:List Lm} (k:Nat) (h:k<l.length),Dd l->Dd [l[k]]
 | [],k,h,_=>by simp at h
 | ⟨s,x,l⟩::r,0,h,hb=>by
  rw[IZ]at hb;exact(IZ s x l []).2 ⟨hb.1,hb.2.1,SV⟩
 | ⟨s,x,l⟩::r,k+1,h,hb=>by
  rw[IZ]at hb;have:=Dd.at (l:=r) k (by simpa using h) hb.2.2;simpa using this
theorem MI:∀(l:List Lm) (u m:Int),Au u m l=0->Dd l:=by
 intro l;induction l using Lm.indL with
 |h0=>intros; exact SV
 |h k x l r a b=>
  intro u m he;rw[Au]at he;split at he
  ·rename_i h1;split at he
   ·rename_i h2;refine(IZ k x l r).2 ⟨λhk=>?_,a (AR u k) m h2,b u m he⟩;subst hk;unfold AG at h1;split at h1
    ·cases h1
    ·split at h1
     ·cases h1
     ·rename_i h3;exact GV.1 (by simpa [BF] using h3)
   ·rename_i h2; exact absurd he h2
  ·rename_i h1; exact absurd he h1
def Fy (w:World) (F:Nat) (t:Lm) (n:Nat) (e:Ending) (w':World):Prop:=
 ∃(k' x':Int) (a':Option Addr) (l' c':Nat) (m:Int),e=.returned (.agg #[zA k',zA x',.slice a' l' c'])/\Ab w' F #[zA m] 152/\Ex F w w'/\(Ai [t]<=n->m=(n:Int)-Ai [t]/\k'=t.kind/\x'=t.idx/\l'=t.subs.length/\Ap w' (λb=>w.heap.size<=b) a' t.subs)/\(n<Ai [t]->m=-1)
theorem Ap.ex (h:Ap w X a l) (he:Ex F w w') (c:∀b,X b->b≠F):Ap w' X a l:=
 ((h.mono (Y:=λb=>X b/\b<w.heap.size) λb h1 h2=>⟨h1,h2⟩).kept λb hb=>he.block b hb.2 (c b hb.1)).mono λb hb _=>hb.1
theorem Cg.ex {v:Value} (h:Cg w N T Y v l xs) (he:Ex B w w') (hB:B<N) (c:¬Y B):Cg w' N T Y v l xs:=
 ⟨h.own.kept (w' := w') (row := some B) ⟨he.os, he.tape, he.output, he.size, λj d f => he.block j d (λe => f (by rw [e]))⟩ (Ae (λe => by have := (h.own.lt B e).1; omega)),
  h.row.imp λa l g=>((g.mono (Y:=λb=>(Y b∨(N<=b/\some b≠v.ownBlock))/\b<w.heap.size) λb h1 h2=>⟨h1,h2⟩).kept λb hb=>he.block b hb.2 (λe=>by
   rcases hb.1 with h1|h1
   ·rw[e]at h1; exact c h1
   ·omega)).mono λb hb _=>hb.1⟩
theorem JD {a:World} {R:Nat} {t:Lm} {c x':Int} {m:Int} {v2:Value} (hF:F<w.heap.size) (hR:w.heap.size<=R) (hW:R<W.heap.size) (h1:Ab a F #[zA m] 152) (hx:Ex F w a) (hy:Ai [t]<=n->m=(n:Int)-Ai [t]/\c=t.kind/\x'=t.idx/\l'=t.subs.length/\Ap a (λb=>W.heap.size<=b) d t.subs) (e:n<Ai [t]->m=-1):
  Fy w F t n (.returned (.agg #[zA c,zA x',.slice d l' c'])) (((a.setCell (zD R 0) v0).setCell (zD R 1) v1).setCell (zD R 2) v2):=by
 refine⟨c,x',d,l',c',m,rfl,((h1.setOther _ _ (by omega)).setOther _ _ (by omega)).setOther _ _ (by omega),((hx.setNew (by omega) _ _).setNew (by omega) _ _).setNew (by omega) _ _,λh=>?_,e⟩;obtain⟨e1,e2,e3,f,e5⟩:=hy h;refine⟨e1,e2,e3,f,(e5.kept λb hb=>?_).mono λb hb _=>by omega⟩;rw[Ak _ _ _ _ (by simp; omega),Ak _ _ _ _ (by simp; omega),Ak _ _ _ _ (by simp; omega)]
theorem SW (F:Nat) (x:Int) (n:Nat) (w:World) (hn:n<=9223372036854775807) (hF:Ab w F #[zA n] 152):
  Calls prog 128 #[zC F,zA x] w λe w'=>Fy w F ⟨1,x,[]⟩ n e w':=by
 have aa:=hF.lt;have f0:∀o,(w.alloc o).cell? (zD F 0)=some (zA n):=λo=>(hF.alloc o).cell 0;have ff:∀o,(w.alloc o).frozen? (zD F 0)=false:=λo=>(hF.alloc o).frozen 0;have ab:=hF.c0;have ad:w.frozen? (zD F 0)=false:=hF.frozen 0;have ae:IntKind.i64.wrap ((n:Int)-1)=(n:Int)-1:=by rw[Ck]; omega
 have a:=Aa hF;clear hF;go_in;go_wp2_with fail;refine Ao (v:=.agg #[zA 1,zA x,zB]) (by simp[results,results128,go_sem,AL,AE]) rfl ?_;have e1:Ai [(⟨1,x,[]⟩:Lm)]=1:=by simp[Ai]
 exact⟨1,x,none,0,0,(n:Int)-1,rfl,(a.o.set 0 _).alloc _,((Ex.refl F w).set 0 _).alloc _,λh=>⟨by rw[e1]; omega,rfl,rfl,rfl,by simp,Ad rfl⟩,λh=>by omega⟩
def GS (w:World) (F O:Nat) (kd ix:Int) (u:Value) (cF:Array Value) (wr:World):Prop:=
 Ex F w wr/\Ab wr (w.heap.size+1) zJ 24/\Ab wr O #[zA kd,zA ix,u] 24/\Ab wr F cF 152/\O<wr.heap.size
theorem FU {i:Int} {u v:Value} {l j:Array Value} {a:Obj} (af:F<w.heap.size) (hO:w.heap.size+2<=O) (h:GS w F O g i u l wr) (hu:∀k,u.ownBlock=some k->O+1<=k)
  (d:Ex F wr w1) (m:Ab w1 F j 152) (c:(w1.alloc a).grownBy w3 u.ownBlock):GS w F O g i v j (w3.setCell (zD O 2) v):=by
 obtain⟨h1,h2,h3,h4,h5⟩:=h;have f:∀b,b<O+1->some b≠u.ownBlock:=λb hb e=>by have:=hu b e.symm; omega
 have ag:=d.size;have n:=c.size;simp at n;refine⟨(((h1.trans d).alloc a).grown c (λk hk=>by have:=hu k hk; omega)).setNew (by omega) _ _,?_,?_,?_,by simp[World.setCell]; omega⟩
 ·exact(((h2.ex d (by omega)).alloc a).grown c (f _ (by omega))).setOther _ _ (by omega)
 ·exact(((h3.ex d (by omega)).alloc a).grown c (f _ (by omega))).set 2 _
 ·exact((m.alloc a).grown c (f _ (by omega))).setOther _ _ (by omega)
theorem JE {u:Value} {L:List Lm} {a:Obj} {c d:Int} {e:Option Addr} {f c1 g cap:Nat} {t:Lm} (ai:F<O) (hOr:O<wr.heap.size) (i:Cg wr (O+1) 24 (λ_=>False) u L xs)
  (j:Ex F wr w1) (ht:MV w1 (λb=>wr.heap.size<=b) (.agg #[zA c,zA d,.slice e f c1]) t)
  (k:w3.ownsRow (O+1) 24 3 (.slice (some (zD g 0)) (L.length+1) cap) (L.length+1) (xs++[zA c,zA d,.slice e f c1])) (l:(w1.alloc a).grownBy w3 u.ownBlock) (m:u.ownBlock=some g∨g=(w1.alloc a).heap.size):
  Cg (w3.setCell (zD O 2) (.slice (some (zD g 0)) (L.length+1) cap)) (O+1) 24 (λ_=>False) (.slice (some (zD g 0)) (L.length+1) cap) (L++[t]) (xs++[zA c,zA d,.slice e f c1]):=by
 obtain⟨wm,n,aj,o⟩:=j.mid;have q:=i.ex o (by omega) (λh=>h);exact(q.push (w1:=w1) (w2:=w1.alloc a) (w3:=w3) (by omega) (λ_ h=>h.elim) n (ht.mono λb h _=>Ae (by omega)) a rfl k l m).setCell (by omega) (λh=>h) _
def JG (w:World) (F O:Nat) (kd ix:Int) (L:List Lm) (n:Nat) (i:Value) (wr:World):Prop:=
 ∃(k:Nat) (u:Value),k<=L.length/\i=zA k/\
  ((∃(m:Nat) (xs:List Value),(m:Int)=(n:Int)-1-Ai (L.take k)/\GS w F O kd ix u #[zA m] wr/\Cg wr (O+1) 24 (λ_=>False) u (L.take k) xs)∨
   (n<1+Ai L/\GS w F O kd ix u #[zA (-1)] wr/\∃a9 l9 c9,u=.slice a9 l9 c9))
def PX.m:PX->Lm
 | .v i=>⟨1,(i:Int),[]⟩
 | .c k=>⟨4,k,[]⟩
 | .l b=>⟨2,0,[b.m]⟩
 | .a f x=>⟨3,0,[f.m,x.m]⟩
theorem YK (t:Lm):∀u,Au u 0 [t]=0->∃p:PX,p.m=t:=by
 induction t using Lm.ind with
 |h k x l d=>
  intro u he;rcases Jn he with ⟨y,e,h0,h1⟩|⟨b,e,hb⟩|⟨f,a,e,g,i⟩|⟨y,e,h0,h1⟩
  ·cases e;exact⟨.v x.toNat,by simp only[PX.m]; congr 1; omega⟩
  ·cases e;obtain⟨p,hp⟩:=d b (by simp) _ hb;exact⟨.l p,by simp only[PX.m,hp]⟩
  ·cases e;obtain⟨p,hp⟩:=d f (by simp) _ g;obtain⟨q,hq⟩:=d a (by simp) _ i;exact⟨.a p q,by simp only[PX.m,hp,hq]⟩
  ·cases e;exact⟨.c x,rfl⟩
theorem MJ:∀ {p q:PX},p.m=q.m->p=q
 | .v i,.v j,h=>by simp only[PX.m,Lm.mk.injEq] at h; congr 1; omega
 | .c i,.c j,h=>by simp only[PX.m,Lm.mk.injEq] at h; rw[h.2.1]
 | .l b,.l d,h=>by
  simp only[PX.m,Lm.mk.injEq,Gd,and_true,true_and] at h;rw[MJ h]
 | .a f x,.a g y,h=>by
  simp only[PX.m,Lm.mk.injEq,Gd,and_true,true_and] at h;rw[MJ h.1,MJ h.2]
 | .v i,.c j,h=>by simp[PX.m] at h
 | .v i,.l j,h=>by simp[PX.m] at h
 | .v i,.a f x,h=>by simp[PX.m] at h
 | .c i,.v j,h=>by simp[PX.m] at h
 | .c i,.l j,h=>by simp[PX.m] at h
 | .c i,.a f x,h=>by simp[PX.m] at h
 | .l i,.v j,h=>by simp[PX.m] at h
 | .l i,.c j,h=>by simp[PX.m] at h
 | .l i,.a f x,h=>by simp[PX.m] at h
 | .a f x,.v j,h=>by simp[PX.m] at h
 | .a f x,.c j,h=>by simp[PX.m] at h
 | .a f x,.l j,h=>by simp[PX.m] at h
theorem YL (y d x:Int):AZ y d ⟨1,x,[]⟩=if x<d then ⟨1,x,[]⟩ else ⟨1,x+y,[]⟩:=by
 unfold AZ;by_cases h:x<d<;>simp[h]
theorem Ok (y d k x:Int) (l:List Lm) (hk:k≠1):AZ y d ⟨k,x,l⟩=⟨k,x,l.map (AZ y (AR d k))⟩:=by
 rw[<-Eo];unfold AZ;simp[hk]
theorem YM (z:Lm) (d x:Int):AY z d ⟨1,x,[]⟩=if x<d then ⟨1,x,[]⟩ else if x=d then AZ d 0 z else ⟨1,x-1,[]⟩:=by
 unfold AY;by_cases h:x<d<;>simp[h]
theorem Ol (z:Lm) (d k x:Int) (l:List Lm) (hk:k≠1):AY z d ⟨k,x,l⟩=⟨k,x,l.map (AY z (AR d k))⟩:=by
 rw[<-EN];unfold AY;simp[hk]
def PX.mv (y d:Nat) (i:Nat):Nat:=if i<d then i else i+y
theorem PX.mv_up (y d:Nat):upr (mv y d)=mv y (d+1):=by
 funext i
 cases i with
 |zero=>simp[PX.upr,PX.mv]
 |succ i=>
  simp only[PX.upr,PX.mv];by_cases h:i<d
  ·rw[Aq h,Aq (by omega)]
  ·rw[Am h,Am (by omega)]; omega
theorem KE (y:Nat):∀(p:PX) (d:Nat),AZ (y:Int) (d:Int) p.m=(p.ren (PX.mv y d)).m
 | .v i,d=>by
  simp only[PX.m,PX.ren,PX.mv];rw[YL];by_cases h:i<d
  ·rw[Aq (by omega),Aq h]
  ·rw[Am (by omega),Am h]; simp
 | .c k,d=>by simp only[PX.m,PX.ren]; rw[Ok _ _ _ _ _ (by decide)]; rfl
 | .l b,d=>by
  have h1:=KE y b (d+1);simp only[PX.m,PX.ren];have e:AR (d:Int) 2=((d+1:Nat):Int):=by simp[AR]
  rw[Ok _ _ _ _ _ (by decide),e,PX.mv_up,<-h1];rfl
 | .a f x,d=>by
  have h1:=KE y f d;have h2:=KE y x d;simp only[PX.m,PX.ren];have e:AR (d:Int) 3=(d:Int):=by simp[AR]
  rw[Ok _ _ _ _ _ (by decide),e,<-h1,<-h2];rfl
def PX.inAt (z:PX) (d:Nat) (i:Nat):PX:=if i<d then .v i else if i=d then z.ren (·+d) else .v (i-1)
theorem PX.inAt_up (z:PX) (d:Nat):up (inAt z d)=inAt z (d+1):=by
 funext i
 cases i with
 |zero=>simp[PX.up,PX.inAt]
 |succ i=>
  simp only[PX.up,PX.inAt];by_cases h:i<d
  ·rw[Aq h,Aq (by omega)]; rfl
  ·rw[Am h,Am (by omega:¬i+1<d+1)];by_cases h2:i=d
   ·rw[Aq h2,Aq (by omega),PX.ren_ren]; rfl
   ·rw[Am h2,Am (by omega)];simp only[PX.ren];congr 1
    omega
theorem PX.inAt_zero (z:PX):inAt z 0=ins z:=by
 funext i
 cases i with
 |zero=>simp only[PX.inAt,PX.ins];rw[Am (by omega),Aq trivial];rw[PX.ren_is];exact PX.sub_v z
 |succ i=>simp[PX.inAt,PX.ins]
theorem MK (z:PX):∀(p:PX) (d:Nat),AY z.m (d:Int) p.m=(p.sub (PX.inAt z d)).m
 | .v i,d=>by
  simp only[PX.m,PX.sub,PX.inAt];rw[YM];by_cases h:i<d
  ·rw[Aq (by omega),Aq h]; rfl
  ·rw[Am (by omega),Am h];by_cases h2:i=d
   ·rw[Aq (by omega),Aq h2];have:=KE d z 0;rw[show((0:Nat):Int)=0 from rfl]at this;rw[this];congr 1
   ·rw[Am (by omega),Am h2];simp only[PX.m];congr 1
    omega
 | .c k,d=>by simp only[PX.m,PX.sub]; rw[Ol _ _ _ _ _ (by decide)]; rfl
 | .l b,d=>by
  have h1:=MK z b (d+1);simp only[PX.m,PX.sub];have e:AR (d:Int) 2=((d+1:Nat):Int):=by simp[AR]
  rw[Ol _ _ _ _ _ (by decide),e,PX.inAt_up,<-h1];rfl
 | .a f x,d=>by
  have h1:=MK z f d;have h2:=MK z x d;simp only[PX.m,PX.sub];have e:AR (d:Int) 3=(d:Int):=by simp[AR]
  rw[Ol _ _ _ _ _ (by decide),e,<-h1,<-h2];rfl
theorem YN (z p:PX):AY z.m 0 p.m=(p.sub (PX.ins z)).m:=by
 have:=MK z p 0;rw[PX.inAt_zero]at this;exact this
theorem Om (p:PX):decide (p.m.kind=2)=p.isl:=by cases p<;>simp[PX.m,PX.isl]
theorem JH:∀p:PX,AN [p.m]=p.st
 | .v i=>by simp[PX.m,AN,CA,PX.st]
 | .c k=>by simp[PX.m,AN,CA,PX.st]
 | .l b=>by
  have h:=JH b;simp only[PX.m,PX.st];rw[IW,h];simp[CA]
 | .a f x=>by
  have h1:=JH f;have h2:=JH x;simp only[PX.m,PX.st];rw[IW];have h3:AN [f.m,x.m]=(AN [f.m]||AN [x.m]):=JB [f.m] [x.m];rw[h3,h1,h2,<-Om f];simp[CA,Bool.or_assoc]
theorem YO {f x:PX} (h:CA (PX.a f x).m=true):∃b,f=.l b:=by
 cases f with
 |l b=>exact⟨b,rfl⟩
 |v i=>simp[PX.m,CA] at h
 |c k=>simp[PX.m,CA] at h
 |a g y=>simp[PX.m,CA] at h
theorem YP {p:PX} (h:CA p.m=true):∃b x,p=.a (.l b) x:=by
 cases p with
 |v i=>simp[PX.m,CA] at h
 |c k=>simp[PX.m,CA] at h
 |l b=>simp[PX.m,CA] at h
 |a f x=>obtain⟨b,rfl⟩:=YO h; exact⟨b,x,rfl⟩
theorem YQ (b x:PX):Hk [(PX.l b).m,x.m]=(b.sub (PX.ins x)).m:=by
 show AY x.m 0 b.m=_;exact YN x b
theorem ML (inn:Bool):∀(n:Nat) (p:PX),∃q:PX,BG inn n p.m=q.m/\PX.Par p q
 |0,p=>⟨p,rfl,.refl p⟩
 |n+1,p=>by
  cases d:Fx inn p.m with
  |true=>
   have h:CA p.m=true:=by unfold Fx at d; simp at d; exact d.1
   obtain⟨b,x,rfl⟩:=YP h;refine⟨b.sub (PX.ins x),?_,.b (.refl b) (.refl x)⟩;rw[<-YQ];show BG inn (n+1) ⟨3,0,[(PX.l b).m,x.m]⟩=_;have j:Fx inn (⟨3,0,[(PX.l b).m,x.m]⟩:Lm)=true:=d;rw[BG,Aq j]
  |false=>
   cases p with
   |v i=>exact⟨.v i,by simp only[PX.m] at d ⊢; rw[BG,Am (by rw[d]; simp)]; rfl,.v i⟩
   |c k=>exact⟨.c k,by simp only[PX.m] at d ⊢; rw[BG,Am (by rw[d]; simp)]; rfl,.c k⟩
   |l b=>
    obtain⟨q,h1,h2⟩:=ML inn n b;simp only[PX.m] at d ⊢;rw[BG,Am (by rw[d]; simp),CD];by_cases e:AN [b.m]=true
    ·rw[Aq e,h1]; exact⟨.l q,rfl,.l h2⟩
    ·rw[Am e]; exact⟨.l b,rfl,.refl _⟩
   |a f x=>
    obtain⟨q,h1,h2⟩:=ML inn n f;obtain⟨r,h3,o⟩:=ML inn n x;simp only[PX.m] at d ⊢;rw[BG,Am (by rw[d]; simp),CD];by_cases e:AN [f.m]=true
    ·rw[Aq e,h1]; exact⟨.a q x,rfl,.a h2 (.refl x)⟩
    ·rw[Am e,CD];by_cases g:AN [x.m]=true
     ·rw[Aq g,h3]; exact⟨.a f r,rfl,.a (.refl f) o⟩
     ·rw[Am g]; exact⟨.a f x,rfl,.refl _⟩
theorem Ta (inn:Bool):∀(k:Nat) (p:PX) (r:Lm) (j:Nat),Bm inn k p.m=(0,r,j)->∃q:PX,r=q.m/\PX.Pars p q/\q.st=false/\(j=0↔p.st=false)
 |0,p,r,j,h=>by
  rw[Bm]at h;by_cases a:AN [p.m]=true
  ·rw[Aq a]at h; simp at h
  ·rw[Am a]at h;simp only[Fq,true_and] at h;have b:p.st=false:=by rw[<-JH]; simpa using a
   exact⟨p,h.1.symm,.refl p,b,λ_=>b,λ_=>h.2.symm⟩
 |k+1,p,r,j,h=>by
  rw[Bm]at h;by_cases a:AN [p.m]=true
  ·rw[Aq a]at h;by_cases hz:2000<Ai [BG inn 2001 p.m]
   ·rw[Aq hz]at h; simp at h
   ·rw[Am hz]at h;obtain⟨q,h1,h2⟩:=ML inn 2001 p;rw[h1]at h;generalize c:Bm inn k q.m=g at h;obtain⟨g1,g2,g3⟩:=g;simp only[Fq] at h;obtain⟨rfl,rfl,rfl⟩:=h;obtain⟨d,h3,e,h5,_⟩:=Ta inn k q _ _ c;have b:p.st=true:=by rw[<-JH]; exact a
    exact⟨d,h3,(PX.Pars.one h2).trans e,h5,λh=>by omega,λh=>by rw[b] at h; cases h⟩
  ·rw[Am a]at h;simp only[Fq,true_and] at h;have b:p.st=false:=by rw[<-JH]; simpa using a
   exact⟨p,h.1.symm,.refl p,b,λ_=>b,λ_=>h.2.symm⟩
def PX.sz:PX->Nat
 | .v _=>1
 | .c _=>1
 | .l b=>1+b.sz
 | .a f x=>1+(f.sz+x.sz)
def PX.lv:PX->Nat
 | .v _=>1
 | .c _=>1
 | .l b=>b.lv
 | .a f x=>f.lv+x.lv
theorem PX.ren_sz (p:PX):∀r:Nat->Nat,(p.ren r).sz=p.sz:=by
 induction p with
 |v i=>intro r; rfl
 |c k=>intro r; rfl
 |l b d=>intro r; simp only[PX.ren,PX.sz,d]
 |a f x e hx=>intro r; simp only[PX.ren,PX.sz,e,hx]
theorem Hn:∀p:PX,Ai [p.m]=p.sz
 | .v i=>by simp[PX.m,Ai,PX.sz]
 | .c k=>by simp[PX.m,Ai,PX.sz]
 | .l b=>by have:=Hn b; simp only[PX.m,PX.sz]; rw[<-this]; simp[Ai]
 | .a f x=>by
  have h1:=Hn f;have h2:=Hn x;simp only[PX.m,PX.sz];rw[<-h1,<-h2];have h3:Ai [f.m,x.m]=Ai [f.m]+Ai [x.m]:=Ki [f.m] [x.m];rw[<-h3];simp[Ai]
def PX.ok:PX->Nat->Prop
 | .v i,u=>i<u
 | .c k,_=>0<=k/\k<40
 | .l b,u=>b.ok (u+1)
 | .a f x,u=>f.ok u/\x.ok u
theorem JI:∀(p:PX) (u:Nat),Au (u:Int) 0 [p.m]=0↔p.ok u
 | .v i,u=>by
  simp only[PX.m,PX.ok];rw[D3,EC];simp[BF,Bk,Au]
 | .c k,u=>by
  simp only[PX.m,PX.ok];rw[D3,EC];simp[BF,Bk,Au]
 | .l b,u=>by
  have h:=JI b (u+1);simp only[PX.m,PX.ok];rw[<-h,D3,EC];simp[BF,Bk,AR]
 | .a f x,u=>by
  have h1:=JI f u;have h2:=JI x u;simp only[PX.m,PX.ok];rw[<-h1,<-h2,D3,EC,Io];simp[BF,Bk,AR]
theorem PX.ren_ok (p:PX):∀(r:Nat->Nat) (u u':Nat),(∀i,i<u->r i<u')->p.ok u->(p.ren r).ok u':=by
 induction p with
 |v i=>intro r u u' h hp; exact h i hp
 |c k=>intro r u u' h hp; exact hp
 |l b d=>intro r u u' h hp;exact d _ (u+1) (u'+1) (λi hi=>by cases i with|zero=>simp[PX.upr]|succ i=>have:=h i (by omega); simp only[PX.upr]; omega) hp
 |a f x e hx=>intro r u u' h hp; exact⟨e r u u' h hp.1,hx r u u' h hp.2⟩
theorem PX.sub_ok (p:PX):∀(s:Nat->PX) (u u':Nat),(∀i,i<u->(s i).ok u')->p.ok u->(p.sub s).ok u':=by
 induction p with
 |v i=>intro s u u' h hp; exact h i hp
 |c k=>intro s u u' h hp; exact hp
 |l b d=>
  intro s u u' h hp;refine d _ (u+1) (u'+1) (λi hi=>?_) hp;cases i with
  |zero=>simp[PX.up,PX.ok]
  |succ i=>exact PX.ren_ok (s i) (·+1) u' (u'+1) (λi hi=>by omega) (h i (by omega))
 |a f x e hx=>intro s u u' h hp; exact⟨e s u u' h hp.1,hx s u u' h hp.2⟩
theorem PX.ins_ok {q:PX} {u:Nat} (hq:q.ok u) {p:PX} (hp:p.ok (u+1)):(p.sub (ins q)).ok u:=
 PX.sub_ok p _ (u+1) u (λi hi=>by cases i with|zero=>exact hq|succ i=>show i<u; omega) hp
inductive ST where
 |o
 |ar (a b:ST)
def Iq (A:ST) (Γ:Nat->ST):Nat->ST
 |0=>A
 |i+1=>Γ i
inductive HT:(Nat->ST)->PX->ST->Prop where
 |v {Γ:Nat->ST} {i:Nat} {A:ST} (h:Γ i=A):HT Γ (.v i) A
 |l {Γ:Nat->ST} {A B:ST} {b:PX} (h:HT (Iq A Γ) b B):HT Γ (.l b) (.ar A B)
 |a {Γ:Nat->ST} {A B:ST} {f x:PX} (h:HT Γ f (.ar A B)) (k:HT Γ x A):HT Γ (.a f x) B
theorem HT.ren {Γ:Nat->ST} {p:PX} {A:ST} (h:HT Γ p A):∀(Δ:Nat->ST) (r:Nat->Nat),(∀i,Δ (r i)=Γ i)->HT Δ (p.ren r) A:=by
 induction h with
 |v h=>intro Δ r b; exact .v ((b _).trans h)
 |l h c=>intro Δ r b; exact .l (c _ _ λi=>by cases i with|zero=>rfl|succ i=>exact b i)
 |a h k d i2=>intro Δ r b; exact .a (d _ _ b) (i2 _ _ b)
theorem HT.sub {Γ:Nat->ST} {p:PX} {A:ST} (h:HT Γ p A):∀(Δ:Nat->ST) (s:Nat->PX),(∀i,HT Δ (s i) (Γ i))->HT Δ (p.sub s) A:=by
 induction h with
 |v h=>intro Δ s c; subst h; exact c _
 | @l Γ A B b h d=>
  intro Δ s c;refine .l (d _ _ λi=>?_);cases i with
  |zero=>exact .v rfl
  |succ i=>exact(c i).ren _ _ λ_=>rfl
 |a h k e i2=>intro Δ s c; exact .a (e _ _ c) (i2 _ _ c)
theorem HT.par {p q:PX} (h:PX.Par p q):∀ {Γ:Nat->ST} {A:ST},HT Γ p A->HT Γ q A:=by
 induction h with
 |v i=>intro Γ A k; exact k
 |c k=>intro Γ A k; exact k
 |l _ f=>intro Γ A k; cases k with|l k=>exact .l (f k)
 |a _ _ h1 h2=>intro Γ A k; cases k with|a d e=>exact .a (h1 d) (h2 e)
 |b _ _ h1 h2=>
  intro Γ A k;cases k with
  |a d e=>
   cases d with
   |l d=>
    refine(h1 d).sub _ _ λi=>?_;cases i with
    |zero=>exact h2 e
    |succ i=>exact .v rfl
theorem HT.pars {p q:PX} (h:PX.Pars p q) {Γ:Nat->ST} {A:ST} (k:HT Γ p A):HT Γ q A:=by
 induction h with
 |refl=>exact k
 |tail _ h a=>exact HT.par h a
theorem PX.ren_st (p:PX):∀r:Nat->Nat,(p.ren r).st=p.st/\(p.ren r).isl=p.isl:=by
 induction p with
 |v i=>intro r; exact⟨rfl,rfl⟩
 |c k=>intro r; exact⟨rfl,rfl⟩
 |l b d=>intro r; exact⟨(d _).1,rfl⟩
 |a f x h1 h2=>intro r; exact⟨by simp only[PX.ren,PX.st,(h1 r).1,(h1 r).2,(h2 r).1],rfl⟩
def PX.bod:PX->PX
 | .l b=>b
 |t=>.a (t.ren (·+1)) (.v 0)
theorem PX.bod_of {p:PX} (h:p.isl=false):p.bod=.a (p.ren (·+1)) (.v 0):=by cases p<;>first|rfl|cases h
theorem HT.bod {Γ:Nat->ST} {p:PX} {A B:ST} (h:HT Γ p (.ar A B)) (c:p.st=false):HT (Iq A Γ) p.bod B/\p.bod.st=false:=by
 cases b:p.isl with
 |true=>
  cases h with
  |l h=>exact⟨h,c⟩
  |v=>cases b
  |a=>cases b
 |false=>rw[PX.bod_of b];refine⟨.a (h.ren _ _ λ_=>rfl) (.v rfl),?_⟩;simp only[PX.st,(PX.ren_st p _).1,(PX.ren_st p _).2,c,b];rfl
theorem PX.bod_ok {p:PX} {u:Nat} (h:p.ok u):p.bod.ok (u+1):=by
 cases d:p.isl with
 |true=>cases p with|l b=>exact h|v=>cases d|c=>cases d|a=>cases d
 |false=>rw[PX.bod_of d];exact⟨PX.ren_ok p _ u (u+1) (λi hi=>by omega) h,Nat.succ_pos u⟩
theorem PX.bod_sz (p:PX):p.bod.sz<=p.sz+2:=by
 cases d:p.isl with
 |true=>cases p with|l b=>simp only[PX.bod,PX.sz]; omega|v=>cases d|c=>cases d|a=>cases d
 |false=>rw[PX.bod_of d]; simp only[PX.sz,PX.ren_sz]; omega
theorem HT.flat {Γ:Nat->ST} {p:PX} (h:HT Γ p .o):p.isl=false:=by
 cases h with
 |v=>rfl
 |a=>rfl
def Ho:List ST->ST
 | [a,b]=>.ar a b
 |_=>.o
def Fj:List Ty->List ST
 | []=>[]
 | ⟨_,l⟩::r=>Ho (Fj l)::Fj r
def Dm (t:Ty):ST:=Ho (Fj t.subs)
theorem Hp (t:Ty) (r:List Ty):Fj (t::r)=Dm t::Fj r:=by
 obtain⟨x,l⟩:=t;simp only[Fj,Dm]
theorem Tc (x:Int):Dm ⟨x,[]⟩=.o:=by simp[Dm,Fj,Ho]
theorem On (x:Int) (a b:Ty):Dm ⟨x,[a,b]⟩=.ar (Dm a) (Dm b):=by
 show Ho (Fj [a,b])=_;rw[Hp,Hp,Fj,Ho]
theorem Td:∀l:List Ty,(Fj l).length=l.length
 | []=>by simp[Fj]
 |t::r=>by rw[Hp,Cl,Cl,Td r]
theorem Te {t:Ty} {A B:ST} (h:Dm t=.ar A B):∃a b,t.subs=[a,b]/\Dm a=A/\Dm b=B:=by
 have hl:=Td t.subs;unfold Dm at h;match hm:t.subs with
 | []=>rw[hm] at h; simp[Fj,Ho] at h
 | [a]=>rw[hm,Hp] at h; simp[Fj,Ho] at h
 | [a,b]=>rw[hm,Hp,Hp]at h;simp only[Fj,Ho,ST.ar.injEq] at h;exact⟨a,b,rfl,h.1,h.2⟩
 |a::b::c::r=>rw[hm,Hp,Hp,Hp] at h; simp[Ho] at h
def DF (u:List Ty) (i:Nat):ST:=if i<u.length then Dm (u.getD (u.length-1-i) ⟨0,[]⟩) else .o
theorem YR:DF []=λ_=>ST.o:=by funext i; simp[DF]
theorem Ti (u:List Ty) (A:Ty):DF (u++[A])=Iq (Dm A) (DF u):=by
 funext i
 cases i with
 |zero=>simp[DF,Iq]
 |succ i=>
  simp only[DF,Iq,Ej,Cl,Ek];by_cases h:i<u.length
  ·rw[Aq (by omega),Aq h];congr 1
   rw[GD,GD,Nq (by omega)];congr 2
   omega
  ·rw[Am (by omega),Am h]
inductive LG:Bool->List Ty->PX->Ty->PX->Nat->Prop where
 |fn {u:List Ty} {p:PX} {z:Int} {A B:Ty} {x:PX} {k:Nat} (h:LG true (u++[A]) p.bod B x k):LG true u p ⟨z,[A,B]⟩ (.l x) (k+1)
 |ba {u:List Ty} {p:PX} {z:Int} {F:Ty} {x:PX} {k:Nat} (h:LG false u p F x k):LG true u p ⟨z,[]⟩ x k
 |v {u:List Ty} {i:Nat} {T:Ty} (h:u[u.length-1-i]? = some T) (hi:i<u.length):LG false u (.v i) T (.v i) 1
 |a {u:List Ty} {f g x y:PX} {z:Int} {A B:Ty} {k j:Nat} (h:LG false u f ⟨z,[A,B]⟩ g k) (hx:LG true u x A y j):LG false u (.a f x) B (.a g y) (k+j+1)
theorem LG.det {p:PX} {T:Ty} {x:PX} (h:LG b u p T x k):∀ {T':Ty} {x':PX} {c:Nat},LG b u p T' x' c->(b=true->T=T')->T=T'/\x=x'/\k=c:=by
 induction h with
 |fn h d=>
  intro T' x' c h' ht;have e:=ht rfl;subst e;cases h' with
  |fn h'=>obtain⟨-,e1,e2⟩:=d h' λ_=>rfl;exact⟨rfl,by rw[e1],by rw[e2]⟩
 |ba h d=>
  intro T' x' c h' ht;have e:=ht rfl;subst e;cases h' with
  |ba h'=>
   obtain⟨-,e1,e2⟩:=d h' λe=>by cases e
   exact⟨rfl,e1,e2⟩
 |v h hi=>
  intro T' x' c h' ht;cases h' with
  |v h'=>rw[h] at h'; cases h'; exact⟨rfl,rfl,rfl⟩
 |a h hx f i2=>
  intro T' x' c h' ht;cases h' with
  |a h' g=>
   obtain⟨e,e1,e2⟩:=f h' λe=>by cases e
   cases e;obtain⟨-,e3,i⟩:=i2 g λ_=>rfl;exact⟨rfl,by rw[e1,e3],by rw[e2,i]⟩
theorem LG.pos {p:PX} {T:Ty} {x:PX} (h:LG b u p T x k):1<=k:=by
 induction h with
 |fn=>omega
 |ba _ c=>exact c
 |v=>omega
 |a=>omega
structure Cr (b:Bool) (u:List Ty) (p:PX) (T:Ty) (left m:Int) (o:Lm):Prop where
 lo:-((p.sz:Int)+4*(left+2).toNat+2*(-left).toNat+3)<=m
 le:m<=left
 yes:0<=m->∃x k,LG b u p T x k/\o=x.m/\(k:Int)=left-m
 no:m<0->∀T' x k,(b=true->T'=T)->LG b u p T' x k->left<(k:Int)
 only:b=false->∀T' x k,LG b u p T' x k->T'=T
theorem PX.sz_pos (p:PX):1<=p.sz:=by cases p<;>simp only[PX.sz]<;>omega
theorem Cr.neg {p:PX} {T:Ty} (h:left<0):Cr true u p T left left o where
 lo:=by omega
 le:=by omega
 yes:=λh'=>by omega
 no:=λ_ T' x k _ a=>by have:=a.pos; omega
 only:=λh=>by cases h
theorem Cr.fn {u:List Ty} {p:PX} {z left m:Int} {A B:Ty} {o:Lm} (h:Cr true (u++[A]) p.bod B (left-1) m o) (hl:0<=left):Cr true u p ⟨z,[A,B]⟩ left m ⟨2,0,[o]⟩ where
 lo:=by have:=h.lo; have:=p.bod_sz; omega
 le:=by have:=h.le; omega
 yes:=λhm=>by
  obtain⟨x,k,h1,rfl,h2⟩:=h.yes hm;exact⟨.l x,k+1,.fn h1,rfl,by omega⟩
 no:=λhm T' x k ht a=>by
  cases ht rfl;cases a with
  |fn a=>have:=h.no hm _ _ _ (λ_=>rfl) a; omega
 only:=λh=>by cases h
theorem Cr.ba {u:List Ty} {p:PX} {z left m:Int} {F:Ty} {o:Lm} (h:Cr false u p F left m o):Cr true u p ⟨z,[]⟩ left m o where
 lo:=h.lo
 le:=h.le
 yes:=λhm=>by
  obtain⟨x,k,h1,h2,h3⟩:=h.yes hm;exact⟨x,k,.ba h1,h2,h3⟩
 no:=λhm T' x k ht a=>by
  cases ht rfl;cases a with
  |ba a=>exact h.no hm _ _ _ (λe=>by cases e) a
 only:=λh=>by cases h
theorem Cr.v {u:List Ty} {i:Nat} {T:Ty} {left:Int} (h:u[u.length-1-i]? = some T) (hi:i<u.length):Cr false u (.v i) T left (left-1) ⟨1,(i:Int),[]⟩ where
 lo:=by simp only[PX.sz]; omega
 le:=by omega
 yes:=λhm=>⟨.v i,1,.v h hi,rfl,by omega⟩
 no:=λhm T' x k _ a=>by cases a; omega
 only:=λ_ T' x k a=>by
  cases a with
  |v h'=>rw[h] at h'; cases h'; rfl
theorem Cr.aD {f x:PX} {n m:Int} {A B:Ty} {g y:Lm} (b:Cr false u f ⟨z,[A,B]⟩ left n g) (hx:Cr true u x A n m y) (hl:0<=left) (o:n<0->m=n):Cr false u (.a f x) B left (m-1) ⟨3,0,[g,y]⟩ where
 lo:=by
  have h1:=b.lo; have h2:=hx.lo; have h3:=b.le; have d:=hx.le; have:=f.sz_pos; have:=x.sz_pos;simp only[PX.sz];by_cases h:0<=n
  ·omega
  ·have:=o (by omega); omega
 le:=by have:=b.le; have:=hx.le; omega
 yes:=λhm=>by
  have:=hx.le;obtain⟨i,k,h1,rfl,h2⟩:=b.yes (by omega);obtain⟨l,j,h3,rfl,d⟩:=hx.yes (by omega);exact⟨.a i l,k+j+1,.a h1 h3,rfl,by omega⟩
 no:=λhm T' x' k _ c=>by
  cases c with
  |a h1 h2=>
   cases b.only rfl _ _ _ h1;by_cases h:n<0
   ·have:=b.no h _ _ _ (λe=>by cases e) h1;omega
   ·obtain⟨i,k',h3,_,d⟩:=b.yes (by omega);obtain⟨-,-,e⟩:=h1.det h3 λe=>by cases e
    by_cases q:m<0
    ·have:=hx.no q _ _ _ (λ_=>rfl) h2;omega
    ·obtain⟨l,j',h5,_,h6⟩:=hx.yes (by omega);obtain⟨-,-,e2⟩:=h2.det h5 λ_=>rfl;omega
 only:=λ_ T' x' k c=>by
  cases c with
  |a h1 h2=>cases b.only rfl _ _ _ h1; rfl
theorem Cr.aP {f x:PX} {n m:Int} {A B:Ty} {g y:Lm} (b:Cr false u f ⟨z,[A,B]⟩ (left-1) n g) (hx:Cr true u x A n m y) (l:n<0->m=n):Cr false u (.a f x) B left m ⟨3,0,[g,y]⟩ where
 lo:=by
  have h1:=b.lo; have h2:=hx.lo; have h3:=b.le; have d:=hx.le; have:=f.sz_pos; have:=x.sz_pos;simp only[PX.sz];by_cases h:0<=n
  ·omega
  ·have:=l (by omega); omega
 le:=by have:=b.le; have:=hx.le; omega
 yes:=λhm=>by
  have:=hx.le;obtain⟨i,k,h1,rfl,h2⟩:=b.yes (by omega);obtain⟨o,j,h3,rfl,d⟩:=hx.yes (by omega);exact⟨.a i o,k+j+1,.a h1 h3,rfl,by omega⟩
 no:=λhm T' x' k _ c=>by
  cases c with
  |a h1 h2=>
   cases b.only rfl _ _ _ h1;by_cases h:n<0
   ·have:=b.no h _ _ _ (λe=>by cases e) h1;omega
   ·obtain⟨i,k',h3,_,d⟩:=b.yes (by omega);obtain⟨-,-,e⟩:=h1.det h3 λe=>by cases e
    have:=hx.no hm _ _ _ (λ_=>rfl) h2;omega
 only:=λ_ T' x' k c=>by
  cases c with
  |a h1 h2=>cases b.only rfl _ _ _ h1; rfl
theorem Cr.both {p:PX} {T:Ty} {m a:Int} {o':Lm} (h:Cr true u p T left m o) (h':Cr true u p T left a o'):(0<=m/\0<=a/\o=o')∨(m<0/\a<0):=by
 by_cases hm:0<=m
 ·obtain⟨x,k,h1,h2,h3⟩:=h.yes hm;by_cases b:0<=a
  ·obtain⟨x',d,c,h5,h6⟩:=h'.yes b;obtain⟨-,e,-⟩:=h1.det c λ_=>rfl;exact Ad ⟨hm,b,by rw[h2,h5,e]⟩
  ·have:=h'.no (by omega) _ _ _ (λ_=>rfl) h1;omega
 ·by_cases b:0<=a
  ·obtain⟨x',d,c,h5,h6⟩:=h'.yes b;have:=h.no (by omega) _ _ _ (λ_=>rfl) c;omega
  ·exact Ae ⟨by omega,by omega⟩
def EP:Nat->Prop:=λ_=>True
theorem Fz (w:World) (c1 c2 c3:Array Value) (a b c:Nat):Below w.heap.size w (((w.alloc (zp c1 a)).alloc (zp c2 b)).alloc (zp c3 c))/\Ab (((w.alloc (zp c1 a)).alloc (zp c2 b)).alloc (zp c3 c)) w.heap.size c1 a/\
  Ab (((w.alloc (zp c1 a)).alloc (zp c2 b)).alloc (zp c3 c)) (w.heap.size+1) c2 b/\Ab (((w.alloc (zp c1 a)).alloc (zp c2 b)).alloc (zp c3 c)) (w.heap.size+1+1) c3 c:=by
 refine⟨(((Ac _ _).alloc (Af _) _).alloc (by simp) _).alloc (by simp; omega) _,((Ab.new w c1 a).alloc _).alloc _,?_,?_⟩
 ·have h:=(Ab.new (w.alloc (zp c1 a)) c2 b).alloc (zp c3 c);rw[Ca]at h;exact h
 ·have h:=Ab.new ((w.alloc (zp c1 a)).alloc (zp c2 b)) c3 c;rw[Ca,Ca]at h;exact h
theorem Tj {A:ST} (hi:i<u.length) (h:DF u i=A):∃T,u[u.length-1-i]? = some T/\Dm T=A:=by
 refine⟨u[u.length-1-i],GA (by omega),?_⟩;rw[DF,Aq hi,GD,GA (show u.length-1-i<u.length by omega)]at h;exact h
theorem JJ (h:Bl u):∀T∈u,Bl [T]:=by
 induction u with
 |nil=>intro T hT; cases hT
 |cons t r a=>
  intro T hT;rw[Q6]at h;rcases Ct.1 hT with rfl|hT
  ·rw[Q6]; exact⟨h.1,h.2.1,by simp[Bl]⟩
  ·exact a h.2.2 T hT
theorem Tl {A:Ty} (h:Bl u) (a:Bl [A]):Bl (u++[A]):=by
 induction u with
 |nil=>exact a
 |cons t r b=>rw[Q6]at h;rw[Dj,Q6];exact⟨h.1,h.2.1,b h.2.2⟩
theorem PX.fits {p:PX} (h:p.ok n) (hn:n+p.sz<=50000):Cz [p.m]/\Dd [p.m]:=by
 have e:=(JI p n).2 h;exact⟨Jv _ _ _ (by omega) (by rw[Hn]; omega) (by omega) e,MI _ _ _ e⟩
def I4 (left:Int):Prop:=∀(X:Nat->Prop) (p:PX) (u:List Ty) (T:Ty) (v y:Value) (ua:Option Addr) (uc:Nat) (w:World),p.st=false->p.ok u.length->p.sz+2*(left+2).toNat<=20000->u.length+(left+2).toNat<=20000->Bl u->Bl [T]->HT (DF u) p (Dm T)->
 MV w X v p.m->YV w EP y T->AC w EP ua u->
 Calls prog 14 #[v,y,.slice ua u.length uc,zA left] w λe w'=>∃(o:Lm) (a:Option Addr) (c:Nat) (m:Int),e=.returned (.tuple #[.agg (zE o a c),zA m])/\Ap w' (λb=>X b∨w.heap.size<=b) a o.subs/\Cr true u p T left m o/\Below w.heap.size w w'/\(left<0->m=left)
def I5 (X Y:Nat->Prop) (u:List Ty) (p:PX) (A:ST) (left:Int) (w:World) (e:Ending) (w':World):Prop:=
 ∃(o:Lm) (a:Option Addr) (c:Nat) (F:Ty) (fa:Option Addr) (fc:Nat) (m:Int),e=.returned (.tuple #[.agg (zE o a c),.agg (zH F fa fc),zA m])/\
  Ap w' (λb=>X b∨w.heap.size<=b) a o.subs/\AC w' Y fa F.subs/\Bl [F]/\Dm F=A/\Cr false u p F left m o/\Below w.heap.size w w'
theorem C8 {c2:Value} (h:Ab w A #[c0,c1,c2] T) (v0 v1 v2:Value):Ab (((w.setCell (zD A 0) v0).setCell (zD A 1) v1).setCell (zD A 2) v2) A #[v0,v1,v2] T:=by
 have:=((h.set 0 v0).set 1 v1).set 2 v2;simpa using this
theorem MM (h:Ab w A #[c0,c1] T) (v0 v1:Value):Ab ((w.setCell (zD A 0) v0).setCell (zD A 1) v1) A #[v0,v1] T:=by
 have:=(h.set 0 v0).set 1 v1;simpa using this
theorem Dn {b:World} (h:Below B b w) (a:B<=A) (v0 v1 v2:Value):Below B b (((w.setCell (zD A 0) v0).setCell (zD A 1) v1).setCell (zD A 2) v2):=((h.setCell (p:=(zD A 0)) a _).setCell (p:=(zD A 1)) a _).setCell (p:=(zD A 2)) a _
theorem Tn {a:World} (h:Below B a w) (b:B<=A) (v0 v1:Value):Below B a ((w.setCell (zD A 0) v0).setCell (zD A 1) v1):=(h.setCell (p:=(zD A 0)) b _).setCell (p:=(zD A 1)) b _
theorem Ee (h:Ab w D cs T) (a:D≠A) (v0 v1 v2:Value):Ab (((w.setCell (zD A 0) v0).setCell (zD A 1) v1).setCell (zD A 2) v2) D cs T:=((h.setOther _ _ a).setOther _ _ a).setOther _ _ a
theorem Fk (h:Ab w D cs T) (a:D≠A) (v0 v1:Value):Ab ((w.setCell (zD A 0) v0).setCell (zD A 1) v1) D cs T:=(h.setOther _ _ a).setOther _ _ a
theorem YS (left:Int) (ak:0<=left) (al:left<=3000) (i:Nat) (u:List Ty) (A:ST) (v:Value) (G:Option Addr) (uc:Nat) (w:World) (hi:i<u.length) (hlen:u.length<=20000) (H:Bl u) (I:DF u i=A) (X:Nat->Prop) (g:MV w X v (PX.v i).m) (Y:Nat->Prop) (hY:∀b,Y b->b<w.heap.size) (hu:AC w Y G u):
  Calls prog 36 #[v,.slice G u.length uc,zA left] w λe w'=>I5 X Y u (.v i) A left w e w':=by
 obtain⟨T,hT,J⟩:=Tj hi I;obtain⟨a,c,g,hs⟩:=g;have g:v=.agg #[zA 1,zA i,.slice a 0 c]:=g;subst g;obtain⟨L,M,N,O⟩:=Fz w #[zA 1,zA i,.slice a 0 c] zJ #[zA 0,zB] 24 24 27;have aj:=Aa (JJ H T (List.mem_of_getElem? hT));have HL:=Aa (Cr.v (left:=left) hT hi);have HE:=Aa J;have s:u.length-1-i<u.length:=by omega
 have P:u[u.length-1-i]=T:=by rw[GA s] at hT; exact J8 hT
 obtain⟨b,o,k,c',rfl,d0,d1,hx⟩:=hu.get (Ac _ _) (λ_ _ h=>h) (u.length-1-i) s;rw[P]at d0 d1 hx;clear P;obtain⟨j,R⟩:∃j,j=u.length-1-i:=⟨_,rfl⟩;rw[<-R]at d0 d1 s;have an:IntKind.i64.wrap (IntKind.i64.wrap ((u.length:Int)-1)-(i:Int))=(j:Int):=by rw[Ck,Ck]; omega
 have ao:IntKind.i64.wrap (left-1)=left-1:=by rw[Ck]; omega
 obtain⟨a9,c9,e9,hx⟩:=hx;cases e9;have HX:=Aa hx;have U:=Aa L;have t:=Aa M;have V:=Aa N;have W:=Aa O;have x:=Aa d0;have y:=Aa d1;clear hx R hu L M N O I hT J H hs d0 d1;go_in;go_upto_region 1 with fail;generalize (((w.alloc _).alloc _).alloc _)=w2 at *;have x0:=t.o.c0;go_wp2_with fail;clear x0;have q:Below w2.heap.size w2 w2.drew:=(Ac _ _).drew;have Z:=Aa (U.o.trans (q.mono U.o.size));have f:=Aa (V.o.below q V.o.lt);have S3:=Aa (W.o.below q W.o.lt);refine Co (S:=λw'=>Below w.heap.size w w'/\Ab w' w.heap.size #[zA 1,zA i,.slice a 0 c] 24) (by kernel_rfl) ⟨Z.o,t.o.below q t.o.lt⟩ λhHeld=>?_;generalize w2.drew=wd at *;refine tkz 0 ?_ (hy:=by intro w' d; have y0:=d.2.cell 0; have y1:=d.2.cell 1; have y2:=d.2.cell 2; have r:=cell_later d.1 x.o; have e1:=cell_later d.1 y.o; go_simp<;>with_reducible rfl);refine tkz 1 ?_;refine tkz 2 ?_;refine tkz 3 ?_;refine tkz 4 ?_;refine tkz 5 ?_;refine tkz 6 ?_ (hy:=by intro w' d; have y0:=d.2.cell 0; have y1:=d.2.cell 1; have y2:=d.2.cell 2; have r:=cell_later d.1 x.o; have e1:=cell_later d.1 y.o; go_simp<;>with_reducible rfl);refine tkz 7 ?_;refine tkz 8 ?_;refine tkz 9 ?_ (hy:=by intro w' d; have y0:=d.2.cell 0; have y1:=d.2.cell 1; have y2:=d.2.cell 2; have r:=cell_later d.1 x.o; have e1:=cell_later d.1 y.o; go_simp<;>with_reducible rfl);refine tkz 10 ?_;refine tkz 11 ?_;have z:=f.o.c0;have B:=f.o.c1;have r2:=f.o.c2;have C:=f.o.frozen;refine rdq 12 rfl λK l=>?_;go_simp;have Q2:=Aa (C8 f.o (zA 1) (zA i) (.slice a 0 c));have n:=Aa (Ee (A:=w.heap.size+1) S3.o (by omega) (zA 1) (zA i) (.slice a 0 c));have D:=Aa (Dn (A:=w.heap.size+1) hHeld.1 (by omega) (zA 1) (zA i) (.slice a 0 c));refine l.o _ _ (by exact⟨D.o,Ee hHeld.2 (by omega) _ _ _⟩) λhHeld=>?_;clear l K z B r2 C f S3 Z;generalize (((wd.setCell _ _).setCell _ _).setCell _ _)=we at *;(try simp only[Act.put,sq]);have z:=n.o.c0;have B:=n.o.c1;have C:=n.o.frozen;refine rdq 13 rfl λK l=>?_;go_simp;have P3:=Aa (MM n.o (zA T.base) (.slice k T.subs.length c'));have E:=Aa (Fk (A:=w.heap.size+1+1) Q2.o (by omega) (zA T.base) (.slice k T.subs.length c'));have F:=Aa (Tn (A:=w.heap.size+1+1) D.o (by omega) (zA T.base) (.slice k T.subs.length c'));refine l.o _ _ (by exact⟨F.o,Fk hHeld.2 (by omega) _ _⟩) λhHeld=>?_;clear l K z B C Q2 n D;generalize ((we.setCell _ _).setCell _ _)=wf at *;(try simp only[Act.put,sq]);refine tkz 14 ?_;refine dnq ?_;have c0:=E.o.c0;have c1:=E.o.c1;have c2:=E.o.c2;have r:=P3.o.c0;have e1:=P3.o.c1;go_wp2_with fail;refine Ao (v:=.tuple #[.agg #[zA 1,zA i,.slice a 0 c],.agg (zH T k c'),zA (left-1)]) (by simp[results,results36,go_sem,c0,c1,c2,r,e1]) rfl ?_;exact⟨⟨1,(i:Int),[]⟩,a,c,T,k,c',left-1,rfl,⟨by simp,Ad rfl⟩,HX.o.later F.o,aj.o,HE.o,HL.o,F.o⟩
attribute [local go_sem] Oper.semAt_some
theorem YT {P:Nat->Prop} {hi:Nat} {J:World->Prop} {S:Lm->Bool->World->Prop} (hP:∀b,hi<=b->P b) (hT:SN y P J S) (hJ:Hm J) (k r:Int) (l:List Lm) (i:Nat) (N:i<l.length) (hlen:l.length<=1000000) (a:Option Addr) (c T I Y:Nat) (X:Nat->Prop) (bj:hi<=T) (W:World) (aw:J W) (E:Ip ⟨k,r,l⟩ a c T I Y i y X W) (R:∀b,X b->b<W.heap.size/\P b) (v:Value) (x:Lm) (ok:Bool) (Z:Nat->Prop) (t:MV W Z v x) (hZ:∀b,Z b->b<W.heap.size/\P b):
  Calls prog 112 #[v,.bool ok,zC T,zC I,zC Y] W λe W'=>e=.returned (.bool false)/\S ⟨k,r,l.set i x⟩ ok W':=by
 obtain⟨va,vc,rfl,ax⟩:=t;have ay:Below W.heap.size W (W.alloc (zm x va vc)):=(Ac _ _).alloc (Af _) _;have az:=E.sl;obtain⟨ba,m,rfl,U⟩:=az.2.resolve_left (λe=>by simp only at e; rw[e] at N; simp at N);obtain⟨xs,F,a1⟩:=YC l ba m U;have ao:ba<W.heap.size:=(R _ (Fe _ _ _ U 0 (by show 0<l.length; omega)).1).1;have bk:T<W.heap.size:=E.bt.lt;have CL:Hid (∀w',Below W.heap.size W w'->Calls prog 113 #[.slice (some (zD ba m)) l.length c] w' λe q=>∃G cap,e=.returned (.slice (some (zD G 0)) l.length cap)/\q.ownsRow w'.heap.size 24 3 (.slice (some (zD G 0)) l.length cap) l.length xs/\Below w'.heap.size w' q):=λw' hb=>by
  refine(YA ba m l.length c xs w' F.len hlen (λj u hj=>(hb.cell (p:=⟨ba,m+j,none⟩) ao).trans (a1 j u hj)) F.one).mono ?_;rintro e q ⟨v',rfl,ho,hne,aM⟩;rcases ho.2 with ⟨h1,_⟩|⟨g,cap,cur,t,_⟩
  ·exact absurd h1 hne
  ·subst t;exact⟨g,cap,rfl,ho,aM⟩
 have aN:=Aa F;have H:=Aa E;have aO:=Aa ax;have aP:=Aa aw;have aQ:=Aa hT;have HX:=Aa R;have HZ:=Aa hZ;have a6:Ab (W.alloc (zm x va vc)) W.heap.size (zE x va vc) 24:=Ab.new _ _ _;have aR:=Aa a6;have V:=Aa ay;clear F E ax aw hT R hZ az U a1 a6 ay;go_in;go_upto_region 1 with fail;go_cut [8] (λo8 wc=>Oh (W.alloc (zm x va vc)) (W.heap.size+1) k r l.length xs o8 wc);case first=>
  have a7:((W.alloc (zm x va vc))).heap.size=W.heap.size+1:=by simp
  have L:=H.o.later V.o;generalize (W.alloc (zm x va vc))=d at *;have t0:=L.bt.c0;have t1:=L.bt.c1;have t2:d.cell? (zD T 2)=some (.slice (some (zD ba m)) l.length c):=L.bt.cell 2;have aS:=Aa (And.intro t0 (And.intro t1 t2));have KP:Hid (∀w',Below (W.heap.size+1) d w'->w'.cell? (zD T 0)=some (zA k)/\w'.cell? (zD T 1)=some (zA r)/\w'.cell? (zD T 2)=some (.slice (some (zD ba m)) l.length c)):=λw' hb=>⟨(hb.cell (p:=(zD T 0)) (by simp; omega)).trans t0,(hb.cell (p:=(zD T 1)) (by simp; omega)).trans t1,(hb.cell (p:=(zD T 2)) (by simp; omega)).trans t2⟩;have HD:Hid (Below (W.heap.size+1) d d.drew):=(Ac _ _).drew;have HA:Hid (∀o,Below (W.heap.size+1) d (d.drew.alloc o)):=λo=>((Ac _ _).drew).alloc (by simp; omega) o;have a8:Hid (∀w',Below (W.heap.size+1) d w'->Calls prog 113 #[.slice (some (zD ba m)) l.length c] w' λe q=>∃G cap,e=.returned (.slice (some (zD G 0)) l.length cap)/\q.ownsRow w'.heap.size 24 3 (.slice (some (zD G 0)) l.length cap) l.length xs/\Below w'.heap.size w' q/\Below (W.heap.size+1) d q):=λw' hb=>by
   refine(CL.o w' (V.o.trans (hb.mono (by omega)))).mono ?_;rintro e q ⟨G,cap,rfl,h1,h2⟩;exact⟨G,cap,rfl,h1,h2,hb.trans (h2.mono (by have:=hb.size; omega))⟩
  have ar:=Aa a7;have nW:T≠d.heap.size:=by omega
  clear a7 t0 t1 t2 L;go_region_held3 (λw'=>w'.cell? (zD T 0)=some (zA k)/\w'.cell? (zD T 1)=some (zA r)/\w'.cell? (zD T 2)=some (.slice (some (zD ba m)) l.length c)) (first|exact f|exact aS.o|exact KP.o _ (HA.o _)|exact⟨Og f.1 nW,Og f.2.1 nW,Og f.2.2 nW⟩|go_keep)
   (first
    | (go_at_call 113;first
       | (refine(a8.o _ (by first|exact Ac _ _|exact HD.o)).mono ?_; rintro e z ⟨G,cap,rfl,M,aA,A⟩; have f:=KP.o _ A)
       | (refine(a8.o _ (by exact HA.o zi)).mono ?_; rintro e z ⟨G,cap,rfl,M,aA,A⟩; have f:=KP.o _ A; have B:Ab z d.heap.size zJ 24:=(Ab.new d.drew _ _).below aA (by simp); have q0:z.cell? (zD d.heap.size 0)=some (zA 0):=B.cell 0; have q1:z.cell? (zD d.heap.size 1)=some (zA 0):=B.cell 1; have q2:z.cell? (zD d.heap.size 2)=some (zB):=B.cell 2; have qf:=B.frozen)))
  all_goals have aT:=M.lt G rfl
  all_goals go_wp2_with fail
  all_goals go_meet
  all_goals first
   |exact YE (by exact ar.o) (SM M (by have:=ar.o; simp; omega)) A
   | (have aU:=ar.o; have e:d.heap.size=W.heap.size+1:=aU; exact YF (by omega) B (by have:=aT.1; simp at this; omega) (SM M (by simp; omega)) A)
 case rest=>
  obtain⟨G,O,cap,rfl,bl,bm,aV,au,ag,aB⟩:=hcut;have C:Below W.heap.size W wc:=V.o.trans (aB.mono (by omega));have XB:=aR.o.below aB (by omega);have E2:=H.o.later C;obtain⟨cur,s,av,aC,aW⟩:∃cur:Array Value,Ab wc G cur 24/\cur.size=cap*3/\cur.toList.take (l.length*3)=xs/\l.length<=cap:=by
   rcases ag.2 with ⟨h1,_⟩|⟨g,aX,cur,t,_,hh,aY,_,hz,ht⟩
   ·cases h1
   ·simp at t;obtain⟨rfl,rfl⟩:=t;exact⟨cur,hh,hz,ht,aY⟩
  obtain⟨y0,aD⟩:∃y,cur[i*3]? = some y:=⟨_,Lq (by omega)⟩;obtain⟨y1,aE⟩:∃y,cur[i*3+1]? = some y:=⟨_,Lq (by omega)⟩;obtain⟨y2,aF⟩:∃y,cur[i*3+2]? = some y:=⟨_,Lq (by omega)⟩;have g0:wc.cell? ⟨G,i*3,none⟩=some y0:=(s.cell (i*3)).trans aD;have g1:wc.cell? ⟨G,i*3+1,none⟩=some y1:=(s.cell (i*3+1)).trans aE;have g2:wc.cell? ⟨G,i*3+2,none⟩=some y2:=(s.cell (i*3+2)).trans aF;have gf:=s.frozen;have aZ:I<W.heap.size:=H.o.bi.lt;have bb:Y<W.heap.size:=H.o.by'.lt;have nO:O≠G:=λe=>aV e.symm;have nI:I≠G:=by omega
  have nY:Y≠G:=by omega
  have nX:W.heap.size≠G:=by omega
  have ci:wc.cell? (zD I 0)=some (zA i):=E2.bi.cell 0;have x0:=XB.c0;have x1:=XB.c1;have x2:=XB.c2;have o2:=au.c2;have bc:(i:Int)<(l.length:Int):=by omega
  have ai:l.length<=9223372036854775807:=by omega
  have aG:Ap wc (λb=>X b∨Z b) va x.subs:=(aO.o.later C).mono λb h _=>Ae h;have aH:CZ wc (λb=>X b∨Z b) l xs:=aN.o.imp λa kk hs=>(hs.later C).mono λb h _=>Ad h;have bd:∀b,(X b∨Z b)->b<W.heap.size:=λb h=>h.elim (λh=>(HX.o b h).1) λh=>(HZ.o b h).1;have aI:=YG (c9:=vc) (λb hb=>by have:=bd b hb; omega) N ai aH aC s aG;have D:=((au.setOther (i*3) (zA x.kind) nO).setOther (i*3+1) (zA x.idx) nO).setOther (i*3+2) (.slice va x.subs.length vc) nO;have YB:=((E2.by'.setOther (i*3) (zA x.kind) nY).setOther (i*3+1) (zA x.idx) nY).setOther (i*3+2) (.slice va x.subs.length vc) nY;have bf:Below W.heap.size W (((wc.setCell ⟨G,i*3,none⟩ (zA x.kind)).setCell ⟨G,i*3+1,none⟩ (zA x.idx)).setCell ⟨G,i*3+2,none⟩ (.slice va x.subs.length vc)):=((C.setCell (p:=⟨G,i*3,none⟩) (by simp; omega) _).setCell (p:=⟨G,i*3+1,none⟩) (by simp; omega) _).setCell (p:=⟨G,i*3+2,none⟩) (by simp; omega) _;have bn:G<wc.heap.size:=s.lt;have aj:(((wc.setCell ⟨G,i*3,none⟩ (zA x.kind)).setCell ⟨G,i*3+1,none⟩ (zA x.idx)).setCell ⟨G,i*3+2,none⟩ (.slice va x.subs.length vc)).heap.size=wc.heap.size:=by simp[World.setCell]
  have TK:=aQ.o (((wc.setCell ⟨G,i*3,none⟩ (zA x.kind)).setCell ⟨G,i*3+1,none⟩ (zA x.idx)).setCell ⟨G,i*3+2,none⟩ (.slice va x.subs.length vc)) (.agg #[zA k,zA r,.slice (some (zD G 0)) l.length cap]) ⟨k,r,l.set i x⟩ ok _ (hJ _ _ aP.o bf) ⟨some (zD G 0),cap,by simp,aI⟩ (λb hb=>by
   rw[aj];have bo:=C.size;rcases hb with hb|rfl
   ·rcases hb with hb|hb
    ·have:=HX.o b hb; exact⟨by omega,this.2⟩
    ·have:=HZ.o b hb; exact⟨by omega,this.2⟩
   ·exact⟨by omega,hP _ (by omega)⟩)
  clear aj aI aG aH s aC aD aE aF av ag au;have u0:=D.cell 0;have u1:=D.cell 1;have u2:=D.cell 2;have yy:=YB.cell 0;simp only[BP,BQ,BU] at u0 u1 u2 yy;rcases TK with ⟨T',I',Y',rfl,ad⟩|⟨lp,rfl,aJ⟩
  ·have HC:=Aa ad;clear ad D YB;go_wp2_with fail;refine HC.o.mono ?_;rintro e W' ⟨rfl,f⟩;have HS:=Aa f;clear f;go_wp2_with fail;go_ret;exact⟨rfl,HS.o⟩
  ·obtain⟨bp,aK,bg,aL,bh,hR⟩:=aJ 0;have HR:=Aa hR;clear hR D YB aJ;go_upto_region 3 with fail;refine(wpIn_wide (n:=1)).1 ?_;gi_wp2
   refine HR.o.mono ?_;rintro e W' ⟨rfl,f⟩;have HS:=Aa f;clear f bh;gi_wp2
   go_wp2_with fail;go_ret;exact⟨rfl,HS.o⟩
open Go.ChangeShapes Go.WideShapes Go.ChangeAt Go.RowKit
theorem YU:∀(l:List Lm) (b o:Nat),(∀i (h:i<l.length),X b/\w.cell? ⟨b,o+i*3,none⟩=some (zA l[i].kind)/\w.cell? ⟨b,o+i*3+1,none⟩=some (zA l[i].idx)/\∃a c,w.cell? ⟨b,o+i*3+2,none⟩=some (.slice a l[i].subs.length c)/\Ap w X a l[i].subs)->Dc w X b o l:=by
 intro l;induction l with
 |nil=>intro b o _; simp[Dc]
 |cons t r d=>intro b o h;obtain⟨s,x,k⟩:=t;obtain⟨h0,h1,h2,a,c,h3,e,h5⟩:=h 0 (by simp);simp only[Dc];refine⟨h0,by simpa using h1,by simpa using h2,⟨a,c,by simpa using h3,e,h5⟩,d b (o+3) λi hi=>?_⟩;have:=h (i+1) (by simpa using hi);simp only[FG] at this;rw[show o+(i+1)*3=o+3+i*3 by omega]at this;exact this
theorem YW (l:List Lm):∀y d,Ai (CM y d l)<=Ai l:=by
 induction l using Lm.indL with
 |h0=>intro y d; simp[CM]
 |h k x l r a b=>
  intro y d;have h1:=a y (AR d k);have h2:=b y d;rw[CM];split
  ·split
   ·simp only[Ai]; omega
   ·simp only[Ai]; omega
  ·simp only[Ai]; omega
theorem YX (y d:Int) (t:Lm):CM y d [t]=[AZ y d t]:=by rw[Eo]; rfl
def D4:List Ty->Prop
 | []=>True
 | ⟨x,l⟩::r=>(∃n:Nat,x=(n:Int)/\n<2001)/\D4 l/\D4 r
theorem KH (t:Ty) (r:List Ty):D4 (t::r)↔(∃n:Nat,t.base=(n:Int)/\n<2001)/\D4 t.subs/\D4 r:=by
 obtain⟨x,l⟩:=t;simp only[D4]
theorem YY {x:Int} {p q:Ty} (h:D4 [⟨x,[p,q]⟩]):D4 [p]/\D4 [q]:=by
 rw[KH]at h;have h2:D4 [p,q]:=h.2.1;rw[KH]at h2;exact⟨(KH p []).2 ⟨h2.1,h2.2.1,by simp[D4]⟩,h2.2.2⟩
def Fl (w:World) (H D:Nat) (X:Nat->Prop) (σ:List (Int×Ty)):Prop:=
 ∃hs ks:Array Value,Ab w H hs 27/\Ab w D ks 4/\hs.size=4002/\ks.size=2001/\(∀n:Nat,n<2001->ks[n]? = some (.bool (DD σ (n:Int)).isSome))/\
  ∀(n:Nat) y,n<2001->DD σ (n:Int)=some y->∃a c,hs[n*2]? = some (zA y.base)/\hs[n*2+1]? = some (.slice a y.subs.length c)/\AC w X a y.subs
theorem Fl.exq {σ:List (Int×Ty)} (h:Fl w H D X σ) (he:Al Q w w') (d:∀b,X b->¬Q b) (hH:¬Q H) (e:¬Q D):Fl w' H D X σ:=by
 obtain⟨f,g,h1,h2,h3,i,h5,h6⟩:=h;refine⟨f,g,h1.exq he hH,h2.exq he e,h3,i,h5,λn y j hy=>?_⟩;obtain⟨a,c,e1,e2,e3⟩:=h6 n y j hy;exact⟨a,c,e1,e2,e3.exq he d⟩
theorem Fl.later {σ:List (Int×Ty)} (h:Fl w H D X σ) (hb:Below w.heap.size w w'):Fl w' H D X σ:=h.exq (Al.ofBelow (Q:=λ_=>False) hb) (λ_ _ h=>h) (λh=>h) (λh=>h)
theorem To (hb:Below w.heap.size w w') {b o:Nat} {v:Value} (h:w.cell? (zD b o)=some v):w'.cell? (zD b o)=some v:=(hb.cell (p:=(zD b o)) (Es h)).trans h
theorem Fl.put {σ:List (Int×Ty)} {t:Ty} (h:Fl w H D X σ) (d:H≠D) (j:n<2001) (f:DD σ (n:Int)=none) (g:∀b,X b->¬(b=H∨b=D)) (k:AC w X a t.subs):
  Fl (((w.setCell (zD D n) (.bool true)).setCell ⟨H,n*2,none⟩ (zA t.base)).setCell ⟨H,n*2+1,none⟩ (.slice a t.subs.length c)) H D X (σ++[((n:Int),t)]):=by
 obtain⟨ab,ks,h1,h2,h3,i,h5,h6⟩:=h;have E:Al (λb=>b=H∨b=D) w (((w.setCell (zD D n) (.bool true)).setCell ⟨H,n*2,none⟩ (zA t.base)).setCell ⟨H,n*2+1,none⟩ (.slice a t.subs.length c)):=(((Al.refl _ _).set (Ae rfl) _ _).set (Ad rfl) _ _).set (Ad rfl) _ _;refine⟨_,_,((h1.setOther n (.bool true) d).set (n*2) (zA t.base)).set (n*2+1) (.slice a t.subs.length c),((h2.set n (.bool true)).setOther (n*2) _ (Ne.symm d)).setOther (n*2+1) _ (Ne.symm d),by simp[h3],by simp[i],λm hm=>?_,λm y hm hy=>?_⟩
 ·rw[Kl _ _ _ _ f];by_cases e:n=m
  ·subst e;simp[i,j]
  ·rw[Am (by omega),Lr e];exact h5 m hm
 ·rw[Kl _ _ _ _ f]at hy;by_cases e:n=m
  ·subst e;rw[Aq rfl,Jf]at hy;subst hy;refine⟨a,c,?_,?_,k.exq E g⟩
   ·rw[Lr (by omega),Array.getElem?_setIfInBounds_self_of_lt (by omega)]
   ·rw[Array.getElem?_setIfInBounds_self_of_lt (by simp; omega)]
  ·rw[Am (by omega)]at hy;obtain⟨l,c',e1,e2,e3⟩:=h6 m y hm hy;refine⟨l,c',?_,?_,e3.exq E g⟩
   ·rw[Lr (by omega),Lr (by omega)];exact e1
   ·rw[Lr (by omega),Lr (by omega)];exact e2
def YZ (p t:Ty) (σ:List (Int×Ty)) (H D:Nat) (X:Nat->Prop) (w:World) (e:Ending) (w':World):Prop:=e=.returned (.bool (CV p t σ).1)/\Fl w' H D X (CV p t σ).2/\Al (λb=>b=H∨b=D) w w'
theorem Tp (H D:Nat) (ax:H≠D) (p:Ty):∀(t:Ty) (σ:List (Int×Ty)) (v u:Value) (w:World) (Z X:Nat->Prop),Bl [p]->D4 [p]->YV w Z v p->YV w X u t->(∀b,Z b->¬(b=H∨b=D))->(∀b,X b->¬(b=H∨b=D))->Fl w H D X σ->
  Calls prog 29 #[v,u,.slice (some (zD H 0)) 2001 2001,.slice (some (zD D 0)) 2001 2001] w λe w'=>YZ p t σ H D X w e w':=by
 induction p using Ty.ind with
 |h x Y ih=>
  intro t σ v u w Z X aq aj hv hu hZ hX hM;have IH:=Aa ih;clear ih;obtain⟨a,c,rfl,hs⟩:=hv;have HU:=Aa hu;obtain⟨s,c',rfl,ar⟩:=hu;have R:=Aa hX;have HZ:=Aa hZ;have aM:H<w.heap.size/\D<w.heap.size:=by obtain⟨_,_,h1,h2,_⟩:=hM; exact⟨h1.lt,h2.lt⟩
  have az:=Aa ax;clear ax;have T:Hid (Below w.heap.size w ((w.alloc (zp #[zA x,.slice a Y.length c] 27)).alloc (zn t s c'))):=((Ac _ _).alloc (Af _) _).alloc (by simp) _;have U:Hid (Ab ((w.alloc (zp #[zA x,.slice a Y.length c] 27)).alloc (zn t s c')) w.heap.size #[zA x,.slice a Y.length c] 27):=(Ab.new _ _ _).alloc _;have N:Hid (Ab ((w.alloc (zp #[zA x,.slice a Y.length c] 27)).alloc (zn t s c')) (w.heap.size+1) (zH t s c') 27):=by have h:=Ab.new (w.alloc (zp #[zA x,.slice a Y.length c] 27)) (zH t s c') 27; rw[Ca] at h; exact h
  have M2:=Aa (hM.later T.o);have aD:=Aa (HU.o.later T.o);have aE:=Aa ((show AC w X s t.subs from ar).later T.o);rcases Mx aq with rfl|⟨p,q,rfl,hp,hq⟩
  ·clear IH hs aq hM;obtain⟨⟨n,a1,P⟩,-⟩:=(KH _ _).1 aj;have au:x=(n:Int):=a1;subst au;clear a1 aj;simp only[Ek] at *;go_in;go_upto_region 1 with fail;generalize ((w.alloc (zp #[zA n,.slice a 0 c] 27)).alloc (zn t s c'))=w2 at *;have aN:=U.o.c0;have a6:=U.o.c1;have z0:=N.o.c0;have z1:=N.o.c1;obtain⟨rh,rk,m1,m2,m3,m4,m5,m6⟩:=M2.o;have ln:(n:Int)<2001:=(by omega);have aO:(0:Int)<=(n:Int):=(by omega);have k0:=m2.cell n;rw[m5 n P]at k0;cases O:DD σ (n:Int) with
   |some y=>rw[O]at k0;obtain⟨ay,cy,e1,e2,e3⟩:=m6 n y P O;have h0:=(m1.cell (n*2)).trans e1;have h1:=(m1.cell (n*2+1)).trans e2;have aF:Hid (YV w2 X (.agg (zH y ay cy)) y):=⟨ay,cy,rfl,e3⟩;have z:=Aa (NE (t:=t) O);have HN:=Aa P;clear O m1 m2 m3 m4 m5 m6 e1 e2 e3 P;simp only[Option.isSome_some] at k0;go_upto_region 3 with fail;have A:Ab w2.drew w.heap.size #[zA n,.slice a 0 c] 27/\Ab w2.drew (w.heap.size+1) (zH t s c') 27/\w2.drew.cell? ⟨H,n*2,none⟩=some (zA y.base)/\w2.drew.cell? ⟨H,n*2+1,none⟩=some (.slice ay y.subs.length cy):=⟨U.o,N.o,h0,h1⟩;refine Co (S:=λw'=>Ab w' w.heap.size #[zA n,.slice a 0 c] 27/\Ab w' (w.heap.size+1) (zH t s c') 27/\w'.cell? ⟨H,n*2,none⟩=some (zA y.base)/\w'.cell? ⟨H,n*2+1,none⟩=some (.slice ay y.subs.length cy)) (by kernel_rfl) A λhHeld=>?_;refine tkz 0 ?_ (hy:=by intro w' d;obtain⟨g1,g2,y3,y4⟩:=d;have B:w'.cell? (zD w.heap.size 0)=some (zA n):=g1.cell 0;have V:w'.cell? (zD (w.heap.size+1) 0)=some (zA t.base):=g2.cell 0;have y2:w'.cell? (zD (w.heap.size+1) 1)=some (.slice s t.subs.length c'):=g2.cell 1;go_simp<;>with_reducible rfl);refine tkz 1 ?_ (hy:=by intro w' d;obtain⟨g1,g2,y3,y4⟩:=d;have B:w'.cell? (zD w.heap.size 0)=some (zA n):=g1.cell 0;have V:w'.cell? (zD (w.heap.size+1) 0)=some (zA t.base):=g2.cell 0;have y2:w'.cell? (zD (w.heap.size+1) 1)=some (.slice s t.subs.length c'):=g2.cell 1;go_simp<;>with_reducible rfl);refine tkz 2 ?_ (hy:=by intro w' d;obtain⟨g1,g2,y3,y4⟩:=d;have B:w'.cell? (zD w.heap.size 0)=some (zA n):=g1.cell 0;have V:w'.cell? (zD (w.heap.size+1) 0)=some (zA t.base):=g2.cell 0;have y2:w'.cell? (zD (w.heap.size+1) 1)=some (.slice s t.subs.length c'):=g2.cell 1;go_simp<;>with_reducible rfl);refine tkz 3 ?_ (hy:=by intro w' d;obtain⟨g1,g2,y3,y4⟩:=d;have B:w'.cell? (zD w.heap.size 0)=some (zA n):=g1.cell 0;have V:w'.cell? (zD (w.heap.size+1) 0)=some (zA t.base):=g2.cell 0;have y2:w'.cell? (zD (w.heap.size+1) 1)=some (.slice s t.subs.length c'):=g2.cell 1;go_simp<;>with_reducible rfl);refine tkz 4 ?_ (hy:=by intro w' d;obtain⟨g1,g2,y3,y4⟩:=d;have B:w'.cell? (zD w.heap.size 0)=some (zA n):=g1.cell 0;have V:w'.cell? (zD (w.heap.size+1) 0)=some (zA t.base):=g2.cell 0;have y2:w'.cell? (zD (w.heap.size+1) 1)=some (.slice s t.subs.length c'):=g2.cell 1;go_simp<;>with_reducible rfl);refine tkz 5 ?_ (hy:=by intro w' d;obtain⟨g1,g2,y3,y4⟩:=d;have B:w'.cell? (zD w.heap.size 0)=some (zA n):=g1.cell 0;have V:w'.cell? (zD (w.heap.size+1) 0)=some (zA t.base):=g2.cell 0;have y2:w'.cell? (zD (w.heap.size+1) 1)=some (.slice s t.subs.length c'):=g2.cell 1;go_simp<;>with_reducible rfl);refine rdq 6 rfl λK I=>?_;go_simp;go_at_call 43;refine(NC y t _ _ w2.drew X X (aF.o.later (Ac _ _).drew) (aD.o.later (Ac _ _).drew)).mono ?_;rintro e C ⟨rfl,W⟩;have O4:Hid (Below w2.heap.size w2 C):=((Ac _ _).drew).trans W;have J:Ab C w.heap.size #[zA n,.slice a 0 c] 27/\Ab C (w.heap.size+1) (zH t s c') 27/\C.cell? ⟨H,n*2,none⟩=some (zA y.base)/\C.cell? ⟨H,n*2+1,none⟩=some (.slice ay y.subs.length cy):=⟨A.1.below W A.1.lt,A.2.1.below W A.2.1.lt,To W A.2.2.1,To W A.2.2.2⟩;clear W;go_simp;refine zo I (by exact J) λhHeld=>?_;clear I K;refine tkz 7 ?_;refine dnq ?_;go_wp2_with fail;go_ret;refine⟨by rw[z.o]; rfl,?_,(Al.ofBelow T.o).trans (Al.ofBelow O4.o)⟩;rw[z.o];exact M2.o.later O4.o
   |none=>rw[O]at k0;simp only[Option.isSome_none] at k0;have z:=Aa (NG (t:=t) O);have W4:Hid (Fl (((w2.setCell (zD D n) (.bool true)).setCell ⟨H,n*2,none⟩ (zA t.base)).setCell ⟨H,n*2+1,none⟩ (.slice s t.subs.length c')) H D X (σ++[((n:Int),t)])):=M2.o.put az.o P O R.o aE.o;have E4:Hid (Al (λb=>b=H∨b=D) w2 (((w2.setCell (zD D n) (.bool true)).setCell ⟨H,n*2,none⟩ (zA t.base)).setCell ⟨H,n*2+1,none⟩ (.slice s t.subs.length c'))):=(((Al.refl _ _).set (Ae rfl) _ _).set (Ad rfl) _ _).set (Ad rfl) _ _;have aG:w.heap.size≠D:=(by omega);have a7:w.heap.size+1≠D:=(by omega);have ak:H≠D:=az.o;have M1:=Aa m1;have aP:=Aa m2;have fK:w2.frozen? (zD D n)=false:=m2.frozen n;have sK:=m2.lt;have sH:=m1.lt;have q0:(w2.setCell (zD D n) (.bool true)).cell? (zD w.heap.size 0)=some (zA n):=(U.o.setOther _ _ aG).cell 0;have q1:(w2.setCell (zD D n) (.bool true)).cell? (zD (w.heap.size+1) 0)=some (zA t.base):=(N.o.setOther _ _ a7).cell 0;have q2:(w2.setCell (zD D n) (.bool true)).cell? (zD (w.heap.size+1) 1)=some (.slice s t.subs.length c'):=(N.o.setOther _ _ a7).cell 1;obtain⟨h0,aQ⟩:∃v,(w2.setCell (zD D n) (.bool true)).cell? ⟨H,n*2,none⟩=some v:=⟨_,((m1.setOther n (.bool true) ak).cell (n*2)).trans (Lq (by omega))⟩;obtain⟨h1,aR⟩:∃v,(w2.setCell (zD D n) (.bool true)).cell? ⟨H,n*2+1,none⟩=some v:=⟨_,((m1.setOther n (.bool true) ak).cell (n*2+1)).trans (Lq (by omega))⟩;have f0:(w2.setCell (zD D n) (.bool true)).frozen? ⟨H,n*2,none⟩=false:=(m1.setOther n (.bool true) ak).frozen _;have f1:(w2.setCell (zD D n) (.bool true)).frozen? ⟨H,n*2+1,none⟩=false:=(m1.setOther n (.bool true) ak).frozen _;have HN:=Aa P;clear O m1 m2 m3 m4 m5 m6 P;go_wp2_with fail;go_ret;refine⟨by rw[z.o]; rfl,?_,(Al.ofBelow T.o).trans E4.o⟩;rw[z.o];exact W4.o
  ·obtain⟨E,F,p1,aH,p2,aI,rfl,a8⟩:=My hs;have KP:=Aa a8;have Dq:=YY aj;clear a8 hs aq aj;have IP:=Aa (IH.o p (by simp));have IQ:=Aa (IH.o q (by simp));clear IH hM;have e2:([p,q]:List Ty).length=2:=rfl;rw[e2]at *;clear e2;go_in;go_upto_region 1 with fail;generalize ((w.alloc (zp #[zA x,.slice (some (zD E F)) 2 c] 27)).alloc (zn t s c'))=w2 at *;have a6:=U.o.c1;go_upto_region 7 with fail;clear a6;have gR:Hid (w.heap.size+1<w2.heap.size):=N.o.lt;have E2:Hid (Al (λb=>b=H∨b=D) w w2):=Al.ofBelow T.o;by_cases al:t.subs.length=2
   ·obtain⟨B,ts⟩:=t;have ai:ts.length=2:=al;obtain⟨L,M,rfl⟩:∃L M,ts=[L,M]:=by match ts,ai with|[L,M],_=>exact⟨_,_,rfl⟩
    clear al ai;obtain⟨tb,G,t1,aJ,t2,aK,rfl,aA⟩:=My ar;have KT:=Aa aA;clear aA ar;have e2:([L,M]:List Ty).length=2:=rfl;simp only[e2] at *;clear e2;have z:=Aa (NI (p:=p) (q:=q) (u:=L) (v:=M) x B σ);have f:Hid (∀w',(Ab w' w.heap.size #[zA x,.slice (some (zD E F)) 2 c] 27/\Ab w' (w.heap.size+1) #[zA B,.slice (some (zD tb G)) 2 c'] 27/\Al (λb=>b=H∨b=D) w w')->w'.cell? (zD w.heap.size 1)=some (.slice (some (zD E F)) 2 c)/\w'.cell? (zD (w.heap.size+1) 1)=some (.slice (some (zD tb G)) 2 c')/\(w'.cell? (zD E F)=some (zA p.base)/\w'.cell? ⟨E,F+1,none⟩=some (.slice p1 p.subs.length aH)/\w'.cell? ⟨E,F+2,none⟩=some (zA q.base)/\w'.cell? ⟨E,F+2+1,none⟩=some (.slice p2 q.subs.length aI))/\(w'.cell? (zD tb G)=some (zA L.base)/\w'.cell? ⟨tb,G+1,none⟩=some (.slice t1 L.subs.length aJ)/\w'.cell? ⟨tb,G+2,none⟩=some (zA M.base)/\w'.cell? ⟨tb,G+2+1,none⟩=some (.slice t2 M.subs.length aK))):=λw' h=>⟨h.1.cell 1,h.2.1.cell 1,(KP.o w' _ h.2.2 HZ.o).1,(KT.o w' _ h.2.2 R.o).1⟩;have A:Ab w2.drew w.heap.size #[zA x,.slice (some (zD E F)) 2 c] 27/\Ab w2.drew (w.heap.size+1) #[zA B,.slice (some (zD tb G)) 2 c'] 27/\Al (λb=>b=H∨b=D) w w2.drew:=⟨U.o,N.o,E2.o.drew⟩;refine Co (S:=λw'=>Ab w' w.heap.size #[zA x,.slice (some (zD E F)) 2 c] 27/\Ab w' (w.heap.size+1) #[zA B,.slice (some (zD tb G)) 2 c'] 27/\Al (λb=>b=H∨b=D) w w') (by kernel_rfl) A λhHeld=>?_;refine tkz 0 ?_ (hy:=by intro w' d;obtain⟨g,i,⟨y3,y4,j,y6⟩,k,l,m,r⟩:=f.o w' d;go_simp<;>with_reducible rfl);refine tkz 1 ?_ (hy:=by intro w' d;obtain⟨g,i,⟨y3,y4,j,y6⟩,k,l,m,r⟩:=f.o w' d;go_simp<;>with_reducible rfl);refine tkz 2 ?_ (hy:=by intro w' d;obtain⟨g,i,⟨y3,y4,j,y6⟩,k,l,m,r⟩:=f.o w' d;go_simp<;>with_reducible rfl);refine tkz 3 ?_ (hy:=by intro w' d;obtain⟨g,i,⟨y3,y4,j,y6⟩,k,l,m,r⟩:=f.o w' d;go_simp<;>with_reducible rfl);refine tkz 4 ?_ (hy:=by intro w' d;obtain⟨g,i,⟨y3,y4,j,y6⟩,k,l,m,r⟩:=f.o w' d;go_simp<;>with_reducible rfl);refine tkz 5 ?_ (hy:=by intro w' d;obtain⟨g,i,⟨y3,y4,j,y6⟩,k,l,m,r⟩:=f.o w' d;go_simp<;>with_reducible rfl);refine tkz 6 ?_ (hy:=by intro w' d;obtain⟨g,i,⟨y3,y4,j,y6⟩,k,l,m,r⟩:=f.o w' d;go_simp<;>with_reducible rfl);refine tkz 7 ?_ (hy:=by intro w' d;obtain⟨g,i,⟨y3,y4,j,y6⟩,k,l,m,r⟩:=f.o w' d;go_simp<;>with_reducible rfl);refine tkz 8 ?_ (hy:=by intro w' d;obtain⟨g,i,⟨y3,y4,j,y6⟩,k,l,m,r⟩:=f.o w' d;go_simp<;>with_reducible rfl);refine tkz 9 ?_ (hy:=by intro w' d;obtain⟨g,i,⟨y3,y4,j,y6⟩,k,l,m,r⟩:=f.o w' d;go_simp<;>with_reducible rfl);refine tkz 10 ?_ (hy:=by intro w' d;obtain⟨g,i,⟨y3,y4,j,y6⟩,k,l,m,r⟩:=f.o w' d;go_simp<;>with_reducible rfl);refine tkz 11 ?_ (hy:=by intro w' d;obtain⟨g,i,⟨y3,y4,j,y6⟩,k,l,m,r⟩:=f.o w' d;go_simp<;>with_reducible rfl);refine tkz 12 ?_ (hy:=by intro w' d;obtain⟨g,i,⟨y3,y4,j,y6⟩,k,l,m,r⟩:=f.o w' d;go_simp<;>with_reducible rfl);refine tkz 13 ?_ (hy:=by intro w' d;obtain⟨g,i,⟨y3,y4,j,y6⟩,k,l,m,r⟩:=f.o w' d;go_simp<;>with_reducible rfl);refine tkz 14 ?_ (hy:=by intro w' d;obtain⟨g,i,⟨y3,y4,j,y6⟩,k,l,m,r⟩:=f.o w' d;go_simp<;>with_reducible rfl);refine rdq 15 rfl λK I=>?_;go_simp;go_at_call 29;refine(IP.o L σ _ _ w2.drew Z X hp Dq.1 (KP.o w2.drew _ A.2.2 HZ.o).2.1 (KT.o w2.drew _ A.2.2 R.o).2.1 HZ.o R.o (M2.o.later (Ac _ _).drew)).mono ?_;rintro e C ⟨rfl,aB,an⟩;have A4:Hid (Ab C w.heap.size #[zA x,.slice (some (zD E F)) 2 c] 27):=A.1.exq an (by omega);have C4:Hid (Ab C (w.heap.size+1) #[zA B,.slice (some (zD tb G)) 2 c'] 27):=A.2.1.exq an (by omega);have J:Ab C w.heap.size #[zA x,.slice (some (zD E F)) 2 c] 27/\Ab C (w.heap.size+1) #[zA B,.slice (some (zD tb G)) 2 c'] 27/\Al (λb=>b=H∨b=D) w C:=⟨A4.o,C4.o,A.2.2.trans an⟩;have M4:=Aa aB;clear aB an;obtain⟨b1,τ,aC⟩:∃b1 τ,CV p L σ=(b1,τ):=⟨_,_,rfl⟩;rw[aC]at M4 z ⊢;clear aC;simp only at M4 z ⊢;cases b1 with
    |true=>rw[Aq rfl]at z;go_simp;refine zo I (by exact J) λhHeld=>?_;clear I K;refine tkz 16 ?_;refine tkz 17 ?_;refine tkz 18 ?_ (hy:=by intro w' d;obtain⟨g,i,⟨y3,y4,j,y6⟩,k,l,m,r⟩:=f.o w' d;go_simp<;>with_reducible rfl);refine tkz 19 ?_ (hy:=by intro w' d;obtain⟨g,i,⟨y3,y4,j,y6⟩,k,l,m,r⟩:=f.o w' d;go_simp<;>with_reducible rfl);refine tkz 20 ?_ (hy:=by intro w' d;obtain⟨g,i,⟨y3,y4,j,y6⟩,k,l,m,r⟩:=f.o w' d;go_simp<;>with_reducible rfl);refine tkz 21 ?_ (hy:=by intro w' d;obtain⟨g,i,⟨y3,y4,j,y6⟩,k,l,m,r⟩:=f.o w' d;go_simp<;>with_reducible rfl);refine tkz 22 ?_ (hy:=by intro w' d;obtain⟨g,i,⟨y3,y4,j,y6⟩,k,l,m,r⟩:=f.o w' d;go_simp<;>with_reducible rfl);refine tkz 23 ?_ (hy:=by intro w' d;obtain⟨g,i,⟨y3,y4,j,y6⟩,k,l,m,r⟩:=f.o w' d;go_simp<;>with_reducible rfl);refine tkz 24 ?_ (hy:=by intro w' d;obtain⟨g,i,⟨y3,y4,j,y6⟩,k,l,m,r⟩:=f.o w' d;go_simp<;>with_reducible rfl);refine tkz 25 ?_ (hy:=by intro w' d;obtain⟨g,i,⟨y3,y4,j,y6⟩,k,l,m,r⟩:=f.o w' d;go_simp<;>with_reducible rfl);refine tkz 26 ?_ (hy:=by intro w' d;obtain⟨g,i,⟨y3,y4,j,y6⟩,k,l,m,r⟩:=f.o w' d;go_simp<;>with_reducible rfl);refine tkz 27 ?_ (hy:=by intro w' d;obtain⟨g,i,⟨y3,y4,j,y6⟩,k,l,m,r⟩:=f.o w' d;go_simp<;>with_reducible rfl);refine rdq 28 rfl λK I=>?_;go_simp;go_at_call 29;refine(IQ.o M τ _ _ C Z X hq Dq.2 (KP.o C _ J.2.2 HZ.o).2.2 (KT.o C _ J.2.2 R.o).2.2 HZ.o R.o M4.o).mono ?_;rintro e w6 ⟨rfl,av,ao⟩;have A6:Hid (Ab w6 w.heap.size #[zA x,.slice (some (zD E F)) 2 c] 27):=J.1.exq ao (by omega);have C6:Hid (Ab w6 (w.heap.size+1) #[zA B,.slice (some (zD tb G)) 2 c'] 27):=J.2.1.exq ao (by omega);have k6:Ab w6 w.heap.size #[zA x,.slice (some (zD E F)) 2 c] 27/\Ab w6 (w.heap.size+1) #[zA B,.slice (some (zD tb G)) 2 c'] 27/\Al (λb=>b=H∨b=D) w w6:=⟨A6.o,C6.o,J.2.2.trans ao⟩;rw[<-z.o]at av ⊢;have M6:=Aa av;obtain⟨b2,aw⟩:∃b2,b2=(CV ⟨x,[p,q]⟩ ⟨B,[L,M]⟩ σ).1:=⟨_,rfl⟩;rw[<-aw];have aL:=Aa aw;clear av ao aw;go_simp;refine zo I (by exact k6) λhHeld=>?_;clear I K;refine tkz 29 ?_;refine tkz 30 ?_;refine dnq ?_;go_wp2_with fail;go_ret;exact⟨by rw[<-aL.o]; rfl,M6.o,k6.2.2⟩
    |false=>rw[Am (by simp)]at z;go_simp;refine zo I (by exact J) λhHeld=>?_;clear I K;refine tkz 16 ?_;refine tkz 17 ?_;refine tkv 18 ?_;refine tkv 19 ?_;refine tkv 20 ?_;refine tkv 21 ?_;refine tkv 22 ?_;refine tkv 23 ?_;refine tkv 24 ?_;refine tkv 25 ?_;refine tkv 26 ?_;refine tkv 27 ?_;refine tkv 28 ?_;refine tkz 29 ?_;refine tkz 30 ?_;refine dnq ?_;go_wp2_with fail;go_ret;refine⟨by rw[z.o]; rfl,?_,J.2.2⟩;rw[z.o];exact M4.o
   ·have z:=Aa (λσ=>NH (p:=p) (q:=q) (t:=t) (σ:=σ) al x);have hl:((t.subs.length:Int)==2)=false:=by simp; omega
    clear al;have A:Ab w2.drew (w.heap.size+1) (zH t s c') 27:=N.o;refine Co (S:=λw'=>Ab w' (w.heap.size+1) (zH t s c') 27) (by kernel_rfl) A λhHeld=>?_;refine tkz 0 ?_;refine tkz 1 ?_ (hy:=by intro w' d;have V:w'.cell? (zD (w.heap.size+1) 1)=some (.slice s t.subs.length c'):=d.cell 1;go_simp<;>with_reducible rfl);refine tkz 2 ?_;refine tkz 3 ?_;refine tkz 4 ?_;refine tkv 5 ?_;refine tkv 6 ?_;refine tkv 7 ?_;refine tkv 8 ?_;refine tkv 9 ?_;refine tkv 10 ?_;refine tkv 11 ?_;refine tkv 12 ?_;refine tkv 13 ?_;refine tkv 14 ?_;refine tkv 15 ?_;refine tkz 16 ?_;refine tkz 17 ?_;refine tkv 18 ?_;refine tkv 19 ?_;refine tkv 20 ?_;refine tkv 21 ?_;refine tkv 22 ?_;refine tkv 23 ?_;refine tkv 24 ?_;refine tkv 25 ?_;refine tkv 26 ?_;refine tkv 27 ?_;refine tkv 28 ?_;refine tkz 29 ?_;refine tkz 30 ?_;refine dnq ?_;go_wp2_with fail;go_ret;refine⟨by rw[z.o]; rfl,?_,E2.o.drew⟩;rw[z.o];exact M2.o.later (Ac _ _).drew
theorem Gs {f:World} {g:Nat} {l:List Tm} (hb:Below f.heap.size f W) (z:f.heap.size<=g) (A:Ab W g #[] 61) (s:Sl f Y a l) (hl:l.length<=100000):
  ∃v1 d xs,(Builtin.append_ #[59,59] 59 #[.slice (some (zD g 0)) 0 0,.slice a l.length c]).run prog W=.ok v1 d/\d.ownsRow f.heap.size 61 2 v1 l.length xs/\Cc f Y l xs/\Below f.heap.size f d/\(∀q,q<W.heap.size->q≠g->d.heap[q]? = W.heap[q]?)/\W.heap.size<=d.heap.size/\(∀b,v1.ownBlock=some b->b=g∨W.heap.size<=b):=by
 obtain⟨i0,hi,B,C,D⟩:=Dw Tryz.infoTerm;have t:=hb.size;have v:W.ownsRow f.heap.size 61 2 (.slice (some (zD g 0)) 0 0) 0 []:=⟨by simp,Ae ⟨g,0,#[],rfl,z,A,by omega,by unfold maxLen; omega,by simp,by simp⟩⟩;have fin:∀(d:World),W.grownBy d (some g)->Below f.heap.size f d/\(∀q,q<W.heap.size->q≠g->d.heap[q]? = W.heap[q]?)/\W.heap.size<=d.heap.size:=by
  intro d i;exact⟨hb.grown i t (λk hk=>by simp at hk; omega),λq hq E=>i.block q hq (by simp; exact λe=>E e),i.size⟩
 cases a with
 |none=>
  have F:l=[]:=by
   rcases s.2 with h|⟨b,o,e,_⟩
   ·exact h
   ·cases e
  subst F;obtain⟨f1,f2,f3⟩:=fin W ⟨rfl,rfl,rfl,Af _,λk hk _=>rfl⟩;refine⟨.slice (some (zD g 0)) 0 0,W,[],?_,v,rfl,f1,f2,f3,λb h=>Ad (by simpa [Value.ownBlock] using h.symm)⟩;have m:∀x,(Builtin.append_ #[59,59] 59 #[.slice (some (zD g 0)) 0 0,.slice none 0 x]).run prog W=.ok (.slice (some (zD g 0)) 0 0) W:=λx=>by
   simp[Builtin.append_,Fr underlying59,sizeOf,typeInfo,hi,Builtin.lenOf,Builtin.firstCells,storeCells]
  exact m c
 |some y=>
  obtain⟨xs,n,hx⟩:∃xs,Cc f Y l xs/\∀j u,xs[j]? = some u->W.cell? (y.add j)=some u:=by
   rcases s.2 with rfl|⟨b,o,e,G⟩
   ·exact⟨[],rfl,λj u r=>by simp at r⟩
   ·cases e;obtain⟨xs,h1,h2⟩:=Pv l b o G;refine⟨xs,h1,λj u r=>?_⟩;have e:((zD b o):Addr).add j=⟨b,o+j,none⟩:=by
     by_cases h0:j=0
     ·subst h0; simp[Addr.add]
     ·simp[Addr.add,h0]
    rw[e];exact cell_later hb (h2 j u r)
  obtain⟨v1,d,m,ho,i,_,h5⟩:=run_append_own_at (P:=prog) W f.heap.size 59 59 61 i0 _ 2 40 underlying59 hi B C D rfl (by decide) _ 0 [] v y l.length c xs n.len hx (λu hu=>Cc.one n u hu) (by unfold maxLen; omega) (by omega) t;obtain⟨f1,f2,f3⟩:=fin d (by simpa [Value.ownBlock] using i);refine⟨v1,d,xs,m,by simpa using ho,n,f1,f2,f3,λb h=>?_⟩;rcases h5 with h5|h5
  ·rw[h5]at h;exact Ad (by simpa [Value.ownBlock] using h.symm)
  ·rw[h5]at h;exact Ae (by simp at h; omega)
theorem Tq {c:World} {f:Nat} {v:Value} {l:List Tm} {s:ByteArray} (hb:Below c.heap.size c W) (ho:W.ownsRow c.heap.size 61 2 v l.length xs) (o:Cc c Y l xs) (hP:Ab W f #[.string s,zB] T) (hl:l.length<=100000):
  ∃g cap d,(Builtin.append_ #[59,59] 59 #[v,.slice (some (zD f 0)) 1 1]).run prog W=.ok (.slice (some (zD g 0)) (l.length+1) cap) d/\
   Sl d (λb=>Y b∨b=g) (some (zD g 0)) (l++[⟨s,[]⟩])/\Below c.heap.size c d/\(c.heap.size<=g/\g<d.heap.size)/\l.length+1<=cap/\(∀q,q<W.heap.size->some q≠v.ownBlock->d.heap[q]? = W.heap[q]?)/\W.heap.size<=d.heap.size/\(v.ownBlock=some g∨W.heap.size<=g):=by
 obtain⟨i0,hi,r,t,u⟩:=Dw Tryz.infoTerm;have m:=hb.size;obtain⟨g,cap,d,y,i,j,z,A⟩:=run_append_lies (P:=prog) (w:=W) 59 59 c.heap.size 61 i0 _ 2 40 underlying59 hi r t u rfl (by decide) v l.length xs ho (zD f 0) 1 1 [.string s,zB] rfl (Mw hP) (λx hx=>by simp at hx; rcases hx with rfl|rfl<;>rfl) (by decide) (by unfold maxLen; omega) (by omega) m _ rfl;have n:Below c.heap.size c d:=hb.grown j m (λk hk=>(ho.lt k hk).1);obtain⟨g2,al,e,B,_,_⟩:=Fd i (by omega);cases e;have C:l.length+1<=cap:=by
  rcases i.2 with ⟨_,h0⟩|⟨g1,ao,cur,e,_,_,h1,_⟩
  ·omega
  ·cases e; exact h1
 refine⟨g,cap,d,y,RV (Y:=λb=>Y b∨b=g) i (by omega) (l:=l++[⟨s,[]⟩]) (Cc.append o ⟨none,0,[],rfl,⟨by simp,Ad rfl⟩,rfl⟩) (λa k h=>(h.later n).mono λb h _=>Ad h) (Ae rfl) (by simp; omega),n,⟨B,A⟩,C,λq hq D=>j.block q hq D,j.size,?_⟩;rcases z with h|h
 ·exact Ad h
 ·exact Ae (by omega)
theorem Tr {s:ByteArray}:∀ {l:List ByteArray} (h:BH s l<l.length),l[BH s l]=s
 | [],h=>by simp[BH] at h
 |n::r,h=>by
  by_cases e:n=s
  ·subst e;simp[BH]
  ·have e2:BH s (n::r)=BH s r+1:=(by simp[BH,e]);have h2:BH s r<r.length:=by rw[e2] at h; simpa using h
   simp only[e2,FG];exact Tr h2
theorem Ts {s:ByteArray}:∀ {l:List ByteArray} {k:Nat} (hk:k<BH s l) (h:k<l.length),l[k]≠s
 | [],_,hk,_=>by simp[BH] at hk
 |n::r,k,hk,h=>by
  by_cases e:n=s
  ·simp[BH,e]at hk
  ·have e2:BH s (n::r)=BH s r+1:=(by simp[BH,e]);cases k with
   |zero=>simpa using e
   |succ k=>simp only[FG];exact Ts (by omega) (by simpa using h)
theorem Y0 {a b:ByteArray} (h:a≠b):(a.toList==b.toList)=false:=by
 rw[Dx];intro e;apply h;have h1:=Dt List.toArray e;rw[GW,GW]at h1;cases a; cases b;simpa using h1
theorem Tt {p q k:Tm} (h:k∈Aw [p]∨k∈Aw [q]):k∈Aw [(⟨⟨#[102]⟩,[p,q]⟩:Tm)]:=by
 have h1:Aw [p,q]=Aw [p]++Aw [q]:=(by have:=Lw [p] [q];simpa using this);simp only[Aw] at *;rw[h1];simp;exact Ae h
def Tu (t:Tm) (ns:List ByteArray) (w:World) (e:Ending) (w':World):Prop:=
 ∃a c,e=.returned (.agg #[zA (Cq ns t).base,.slice a (Cq ns t).subs.length c])/\AC w' (λb=>w.heap.size<=b) a (Cq ns t).subs/\Below w.heap.size w w'
theorem Y6 {d:List ByteArray} (a7:d.length<=100000) (t:Tm):∀(v Z:Value) (w:World) (X Y:Nat->Prop),AX [t]->(∀k∈Aw [t],k.args=[]->k.name∈d)->TV w X v t->LV Value.string w Y Z d->
  Calls prog 27 #[v,Z] w λe w'=>Tu t d w e w':=by
 induction t using Tm.ind with
 |h m B ih=>
  intro v Z w X Y hk F hv hn;have R:=Aa ih;clear ih;obtain⟨a,c,rfl,hs⟩:=hv;have an:=Aa hn;obtain⟨na,nc,rfl,-,ao⟩:=hn;have u:Hid (Below w.heap.size w ((w.alloc (zp #[.string m,.slice a B.length c] 61)).alloc zj)):=((Ac _ _).alloc (Af _) _).alloc (by simp) _;have s:Hid (Ab ((w.alloc (zp #[.string m,.slice a B.length c] 61)).alloc zj) w.heap.size #[.string m,.slice a B.length c] 61):=(Ab.new _ _ _).alloc _;have H:Hid (Ab ((w.alloc (zp #[.string m,.slice a B.length c] 61)).alloc zj) (w.heap.size+1) #[zA 0,zB] 27):=by have h:=Ab.new (w.alloc (zp #[.string m,.slice a B.length c] 61)) #[zA 0,zB] 27; rw[Ca] at h; exact h
  rcases Sk hk with ⟨hvb,ht⟩|⟨p,q,ht,a8,aA⟩
  ·have aB:B=[]:=(by injection ht);subst aB;have ab:m∈d:=F ⟨m,[]⟩ (by simp[Aw]) rfl;have aJ:=Mr ab;rcases ao with rfl|⟨nb,no,rfl,aK,aa⟩
   ·simp at ab
   have KN:Hid (∀w',Below w.heap.size w w'->∀i (h:i<d.length),w'.cell? ⟨nb,no+i,none⟩=some (.string d[i])):=λw' hb i h=>cell_later hb (aa i h);clear hk hvb ht hs R F aa ab;simp only[Ek] at *;go_in;go_upto_region 1 with fail;generalize ((w.alloc (zp #[.string m,.slice a 0 c] 61)).alloc zj)=w2 at *;have x1:=s.o.c1;have x0:=s.o.c0;have aC:=a7;go_wp2_with fail;go_loopw [5] (λo wr=>∃k:Nat,k<=BH m d/\o=zA k/\Below w2.heap.size w2 wr) (λo wr=>d.length-(intOf o).toNat);case atStart=>exact⟨0,Bp _,rfl,Ac _ _⟩
   case round=>
    obtain⟨k,hk,rfl,I⟩:=hrel;have aq:=Aa I;have ah:k<d.length:=(by omega);have J:=KN.o wr (u.o.trans (I.mono u.o.size)) k ah;have aD:(k:Int)<(d.length:Int):=(by omega);have A3:=Aa (s.o.below I s.o.lt);have L:=Aa (H.o.below I H.o.lt);have x0:=A3.o.c0;clear I;by_cases he:k=BH m d
    ·have ar:d[k]=m:=by subst he; exact Tr ah
     rw[ar]at J;have HK:=Aa he;have r0:=L.o.c0;have r1:=L.o.c1;have f0:wr.frozen? (zD (w.heap.size+1) 0)=false:=L.o.frozen 0;have f1:wr.frozen? (zD (w.heap.size+1) 1)=false:=L.o.frozen 1;clear he ar hk;go_wp2_with fail;go_quiet (fail)
     have M:Hid (Ab (wr.drewN nq) (w.heap.size+1) #[zA 0,zB] 27):=L.o.drewN nq;have B4:Hid (Below w2.heap.size w2 (wr.drewN nq)):=below_drewN aq.o nq;generalize wr.drewN nq=n at *;have r0:=M.o.c0;have r1:=M.o.c1;have f0:n.frozen? (zD (w.heap.size+1) 0)=false:=M.o.frozen 0;have f1:n.frozen? (zD (w.heap.size+1) 1)=false:=M.o.frozen 1;go_wp2_with fail;have R5:Hid (Ab ((n.setCell (zD (w.heap.size+1) 0) (zA k)).setCell (zD (w.heap.size+1) 1) zB) (w.heap.size+1) #[zA k,zB] 27):=(M.o.set 0 _).set 1 _;have B5:Hid (Below w.heap.size w ((n.setCell (zD (w.heap.size+1) 0) (zA k)).setCell (zD (w.heap.size+1) 1) zB)):=CE (CE (u.o.trans (B4.o.mono u.o.size)) (by omega) 0 _) (by omega) 1 _;generalize ((n.setCell (zD (w.heap.size+1) 0) (zA k)).setCell (zD (w.heap.size+1) 1) zB)=w5 at *;have c0:=R5.o.cell 0;have c1:=R5.o.cell 1;simp only[BP,BU,BQ] at c0 c1;refine Ao (v:=.agg #[zA k,zB]) (by simp[results,results27,go_sem,c0,c1]) rfl ?_;refine⟨none,0,?_,?_,B5.o⟩
     ·rw[Jy,HK.o]; rfl
     ·rw[Jy]; exact⟨by simp,Ad rfl⟩
    ·have aE:k<BH m d:=(by omega);have hne:=Y0 (Ts aE ah);clear he;go_wp2_with fail;go_quiet (fail)
     go_wp2_with fail;go_roundw
     case rel=>exact⟨k+1,by omega,by go_num,below_drewN aq.o nq⟩
     case measure=>simp[intOf]; omega
  ·injection ht with e1 e2
   subst e1;subst e2;obtain⟨b',o',a1,c1,a2,c2,rfl,au⟩:=Sm hs;have KP:Hid (∀w',Below w.heap.size w w'->_):=λw' hb=>au w' (λ_=>False) (Al.ofBelow hb) (λ_ _ h=>h);clear au hs hk ao;have av:∀k∈Aw [p],k.args=[]->k.name∈d:=λk hk=>F k (Tt (Ad hk));have aw:∀k∈Aw [q],k.args=[]->k.name∈d:=λk hk=>F k (Tt (Ae hk));have IP:=Aa (λv w' h1 h2=>R.o p (by simp) v (.slice na d.length nc) w' X Y a8 av h1 h2);have IQ:=Aa (λv w' h1 h2=>R.o q (by simp) v (.slice na d.length nc) w' X Y aA aw h1 h2);clear R av aw F;have e2:([p,q]:List Tm).length=2:=rfl;rw[e2]at *;clear e2;have T:=Aa (Sj d p q);change Calls prog _ _ _ (λe w'=>Tu (Bu p q) d w e w');go_in;go_upto_region 1 with fail;generalize ((w.alloc (zp #[.string ⟨#[102]⟩,.slice (some (zD b' o')) 2 c] 61)).alloc zj)=w2 at *;have x1:=s.o.c1;go_wp2_with fail;clear x1;have C:Hid (w.heap.size+1<w2.heap.size):=H.o.lt;have U:Hid (∀w',(Ab w' w.heap.size #[.string ⟨#[102]⟩,.slice (some (zD b' o')) 2 c] 61/\Below w.heap.size w w')->w'.cell? (zD w.heap.size 1)=some (.slice (some (zD b' o')) 2 c)/\w'.cell? (zD b' o')=some (.string p.name)/\w'.cell? ⟨b',o'+1,none⟩=some (.slice a1 p.args.length c1)/\w'.cell? ⟨b',o'+2,none⟩=some (.string q.name)/\w'.cell? ⟨b',o'+2+1,none⟩=some (.slice a2 q.args.length c2)):=λw' h=>⟨h.1.cell 1,(KP.o w' h.2).1⟩;have kd:Ab w2.drew w.heap.size #[.string ⟨#[102]⟩,.slice (some (zD b' o')) 2 c] 61/\Below w.heap.size w w2.drew:=⟨s.o,u.o.drew⟩;refine Co (S:=λw'=>Ab w' w.heap.size #[.string ⟨#[102]⟩,.slice (some (zD b' o')) 2 c] 61/\Below w.heap.size w w') (by kernel_rfl) kd λhHeld=>?_;refine tkz 0 ?_;refine tkz 1 ?_ (hy:=by intro w' z;obtain⟨J,y1,y2,y3,y4⟩:=U.o w' z;go_simp<;>with_reducible rfl);refine tkz 2 ?_;refine tkz 3 ?_ (hy:=by intro w' z;obtain⟨J,y1,y2,y3,y4⟩:=U.o w' z;go_simp<;>with_reducible rfl);refine tkz 4 ?_;refine tkz 6 ?_;refine tkz 7 ?_ (hy:=by intro w' z;obtain⟨J,y1,y2,y3,y4⟩:=U.o w' z;go_simp<;>with_reducible rfl);refine tkz 8 ?_;refine tkz 9 ?_ (hy:=by intro w' z;obtain⟨J,y1,y2,y3,y4⟩:=U.o w' z;go_simp<;>with_reducible rfl);refine tkz 10 ?_;refine rdq 5 rfl λK r=>?_;go_simp;go_at_call 27;refine(IP.o _ w2.drew (KP.o w2.drew kd.2).2.1 (an.o.later kd.2)).mono ?_;rintro e n ⟨a4,D,rfl,ai,ax⟩;obtain⟨f,ay⟩:∃f,f=Cq d p:=⟨_,rfl⟩;rw[<-ay]at ai T ⊢;clear ay;have N:Hid (Below w2.heap.size w2 n):=((Ac w2.heap.size w2).drew).trans ax;have S4:Hid (AC n (λb=>w2.heap.size<=b) a4 f.subs):=ai.mono λb hb _=>hb;have k4:Ab n w.heap.size #[.string ⟨#[102]⟩,.slice (some (zD b' o')) 2 c] 61/\Below w.heap.size w n:=⟨s.o.below N.o s.o.lt,u.o.trans (N.o.mono u.o.size)⟩;clear ai ax;go_simp;refine zo r (by exact k4) λhHeld=>?_;clear r K;refine rdq 11 rfl λK r=>?_;go_simp;go_at_call 27;refine(IQ.o _ n (KP.o n k4.2).2.2 (an.o.later k4.2)).mono ?_;rintro e j ⟨A,E,rfl,aj,ak⟩;obtain⟨g,az⟩:∃g,g=Cq d q:=⟨_,rfl⟩;rw[<-az]at aj T ⊢;clear az;have O:Hid (Below w2.heap.size w2 j):=N.o.trans (ak.mono N.o.size);have aF:=Aa (S4.o.later ak);have aG:Hid (AC j (λb=>w2.heap.size<=b) A g.subs):=aj.mono λb hb _=>AJ N.o.size hb;have V:Ab j w.heap.size #[.string ⟨#[102]⟩,.slice (some (zD b' o')) 2 c] 61/\Below w.heap.size w j:=⟨s.o.below O.o s.o.lt,u.o.trans (O.o.mono u.o.size)⟩;clear aj ak S4;go_simp;refine zo r (by exact V) λhHeld=>?_;clear r K;have W:Hid (Below j.heap.size j (j.alloc (zp #[zA f.base,.slice a4 f.subs.length D,zA g.base,.slice A g.subs.length E] 27))):=(Ac _ _).alloc (Af _) _;have k7:Ab (j.alloc (zp #[zA f.base,.slice a4 f.subs.length D,zA g.base,.slice A g.subs.length E] 27)) w.heap.size #[.string ⟨#[102]⟩,.slice (some (zD b' o')) 2 c] 61/\Below w.heap.size w (j.alloc (zp #[zA f.base,.slice a4 f.subs.length D,zA g.base,.slice A g.subs.length E] 27)):=⟨V.1.alloc _,V.2.trans (W.o.mono V.2.size)⟩;have C7:Hid (Ab (j.alloc (zp #[zA f.base,.slice a4 f.subs.length D,zA g.base,.slice A g.subs.length E] 27)) j.heap.size #[zA f.base,.slice a4 f.subs.length D,zA g.base,.slice A g.subs.length E] 27):=Ab.new _ _ _;refine rdq 12 rfl λK r=>?_;go_simp;refine zo r (by exact k7) λhHeld=>?_;clear r K;refine tkz 13 ?_;have P:=Aa (H.o.below (O.o.trans (W.o.mono O.o.size)) H.o.lt);have aH:=Aa (aF.o.later W.o);have aI:=Aa (aG.o.later W.o);have al:Hid (w2.heap.size<=j.heap.size):=O.o.size;generalize j.alloc (zp #[zA f.base,.slice a4 f.subs.length D,zA g.base,.slice A g.subs.length E] 27)=y at *;generalize j.heap.size=G at *;have r0:=P.o.c0;have r1:=P.o.c1;have f0:y.frozen? (zD (w.heap.size+1) 0)=false:=P.o.frozen 0;have f1:y.frozen? (zD (w.heap.size+1) 1)=false:=P.o.frozen 1;have k8:Ab ((y.setCell (zD (w.heap.size+1) 0) (zA 0)).setCell (zD (w.heap.size+1) 1) (.slice (some (zD G 0)) 2 2)) w.heap.size #[.string ⟨#[102]⟩,.slice (some (zD b' o')) 2 c] 61/\Below w.heap.size w ((y.setCell (zD (w.heap.size+1) 0) (zA 0)).setCell (zD (w.heap.size+1) 1) (.slice (some (zD G 0)) 2 2)):=⟨(k7.1.setOther 0 _ (by omega)).setOther 1 _ (by omega),CE (CE k7.2 (by omega) 0 _) (by omega) 1 _⟩;refine rdq 14 rfl λK r=>?_;go_simp;refine zo r (by exact k8) λhHeld=>?_;clear r K;refine dnq ?_;have R8:Hid (Ab ((y.setCell (zD (w.heap.size+1) 0) (zA 0)).setCell (zD (w.heap.size+1) 1) (.slice (some (zD G 0)) 2 2)) (w.heap.size+1) #[zA 0,.slice (some (zD G 0)) 2 2] 27):=(P.o.set 0 _).set 1 _;have SE:Hid (∀(x:Option Addr) (l:List Ty),AC y (λb=>w2.heap.size<=b) x l->AC ((y.setCell (zD (w.heap.size+1) 0) (zA 0)).setCell (zD (w.heap.size+1) 1) (.slice (some (zD G 0)) 2 2)) (λb=>w2.heap.size<=b) x l):=λx l h=>h.kept λb hb=>by have h1:=C.o; rw[Ak _ _ _ _ (by simp; omega),Ak _ _ _ _ (by simp; omega)]
   have S8:Hid (AC ((y.setCell (zD (w.heap.size+1) 0) (zA 0)).setCell (zD (w.heap.size+1) 1) (.slice (some (zD G 0)) 2 2)) (λb=>w.heap.size<=b) (some (zD G 0)) [f,g]):=Sn ((C7.o.setOther 0 _ (by have h1:=C.o; have h2:=al.o; omega)).setOther 1 _ (by have h1:=C.o; have h2:=al.o; omega)) (by have h1:=C.o; have h2:=al.o; omega) ((SE.o _ _ aH.o).mono λb hb _=>by have h1:=C.o; omega) ((SE.o _ _ aI.o).mono λb hb _=>by have h1:=C.o; omega);generalize ((y.setCell (zD (w.heap.size+1) 0) (zA 0)).setCell (zD (w.heap.size+1) 1) (.slice (some (zD G 0)) 2 2))=w8 at *;clear r0 r1 f0 f1;go_wp2_with fail;have c0:=R8.o.cell 0;have c1:=R8.o.cell 1;simp only[BP,BU,BQ] at c0 c1;refine Ao (v:=.agg #[zA 0,.slice (some (zD G 0)) 2 2]) (by simp[results,results27,go_sem,c0,c1]) rfl ?_;refine⟨some (zD G 0),2,?_,?_,k8.2⟩
   ·rw[T.o]; rfl
   ·rw[T.o]; exact S8.o
def AO:List Pr->List Tm
 | []=>[]
 |p::l=>p.l::p.r::AO l
theorem Hq:∀a b:List Pr,AO (a++b)=AO a++AO b
 | [],b=>rfl
 |p::a,b=>by rw[Dj,AO,AO,Hq a b]; rfl
theorem Fm (t:Tm) (r:List Tm):Ah (t::r)=Ah [t]+Ah r:=by
 obtain⟨s,l⟩:=t;simp[Ah]
theorem C9 {r:List Tm}:As (t::r)=0↔As [t]=0/\As r=0:=by
 rw[Nw];constructor
 ·intro h;by_cases e:As [t]=0
  ·rw[Aq e]at h; exact⟨e,h⟩
  ·rw[Am e]at h; exact absurd h e
 ·rintro⟨h1,h2⟩;rw[Aq h1]; exact h2
theorem JK:∀ {a b:List Tm},As (a++b)=0↔As a=0/\As b=0
 | [],b=>by simp[As]
 |t::a,b=>by
  rw[Dj,C9,JK,C9 (r:=a),and_assoc]
theorem I6 {y:ByteArray}:∀ {a b:List Tm},Ay y (AO (AD a b))->Ay y a∨Ay y b
 | [],_,h=>by simp only[AD,AO] at h; exact absurd h FP
 |_::_,[],h=>by simp only[AD,AO] at h; exact absurd h FP
 |t::a,u::b,h=>by
  rw[AD,AO,Cm,Cm (t:=u)]at h;rw[Cm,Cm (t:=u)];rcases h with h|h|h
  ·exact Ad (Ad h)
  ·exact Ae (Ad h)
  ·rcases I6 h with h|h
   ·exact Ad (Ae h)
   ·exact Ae (Ae h)
theorem Tv:∀ {a b:List Tm},Ah (AO (AD a b))<=Ah a+Ah b
 | [],_=>by simp[AD,AO,Ah]
 |_::_,[]=>by simp[AD,AO,Ah]
 |t::a,u::b=>by
  rw[AD,AO];have h0:=Tv (a:=a) (b:=b);have h1:=Fm t (u::AO (AD a b));have h2:=Fm u (AO (AD a b));have h3:=Fm t a;have h4:=Fm u b;simp only at h1 h2 ⊢;omega
theorem JL:∀ {a b:List Tm},As a=0->As b=0->As (AO (AD a b))=0
 | [],_,_,_=>by simp[AD,AO,As]
 |_::_,[],_,_=>by simp[AD,AO,As]
 |t::a,u::b,h1,h2=>by
  rw[AD,AO];obtain⟨g1,g2⟩:=C9.1 h1;obtain⟨g3,g4⟩:=C9.1 h2;exact C9.2 ⟨g1,C9.2 ⟨g3,JL g2 g4⟩⟩
def CN (y:ByteArray) (l:List Tm):Bool:=(Aw l).any λk=>k.name.toList==y.toList
theorem I7 {y:ByteArray} {l:List Tm}:CN y l=true↔Ay y l:=by
 unfold CN Ay;rw[Fc];constructor
 ·rintro⟨k,hk,e⟩;exact⟨k,hk,Gg (by simpa using e)⟩
 ·rintro⟨k,hk,e⟩;exact⟨k,hk,IE e⟩
def Tw (V:List ByteArray) (l:List Tm):Nat:=(V.filter λy=>CN y l).length
theorem Oo {α:Type} {p q:α->Bool}:∀V:List α,(∀y∈V,q y=true->p y=true)->(V.filter q).length<=(V.filter p).length
 | [],_=>by simp
 |v::V,h=>by
  have a:=Oo V λy hy=>h y (by simp[hy]);cases hq:q v with
  |true=>rw[GI hq,GI (h v (by simp) hq)];simp only[Cl];omega
  |false=>
   rw[G7 (by rw[hq]; simp)];cases hp:p v with
   |true=>rw[GI hp]; simp only[Cl]; omega
   |false=>rw[G7 (by rw[hp]; simp)]; exact a
theorem Oq {α:Type} {p q:α->Bool}:∀V:List α,(∀y∈V,q y=true->p y=true)->(∃x∈V,p x=true/\q x=false)->(V.filter q).length<(V.filter p).length
 | [],_,⟨x,hx,_⟩=>by cases hx
 |v::V,h,⟨x,hx,h1,h2⟩=>by
  have hle:=Oo V λy hy=>h y (by simp[hy]);rcases Ct.1 hx with rfl|hx
  ·rw[G7 (by rw[h2]; simp),GI h1];simp only[Cl];omega
  ·have a:=Oq V (λy hy=>h y (by simp[hy])) ⟨x,hx,h1,h2⟩;cases hq:q v with
   |true=>rw[GI hq,GI (h v (by simp) hq)];simp only[Cl];omega
   |false=>
    rw[G7 (by rw[hq]; simp)];cases hp:p v with
    |true=>rw[GI hp]; simp only[Cl]; omega
    |false=>rw[G7 (by rw[hp]; simp)]; exact a
theorem KI (hx:Av x=true) (h:¬Ch x (AU [] (Aw [t]))=true):¬Ay x [t]:=by
 rintro⟨k,hk,e⟩;have h1:=(Rm (Aw [t]) []).2 k hk (by rw[e]; exact hx);refine h ?_;unfold Ch;rw[Fc];exact⟨k.name,h1,IE e⟩
theorem Ot {s:List Bd} {L:List Tm} (h:Ci s) (hx:Av x=true) (a:∀d∈s,d.nm≠x) (he:As [t]=0) (ht:∀e∈s,¬Ay e.nm [t]) (ho:¬Ay x [t]) (b:As L=0):
  Ci (CJ s x t)/\(∀y,Av y=true->Ay y (An (CJ s x t) L)->Ay y (An s L)∨Ay y [t])/\¬Ay x (An (CJ s x t) L):=by
 have h1:=h.add hx a he ht ho;have h2:=Jr h hx a h1 L b;have key:∀y,Av y=true->Ay y (An (CJ s x t) L)->(Ay y (An s L)/\AF [⟨x,t⟩] y=none)∨Ay y [t]:=λy hy hoc=>by
  rw[h2]at hoc;rcases N8 (Ro hx) hy _ (IR h L b) hoc with h3|⟨d,hd,_,c⟩
  ·exact Ad h3
  ·have e:d=⟨x,t⟩:=(by simpa using hd);rw[e]at c;exact Ae c
 refine⟨h1,λy hy hoc=>(key y hy hoc).imp (λh=>h.1) id,λhoc=>?_⟩;rcases key x hx hoc with ⟨_,h3⟩|h3
 ·simp[AF]at h3
 ·exact ho h3
theorem Za (V:List ByteArray):∀(c z:Nat) (s:List Bd) (l:List Pr),Ci s->As (AO l)=0->(∀y,Av y=true->Ay y (An s (AO l))->y∈V)->Tw (V.filter Av) (An s (AO l))<=c->Ah (An s (AO l))<=z->∃n r,A0 false n s l=some r:=by
 intro c;induction c using Nat.strongRecOn with
 |_ c J=>
  intro z;induction z using Nat.strongRecOn with
  |_ z M=>
   intro s l f he g hc hz;have stop:∀e s',Em false s l=.stop e s'->∃n r,A0 false n s l=some r:=λe s' h=>⟨1,(e,s'),by rw[A0,h]⟩;have go:∀s' l',Em false s l=.go s' l'->(∃n r,A0 false n s' l'=some r)->∃n r,A0 false n s l=some r:=λs' l' h ⟨n,r,h2⟩=>⟨n+1,r,by rw[A0,h]; exact h2⟩;cases l with
   |nil=>exact stop 0 s rfl
   |cons p l=>
    obtain⟨e1,e2⟩:=C9.1 he;obtain⟨e2,e3⟩:=C9.1 e2;have B:=EZ f e1;have C:=EZ f e2;have j:=f.goneT e1;have m:=f.goneT e2;rw[AO,Bs,Bs]at g hc hz;rw[EL]at stop go;generalize Ag s p.l=a at *;generalize Ag s p.r=b at *;have i:∀u:Tm,Ay u.name [u]:=λu=>by obtain⟨n,k⟩:=u; exact Dz.2 (Ad rfl)
    have o:∀y,Ay y [a]->Ay y (a::b::An s (AO l)):=λy h=>Cm.2 (Ad h);have q:∀y,Ay y [b]->Ay y (a::b::An s (AO l)):=λy h=>Cm.2 (Ae (Cm.2 (Ad h)));have v:∀y,Ay y (An s (AO l))->Ay y (a::b::An s (AO l)):=λy h=>Cm.2 (Ae (Cm.2 (Ae h)));have N:Ah (a::b::An s (AO l))=Ah [a]+(Ah [b]+Ah (An s (AO l))):=(by rw[Fm,Fm b]);have pa:=LN a;have pb:=LN b;have same:∀l2,As (AO l2)=0->(∀y,Ay y (An s (AO l2))->Ay y (a::b::An s (AO l)))->Ah (An s (AO l2))<Ah (a::b::An s (AO l))->∃n r,A0 false n s l2=some r:=λl2 h1 h2 h3=>
     M _ (Ce h3 hz) s l2 f h1 (λy hy ho=>g y hy (h2 y ho)) (AJ (Oo _ λy hy hq=>I7.2 (h2 y (I7.1 hq))) hc) (Af _)
    have bind:∀x t,Av x=true->(∀d∈s,d.nm≠x)->As [t]=0->(∀e∈s,¬Ay e.nm [t])->Ay x (a::b::An s (AO l))->(∀y,Ay y [t]->Ay y (a::b::An s (AO l)))->Br false s l a b=Cu false s l x t->∃n r,A0 false n s (p::l)=some r:=λx t hx O het ht D P h=>by
     unfold Cu at h;by_cases A:Ch x (AU [] (Aw [t]))=true
     ·rw[Aq A]at h;exact stop 6 s h
     ·rw[Am A,Am (by simp)]at h;have ho:=KI hx A;obtain⟨f1,f2,f3⟩:=Ot (L:=AO l) f hx O het ht ho e3;have E:∀y,Av y=true->Ay y (An (CJ s x t) (AO l))->Ay y (a::b::An s (AO l)):=λy hy hoc=>(f2 y hy hoc).elim (v y) (P y);have R:Tw (V.filter Av) (An (CJ s x t) (AO l))<c:=by
       refine Ce (Oq _ (λy hy hq=>I7.2 (E y (List.mem_filter.1 hy).2 (I7.1 hq))) ⟨x,List.mem_filter.2 ⟨g x hx D,hx⟩,I7.2 D,?_⟩) hc;cases hq:CN x (An (CJ s x t) (AO l)) with
       |false=>rfl
       |true=>exact absurd (I7.1 hq) f3
      exact go _ l h (J _ R _ _ _ f1 e3 (λy hy hoc=>g y hy (E y hy hoc)) (Af _) (Af _))
    by_cases h1:2000<Ah [a]∨2000<Ah [b]
    ·exact stop 8 s (by unfold Br; rw[Aq h1])
    ·by_cases h2:Av a.name=true
     ·by_cases h3:a.name=b.name
      ·exact go s l (by unfold Br; rw[Am h1,Aq h2,Aq h3]) (same l e3 v (by omega))
      ·exact bind a.name b h2 (λd hd e=>j d hd (by rw[e]; exact i a)) C m (o _ (i a)) q (by unfold Br; rw[Am h1,Aq h2,Am h3])
     ·by_cases h3:Av b.name=true
      ·exact bind b.name a h3 (λd hd e=>m d hd (by rw[e]; exact i b)) B j (q _ (i b)) o (by unfold Br; rw[Am h1,Am h2,Aq h3])
      ·by_cases F:a.name=b.name/\a.args.length=b.args.length
       ·refine go s (AD a.args b.args++l) (by unfold Br; rw[Am h1,Am h2,Am h3,Aq F]) ?_;have sub:∀(u:Tm) y,Ay y u.args->Ay y [u]:=λu y h=>by obtain⟨n,k⟩:=u; exact Dz.2 (Ae (Ad h))
        have G:∀u:Tm,As [u]=0->As u.args=0:=λu h=>by obtain⟨n,k⟩:=u; exact(GP h).2.1
        have H:∀u:Tm,Ah [u]=1+Ah u.args:=λu=>by obtain⟨n,k⟩:=u; simp[Ah]
        have I:An s (AO (AD a.args b.args++l))=AO (AD a.args b.args)++An s (AO l):=by
         rw[Hq,IG,Qb];intro e hm hoc;rcases I6 hoc with hoc|hoc
         ·exact j e hm (sub a _ hoc)
         ·exact m e hm (sub b _ hoc)
        refine same _ ?_ ?_ ?_
        ·rw[Hq];exact JK.2 ⟨JL (G a B) (G b C),e3⟩
        ·intro y hoc;rw[I]at hoc;rcases Mm.1 hoc with hoc|hoc
         ·rcases I6 hoc with hoc|hoc
          ·exact o y (sub a y hoc)
          ·exact q y (sub b y hoc)
         ·exact v y hoc
        ·rw[I,Gf,N,H a,H b];have:=Tv (a:=a.args) (b:=b.args);omega
       ·exact stop 5 s (by unfold Br; rw[Am h1,Am h2,Am h3,Am F])
theorem Zb (l:List Pr) (h:As (AO l)=0):∃n r,A0 false n [] l=some r:=by
 refine Za ((Aw (An [] (AO l))).map (·.name)) _ _ [] l Kw h (λy _ hoc=>?_) (Af _) (Af _);obtain⟨k,hk,e⟩:=hoc;exact Cx.2 ⟨k,hk,e⟩
def Aj (h:List (ByteArray×Tm)):List Bd:=h.foldl (λs p=>CJ s p.1 p.2) []
theorem Fo (h:List (ByteArray×Tm)) (p:ByteArray×Tm):Aj (h++[p])=CJ (Aj h) p.1 p.2:=by simp[Aj]
theorem Ou (a:j<h.length):Aj (h.take (j+1))=CJ (Aj (h.take j)) h[j].1 h[j].2:=by
 rw[CI a,Fo]
def Gt (s:List Bd) (x:ByteArray) (t:Tm):Prop:=Av x=true/\(∀d∈s,d.nm≠x)/\As [t]=0/\(∀e∈s,¬Ay e.nm [t])/\¬Ay x [t]
def Cn (h:List (ByteArray×Tm)):Prop:=∀j (hj:j<h.length),Gt (Aj (h.take j)) h[j].1 h[j].2
theorem Zc:Cn []:=λj a=>by simp at a
theorem Cn.snoc (g:Cn h) (m:Gt (Aj h) x t):Cn (h++[(x,t)]):=by
 intro j a;by_cases e:j<h.length
 ·have h1:=g j e;rw[J7 (by omega)];rw[Ls e];exact h1
 ·have e2:j=h.length:=by simp at a; omega
  subst e2;rw[J7 (by omega),G8];simpa using m
theorem Cn.ok (g:Cn h):∀j,j<=h.length->Ci (Aj (h.take j))
 |0,_=>by simpa [Aj] using Kw
 |j+1,hj=>by
  rw[Ou (by omega)];obtain⟨m1,m2,m3,m4,m5⟩:=g j (by omega);exact(g.ok j (by omega)).add m1 m2 m3 m4 m5
theorem Cn.all (g:Cn h):Ci (Aj h):=by
 have:=g.ok h.length (Af _);rwa [G8] at this
theorem Cn.absorb {h:List (ByteArray×Tm)} (g:Cn h) {i:Nat}:∀j,i<=j->j<=h.length->∀L:List Tm,As L=0->An (Aj (h.take j)) (An (Aj (h.take i)) L)=An (Aj (h.take j)) L
 |0,hi,_,L,he=>by
  have e:i=0:=by omega
  subst e;exact(g.ok 0 (Bp _)).idem he
 |j+1,hi,b,L,he=>by
  by_cases e:i=j+1
  ·subst e;exact(g.ok _ b).idem he
  ·have d:=g.absorb (i:=i) j (by omega) (by omega) L he;have c:=g.ok j (by omega);have a:=g.ok (j+1) b;have f:j<h.length:=(by omega);obtain⟨m1,m2,_⟩:=g j f;rw[Ou (h:=h) (j:=j) (by omega)]at a ⊢;rw[Jr c m1 m2 a _ (IR (g.ok i (by omega)) L he),Jr c m1 m2 a L he,d]
theorem Cn.bound (g:Cn h):∀j,j<=h.length->∀y,(∃d∈Aj (h.take j),d.nm=y)↔∃i,∃hi:i<h.length,i<j/\h[i].1=y
 |0,_,y=>by simp[Aj]
 |j+1,hj,y=>by
  have a:=g.bound j (by omega) y;rw[Ou (by omega)];have hp:=EU ((Aj (h.take j)).map (BJ h[j].1 h[j].2)++[⟨h[j].1,h[j].2⟩]);constructor
  ·rintro⟨d,hd,e⟩;rcases BN.1 (hp.subset hd) with hd|hd
   ·obtain⟨d0,h0,rfl⟩:=Cx.1 hd;obtain⟨i,hi,h1,h2⟩:=a.1 ⟨d0,h0,e⟩;exact⟨i,hi,by omega,h2⟩
   ·have e2:d=⟨h[j].1,h[j].2⟩:=(by simpa using hd);rw[e2]at e;exact⟨j,by omega,by omega,e⟩
  ·rintro⟨i,hi,h1,h2⟩;by_cases e:i=j
   ·subst e;exact⟨⟨h[i].1,h[i].2⟩,hp.symm.subset (by simp),h2⟩
   ·obtain⟨d0,h0,b⟩:=a.2 ⟨i,hi,by omega,h2⟩;exact⟨BJ h[j].1 h[j].2 d0,hp.symm.subset (BN.2 (Ad (Cx.2 ⟨d0,h0,rfl⟩))),b⟩
theorem Cn.once (g:Cn h) (hi:i<h.length) (c:j<h.length) (e:h[i].1=h[j].1):i=j:=by
 have key:∀a b (f:a<h.length) (hb:b<h.length),a<b->h[a].1≠h[b].1:=λa b f hb k e=>by
  obtain⟨d,hd,e1⟩:=(g.bound b (by omega) h[a].1).2 ⟨a,f,k,rfl⟩;exact(g b hb).2.1 d hd (e1.trans e)
 rcases Nat.lt_trichotomy i j with h1|h1|h1
 ·exact absurd e (key i j hi c h1)
 ·exact h1
 ·exact absurd e.symm (key j i c hi h1)
def stood (h:List (ByteArray×Tm)) (i j:Nat) (hi:i<h.length):Tm:=Ag (Aj (h.take j)) ⟨h[i].1,[]⟩
theorem Zd (g:Cn h) (a:i<=j) (b:j<=h.length) (he:As [t]=0):Ag (Aj (h.take j)) (Ag (Aj (h.take i)) t)=Ag (Aj (h.take j)) t:=by
 have h1:=g.absorb j a b [t] he;rw[Bs,Bs,Bs]at h1;simpa [An] using h1
theorem Tx (g:Cn h) (hi:i<h.length) (a:j<=h.length) (b:Ff h[i].1=true):Ag (Aj h) (stood h i j hi)=stood h i h.length hi:=by
 have h1:=Zd g a (Af _) (Mj b);unfold stood;rw[G8]at h1 ⊢;exact h1
theorem Ze (g:Cn h) (hi:i<h.length) (a:j<=h.length) (b:Ff h[i].1=true) (hk:k<h.length) (ho:Ay h[k].1 [stood h i j hi]):j<=k:=by
 rcases Nat.lt_or_ge k j with h1|h1
 ·obtain⟨d,hd,e⟩:=(g.bound j a h[k].1).2 ⟨k,hk,h1,rfl⟩;have h2:=(g.ok j a).goneT (Mj b) d hd;rw[e]at h2;exact absurd ho h2
 ·exact h1
def Gu (lk:ByteArray->Option Tm) (s:ByteArray) (bs:List Tm):Tm:=if Av s=true then (match lk s with|some x=>x|none=>⟨s,bs⟩) else ⟨s,bs⟩
def Do (lk:ByteArray->Option Tm):List Tm->List Tm
 | []=>[]
 | ⟨s,a⟩::r=>Gu lk s (Do lk a)::Do lk r
def Du (lk:ByteArray->Option Tm) (t:Tm):Tm:=Gu lk t.name (Do lk t.args)
theorem MN (b:ByteArray->Option Tm):∀l:List Tm,Do b l=l.map (Du b)
 | []=>by simp[Do]
 | ⟨s,a⟩::r=>by rw[Do,MN b r]; rfl
theorem Tz (c:ByteArray->Option Tm) (a b:List Tm):Do c (a++b)=Do c a++Do c b:=by simp[MN]
abbrev Ev:=Bool->(Nat->Prop)->World->Prop
structure Gv (E:Ev) (Mt:Nat->Prop):Prop where
 keep:∀f Y w w',E f Y w->(∀b,Y b->w'.heap[b]? = w.heap[b]?)->E f Y w'
 inY:∀f Y w,E f Y w->∀b,Y b->b<w.heap.size
 mt:∀f Y w,E f Y w->∀b,Mt b->Y b
theorem Gv.below {E:Ev} (h:Gv E Mt) {f:Bool} (he:E f Y w) (hb:Below w.heap.size w w'):E f Y w':=h.keep f Y w w' he λb hy=>hb.block b (h.inY f Y w he b hy)
def sV (S:Nat):Value:=.func (.func 147) #[zC S] #[]
def TB (E:Ev) (Mt:Nat->Prop) (o:Option Tm) (f:Bool) (Y:Nat->Prop) (w:World) (e:Ending) (w':World):Prop:=
 ∃(s:ByteArray) (a:Option Addr) (n c:Nat) (ok:Bool) (f':Bool) (Y':Nat->Prop),e=.returned (.tuple #[.agg #[.string s,.slice a n c],.bool ok])/\E f' Y' w'/\(∀b,Y' b->Y b∨w.heap.size<=b)/\(f=true->f'=true)/\Al Mt w w'/\
  ((ok=true/\∃x:Tm,s=x.name/\n=x.args.length/\Sl w' Y' a x.args/\(f'=false->o=some x))∨(ok=false/\(f'=false->o=none)))
def GT (E:Ev) (Mt:Nat->Prop) (S:Nat) (o:Option Tm) (nm:ByteArray):Prop:=
 ∀(f:Bool) (Y:Nat->Prop) (w:World),E f Y w->Calls prog 147 #[zC S,.string nm] w λe w'=>TB E Mt o f Y w e w'
def I8 (w:World) (tgt:Tm) (n:Nat) (f':Bool) (s':ByteArray) (a':Option Addr) (l':Nat) (m:Int) (k:Nat) (w':World):Prop:=
 (∃y:Tm,s'=y.name/\l'=y.args.length/\m=(n:Int)-Ah [y]/\Ah [y]<=n/\Sl w' (λb=>w.heap.size+k<=b) a' y.args/\(f'=false->y=tgt))∨(m=-1/\(f'=false->n<Ah [tgt]))
def Hr (E:Ev) (Mt:Nat->Prop) (F:Nat) (sv:Value) (tgt:Tm) (n:Nat) (f:Bool) (Y:Nat->Prop) (w:World) (e:Ending) (w':World):Prop:=
 ∃(s':ByteArray) (a':Option Addr) (l' c':Nat) (m:Int) (f':Bool) (Y':Nat->Prop),e=.returned (.agg #[.string s',.slice a' l' c'])/\Ab w' F #[zA m,sv] 144/\Al (λb=>b=F∨Mt b) w w'/\E f' Y' w'/\(∀b,Y' b->Y b∨w.heap.size<=b)/\(f=true->f'=true)/\I8 w tgt n f' s' a' l' m 0 w'
theorem JM {E:Ev} (k:Gv E Mt) {a:World} {g:Value} {i:Tm} {f f':Bool} {c:Nat->Prop} {s':ByteArray} {m:Int} (hF:F<w.heap.size) (l:∀b,Y b->b<w.heap.size)
  (h1:Ab a F #[zA m,g] 144) (hx:Al (λb=>b=F∨Mt b) w a) (o:E f' c a) (j:∀b,c b->Y b∨w.heap.size+2<=b) (q:f=true->f'=true) (hc:I8 w i n f' s' d l' m 2 a):
  Hr E Mt F g i n f Y w (.returned (.agg #[.string s',.slice d l' c'])) ((a.setCell (zD (w.heap.size+1) 0) v0).setCell (zD (w.heap.size+1) 1) v1):=by
 have hk:∀b,b≠w.heap.size+1->((a.setCell (zD (w.heap.size+1) 0) v0).setCell (zD (w.heap.size+1) 1) v1).heap[b]? = a.heap[b]? := λb hb=>by
  rw[Ak _ _ _ _ (by simpa using hb),Ak _ _ _ _ (by simpa using hb)]
 refine⟨s',d,l',c',m,f',c,rfl,(h1.setOther _ _ (by omega)).setOther _ _ (by omega),(hx.setNew (by omega) _ _).setNew (by omega) _ _,k.keep _ _ _ _ o λb hb=>hk b λe=>?_,λb hb=>?_,q,?_⟩
 ·rcases j b hb with h|h
  ·have:=l b h; omega
  ·omega
 ·rcases j b hb with h|h
  ·exact Ad h
  ·exact Ae (by omega)
 ·rcases hc with ⟨y,e1,e2,e3,r,e5,s⟩|hc
  ·exact Ad ⟨y,e1,e2,e3,r,(e5.kept λb hb=>hk b (by omega)).mono λb hb _=>by omega,s⟩
  ·exact Ae hc
theorem Zf {a:World} (h:Al Q a.drew w1):Al Q a w1:=((Al.refl Q a).drew).trans h
theorem Zg {a:World} {o:Obj} (h:Al Q (a.alloc o).drew w1):Al Q a w1:=(((Al.refl Q a).alloc o).drew).trans h
theorem Zh {a:World} (h:Al Q (a.alloc (zp cs T)).drew w1) (b:¬Q a.heap.size):Ab w1 a.heap.size cs T:=((Ab.new a cs T).drewN 1).exq h b
theorem TD {E:Ev} (j:Gv E Mt) (F S:Nat) (l:ByteArray->Option Tm) (t:Tm) (n:Nat) (a:Option Addr) (c:Nat) (w:World) (X Y:Nat->Prop) (f:Bool) (hn:n<=1000000) (aW:∀b,X b->b≠F/\¬Mt b) (aL:¬Y F) (hs:Sl w X a t.args) (hF:Ab w F #[zA n,sV S] 144) (aM:E f Y w)
  (hL:Av t.name=true->GT E Mt S (l t.name) t.name)
  (h:∀(w':World) (f':Bool) (T:Nat->Prop),Sl w' X a t.args->Ab w' F #[zA n,sV S] 144->E f' T w'->¬T F->Calls prog 122 #[zC F,.agg (zG t a c),.func (.func 107) #[zC F] #[]] w' λe aO=>Hr E Mt F (sV S) ⟨t.name,Do l t.args⟩ n f' T w' e aO):
  Calls prog 107 #[zC F,.agg (zG t a c)] w λe w'=>Hr E Mt F (sV S) (Du l t) n f Y w e w':=by
 have bc:=@hmq prog;have H:=Aa h;have HS:=Aa hs;have HF:=Aa hF;have HE:=Aa aM;have HL:=Aa hL;have aX:=Aa aW;have bd:F<w.heap.size:=hF.lt;have A:Hid (∀b,Y b->b<w.heap.size):=j.inY _ _ _ aM;have aA:Hid (∀b,Mt b->Y b):=j.mt _ _ _ aM;have aP:¬Mt F:=λh=>aL (aA.o F h);clear h hs hF aM hL aW;have aN:=Aa (((Ac w.heap.size w).alloc (Af _) (zh t a c)).alloc (by simp) zd);have f1:∀o o',((w.alloc o).alloc o').cell? (zD F 1)=some (sV S):=λo o'=>((HF.o.alloc o).alloc o').cell 1;have RW:Hid (Ab ((w.alloc (zh t a c)).alloc zd) (w.heap.size+1) ze 61):=Aa (by have h:=Ab.new (w.alloc (zh t a c)) ze 61;simpa using h);have aC:=Aa (((Al.refl (λb=>b=F∨Mt b) w).alloc (zh t a c)).alloc zd);have I:Hid (((w.alloc (zh t a c)).alloc zd).heap.size=w.heap.size+2):=Aa (by simp);have aD:¬(w.heap.size+1=F∨Mt (w.heap.size+1)):=λh=>by
  rcases h with h|h
  ·omega
  ·have:=A.o _ (aA.o _ h); omega
 cases hv:Av t.name with
 |false=>
  have J:=Aa hv;have HT:Hid (Du l t=⟨t.name,Do l t.args⟩):=Aa (by unfold Du Gu;rw[hv];rfl);clear hv;go_in;go_wp2_with (go_at_call 109; refine(DU _ _).mono ?_; rintro e w' ⟨rfl,rfl⟩; rw[J.o]);refine(H.o _ f Y (HS.o.later aN.o) (by exact(HF.o.alloc _).alloc _) (j.below HE.o aN.o) aL).mono ?_;rintro e q ⟨s',s,l',c',m,f',T,rfl,r,d,B,C,u,D⟩;have i:=Aa (RW.o.exq d aD);have L:=Aa (aC.o.trans d);have ar:=Aa r;have M:=Aa B;have aQ:=Aa C;have aY:=Aa u;have HC:=Aa D;clear r d B C u D;have N:=i.o.c0;have O:=i.o.c1;have rf:=i.o.frozen;go_wp2_with fail;refine Ao (v:=.agg #[.string s',.slice s l' c']) (by simp[results,results107,go_sem,AL,AE,N,O]) rfl ?_;rw[HT.o];refine JM j (by omega) A.o ar.o L.o M.o (λb hb=>(aQ.o b hb).imp id λh=>by rw[I.o] at h; exact h) aY.o ?_;rcases HC.o with ⟨y,e1,e2,e3,P,e5,e6⟩|h
  ·exact Ad ⟨y,e1,e2,e3,P,e5.mono λb hb _=>by have:=I.o; omega,e6⟩
  ·exact Ae h
 |true=>
  have J:=Aa hv;have aZ:=Aa (HL.o hv);clear hv HL;have E0:=Aa (j.below HE.o aN.o);have F0:=Aa ((HF.o.alloc (zh t a c)).alloc zd);have S0:=Aa (HS.o.later aN.o);have T0:=Aa ((Ab.new w (zG t a c) 61).alloc zd);have g1:=F0.o.cell 1;have g0:=T0.o.cell 0;simp only[BP,BQ,BU] at g1 g0;have ba:Hid (∀w',Below ((w.alloc (zh t a c)).alloc zd).heap.size ((w.alloc (zh t a c)).alloc zd) w'->Calls prog 147 #[zC S,.string t.name] w' λe aO=>TB E Mt (l t.name) f Y w' e aO):=λw' hb=>aZ.o f Y w' (j.below E0.o hb);have aR:Hid (∀w',Al Mt ((w.alloc (zh t a c)).alloc zd) w'->w'.cell? (zD F 1)=some (sV S)/\w'.cell? (zD w.heap.size 0)=some (.string t.name)):=λw' hb=>⟨(F0.o.exq hb aP).cell 1,(T0.o.exq hb (λh=>by have:=A.o _ (aA.o _ h); omega)).cell 0⟩;have nF:((w.alloc (zh t a c)).alloc zd).heap.size≠F:=by have:=I.o; omega
  have nT:((w.alloc (zh t a c)).alloc zd).heap.size≠w.heap.size:=by have:=I.o; omega
  have nM:¬Mt ((w.alloc (zh t a c)).alloc zd).heap.size:=λh=>by have:=A.o _ (aA.o _ h); have:=I.o; omega
  clear f1;unfold sV at g1 aR;go_in;go_wp2_with (go_at_call 109; refine(DU _ _).mono ?_; rintro e w' ⟨rfl,rfl⟩; rw[J.o]);generalize ((w.alloc (zh t a c)).alloc zd)=U at *;go_region_held3 (λw'=>w'.cell? (zD F 1)=some (.func (.func 147) #[zC S] #[])/\w'.cell? (zD w.heap.size 0)=some (.string t.name)) (first|exact hS|exact⟨g1,g0⟩|exact Hf hS nF nT|exact Hf (Hf hS nF nT) nF nT|go_keep)
   ((go_at_call 147; refine(ba.o _ (by first|exact(Ac _ _).drew|exact((Ac _ _).alloc (Af _) _).drew)).mono ?_; rintro e w1 ⟨s1,V,n1,c1,bf,f1,k,rfl,B,C,u,d,D⟩; have aS:=Aa B; have al:=Aa C; have av:=Aa u; have aB:=Aa D; clear B C u D; (first|(have W:=Zf d; have hS:=aR.o _ W)|(have W:=Zg d; have xb:=Aa (Zh d nM); have x0:=xb.o.cell 0; have x1:=xb.o.cell 1; have xf:=xb.o.frozen; have hS:=aR.o _ W)); have bg:=Aa d; clear d))
  ·generalize hz:(w1.alloc (Obj.cells #[Value.string s1,Value.slice V n1 c1] 61))=wz at *;have bb:∀b,b<w1.heap.size->wz.heap[b]? = w1.heap[b]? := λb hb=>by rw[<-hz]; exact BL _ _ _ hb
   have z:Al Mt U wz:=by rw[<-hz]; exact W.alloc _
   have aE:Hid (∀b,k b->wz.heap[b]? = w1.heap[b]?):=λb hb=>bb b (j.inY _ _ _ aS.o b hb);have Z:Hid (∀b,k b->Y b∨w.heap.size+2<=b):=λb hb=>(al.o b hb).imp id λh=>by have h2:=I.o; have h3:U.heap.size<=b:=h; omega
   have q0:wz.cell? (zD w1.heap.size 0)=some (.string s1):=by rw[<-hz]; exact(Ab.new w1 _ _).cell 0
   have q1:wz.cell? (zD w1.heap.size 1)=some (.slice V n1 c1):=by rw[<-hz]; exact(Ab.new w1 _ _).cell 1
   have az:=Aa z;have a6:Hid (E f1 k wz):=j.keep _ _ _ _ aS.o aE.o;have aF:=Aa (F0.o.exq z aP);have aG:=Aa (RW.o.exq z (λh=>aD (Ae h)));have aH:=Aa (T0.o.exq z (λh=>by have:=A.o _ (aA.o _ h); omega));have ae:Hid (¬k F):=λh=>by
    rcases Z.o F h with h1|h1
    ·exact aL h1
    ·omega
   have af:Hid (w.heap.size+2<=wz.heap.size):=Aa (by have:=z.size;have:=I.o;omega);clear z hz hS W;rcases aB.o with ⟨rfl,x,rfl,rfl,aI,G⟩|⟨rfl,G⟩
   ·have aT:Hid (Sl wz k V x.args):=aI.kept aE.o;have R:=Aa G;clear aI G aB;go_wp2_with fail;refine(Mh F _ x n _ wz k ⟨V,c1,rfl,aT.o⟩ (λb hb e=>ae.o (e▸hb)) hn aF.o).mono ?_;rintro e q ⟨s',s,l',c',m,rfl,r,d,aJ,aK⟩;have i:=Aa (aG.o.ex d (by omega));have L:Hid (Al (λb=>b=F∨Mt b) w q):=(aC.o.trans (az.o.mono λb hb _=>Ae hb)).trans (Al.ofEx d (Ad rfl));have M:Hid (E f1 k q):=j.keep _ _ _ _ a6.o λb hb=>d.block b (j.inY _ _ _ a6.o b hb) (λe=>ae.o (e▸hb));have ar:=Aa r;have a7:Hid (I8 w (Du l t) n f1 s' s l' m 2 q):=by
     by_cases hle:Ah [x]<=n
     ·obtain⟨e1,e2,e3,P⟩:=aJ hle;exact Ad ⟨x,e2,e3,e1,hle,P.mono λb hb _=>by have:=af.o; omega,λg=>by unfold Du Gu; rw[J.o,R.o g]; rfl⟩
     ·exact Ae ⟨aK (by omega),λg=>by unfold Du Gu; rw[J.o,R.o g]; simpa using hle⟩
    clear r d aJ aK;have N:=i.o.c0;have O:=i.o.c1;have rf:=i.o.frozen;go_wp2_with fail;refine Ao (v:=.agg #[.string s',.slice s l' c']) (by simp[results,results107,go_sem,AL,AE,N,O]) rfl ?_;exact JM j (by omega) A.o ar.o L.o M.o Z.o av.o a7.o
   ·have R:=Aa G;clear G aB;have t0:=aH.o.c0;have t1:=aH.o.c1;go_wp2_with fail;refine(H.o wz f1 k (S0.o.exq az.o (λb hb=>(aX.o b hb).2)) aF.o a6.o ae.o).mono ?_;rintro e q ⟨s',s,l',c',m,f',T,rfl,r,d,B,C,u,D⟩;have i:=Aa (aG.o.exq d aD);have L:Hid (Al (λb=>b=F∨Mt b) w q):=(aC.o.trans (az.o.mono λb hb _=>Ae hb)).trans d;have M:=Aa B;have ar:=Aa r;have aU:Hid (∀b,T b->Y b∨w.heap.size+2<=b):=λb hb=>by
     rcases C b hb with h|h
     ·exact Z.o b h
     ·right; have:=af.o; omega
    have a8:Hid (f=true->f'=true):=λh=>u (av.o h);have a7:Hid (I8 w (Du l t) n f' s' s l' m 2 q):=by
     have hT:f'=false->Du l t=⟨t.name,Do l t.args⟩:=λg=>by
      have aV:f1=false:=by
       cases h:f1 with
       |false=>rfl
       |true=>have:=u h; rw[g] at this; cases this
      unfold Du Gu; rw[J.o,R.o aV]; rfl
     rcases D with ⟨y,e1,e2,e3,P,e5,e6⟩|⟨e1,e2⟩
     ·exact Ad ⟨y,e1,e2,e3,P,e5.mono λb hb _=>by have:=af.o; omega,λg=>by rw[hT g]; exact e6 g⟩
     ·exact Ae ⟨e1,λg=>by rw[hT g]; exact e2 g⟩
    clear r d B C u D;have N:=i.o.c0;have O:=i.o.c1;have rf:=i.o.frozen;go_wp2_with fail;refine Ao (v:=.agg #[.string s',.slice s l' c']) (by simp[results,results107,go_sem,AL,AE,N,O]) rfl ?_;exact JM j (by omega) A.o ar.o L.o M.o aU.o a8.o a7.o
  ·generalize hz:((w1.setCell { block:=U.heap.size,off:=0} (Value.string s1)).setCell { block:=U.heap.size,off:=1} (Value.slice V n1 c1))=wz at *;have z:Al Mt U wz:=by rw[<-hz]; exact(W.setNew (Af _) _ _).setNew (Af _) _ _
   have Z:Hid (∀b,k b->Y b∨w.heap.size+2<=b):=λb hb=>(al.o b hb).imp id λh=>by have h2:=I.o; simp at h; omega
   have aE:Hid (∀b,k b->wz.heap[b]? = w1.heap[b]?):=λb hb=>by
    have hne:b≠U.heap.size:=λe=>by
     rcases al.o b hb with h|h
     ·have:=A.o b h; have:=I.o; omega
     ·simp at h; omega
    rw[<-hz,Ak _ _ _ _ (by simpa using hne),Ak _ _ _ _ (by simpa using hne)]
   have q0:wz.cell? (zD U.heap.size 0)=some (.string s1):=by rw[<-hz]; simp[AL,AE,x0,x1]
   have q1:wz.cell? (zD U.heap.size 1)=some (.slice V n1 c1):=by rw[<-hz]; simp[AL,AE,x0,x1]
   have az:=Aa z;have a6:Hid (E f1 k wz):=j.keep _ _ _ _ aS.o aE.o;have aF:=Aa (F0.o.exq z aP);have aG:=Aa (RW.o.exq z (λh=>aD (Ae h)));have aH:=Aa (T0.o.exq z (λh=>by have:=A.o _ (aA.o _ h); omega));have ae:Hid (¬k F):=λh=>by
    rcases Z.o F h with h1|h1
    ·exact aL h1
    ·omega
   have af:Hid (w.heap.size+2<=wz.heap.size):=Aa (by have:=z.size;have:=I.o;omega);clear z hz hS W;rcases aB.o with ⟨rfl,x,rfl,rfl,aI,G⟩|⟨rfl,G⟩
   ·have aT:Hid (Sl wz k V x.args):=aI.kept aE.o;have R:=Aa G;clear aI G aB;go_wp2_with fail;refine(Mh F _ x n _ wz k ⟨V,c1,rfl,aT.o⟩ (λb hb e=>ae.o (e▸hb)) hn aF.o).mono ?_;rintro e q ⟨s',s,l',c',m,rfl,r,d,aJ,aK⟩;have i:=Aa (aG.o.ex d (by omega));have L:Hid (Al (λb=>b=F∨Mt b) w q):=(aC.o.trans (az.o.mono λb hb _=>Ae hb)).trans (Al.ofEx d (Ad rfl));have M:Hid (E f1 k q):=j.keep _ _ _ _ a6.o λb hb=>d.block b (j.inY _ _ _ a6.o b hb) (λe=>ae.o (e▸hb));have ar:=Aa r;have a7:Hid (I8 w (Du l t) n f1 s' s l' m 2 q):=by
     by_cases hle:Ah [x]<=n
     ·obtain⟨e1,e2,e3,P⟩:=aJ hle;exact Ad ⟨x,e2,e3,e1,hle,P.mono λb hb _=>by have:=af.o; omega,λg=>by unfold Du Gu; rw[J.o,R.o g]; rfl⟩
     ·exact Ae ⟨aK (by omega),λg=>by unfold Du Gu; rw[J.o,R.o g]; simpa using hle⟩
    clear r d aJ aK;have N:=i.o.c0;have O:=i.o.c1;have rf:=i.o.frozen;go_wp2_with fail;refine Ao (v:=.agg #[.string s',.slice s l' c']) (by simp[results,results107,go_sem,AL,AE,N,O]) rfl ?_;exact JM j (by omega) A.o ar.o L.o M.o Z.o av.o a7.o
   ·have R:=Aa G;clear G aB;have t0:=aH.o.c0;have t1:=aH.o.c1;go_wp2_with fail;refine(H.o wz f1 k (S0.o.exq az.o (λb hb=>(aX.o b hb).2)) aF.o a6.o ae.o).mono ?_;rintro e q ⟨s',s,l',c',m,f',T,rfl,r,d,B,C,u,D⟩;have i:=Aa (aG.o.exq d aD);have L:Hid (Al (λb=>b=F∨Mt b) w q):=(aC.o.trans (az.o.mono λb hb _=>Ae hb)).trans d;have M:=Aa B;have ar:=Aa r;have aU:Hid (∀b,T b->Y b∨w.heap.size+2<=b):=λb hb=>by
     rcases C b hb with h|h
     ·exact Z.o b h
     ·right; have:=af.o; omega
    have a8:Hid (f=true->f'=true):=λh=>u (av.o h);have a7:Hid (I8 w (Du l t) n f' s' s l' m 2 q):=by
     have hT:f'=false->Du l t=⟨t.name,Do l t.args⟩:=λg=>by
      have aV:f1=false:=by
       cases h:f1 with
       |false=>rfl
       |true=>have:=u h; rw[g] at this; cases this
      unfold Du Gu; rw[J.o,R.o aV]; rfl
     rcases D with ⟨y,e1,e2,e3,P,e5,e6⟩|⟨e1,e2⟩
     ·exact Ad ⟨y,e1,e2,e3,P,e5.mono λb hb _=>by have:=af.o; omega,λg=>by rw[hT g]; exact e6 g⟩
     ·exact Ae ⟨e1,λg=>by rw[hT g]; exact e2 g⟩
    clear r d B C u D;have N:=i.o.c0;have O:=i.o.c1;have rf:=i.o.frozen;go_wp2_with fail;refine Ao (v:=.agg #[.string s',.slice s l' c']) (by simp[results,results107,go_sem,AL,AE,N,O]) rfl ?_;exact JM j (by omega) A.o ar.o L.o M.o aU.o a8.o a7.o

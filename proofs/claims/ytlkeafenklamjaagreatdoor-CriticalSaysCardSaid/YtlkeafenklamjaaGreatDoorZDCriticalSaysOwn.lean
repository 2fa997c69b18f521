/- Several texts in one. -/
import Derived.Test.YtlkeafenklamjaaGreatDoorW173
import Derived.Deep.RegionHeld3
import Derived.Test.YtlkeafenklamjaaGreatDoorEn1
import Derived.Test.YtlkeafenklamjaaGreatDoorU3
import Derived.Laws.EntriesVeiled
namespace Go.Proofs.YtlkeafenklamjaaGreatDoor
set_option linter.all false
set_option maxRecDepth 20000
set_option maxHeartbeats 8000000
open Go.RowKit Go.Shelf
attribute [local go_sem] GJ
theorem Xb (s:ByteArray) (aa fa:Option Addr) (n ca fn fc:Nat) (w:World):
  Calls Tryz.prog 35 #[.agg #[.string s,.slice aa n ca],.slice fa fn fc] w λe w'=>e=.returned (.func (.func 58) #[] #[.pointer (some ⟨w.heap.size,0,none⟩),.pointer (some ⟨w.heap.size+1,0,none⟩)])/\w'=(w.alloc (.cells #[.string s,.slice aa n ca] 29)).alloc (.cells #[.slice fa fn fc] 56):=by
 have ae:=@hmq Tryz.prog
 go_enter Tryz.func35,Tryz.ntmps35
 go_wp2_with fail
 go_ret
 exact⟨rfl,rfl⟩
def GZ (w:World) (os:List Obj):World:=os.foldl (λw o=>w.alloc o) w
theorem Gv:∀(os:List Obj) (w:World),Below w.heap.size w (GZ w os)/\(GZ w os).heap.size=w.heap.size+os.length/\∀(i:Nat) (o:Obj),os[i]? = some o->(GZ w os).heap[w.heap.size+i]? = some o
 | [],w=>⟨Af _ _,rfl,λi o h=>by simp at h⟩
 |o::os,w=>by
  obtain⟨h1,h2,h3⟩:=Gv os (w.alloc o)
  have e:GZ w (o::os)=GZ (w.alloc o) os:=rfl
  rw[e]
  refine⟨((Af _ _).alloc (Aj _) o).trans (h1.mono (by simp)),by rw[h2]; simp; omega,λi o' hi=>?_⟩
  cases i with
  |zero=>
   simp at hi
   subst hi
   have:=h1.block w.heap.size (by simp)
   rw[FL,this]
   exact World.alloc_heap_new w o
  |succ i=>
   have:=h3 i o' (by simpa using hi)
   rw[CN]at this
   rw[show w.heap.size+(i+1)=w.heap.size+1+i by omega]
   exact this
theorem Xc:∀(l:List Tm) (hs:List Int) (j st:Nat) (r:List Int) (d:Dn),d∈Co hs j st r l->∃(k:Nat) (p:List Int) (h:k<l.length),d.1=hs++((j+k:Nat):Int)::p/\AR l[k] p=some d.2:=by
 intro l
 induction l using Tm.indL with
 |h0=>intro hs j st r d h; simp[Co] at h
 |h s l rest aa ae=>
  intro hs j st r d h
  rw[Hr]at h
  rcases Bg.1 h with h|h
  ·split at h
   ·simp at h
   ·unfold AM at h
    rcases BE.1 h with h|h
    ·subst h
     exact⟨0,[],by simp,by simp,by simp[AR]⟩
    ·obtain⟨k,p,hk,e1,e2⟩:=aa _ _ _ _ _ h
     refine⟨0,((0+k:Nat):Int)::p,by simp,by rw[e1]; simp,?_⟩
     have e:((0+k:Nat):Int).toNat=k:=by omega
     simp only[Et,AR]
     rw[DX ⟨by omega,by rw[e]; exact hk⟩]
     simp only[e]
     exact e2
  ·obtain⟨k,p,hk,e1,e2⟩:=ae _ _ _ _ _ h
   exact⟨k+1,p,by simp; omega,by rw[e1,show j+1+k=j+(k+1) by omega],by simpa using e2⟩
theorem P6 {hs fs:List Int} {t:Tm} {d:Dn} (h:d∈AM hs fs t):∃p,d.1=hs++p/\AR t p=some d.2:=by
 unfold AM at h
 rcases BE.1 h with h|h
 ·subst h
  exact⟨[],by simp,by simp[AR]⟩
 ·obtain⟨k,p,hk,e1,e2⟩:=Xc _ _ _ _ _ _ h
  refine⟨((0+k:Nat):Int)::p,e1,?_⟩
  have e:((0+k:Nat):Int).toNat=k:=by omega
  rw[AR,DX ⟨by omega,by rw[e]; exact hk⟩]
  simp only[e]
  exact e2
theorem P7:∀(l:List Tm) (hs:List Int) (j st:Nat) (r:List Int),(Co hs j st r l).length<=Ab l:=by
 intro l
 induction l using Tm.indL with
 |h0=>intro hs j st r; simp[Co]
 |h s l rest aa ae=>
  intro hs j st r
  rw[Hr,Dm]
  have h2:=ae hs (j+1) st r
  have e:Ab ((⟨s,l⟩:Tm)::rest)=1+Ab l+Ab rest:=by simp[Ab]
  rw[e]
  split
  ·simp; omega
  ·unfold AM
   have h1:=aa (hs++[(j:Int)]) 0 (Ci (if j=st then r else [])) (if j=st then r else []).tail
   rw[Bs]
   have e2:(⟨s,l⟩:Tm).args=l:=rfl
   rw[e2]
   omega
theorem Ac.set1R {w:World} {A T:Nat} {q v:Value} (h:Ac w A #[q] T):Ac (w.setCell ⟨A,0,none⟩ v) A #[v] T:=by
 unfold Ac at *
 simp[World.setCell,Array.getElem?_modify,h]
structure kM (w3:World) (A g n cap T:Nat) (u1 u2:Value) (wF:World):Prop where
 os:wF.os=w3.os
 tape:wF.tape=w3.tape
 output:wF.output=w3.output
 size:wF.heap.size=w3.heap.size
 other:∀b,b≠g->b≠A->wF.heap[b]? = w3.heap[b]?
 box:Ac wF A #[.slice (some ⟨g,0,none⟩) (n+1) cap] T
 row:wF.heap[g]? = ((w3.setCell ⟨g,n*2,none⟩ u1).setCell ⟨g,n*2+1,none⟩ u2).heap[g]?
theorem DP {w:World} {N e z n:Nat} {v:Value} {xs:List Value} (h:w.ownsRow N e z v n xs):∃a c,v=.slice a n c:=by
 rcases h.2 with ⟨rfl,rfl⟩|⟨g,cap,cur,hv,_⟩
 ·exact⟨none,0,rfl⟩
 ·exact⟨_,_,hv⟩
def Xd (t:Tm) (c:Ch):Tm:=AL (Py c.2) c.1.1 t
def JA (t:Tm) (X K:Nat->Prop) (A R4 R5 L:Nat) (r rd:Loop) (W0:World):Tk Ch:=λpre s f W=>
 (∀b,K b->b<W0.heap.size/\¬f b)/\W0.heap.size<=W.heap.size/\(∀b,K b->W.heap[b]? = W0.heap[b]?)/\W.heap[L]? = some (.loop (if s=true then r else rd))/\Ac W R4 #[.slice none 0 0] 27/\Ac W R5 #[.int .i64 (if s=true then 0 else 8)] 24/\
 (∃(v:Value) (l:List Tm) (xs:List Value) (E:Nat->Prop),(∀b,f b↔b=L∨b=A∨b=R4∨b=R5∨v.ownBlock=some b∨E b)/\(∀b,E b->W0.heap.size<=b/\b<W.heap.size/\v.ownBlock≠some b)/\Ac W A #[v] 27/\W.ownsRow W0.heap.size 29 2 v l.length xs/\BJ W (λb=>X b∨E b) l xs/\(s=true->l=pre.map (Xd t)))/\
 (s=true->∀c∈pre,¬Pz t c.1 c.2)/\(s=false->∃c∈pre,Pz t c.1 c.2)
theorem JA.ok {t:Tm} {X K:Nat->Prop} {A R4 R5 L:Nat} {r rd:Loop} {W0:World} (aa:∀b,X b->K b):Fx (JA t X K A R4 R5 L r rd W0) K where
 inside:=by
  rintro pre s f W ⟨hK,hz,hC,hL,h4,h5,⟨v,l,xs,E,hf,hE,hA,ho,hr,hl⟩,h1,h2⟩ b hb
  rcases hb with hb|hb
  ·rcases(hf b).1 hb with h|h|h|h|h|h
   ·subst h; exact(DM.1 hL).1
   ·subst h; exact hA.lt
   ·subst h; exact h4.lt
   ·subst h; exact h5.lt
   ·exact(ho.lt b h).2
   ·exact(hE b h).2.1
  ·have:=(hK b hb).1; omega
 apart:=by
  rintro pre s f W ⟨hK,hz,hC,hL,h4,h5,⟨v,l,xs,E,hf,hE,hA,ho,hr,hl⟩,h1,h2⟩ b hb
  exact(hK b hb).2
 abide:=by
  rintro pre s f W W' ⟨hK,hz,hC,hL,h4,h5,⟨v,l,xs,E,hf,hE,hA,ho,hr,hl⟩,h1,h2⟩ hs hk
  refine⟨hK,AX hz hs,λb hb=>(hk b (Ae hb)).trans (hC b hb),(hk L (Ad ((hf L).2 (Ad rfl)))).trans hL,(hk R4 (Ad ((hf R4).2 (Ae (Ae (Ad rfl)))))).trans h4,(hk R5 (Ad ((hf R5).2 (Ae (Ae (Ae (Ad rfl))))))).trans h5,⟨v,l,xs,E,hf,λb hb=>⟨(hE b hb).1,Do (hE b hb).2.1 hs,(hE b hb).2.2⟩,(hk A (Ad ((hf A).2 (Ae (Ad rfl))))).trans hA,DG ho λg hg=>hk g (Ad ((hf g).2 (Ae (Ae (Ae (Ae (Ad hg))))))),hr.imp λa l ae=>ae.kept λb hb=>?_,hl⟩,h1,h2⟩
  rcases hb with hb|hb
  ·exact hk b (Ae (aa b hb))
  ·exact hk b (Ad ((hf b).2 (Ae (Ae (Ae (Ae (Ae hb)))))))
open Go.RowKit
theorem IF {s:ByteArray} {a r:List Tm} (h:Ah (⟨s,a⟩::r)=0):(Ak s=true->a=[])/\Ah a=0/\Ah r=0:=by
 rw[Ah]at h
 split at h
 ·split at h
  ·cases h
  ·rename_i h1 h2
   split at h
   ·rename_i h3
    refine⟨λhv=>?_,h3,h⟩
    cases a with
    |nil=>rfl
    |cons x y=>simp[hv] at h2
   ·rename_i h3; exact absurd h h3
 ·cases h
def EH (ls:List Bd):Prop:=∀d∈ls,Ak d.nm=true
theorem Kx:∀ {ls:List Bd} {s:ByteArray} {x:Tm},Ar ls s=some x->∃d∈ls,d.nm=s
 | [],s,x,h=>by simp[Ar] at h
 |d::ls,s,x,h=>by
  unfold Ar at h
  split at h
  ·rename_i h1
   exact⟨d,by simp,h1⟩
  ·obtain⟨d',hd,e⟩:=Kx h
   exact⟨d',by simp[hd],e⟩
theorem P8 {ls:List Bd} (h:EH ls) (s:ByteArray) (a bs:List Tm) (hv:Ak s=true->a=[]):fN ls s bs=ER ls s a bs:=by
 unfold fN ER
 cases hs:Ak s with
 |true=>rw[hv hs]; cases Ar ls s<;>rfl
 |false=>
  cases hf:Ar ls s with
  |none=>rfl
  |some x=>
   obtain⟨d,hd,e⟩:=Kx hf
   have:=h d hd
   rw[e,hs]at this
   cases this
theorem Ky {ls:List Bd} (h:EH ls):∀l:List Tm,Ah l=0->fL ls l=Am ls l
 | [],_=>by simp[fL,Am]
 | ⟨s,a⟩::r,he=>by
  obtain⟨h1,h2,h3⟩:=IF he
  rw[fL,Am,Ky h a h2,Ky h r h3,P8 h s a _ h1]
theorem Xe {ls:List Bd} (h:EH ls) (t:Tm) (ht:Ay t=0):fT ls t=Ag ls t:=by
 unfold Ay at ht
 split at ht
 ·cases ht
 ·obtain⟨s,a⟩:=t
  obtain⟨h1,h2,_⟩:=IF ht
  unfold fT Ag
  rw[Ky h a h2,P8 h s a _ h1]
theorem Qa {p t:Tm} {h h':List Bd} (ih:∀ts g g',BK p.args ts g=some g'->EH g->EH g') (he:AY p t h=some h') (hv:EH h):EH h':=by
 unfold AY at he
 obtain⟨s,l⟩:=p
 simp only at he
 cases hs:Ak s with
 |true=>
  simp only[hs,if_true] at he
  cases hf:Ar h s with
  |none=>
   simp only[hf] at he
   cases he
   intro d hd
   rcases Bg.1 hd with hd|hd
   ·exact hv d hd
   ·simp at hd; subst hd; exact hs
  |some x=>
   simp only[hf] at he
   split at he
   ·cases he; exact hv
   ·cases he
 |false=>
  simp only[hs] at he
  split at he
  ·rename_i h0; cases h0
  ·split at he
   ·exact ih _ _ _ he hv
   ·cases he
theorem Xf:∀(l ts:List Tm) (h h':List Bd),BK l ts h=some h'->EH h->EH h':=by
 intro l
 induction l using Tm.indL with
 |h0=>
  intro ts h h' he hv
  cases ts with
  |nil=>simp[BK] at he; subst he; exact hv
  |cons t ts=>first|(simp[BK] at he; done)|(simp[BK] at he; subst he; exact hv)
 |h s l r aa ae=>
  intro ts h h' he hv
  cases ts with
  |nil=>first|(simp[BK] at he; done)|(simp[BK] at he; subst he; exact hv)
  |cons t ts=>
   rw[GQ]at he
   cases h1:AY ⟨s,l⟩ t h with
   |none=>simp only[h1] at he; cases he
   |some g=>
    simp only[h1] at he
    exact ae _ _ _ he (Qa (p:=⟨s,l⟩) aa h1 hv)
theorem Qb {p t:Tm} {h':List Bd} (he:AY p t []=some h'):EH h':=Qa (λts g g' h1 h2=>Xf p.args ts g g' h1 h2) he (by intro d hd; simp at hd)
def gN (ls:List Bd) (s:ByteArray) (bs:List Tm):Tm:=match Ar ls s with|some x=>x|none=>⟨s,bs⟩
def gL (ls:List Bd):List Tm->List Tm
 | []=>[]
 | ⟨s,a⟩::r=>gN ls s (gL ls a)::gL ls r
def gT (ls:List Bd) (t:Tm):Tm:=gN ls t.name (gL ls t.args)
theorem Qc (ls:List Bd) (t:Tm) (r:List Tm):gL ls (t::r)=gT ls t::gL ls r:=by
 obtain⟨s,a⟩:=t
 simp only[gL,gT]
theorem Jr (ls:List Bd):∀l,gL ls l=l.map (gT ls)
 | []=>by simp[gL]
 |t::r=>by rw[Qc,Jr ls r,BP]
theorem Qd {ls:List Bd} {t x:Tm} (h:Ar ls t.name=some x):gT ls t=x:=by simp[gT,gN,h]
theorem Qe {ls:List Bd} {t:Tm} (h:Ar ls t.name=none):gT ls t=⟨t.name,gL ls t.args⟩:=by simp[gT,gN,h]
theorem Xg:∀l,gL [] l=l:=by
 intro l
 induction l using Tm.indL with
 |h0=>simp[gL]
 |h s l r aa ae=>rw[gL,aa,ae]; simp[gN,Ar]
theorem Xh (t:Tm):gT [] t=t:=by
 obtain⟨s,l⟩:=t
 unfold gT gN
 simp[Ar,Xg]
theorem Xi (ls:List Bd) (l:List Tm) (k:Nat) (h:k<l.length):gL ls (l.take (k+1))=gL ls (l.take k)++[gT ls l[k]]:=by
 rw[Jr,Jr,Bm h,Cr]
 rfl
theorem Xj (ls:List Bd) (l:List Tm) (k:Nat) (h:k<l.length):Ab (gL ls (l.take (k+1)))=Ab (gL ls (l.take k))+Ab [gT ls l[k]]:=by rw[Xi ls l k h,D8]
theorem Xk (ls:List Bd) (l:List Tm) (k:Nat):Ab (gL ls (l.take k))<=Ab (gL ls l):=by
 rw[Jr,Jr]
 have:=D8 ((l.take k).map (gT ls)) ((l.drop k).map (gT ls))
 rw[<-Cr,Eu]at this
 omega
theorem Xl {ls:List Bd} (h:EH ls):∀l,gL ls l=fL ls l:=by
 intro l
 induction l using Tm.indL with
 |h0=>simp[gL,fL]
 |h s l r aa ae=>
  rw[gL,fL,aa,ae]
  congr 1
  unfold gN fN
  cases hf:Ar ls s with
  |none=>simp
  |some x=>
   obtain⟨d,hd,e⟩:=Kx hf
   have:=h d hd
   rw[e]at this
   simp[this]
theorem Xm {ls:List Bd} (h:EH ls) (t:Tm) (ht:Ay t=0):gT ls t=Ag ls t:=by
 rw[<-Xe h t ht]
 unfold gT fT
 rw[Xl h]
 unfold gN fN
 cases hf:Ar ls t.name with
 |none=>simp
 |some x=>
  obtain⟨d,hd,e⟩:=Kx hf
  have:=h d hd
  rw[e]at this
  simp[this]
def Gw (ls:List Bd) (P:Tm->Prop):Prop:=∀d∈ls,P d.t
theorem Xn {P:Tm->Prop} {p t:Tm} {h h':List Bd} (hP:∀x,P x->∀y∈x.args,P y) (ih:∀ts g g',BK p.args ts g=some g'->(∀y∈ts,P y)->Gw g P->Gw g' P) (he:AY p t h=some h') (ht:P t) (hv:Gw h P):Gw h' P:=by
 unfold AY at he
 split at he
 ·split at he
  ·split at he
   ·cases he; exact hv
   ·cases he
  ·cases he
   intro d hd
   rcases Bg.1 hd with hd|hd
   ·exact hv d hd
   ·simp at hd; subst hd; exact ht
 ·split at he
  ·exact ih _ _ _ he (hP t ht) hv
  ·cases he
theorem Xo {P:Tm->Prop} (hP:∀x,P x->∀y∈x.args,P y):∀(l ts:List Tm) (h h':List Bd),BK l ts h=some h'->(∀y∈ts,P y)->Gw h P->Gw h' P:=by
 intro l
 induction l using Tm.indL with
 |h0=>
  intro ts h h' he ht hv
  simp[BK]at he
  subst he
  exact hv
 |h s l r aa ae=>
  intro ts h h' he ht hv
  cases ts with
  |nil=>simp[BK] at he
  |cons t ts=>
   rw[GQ]at he
   cases h1:AY ⟨s,l⟩ t h with
   |none=>simp only[h1] at he; cases he
   |some g=>
    simp only[h1] at he
    exact ae _ _ _ he (λy hy=>ht y (by simp[hy])) (Xn (p:=⟨s,l⟩) hP aa h1 (ht t (by simp)) hv)
theorem Xp {P:Tm->Prop} (hP:∀x,P x->∀y∈x.args,P y) {p t:Tm} {h':List Bd} (aa:Ak p.name=false) (he:AY p t []=some h') (ht:∀y∈t.args,P y):Gw h' P:=by
 unfold AY at he
 rw[An (by rw[aa]; simp)]at he
 split at he
 ·exact Xo hP _ _ _ _ he ht (by intro d hd; simp at hd)
 ·cases he
def Gx (rs:List Pr) (x:Tm):Prop:=Dx rs [x]
theorem Xq (rs:List Pr):∀x,Gx rs x->∀y∈x.args,Gx rs y:=λx h y hy=>Hs.1 (IA.1 h).2 y hy
theorem Xr {rs:List Pr} {x:Tm} {y:Ft} (hr:∀p∈rs,Bt p=0) (h:[y] <+: Cm rs x):y.1∈rs/\AY y.1.l x []=some y.2/\Df rs x=some (gT y.2 y.1.r)/\EH y.2:=by
 have key:∀rs:List Pr,(∀p∈rs,Bt p=0)->[y] <+: Cm rs x->y.1∈rs/\AY y.1.l x []=some y.2/\Df rs x=some (gT y.2 y.1.r):=by
  intro rs
  induction rs with
  |nil=>intro _ h; simp[Cm] at h
  |cons r rs ih=>
   intro hr h
   cases hm:AY r.l x [] with
   |none=>
    have e1:Cm (r::rs) x=Cm rs x:=by unfold Cm; rw[List.filterMap_cons]; simp[hm]
    rw[e1]at h
    obtain⟨h1,h2,h3⟩:=ih (λp hp=>hr p (by simp[hp])) h
    refine⟨by simp[h1],h2,?_⟩
    unfold Df at *
    rw[List.findSome?_cons]
    have e2:C8 r x=none:=by unfold C8; rw[hm]; rfl
    rw[e2]
    exact h3
   |some g=>
    have e1:Cm (r::rs) x=(r,g)::Cm rs x:=by unfold Cm; rw[List.filterMap_cons]; simp[hm]
    rw[e1]at h
    have e2:y=(r,g):=by
     obtain⟨q,hq⟩:=h
     simp at hq
     exact hq.1
    subst e2
    refine⟨by simp,hm,?_⟩
    unfold Df
    rw[List.findSome?_cons]
    have e3:C8 r x=some (Ag g r.r):=by unfold C8; rw[hm]; rfl
    rw[e3,Xm (Qb hm) r.r (Ep (hr r (by simp))).2.1]
 obtain⟨h1,h2,h3⟩:=key rs hr h
 exact⟨h1,h2,h3,Qb h2⟩
theorem Xs {rs:List Pr} {x:Tm} (h:Cm rs x=[]):Df rs x=none:=by
 unfold Df
 rw[List.findSome?_eq_none_iff]
 intro r hr
 unfold Cm at h
 rw[List.filterMap_eq_nil_iff]at h
 have:=h r hr
 unfold C8
 cases hm:AY r.l x [] with
 |none=>rfl
 |some g=>rw[hm] at this; simp at this
def FC (rs:List Pr) (C:Tm->Tm) (m d:Nat) (t0 x:Tm) (d':Nat):Prop:=d<=d'/\d'<=m/\Gx rs x/\Ab [C x]<=2000/\BL rs true (m-d) (C t0)=D3 (d'-d) (BL rs true (m-d') (C x))
theorem FC.here {rs:List Pr} {C:Tm->Tm} {m d:Nat} {x:Tm} (hd:d<=m) (h:Gx rs x) (hz:Ab [C x]<=2000):FC rs C m d x x d:=
 ⟨Aj _,hd,h,hz,by rw[Nat.sub_self]; exact(Mx (Kn _ _ _ _)).symm⟩
theorem FC.trans {rs:List Pr} {C:Tm->Tm} {m d d1 d2:Nat} {t0 t1 x:Tm} (h1:d<=d1) (h2:BL rs true (m-d) (C t0)=D3 (d1-d) (BL rs true (m-d1) (C t1))) (h:FC rs C m d1 t1 x d2):FC rs C m d t0 x d2:=by
 obtain⟨a,b,c,z,e⟩:=h
 refine⟨by omega,b,c,z,?_⟩
 rw[h2,e,My]
 congr 1
 omega
theorem Xt {rs:List Pr} {C:Tm->Tm} {k m d:Nat} {a a':Tm} (hC:Fj rs C k) (h:Dg rs true a=some a') (hd:d<m) (hz:Ab [a']+k<=2000):BL rs true (m-d) (C a)=D3 (d+1-d) (BL rs true (m-(d+1)) (C a')):=by
 have e1:m-d=(m-(d+1))+1:=by omega
 have e2:d+1-d=1:=by omega
 rw[e1,e2]
 exact Mw (hC.1 _ _ h) (by rw[hC.2]; exact hz)
theorem Xu {rs:List Pr} {C:Tm->Tm} {k m:Nat} {a a':Tm} (hC:Fj rs C k) (h:Dg rs true a=some a'):BL rs true (m-m) (C a)=(9,⟨⟨#[]⟩,[]⟩,0):=by
 rw[Nat.sub_self]
 exact Mv (hC.1 _ _ h)
theorem Xv {rs:List Pr} {C:Tm->Tm} {k m d:Nat} {a a':Tm} (hC:Fj rs C k) (h:Dg rs true a=some a') (hd:d<m) (hz:2000<Ab [a']+k):BL rs true (m-d) (C a)=(8,⟨⟨#[]⟩,[]⟩,0):=by
 have e1:m-d=(m-(d+1))+1:=by omega
 rw[e1]
 exact Km (hC.1 _ _ h) (by rw[hC.2]; exact hz)
theorem Xw {rs:List Pr} {t:Tm} (hl:Dx rs t.args):Dg rs true t=Df rs t:=by
 obtain⟨s,l⟩:=t
 exact WZ hl
theorem Qf {n:ByteArray} {x:Tm}:∀ {h:List Bd},Ar h n=some x->∃d∈h,d.nm=n/\d.t=x
 | [],h=>by simp[Ar] at h
 |d::r,h=>by
  rw[Ar]at h
  split at h
  ·rename_i e; exact⟨d,by simp,e,by simpa using h⟩
  ·obtain⟨d',h1,h2⟩:=Qf h
   exact⟨d',by simp[h1],h2⟩
theorem Qg {l:List Tm}:Ah l=0↔∀t∈l,Ah [t]=0:=by
 induction l with
 |nil=>simp[Ah]
 |cons t r ih=>
  rw[GK]
  constructor
  ·intro h
   split at h
   ·rename_i h0
    intro y hy
    rcases BE.1 hy with rfl|hy
    ·exact h0
    ·exact ih.1 h y hy
   ·rename_i h0; exact absurd h h0
  ·intro h
   rw[As (h t (by simp))]
   exact ih.2 λy hy=>h y (by simp[hy])
theorem Qh {t:Tm} (h:Ah [t]=0):∀y∈t.args,Ah [y]=0:=by
 obtain⟨s,a⟩:=t
 exact Qg.1 (IF h).2.1
theorem Xx {s:ByteArray} {a b:List Tm} (h:Ah [(⟨s,a⟩:Tm)]=0) (hl:a=[]->b=[]) (hb:Ah b=0):Ah [(⟨s,b⟩:Tm)]=0:=by
 have h1:=(IF h).1
 have hn:Be s=true:=by
  cases hn:Be s with
  |true=>rfl
  |false=>simp[Ah,hn] at h
 cases hv:Ak s with
 |false=>simp[Ah,hn,hv,hb]
 |true=>
  have:=hl (h1 hv)
  subst this
  simp[Ah,hn,hv]
theorem Dy {t:Tm} (h:Ay t=0):Ah [t]=0:=by
 unfold Ay at h
 split at h
 ·cases h
 ·exact h
theorem Qi {y:Tm} (hy:Ah [y]=0):∀(p:List Int) (t x:Tm),Ah [t]=0->AR t p=some x->Ah [AL y p t]=0/\Ah [x]=0
 | [],t,x,ht,h=>by simp[AR] at h; subst h; simp[AL]; exact⟨hy,ht⟩
 |i::r,t,x,ht,h=>by
  obtain⟨k,hk,rfl,h2⟩:=L4 h
  have ha:=Qh ht
  obtain⟨h3,h4⟩:=Qi hy r _ x (ha _ (AV hk)) h2
  refine⟨?_,h4⟩
  obtain⟨s,l⟩:=t
  have e1:=Mm (AL y r) l 0 k hk
  rw[Ey]at e1
  rw[AL,e1]
  refine Xx ht (λh=>by simp only at h hk; subst h; simp at hk) (Qg.2 λz hz=>?_)
  rcases List.mem_or_eq_of_mem_set hz with hz|rfl
  ·exact ha z hz
  ·exact h3
def AK (K:ByteArray->ByteArray):List ByteArray->List Tm->List Tm×List ByteArray
 |ns,[]=>([],ns)
 |ns,⟨s,l⟩::r=>
  if Ak s=true then (⟨BR (Az (K s) ns+1),[]⟩::(AK K (Cc ns (K s)) r).1,(AK K (Cc ns (K s)) r).2)
  else (⟨s,(AK K ns l).1⟩::(AK K (AK K ns l).2 r).1,(AK K (AK K ns l).2 r).2)
def AO (K:ByteArray->ByteArray) (ns:List ByteArray) (t:Tm):Tm×List ByteArray:=
 if Ak t.name=true then (⟨BR (Az (K t.name) ns+1),[]⟩,Cc ns (K t.name)) else (⟨t.name,(AK K ns t.args).1⟩,(AK K ns t.args).2)
theorem E6 (K:ByteArray->ByteArray) (ns:List ByteArray):AK K ns []=([],ns):=by rw[AK]
theorem FY (K:ByteArray->ByteArray) (ns:List ByteArray) (t:Tm) (r:List Tm):AK K ns (t::r)=((AO K ns t).1::(AK K (AO K ns t).2 r).1,(AK K (AO K ns t).2 r).2):=by
 obtain⟨s,l⟩:=t
 rw[AK]
 unfold AO
 by_cases h:Ak s=true
 ·simp[h]
 ·simp[h]
theorem Qj (K:ByteArray->ByteArray) (b:List Tm):∀(a:List Tm) (ns:List ByteArray),AK K ns (a++b)=((AK K ns a).1++(AK K (AK K ns a).2 b).1,(AK K (AK K ns a).2 b).2)
 | [],ns=>by simp[E6]
 |t::r,ns=>by
  rw[Cf,FY,Qj K b r,FY]
  simp
theorem Xy (K:ByteArray->ByteArray) (ns:List ByteArray) (l:List Tm) (k:Nat) (h:k<l.length):AK K ns (l.take (k+1))=((AK K ns (l.take k)).1++[(AO K (AK K ns (l.take k)).2 l[k]).1],(AO K (AK K ns (l.take k)).2 l[k]).2):=by
 rw[Bm h,Qj,FY,E6]
theorem Qk (K:ByteArray->ByteArray):∀(l:List Tm) (ns:List ByteArray),(AK K ns l).1.length=l.length
 | [],ns=>by simp[E6]
 |t::r,ns=>by rw[FY]; simp[Qk K r]
theorem MG (K:ByteArray->ByteArray) (l:List Tm):∀(ns:List ByteArray),(AK K ns l).2.length<=ns.length+Ab l:=by
 induction l using Tm.indL with
 |h0=>intro ns; simp[E6]
 |h s l r aa ae=>
  intro ns
  have e:Ab ((⟨s,l⟩:Tm)::r)=1+Ab l+Ab r:=by simp[Ab]
  rw[e,FY]
  have h2:=ae (AO K ns ⟨s,l⟩).2
  have h3:(AO K ns ⟨s,l⟩).2.length<=ns.length+(1+Ab l):=by
   unfold AO
   split
   ·have:=LU ns (K s); simp only; omega
   ·have:=aa ns; simp only; omega
  simp only
  omega
theorem Js (K:ByteArray->ByteArray) (t:Tm) (ns:List ByteArray):(AO K ns t).2.length<=ns.length+Ab [t]:=by
 have h:=MG K [t] ns
 rw[FY,E6]at h
 exact h
def AA (i:Nat) (s:ByteArray):ByteArray:=(⟨(Lib.decDigits i).toArray⟩:ByteArray)++s
def Cl (K:ByteArray->ByteArray) (ns:List ByteArray) (p:Pr):Pr×List ByteArray:=(⟨(AO K ns p.l).1,(AO K (AO K ns p.l).2 p.r).1⟩,(AO K (AO K ns p.l).2 p.r).2)
def Av (o n:Pr):Pr×Pr:=((Cl (AA 0) [] o).1,(Cl (AA 1) (Cl (AA 0) [] o).2 n).1)
def Dz (p:Pr):Pr:=(Cl id [] p).1
theorem Ql (K:ByteArray->ByteArray) (p:Pr) (ns:List ByteArray):(Cl K ns p).2.length<=ns.length+Ab [p.l]+Ab [p.r]:=by
 have h1:=Js K p.l ns
 have h2:=Js K p.r (AO K ns p.l).2
 unfold Cl
 simp only
 omega
def Ai (h:List (ByteArray×Tm)):List Bd:=h.foldl (λs p=>Cv s p.1 p.2) []
theorem Fl (h:List (ByteArray×Tm)) (p:ByteArray×Tm):Ai (h++[p])=Cv (Ai h) p.1 p.2:=by simp[Ai]
theorem MH {h:List (ByteArray×Tm)} {j:Nat} (hj:j<h.length):Ai (h.take (j+1))=Cv (Ai (h.take j)) h[j].1 h[j].2:=by
 rw[Bm hj,Fl]
def FD (s:List Bd) (x:ByteArray) (t:Tm):Prop:=Ak x=true/\(∀d∈s,d.nm≠x)/\Ah [t]=0/\(∀e∈s,¬Au e.nm [t])/\¬Au x [t]
def BO (h:List (ByteArray×Tm)):Prop:=∀j (hj:j<h.length),FD (Ai (h.take j)) h[j].1 h[j].2
theorem Xz:BO []:=λj hj=>by simp at hj
theorem BO.snoc {h:List (ByteArray×Tm)} (g:BO h) {x:ByteArray} {t:Tm} (m:FD (Ai h) x t):BO (h++[(x,t)]):=by
 intro j hj
 by_cases e:j<h.length
 ·have h1:=g j e
  rw[GI (by omega)]
  rw[JT e]
  exact h1
 ·have e2:j=h.length:=by simp at hj; omega
  subst e2
  rw[GI (by omega),EO]
  simpa using m
theorem BO.ok {h:List (ByteArray×Tm)} (g:BO h):∀j,j<=h.length->Bv (Ai (h.take j))
 |0,_=>by simpa [Ai] using IB
 |j+1,hj=>by
  rw[MH (by omega)]
  obtain⟨m1,m2,m3,m4,m5⟩:=g j (by omega)
  exact(g.ok j (by omega)).add m1 m2 m3 m4 m5
theorem BO.all {h:List (ByteArray×Tm)} (g:BO h):Bv (Ai h):=by
 have:=g.ok h.length (Aj _)
 rwa [EO] at this
theorem BO.absorb {h:List (ByteArray×Tm)} (g:BO h) {i:Nat}:∀j,i<=j->j<=h.length->∀L:List Tm,Ah L=0->Am (Ai (h.take j)) (Am (Ai (h.take i)) L)=Am (Ai (h.take j)) L
 |0,hi,_,L,he=>by
  have e:i=0:=by omega
  subst e
  exact(g.ok 0 (AE _)).idem he
 |j+1,hi,hj,L,he=>by
  by_cases e:i=j+1
  ·subst e
   exact(g.ok _ hj).idem he
  ·have ih:=g.absorb (i:=i) j (by omega) (by omega) L he
   have o1:=g.ok j (by omega)
   have o2:=g.ok (j+1) hj
   have aa:j<h.length:=by omega
   obtain⟨m1,m2,_⟩:=g j aa
   rw[MH (h:=h) (j:=j) (by omega)]at o2 ⊢
   rw[ID o1 m1 m2 o2 _ (Ht (g.ok i (by omega)) L he),ID o1 m1 m2 o2 L he,ih]
theorem BO.bound {h:List (ByteArray×Tm)} (g:BO h):∀j,j<=h.length->∀y,(∃d∈Ai (h.take j),d.nm=y)↔∃i,∃hi:i<h.length,i<j/\h[i].1=y
 |0,_,y=>by simp[Ai]
 |j+1,hj,y=>by
  have ih:=g.bound j (by omega) y
  rw[MH (by omega)]
  have hp:=EC ((Ai (h.take j)).map (Bo h[j].1 h[j].2)++[⟨h[j].1,h[j].2⟩])
  constructor
  ·rintro⟨d,hd,e⟩
   rcases Bg.1 (hp.subset hd) with hd|hd
   ·obtain⟨d0,h0,rfl⟩:=Cj.1 hd
    obtain⟨i,hi,h1,h2⟩:=ih.1 ⟨d0,h0,e⟩
    exact⟨i,hi,by omega,h2⟩
   ·have e2:d=⟨h[j].1,h[j].2⟩:=by simpa using hd
    rw[e2]at e
    exact⟨j,by omega,by omega,e⟩
  ·rintro⟨i,hi,h1,h2⟩
   by_cases e:i=j
   ·subst e
    exact⟨⟨h[i].1,h[i].2⟩,hp.symm.subset (by simp),h2⟩
   ·obtain⟨d0,h0,e0⟩:=ih.2 ⟨i,hi,by omega,h2⟩
    exact⟨Bo h[j].1 h[j].2 d0,hp.symm.subset (Bg.2 (Ad (Cj.2 ⟨d0,h0,rfl⟩))),e0⟩
theorem BO.once {h:List (ByteArray×Tm)} (g:BO h) {i j:Nat} (hi:i<h.length) (hj:j<h.length) (e:h[i].1=h[j].1):i=j:=by
 have key:∀a b (ha:a<h.length) (hb:b<h.length),a<b->h[a].1≠h[b].1:=λa b ha hb hab e=>by
  obtain⟨d,hd,e1⟩:=(g.bound b (by omega) h[a].1).2 ⟨a,ha,hab,rfl⟩
  exact(g b hb).2.1 d hd (e1.trans e)
 rcases Nat.lt_trichotomy i j with h1|h1|h1
 ·exact absurd e (key i j hi hj h1)
 ·exact h1
 ·exact absurd e.symm (key j i hj hi h1)
def stood (h:List (ByteArray×Tm)) (i j:Nat) (hi:i<h.length):Tm:=Ag (Ai (h.take j)) ⟨h[i].1,[]⟩
theorem XA {h:List (ByteArray×Tm)} (g:BO h) {i j:Nat} (aa:i<=j) (hj:j<=h.length) {t:Tm} (he:Ah [t]=0):Ag (Ai (h.take j)) (Ag (Ai (h.take i)) t)=Ag (Ai (h.take j)) t:=by
 have h1:=g.absorb j aa hj [t] he
 rw[Ba,Ba,Ba]at h1
 simpa [Am] using h1
theorem Qm {h:List (ByteArray×Tm)} (g:BO h) {i j:Nat} (hi:i<h.length) (hj:j<=h.length) (hn:Be h[i].1=true):Ag (Ai h) (stood h i j hi)=stood h i h.length hi:=by
 have h1:=XA g hj (Aj _) (Ks hn)
 unfold stood
 rw[EO]at h1 ⊢
 exact h1
theorem XC {h:List (ByteArray×Tm)} (g:BO h) {i j k:Nat} (hi:i<h.length) (hj:j<=h.length) (hn:Be h[i].1=true) (hk:k<h.length) (ho:Au h[k].1 [stood h i j hi]):j<=k:=by
 rcases Nat.lt_or_ge k j with h1|h1
 ·obtain⟨d,hd,e⟩:=(g.bound j hj h[k].1).2 ⟨k,hk,h1,rfl⟩
  have h2:=(g.ok j hj).goneT (Ks hn) d hd
  rw[e]at h2
  exact absurd ho h2
 ·exact h1
def FE (lk:ByteArray->Option Tm) (s:ByteArray) (bs:List Tm):Tm:=if Ak s=true then (match lk s with|some x=>x|none=>⟨s,bs⟩) else ⟨s,bs⟩
def CY (lk:ByteArray->Option Tm):List Tm->List Tm
 | []=>[]
 | ⟨s,a⟩::r=>FE lk s (CY lk a)::CY lk r
def C9 (lk:ByteArray->Option Tm) (t:Tm):Tm:=FE lk t.name (CY lk t.args)
theorem Kz (lk:ByteArray->Option Tm):∀l:List Tm,CY lk l=l.map (C9 lk)
 | []=>by simp[CY]
 | ⟨s,a⟩::r=>by rw[CY,Kz lk r]; rfl
theorem Qn (lk:ByteArray->Option Tm) (a b:List Tm):CY lk (a++b)=CY lk a++CY lk b:=by simp[Kz]
abbrev Ev:=Bool->(Nat->Prop)->World->Prop
structure FF (E:Ev) (Mt:Nat->Prop):Prop where
 keep:∀f Y w w',E f Y w->(∀b,Y b->w'.heap[b]? = w.heap[b]?)->E f Y w'
 inY:∀f Y w,E f Y w->∀b,Y b->b<w.heap.size
 mt:∀f Y w,E f Y w->∀b,Mt b->Y b
theorem FF.below {E:Ev} {Mt:Nat->Prop} (h:FF E Mt) {f:Bool} {Y:Nat->Prop} {w w':World} (he:E f Y w) (hb:Below w.heap.size w w'):E f Y w':=h.keep f Y w w' he λb hy=>hb.block b (h.inY f Y w he b hy)
def sV (S:Nat):Value:=.func (.func 137) #[.pointer (some ⟨S,0,none⟩)] #[]
def Qo (E:Ev) (Mt:Nat->Prop) (o:Option Tm) (f:Bool) (Y:Nat->Prop) (w:World) (e:Ending) (w':World):Prop:=
 ∃(s:ByteArray) (a:Option Addr) (n c:Nat) (ok:Bool) (f':Bool) (Y':Nat->Prop),e=.returned (.tuple #[.agg #[.string s,.slice a n c],.bool ok])/\E f' Y' w'/\(∀b,Y' b->Y b∨w.heap.size<=b)/\(f=true->f'=true)/\Al Mt w w'/\
  ((ok=true/\∃x:Tm,s=x.name/\n=x.args.length/\Sl w' Y' a x.args/\(f'=false->o=some x))∨(ok=false/\(f'=false->o=none)))
def FZ (E:Ev) (Mt:Nat->Prop) (S:Nat) (o:Option Tm) (nm:ByteArray):Prop:=
 ∀(f:Bool) (Y:Nat->Prop) (w:World),E f Y w->Calls Tryz.prog 137 #[.pointer (some ⟨S,0,none⟩),.string nm] w λe w'=>Qo E Mt o f Y w e w'
def Hx (w:World) (tgt:Tm) (n:Nat) (f':Bool) (s':ByteArray) (a':Option Addr) (l':Nat) (m:Int) (k:Nat) (w':World):Prop:=
 (∃y:Tm,s'=y.name/\l'=y.args.length/\m=(n:Int)-Ab [y]/\Ab [y]<=n/\Sl w' (λb=>w.heap.size+k<=b) a' y.args/\(f'=false->y=tgt))∨(m=-1/\(f'=false->n<Ab [tgt]))
def Gy (E:Ev) (Mt:Nat->Prop) (F:Nat) (sv:Value) (tgt:Tm) (n:Nat) (f:Bool) (Y:Nat->Prop) (w:World) (e:Ending) (w':World):Prop:=
 ∃(s':ByteArray) (a':Option Addr) (l' c':Nat) (m:Int) (f':Bool) (Y':Nat->Prop),e=.returned (.agg #[.string s',.slice a' l' c'])/\Ac w' F #[.int .i64 m,sv] 120/\Al (λb=>b=F∨Mt b) w w'/\E f' Y' w'/\(∀b,Y' b->Y b∨w.heap.size<=b)/\(f=true->f'=true)/\Hx w tgt n f' s' a' l' m 0 w'
theorem IG {E:Ev} {Mt:Nat->Prop} (hE:FF E Mt) {w w9:World} {F:Nat} {sv:Value} {tgt:Tm} {n:Nat} {f f':Bool} {Y Y':Nat->Prop} {s':ByteArray} {a':Option Addr} {l' c':Nat} {m:Int} {v0 v1:Value} (hF:F<w.heap.size) (hY:∀b,Y b->b<w.heap.size)
  (h1:Ac w9 F #[.int .i64 m,sv] 120) (hx:Al (λb=>b=F∨Mt b) w w9) (ae:E f' Y' w9) (aa:∀b,Y' b->Y b∨w.heap.size+2<=b) (af:f=true->f'=true) (hc:Hx w tgt n f' s' a' l' m 2 w9):
  Gy E Mt F sv tgt n f Y w (.returned (.agg #[.string s',.slice a' l' c'])) ((w9.setCell ⟨w.heap.size+1,0,none⟩ v0).setCell ⟨w.heap.size+1,1,none⟩ v1):=by
 have hk:∀b,b≠w.heap.size+1->((w9.setCell ⟨w.heap.size+1,0,none⟩ v0).setCell ⟨w.heap.size+1,1,none⟩ v1).heap[b]? = w9.heap[b]? := λb hb=>by
  rw[Aq _ _ _ _ (by simpa using hb),Aq _ _ _ _ (by simpa using hb)]
 refine⟨s',a',l',c',m,f',Y',rfl,(h1.setOther _ _ (by omega)).setOther _ _ (by omega),(hx.setNew (by omega) _ _).setNew (by omega) _ _,hE.keep _ _ _ _ ae λb hb=>hk b λe=>?_,λb hb=>?_,af,?_⟩
 ·rcases aa b hb with h|h
  ·have:=hY b h; omega
  ·omega
 ·rcases aa b hb with h|h
  ·exact Ad h
  ·exact Ae (by omega)
 ·rcases hc with ⟨y,e1,e2,e3,e4,e5,e6⟩|hc
  ·exact Ad ⟨y,e1,e2,e3,e4,(e5.kept λb hb=>hk b (by omega)).mono λb hb _=>by omega,e6⟩
  ·exact Ae hc
theorem XG {Q:Nat->Prop} {w0 w1:World} (h:Al Q w0.drew w1):Al Q w0 w1:=((Al.refl Q w0).drew).trans h
theorem XH {Q:Nat->Prop} {w0 w1:World} {o:Obj} (h:Al Q (w0.alloc o).drew w1):Al Q w0 w1:=(((Al.refl Q w0).alloc o).drew).trans h
theorem XI {Q:Nat->Prop} {w0 w1:World} {cs:Array Value} {T:Nat} (h:Al Q (w0.alloc (.cells cs T)).drew w1) (hQ:¬Q w0.heap.size):Ac w1 w0.heap.size cs T:=((Ac.new w0 cs T).drewN 1).exq h hQ
theorem Qp {E:Ev} {Mt:Nat->Prop} (hE:FF E Mt) (F S:Nat) (lk:ByteArray->Option Tm) (t:Tm) (n:Nat) (a:Option Addr) (c:Nat) (w:World) (X Y:Nat->Prop) (f:Bool) (hn:n<=1000000) (aY:∀b,X b->b≠F/\¬Mt b) (aO:¬Y F) (hs:Sl w X a t.args) (hF:Ac w F #[.int .i64 (n:Int),sV S] 120) (aP:E f Y w)
  (hL:Ak t.name=true->FZ E Mt S (lk t.name) t.name)
  (h:∀(w':World) (f':Bool) (Y':Nat->Prop),Sl w' X a t.args->Ac w' F #[.int .i64 (n:Int),sV S] 120->E f' Y' w'->¬Y' F->Calls Tryz.prog 102 #[.pointer (some ⟨F,0,none⟩),.agg #[.string t.name,.slice a t.args.length c],.func (.func 87) #[.pointer (some ⟨F,0,none⟩)] #[]] w' λe w''=>Gy E Mt F (sV S) ⟨t.name,CY lk t.args⟩ n f' Y' w' e w''):
  Calls Tryz.prog 87 #[.pointer (some ⟨F,0,none⟩),.agg #[.string t.name,.slice a t.args.length c]] w λe w'=>Gy E Mt F (sV S) (C9 lk t) n f Y w e w':=by
 have bg:=@hmq Tryz.prog
 have H:=Aa h
 have HS:=Aa hs
 have HF:=Aa hF
 have HE:=Aa aP
 have HL:=Aa hL
 have aZ:=Aa aY
 have bh:F<w.heap.size:=hF.lt
 have aj:Hid (∀b,Y b->b<w.heap.size):=hE.inY _ _ _ aP
 have aC:Hid (∀b,Mt b->Y b):=hE.mt _ _ _ aP
 have aR:¬Mt F:=λh=>aO (aC.out F h)
 clear h hs hF aP hL aY
 have aQ:=Aa (((Af w.heap.size w).alloc (Aj _) (.cells #[.string t.name,.slice a t.args.length c] 29)).alloc (by simp) (.cells #[.string ⟨#[]⟩,.slice none 0 0] 29))
 have f1:∀o o',((w.alloc o).alloc o').cell? ⟨F,1,none⟩=some (sV S):=λo o'=>((HF.out.alloc o).alloc o').cell 1
 have RW:Hid (Ac ((w.alloc (.cells #[.string t.name,.slice a t.args.length c] 29)).alloc (.cells #[.string ⟨#[]⟩,.slice none 0 0] 29)) (w.heap.size+1) #[.string ⟨#[]⟩,.slice none 0 0] 29):=by
  have h:=Ac.new (w.alloc (.cells #[.string t.name,.slice a t.args.length c] 29)) #[.string ⟨#[]⟩,.slice none 0 0] 29
  unfold Hid
  simpa using h
 have aF:=Aa (((Al.refl (λb=>b=F∨Mt b) w).alloc (.cells #[.string t.name,.slice a t.args.length c] 29)).alloc (.cells #[.string ⟨#[]⟩,.slice none 0 0] 29))
 have hW2:Hid (((w.alloc (.cells #[.string t.name,.slice a t.args.length c] 29)).alloc (.cells #[.string ⟨#[]⟩,.slice none 0 0] 29)).heap.size=w.heap.size+2):=by unfold Hid; simp
 have aG:¬(w.heap.size+1=F∨Mt (w.heap.size+1)):=λh=>by
  rcases h with h|h
  ·omega
  ·have:=aj.out _ (aC.out _ h); omega
 cases hv:Ak t.name with
 |false=>
  have HV:=Aa hv
  have HT:Hid (C9 lk t=⟨t.name,CY lk t.args⟩):=by unfold Hid C9 FE; rw[hv]; rfl
  clear hv
  go_enter Tryz.func87,Tryz.ntmps87
  go_wp2_with (go_at_call 49; refine(Cz _ _).mono ?_; rintro e w' ⟨rfl,rfl⟩; rw[HV.out])
  refine(H.out _ f Y (HS.out.later aQ.out) (by exact(HF.out.alloc _).alloc _) (hE.below HE.out aQ.out) aO).mono ?_
  rintro e w9 ⟨s',a',l',c',m,f',Y',rfl,ah,hx1,ak,aa,ae,ao⟩
  have R9:=Aa (RW.out.exq hx1 aG)
  have au:=Aa (aF.out.trans hx1)
  have av:=Aa ah
  have aw:=Aa ak
  have aS:=Aa aa
  have ba:=Aa ae
  have HC:=Aa ao
  clear ah hx1 ak aa ae ao
  have r0:=R9.out.c0
  have r1:=R9.out.c1
  have rf:=R9.out.frozen
  go_wp2_with fail
  refine Ap (v:=.agg #[.string s',.slice a' l' c']) (by simp[results,Tryz.results87,go_sem,AU,AG,r0,r1]) rfl ?_
  rw[HT.out]
  refine IG hE (by omega) aj.out av.out au.out aw.out (λb hb=>(aS.out b hb).imp id λh=>by rw[hW2.out] at h; exact h) ba.out ?_
  rcases HC.out with ⟨y,e1,e2,e3,e4,e5,e6⟩|h
  ·exact Ad ⟨y,e1,e2,e3,e4,e5.mono λb hb _=>by have:=hW2.out; omega,e6⟩
  ·exact Ae h
 |true=>
  have HV:=Aa hv
  have bb:=Aa (HL.out hv)
  clear hv HL
  have E0:=Aa (hE.below HE.out aQ.out)
  have F0:=Aa ((HF.out.alloc (.cells #[.string t.name,.slice a t.args.length c] 29)).alloc (.cells #[.string ⟨#[]⟩,.slice none 0 0] 29))
  have S0:=Aa (HS.out.later aQ.out)
  have T0:=Aa ((Ac.new w #[.string t.name,.slice a t.args.length c] 29).alloc (.cells #[.string ⟨#[]⟩,.slice none 0 0] 29))
  have g1:=F0.out.cell 1
  have g0:=T0.out.cell 0
  simp only[JQ,Lt,JR] at g1 g0
  have bc:Hid (∀w',Below ((w.alloc (.cells #[.string t.name,.slice a t.args.length c] 29)).alloc (.cells #[.string ⟨#[]⟩,.slice none 0 0] 29)).heap.size ((w.alloc (.cells #[.string t.name,.slice a t.args.length c] 29)).alloc (.cells #[.string ⟨#[]⟩,.slice none 0 0] 29)) w'->Calls Tryz.prog 137 #[.pointer (some ⟨S,0,none⟩),.string t.name] w' λe w''=>Qo E Mt (lk t.name) f Y w' e w''):=λw' hb=>bb.out f Y w' (hE.below E0.out hb)
  have aT:Hid (∀w',Al Mt ((w.alloc (.cells #[.string t.name,.slice a t.args.length c] 29)).alloc (.cells #[.string ⟨#[]⟩,.slice none 0 0] 29)) w'->w'.cell? ⟨F,1,none⟩=some (sV S)/\w'.cell? ⟨w.heap.size,0,none⟩=some (.string t.name)):=λw' hb=>⟨(F0.out.exq hb aR).cell 1,(T0.out.exq hb (λh=>by have:=aj.out _ (aC.out _ h); omega)).cell 0⟩
  have nF:((w.alloc (.cells #[.string t.name,.slice a t.args.length c] 29)).alloc (.cells #[.string ⟨#[]⟩,.slice none 0 0] 29)).heap.size≠F:=by have:=hW2.out; omega
  have nT:((w.alloc (.cells #[.string t.name,.slice a t.args.length c] 29)).alloc (.cells #[.string ⟨#[]⟩,.slice none 0 0] 29)).heap.size≠w.heap.size:=by have:=hW2.out; omega
  have nM:¬Mt ((w.alloc (.cells #[.string t.name,.slice a t.args.length c] 29)).alloc (.cells #[.string ⟨#[]⟩,.slice none 0 0] 29)).heap.size:=λh=>by have:=aj.out _ (aC.out _ h); have:=hW2.out; omega
  clear f1
  unfold sV at g1 aT
  go_enter Tryz.func87,Tryz.ntmps87
  go_wp2_with (go_at_call 49; refine(Cz _ _).mono ?_; rintro e w' ⟨rfl,rfl⟩; rw[HV.out])
  generalize ((w.alloc (.cells #[.string t.name,.slice a t.args.length c] 29)).alloc (.cells #[.string ⟨#[]⟩,.slice none 0 0] 29))=w0 at *
  go_region_held3 (λw'=>w'.cell? ⟨F,1,none⟩=some (.func (.func 137) #[.pointer (some ⟨S,0,none⟩)] #[])/\w'.cell? ⟨w.heap.size,0,none⟩=some (.string t.name)) (first|exact hS|exact⟨g1,g0⟩|exact Gq hS nF nT|exact Gq (Gq hS nF nT) nF nT|go_keep)
   ((go_at_call 137; refine(bc.out _ (by first|exact(Af _ _).drew|exact((Af _ _).alloc (Aj _) _).drew)).mono ?_; rintro e w1 ⟨s1,a1,n1,c1,bj,f1,Y1,rfl,ak,aa,ae,hx1,ao⟩; have aU:=Aa ak; have aq:=Aa aa; have ax:=Aa ae; have aD:=Aa ao; clear ak aa ae ao; (first|(have az:=XG hx1; have hS:=aT.out _ az)|(have az:=XH hx1; have xb:=Aa (XI hx1 nM); have x0:=xb.out.cell 0; have x1:=xb.out.cell 1; have xf:=xb.out.frozen; have hS:=aT.out _ az)); have bk:=Aa hx1; clear hx1))
  ·generalize hz:(w1.alloc (Obj.cells #[Value.string s1,Value.slice a1 n1 c1] 29))=wz at *
   have bf:∀b,b<w1.heap.size->wz.heap[b]? = w1.heap[b]? := λb hb=>by rw[<-hz]; exact AP _ _ _ hb
   have ai:Al Mt w0 wz:=by rw[<-hz]; exact az.alloc _
   have aH:Hid (∀b,Y1 b->wz.heap[b]? = w1.heap[b]?):=λb hb=>bf b (hE.inY _ _ _ aU.out b hb)
   have a6:Hid (∀b,Y1 b->Y b∨w.heap.size+2<=b):=λb hb=>(aq.out b hb).imp id λh=>by have h2:=hW2.out; have h3:w0.heap.size<=b:=h; omega
   have q0:wz.cell? ⟨w1.heap.size,0,none⟩=some (.string s1):=by rw[<-hz]; exact(Ac.new w1 _ _).cell 0
   have q1:wz.cell? ⟨w1.heap.size,1,none⟩=some (.slice a1 n1 c1):=by rw[<-hz]; exact(Ac.new w1 _ _).cell 1
   have a7:=Aa ai
   have a8:Hid (E f1 Y1 wz):=hE.keep _ _ _ _ aU.out aH.out
   have aI:=Aa (F0.out.exq ai aR)
   have aJ:=Aa (RW.out.exq ai (λh=>aG (Ae h)))
   have aK:=Aa (T0.out.exq ai (λh=>by have:=aj.out _ (aC.out _ h); omega))
   have af:Hid (¬Y1 F):=λh=>by
    rcases a6.out F h with h1|h1
    ·exact aO h1
    ·omega
   have ag:Hid (w.heap.size+2<=wz.heap.size):=by have:=ai.size; have:=hW2.out; unfold Hid; omega
   clear ai hz hS az
   rcases aD.out with ⟨rfl,x,rfl,rfl,aL,ar⟩|⟨rfl,ar⟩
   ·have aV:Hid (Sl wz Y1 a1 x.args):=aL.kept aH.out
    have ay:=Aa ar
    clear aL ar aD
    go_wp2_with fail
    refine(J8 F _ x n _ wz Y1 ⟨a1,c1,rfl,aV.out⟩ (λb hb e=>af.out (e▸hb)) hn aI.out).mono ?_
    rintro e w9 ⟨s',a',l',c',m,rfl,ah,hx1,aM,aN⟩
    have R9:=Aa (aJ.out.ex hx1 (by omega))
    have au:Hid (Al (λb=>b=F∨Mt b) w w9):=(aF.out.trans (a7.out.mono λb hb _=>Ae hb)).trans (Al.ofEx hx1 (Ad rfl))
    have aw:Hid (E f1 Y1 w9):=hE.keep _ _ _ _ a8.out λb hb=>hx1.block b (hE.inY _ _ _ a8.out b hb) (λe=>af.out (e▸hb))
    have av:=Aa ah
    have aA:Hid (Hx w (C9 lk t) n f1 s' a' l' m 2 w9):=by
     by_cases hle:Ab [x]<=n
     ·obtain⟨e1,e2,e3,e4⟩:=aM hle
      exact Ad ⟨x,e2,e3,e1,hle,e4.mono λb hb _=>by have:=ag.out; omega,λhf=>by unfold C9 FE; rw[HV.out,ay.out hf]; rfl⟩
     ·exact Ae ⟨aN (by omega),λhf=>by unfold C9 FE; rw[HV.out,ay.out hf]; simpa using hle⟩
    clear ah hx1 aM aN
    have r0:=R9.out.c0
    have r1:=R9.out.c1
    have rf:=R9.out.frozen
    go_wp2_with fail
    refine Ap (v:=.agg #[.string s',.slice a' l' c']) (by simp[results,Tryz.results87,go_sem,AU,AG,r0,r1]) rfl ?_
    exact IG hE (by omega) aj.out av.out au.out aw.out a6.out ax.out aA.out
   ·have ay:=Aa ar
    clear ar aD
    have t0:=aK.out.c0
    have t1:=aK.out.c1
    go_wp2_with fail
    refine(H.out wz f1 Y1 (S0.out.exq a7.out (λb hb=>(aZ.out b hb).2)) aI.out a8.out af.out).mono ?_
    rintro e w9 ⟨s',a',l',c',m,f',Y',rfl,ah,hx1,ak,aa,ae,ao⟩
    have R9:=Aa (aJ.out.exq hx1 aG)
    have au:Hid (Al (λb=>b=F∨Mt b) w w9):=(aF.out.trans (a7.out.mono λb hb _=>Ae hb)).trans hx1
    have aw:=Aa ak
    have av:=Aa ah
    have aW:Hid (∀b,Y' b->Y b∨w.heap.size+2<=b):=λb hb=>by
     rcases aa b hb with h|h
     ·exact a6.out b h
     ·right; have:=ag.out; omega
    have aB:Hid (f=true->f'=true):=λh=>ae (ax.out h)
    have aA:Hid (Hx w (C9 lk t) n f' s' a' l' m 2 w9):=by
     have hT:f'=false->C9 lk t=⟨t.name,CY lk t.args⟩:=λhf=>by
      have aX:f1=false:=by
       cases h:f1 with
       |false=>rfl
       |true=>have:=ae h; rw[hf] at this; cases this
      unfold C9 FE; rw[HV.out,ay.out aX]; rfl
     rcases ao with ⟨y,e1,e2,e3,e4,e5,e6⟩|⟨e1,e2⟩
     ·exact Ad ⟨y,e1,e2,e3,e4,e5.mono λb hb _=>by have:=ag.out; omega,λhf=>by rw[hT hf]; exact e6 hf⟩
     ·exact Ae ⟨e1,λhf=>by rw[hT hf]; exact e2 hf⟩
    clear ah hx1 ak aa ae ao
    have r0:=R9.out.c0
    have r1:=R9.out.c1
    have rf:=R9.out.frozen
    go_wp2_with fail
    refine Ap (v:=.agg #[.string s',.slice a' l' c']) (by simp[results,Tryz.results87,go_sem,AU,AG,r0,r1]) rfl ?_
    exact IG hE (by omega) aj.out av.out au.out aw.out aW.out aB.out aA.out
  ·generalize hz:((w1.setCell { block:=w0.heap.size,off:=0} (Value.string s1)).setCell { block:=w0.heap.size,off:=1} (Value.slice a1 n1 c1))=wz at *
   have ai:Al Mt w0 wz:=by rw[<-hz]; exact(az.setNew (Aj _) _ _).setNew (Aj _) _ _
   have a6:Hid (∀b,Y1 b->Y b∨w.heap.size+2<=b):=λb hb=>(aq.out b hb).imp id λh=>by have h2:=hW2.out; simp at h; omega
   have aH:Hid (∀b,Y1 b->wz.heap[b]? = w1.heap[b]?):=λb hb=>by
    have hne:b≠w0.heap.size:=λe=>by
     rcases aq.out b hb with h|h
     ·have:=aj.out b h; have:=hW2.out; omega
     ·simp at h; omega
    rw[<-hz,Aq _ _ _ _ (by simpa using hne),Aq _ _ _ _ (by simpa using hne)]
   have q0:wz.cell? ⟨w0.heap.size,0,none⟩=some (.string s1):=by rw[<-hz]; simp[AU,AG,x0,x1]
   have q1:wz.cell? ⟨w0.heap.size,1,none⟩=some (.slice a1 n1 c1):=by rw[<-hz]; simp[AU,AG,x0,x1]
   have a7:=Aa ai
   have a8:Hid (E f1 Y1 wz):=hE.keep _ _ _ _ aU.out aH.out
   have aI:=Aa (F0.out.exq ai aR)
   have aJ:=Aa (RW.out.exq ai (λh=>aG (Ae h)))
   have aK:=Aa (T0.out.exq ai (λh=>by have:=aj.out _ (aC.out _ h); omega))
   have af:Hid (¬Y1 F):=λh=>by
    rcases a6.out F h with h1|h1
    ·exact aO h1
    ·omega
   have ag:Hid (w.heap.size+2<=wz.heap.size):=by have:=ai.size; have:=hW2.out; unfold Hid; omega
   clear ai hz hS az
   rcases aD.out with ⟨rfl,x,rfl,rfl,aL,ar⟩|⟨rfl,ar⟩
   ·have aV:Hid (Sl wz Y1 a1 x.args):=aL.kept aH.out
    have ay:=Aa ar
    clear aL ar aD
    go_wp2_with fail
    refine(J8 F _ x n _ wz Y1 ⟨a1,c1,rfl,aV.out⟩ (λb hb e=>af.out (e▸hb)) hn aI.out).mono ?_
    rintro e w9 ⟨s',a',l',c',m,rfl,ah,hx1,aM,aN⟩
    have R9:=Aa (aJ.out.ex hx1 (by omega))
    have au:Hid (Al (λb=>b=F∨Mt b) w w9):=(aF.out.trans (a7.out.mono λb hb _=>Ae hb)).trans (Al.ofEx hx1 (Ad rfl))
    have aw:Hid (E f1 Y1 w9):=hE.keep _ _ _ _ a8.out λb hb=>hx1.block b (hE.inY _ _ _ a8.out b hb) (λe=>af.out (e▸hb))
    have av:=Aa ah
    have aA:Hid (Hx w (C9 lk t) n f1 s' a' l' m 2 w9):=by
     by_cases hle:Ab [x]<=n
     ·obtain⟨e1,e2,e3,e4⟩:=aM hle
      exact Ad ⟨x,e2,e3,e1,hle,e4.mono λb hb _=>by have:=ag.out; omega,λhf=>by unfold C9 FE; rw[HV.out,ay.out hf]; rfl⟩
     ·exact Ae ⟨aN (by omega),λhf=>by unfold C9 FE; rw[HV.out,ay.out hf]; simpa using hle⟩
    clear ah hx1 aM aN
    have r0:=R9.out.c0
    have r1:=R9.out.c1
    have rf:=R9.out.frozen
    go_wp2_with fail
    refine Ap (v:=.agg #[.string s',.slice a' l' c']) (by simp[results,Tryz.results87,go_sem,AU,AG,r0,r1]) rfl ?_
    exact IG hE (by omega) aj.out av.out au.out aw.out a6.out ax.out aA.out
   ·have ay:=Aa ar
    clear ar aD
    have t0:=aK.out.c0
    have t1:=aK.out.c1
    go_wp2_with fail
    refine(H.out wz f1 Y1 (S0.out.exq a7.out (λb hb=>(aZ.out b hb).2)) aI.out a8.out af.out).mono ?_
    rintro e w9 ⟨s',a',l',c',m,f',Y',rfl,ah,hx1,ak,aa,ae,ao⟩
    have R9:=Aa (aJ.out.exq hx1 aG)
    have au:Hid (Al (λb=>b=F∨Mt b) w w9):=(aF.out.trans (a7.out.mono λb hb _=>Ae hb)).trans hx1
    have aw:=Aa ak
    have av:=Aa ah
    have aW:Hid (∀b,Y' b->Y b∨w.heap.size+2<=b):=λb hb=>by
     rcases aa b hb with h|h
     ·exact a6.out b h
     ·right; have:=ag.out; omega
    have aB:Hid (f=true->f'=true):=λh=>ae (ax.out h)
    have aA:Hid (Hx w (C9 lk t) n f' s' a' l' m 2 w9):=by
     have hT:f'=false->C9 lk t=⟨t.name,CY lk t.args⟩:=λhf=>by
      have aX:f1=false:=by
       cases h:f1 with
       |false=>rfl
       |true=>have:=ae h; rw[hf] at this; cases this
      unfold C9 FE; rw[HV.out,ay.out aX]; rfl
     rcases ao with ⟨y,e1,e2,e3,e4,e5,e6⟩|⟨e1,e2⟩
     ·exact Ad ⟨y,e1,e2,e3,e4,e5.mono λb hb _=>by have:=ag.out; omega,λhf=>by rw[hT hf]; exact e6 hf⟩
     ·exact Ae ⟨e1,λhf=>by rw[hT hf]; exact e2 hf⟩
    clear ah hx1 ak aa ae ao
    have r0:=R9.out.c0
    have r1:=R9.out.c1
    have rf:=R9.out.frozen
    go_wp2_with fail
    refine Ap (v:=.agg #[.string s',.slice a' l' c']) (by simp[results,Tryz.results87,go_sem,AU,AG,r0,r1]) rfl ?_
    exact IG hE (by omega) aj.out av.out au.out aw.out aW.out aB.out aA.out
theorem XJ {s:List Bd} (hs:∀d∈s,Ak d.nm=true):∀l:List Tm,Ah l=0->CY (Ar s) l=Am s l:=by
 intro l
 induction l using Tm.indL with
 |h0=>intro _; simp[CY,Am]
 |h n l r aa ae=>
  intro he
  obtain⟨g1,g2,g3⟩:=Gt he
  rw[CY,Ba,ae g3,aa g2]
  congr 1
  cases hv:Ak n with
  |false=>rw[Gu hs hv,FE,hv]; rfl
  |true=>
   have e:=g1 hv
   subst e
   rw[Fz,FE,hv]
   cases Ar s n with
   |none=>simp[Am]
   |some x=>rfl
theorem Qq {s:List Bd} (hs:∀d∈s,Ak d.nm=true) {t:Tm} (he:Ah [t]=0):C9 (Ar s) t=Ag s t:=by
 have h:=XJ hs [t] he
 rw[Kz,Ba]at h
 simpa [Am] using h
def F1 (h:List (ByteArray×Tm)):Prop:=∀i (hi:i<h.length),Be h[i].1=true
def Hy (w:World) (Y:Nat->Prop) (h:List (ByteArray×Tm)) (i:Nat) (hi:i<h.length) (v:Value):Prop:=
 ∃(j:Nat) (a:Option Addr) (c:Nat),j<=h.length/\v=.agg #[.string (stood h i (max j (i+1)) hi).name,.slice a (stood h i (max j (i+1)) hi).args.length c,.int .i64 (j:Int)]/\Sl w Y a (stood h i (max j (i+1)) hi).args
def Ee (w:World) (Y:Nat->Prop) (h:List (ByteArray×Tm)) (L:List (ByteArray×Value)):Prop:=
 L.length=h.length/\∀i (hi:i<h.length) (hl:i<L.length),L[i].1=h[i].1/\Hy w Y h i hi L[i].2
theorem Hy.imp {w w':World} {Y Z:Nat->Prop} {h:List (ByteArray×Tm)} {i:Nat} {hi:i<h.length} {v:Value} (hs:∀a l,Sl w Y a l->Sl w' Z a l) (e:Hy w Y h i hi v):Hy w' Z h i hi v:=by
 obtain⟨j,a,c,h1,h2,h3⟩:=e
 exact⟨j,a,c,h1,h2,hs _ _ h3⟩
theorem Ee.imp {w w':World} {Y Z:Nat->Prop} {h:List (ByteArray×Tm)} {L:List (ByteArray×Value)} (hs:∀a l,Sl w Y a l->Sl w' Z a l) (e:Ee w Y h L):Ee w' Z h L:=
 ⟨e.1,λi hi hl=>⟨(e.2 i hi hl).1,(e.2 i hi hl).2.imp hs⟩⟩
theorem Qr:∀(L:List (ByteArray×Value)) (i:Nat) (hi:i<L.length),(∀k (hk:k<L.length),k<i->L[k].1≠L[i].1)->Bb L L[i].1=some L[i].2
 | [],i,hi,_=>by simp at hi
 |p::r,0,hi,_=>by simp[Bb]
 |p::r,i+1,hi,h=>by
  have h0:=h 0 (by simp) (by omega)
  simp only[Et,F7] at h0 ⊢
  rw[Bb,An h0]
  refine Qr r i (by simpa using hi) λk hk aa=>?_
  have:=h (k+1) (by simpa using hk) (by omega)
  simpa using this
theorem Qs:∀(L:List (ByteArray×Value)) (n:ByteArray),(∀k (hk:k<L.length),L[k].1≠n)->Bb L n=none
 | [],n,_=>rfl
 |p::r,n,h=>by
  have h0:=h 0 (by simp)
  simp only[Et] at h0
  rw[Bb,An h0]
  exact Qs r n λk hk=>by have:=h (k+1) (by simpa using hk); simpa using this
theorem Qt:∀(L:List (ByteArray×Value)) (i:Nat) (hi:i<L.length) (v:Value),(∀k (hk:k<L.length),k<i->L[k].1≠L[i].1)->Gn L L[i].1 v=L.set i (L[i].1,v)
 | [],i,hi,v,_=>by simp at hi
 |p::r,0,hi,v,_=>by simp[Gn]
 |p::r,i+1,hi,v,h=>by
  have h0:=h 0 (by simp) (by omega)
  simp only[Et,F7] at h0 ⊢
  rw[Gn,An h0,Qt r i (by simpa using hi) v λk hk aa=>by have:=h (k+1) (by simpa using hk) (by omega); simpa using this]
  rfl
theorem Ee.apart {w:World} {Y:Nat->Prop} {h:List (ByteArray×Tm)} {L:List (ByteArray×Value)} (e:Ee w Y h L) (g:BO h) (i:Nat) (hi:i<L.length):∀k (hk:k<L.length),k<i->L[k].1≠L[i].1:=λk hk aa hh=>by
 have hl:=e.1
 rw[(e.2 k (by omega) hk).1,(e.2 i (by omega) hi).1]at hh
 have:=g.once (by omega) (by omega) hh
 omega
theorem Ee.get {w:World} {Y:Nat->Prop} {h:List (ByteArray×Tm)} {L:List (ByteArray×Value)} (e:Ee w Y h L) (g:BO h) {i:Nat} (hi:i<h.length):∃v,Bb L h[i].1=some v/\Hy w Y h i hi v:=by
 have hl:i<L.length:=by rw[e.1]; exact hi
 have h1:=Qr L i hl (e.apart g i hl)
 rw[(e.2 i hi hl).1]at h1
 exact⟨_,h1,(e.2 i hi hl).2⟩
theorem Ee.none {w:World} {Y:Nat->Prop} {h:List (ByteArray×Tm)} {L:List (ByteArray×Value)} (e:Ee w Y h L) {n:ByteArray} (hn:∀i (hi:i<h.length),h[i].1≠n):Bb L n=none:=
 Qs L n λk hk=>by rw[(e.2 k (by rw[<-e.1]; exact hk) hk).1]; exact hn k _
theorem Ee.set {w:World} {Y:Nat->Prop} {h:List (ByteArray×Tm)} {L:List (ByteArray×Value)} (e:Ee w Y h L) (g:BO h) {i:Nat} (hi:i<h.length) {v:Value} (hv:Hy w Y h i hi v):Ee w Y h (Gn L h[i].1 v):=by
 have hl:i<L.length:=by rw[e.1]; exact hi
 have h1:=Qt L i hl v (e.apart g i hl)
 rw[(e.2 i hi hl).1]at h1
 rw[h1]
 refine⟨by simp[e.1],λk hk ae=>?_⟩
 by_cases aa:i=k
 ·subst aa
  simp only[List.getElem_set_self]
  exact⟨trivial,hv⟩
 ·rw[List.getElem_set_ne aa]
  exact e.2 k hk (by simpa using ae)
theorem II {h:List (ByteArray×Tm)} (g:BO h) {i:Nat} (hi:i<h.length):Ar (Ai h) h[i].1=some (stood h i h.length hi):=by
 obtain⟨d,hd,e⟩:=(g.bound h.length (Aj _) h[i].1).2 ⟨i,hi,hi,rfl⟩
 rw[EO]at hd
 obtain⟨t,ht⟩:=PW hd
 rw[e]at ht
 rw[ht]
 unfold stood
 rw[EO,Ik ht]
theorem XK {h:List (ByteArray×Tm)} (g:BO h) {n:ByteArray} (hn:∀i (hi:i<h.length),h[i].1≠n):Ar (Ai h) n=none:=by
 cases hf:Ar (Ai h) n with
 |none=>rfl
 |some x=>
  obtain⟨d,hd,e,_⟩:=Fy hf
  have h1:=(g.bound h.length (Aj _) n).1 ⟨d,by rw[EO]; exact hd,e⟩
  obtain⟨i,hi,_,h2⟩:=h1
  exact absurd h2 (hn i hi)
theorem Qu {h:List (ByteArray×Tm)} (g:BO h) (hn:F1 h) {i:Nat} (hi:i<h.length) {j:Nat} (hj:j<=h.length):Ah [stood h i j hi]=0:=Ed (g.ok j hj) (Ks (hn i hi))
theorem XL {h:List (ByteArray×Tm)} (g:BO h) (hn:F1 h) {i:Nat} (hi:i<h.length) {j:Nat} (hj:j<=h.length):C9 (Ar (Ai h)) (stood h i j hi)=stood h i h.length hi:=by
 rw[Qq g.all.vars (Qu g hn hi hj),Qm g hi hj (hn i hi)]
theorem Qv {h:List (ByteArray×Tm)} (g:BO h) {i:Nat} (hi:i<h.length) (hz:2000<Ab [stood h i h.length hi]):AD (Ai h)=true:=by
 obtain⟨d,hd,e1,e2⟩:=Fy (II g hi)
 unfold AD
 rw[D7]
 exact⟨d,hd,by rw[e2]; simpa using hz⟩
def Cd (S q:Nat) (td:Value) (h:List (ByteArray×Tm)):Ev:=λf Y w=>
 (∃L,Ac w S #[td,.map (some q),.bool f] 136/\Bl w q L/\Ee w (λb=>Y b/\b≠S/\b≠q) h L)/\Y S/\Y q/\(∀b,Y b->b<w.heap.size)/\(f=true->AD (Ai h)=true)
def Ce (S q:Nat):Nat->Prop:=λb=>b=S∨b=q
theorem Dd (S q:Nat) (td:Value) (h:List (ByteArray×Tm)):FF (Cd S q td h) (Ce S q):=by
 refine⟨λf Y w w' he hk=>?_,λf Y w he=>he.2.2.2.1,λf Y w he b hb=>?_⟩
 ·obtain⟨⟨L,h1,h2,h3⟩,h4,h5,h6,h7⟩:=he
  refine⟨⟨L,?_,h2.kept (hk q h5),h3.imp λa l hs=>hs.kept λb hb=>hk b hb.1⟩,h4,h5,λb hb=>?_,h7⟩
  ·unfold Ac at *; rw[hk S h4]; exact h1
  ·have h8:=hk b hb
   have h9:=h6 b hb
   apply G7
   intro hn
   rw[I2 (by omega),Array.getElem?_eq_getElem h9]at h8
   cases h8
 ·rcases hb with rfl|rfl
  ·exact he.2.1
  ·exact he.2.2.1
def IJ (Mt:Nat->Prop) (w:World) (F O:Nat) (s:ByteArray) (u:Value) (cF:Array Value) (wr:World):Prop:=
 Al (λb=>b=F∨Mt b) w wr/\Ac wr (w.heap.size+1) #[.string ⟨#[]⟩,.slice none 0 0] 29/\Ac wr O #[.string s,u] 29/\Ac wr F cF 120/\O<wr.heap.size
theorem XM {Mt:Nat->Prop} {w wr w1 w3:World} {F O:Nat} {s:ByteArray} {u v:Value} {cF ae:Array Value} {o2:Obj} (ag:F<w.heap.size) (hM:∀b,Mt b->b<w.heap.size) (hO:w.heap.size+2<=O) (h:IJ Mt w F O s u cF wr) (hu:∀k,u.ownBlock=some k->O+1<=k)
  (aa:Al (λb=>b=F∨Mt b) wr w1) (af:Ac w1 F ae 120) (hg:(w1.alloc o2).grownBy w3 u.ownBlock):IJ Mt w F O s v ae (w3.setCell ⟨O,1,none⟩ v):=by
 obtain⟨h1,h2,h3,h4,h5⟩:=h
 have hne:∀b,b<O+1->some b≠u.ownBlock:=λb hb e=>by have:=hu b e.symm; omega
 have hQ:∀b,w.heap.size<=b->¬(b=F∨Mt b):=λb hb h=>by
  rcases h with h|h
  ·omega
  ·have:=hM b h; omega
 have hs1:=aa.size
 have hs3:=hg.size
 simp at hs3
 refine⟨(((h1.trans aa).alloc o2).grown hg (λk hk=>Ad (by have:=hu k hk; omega))).setNew (by omega) _ _,?_,?_,?_,by simp[World.setCell]; omega⟩
 ·exact(((h2.exq aa (hQ _ (by omega))).alloc o2).grown hg (hne _ (by omega))).setOther _ _ (by omega)
 ·exact(((h3.exq aa (hQ _ (by omega))).alloc o2).grown hg (hne _ (by omega))).set 1 _
 ·exact((af.alloc o2).grown hg (hne _ (by omega))).setOther _ _ (by omega)
theorem XN {Q:Nat->Prop} {wr w1 w3:World} {O:Nat} {u:Value} {L:List Tm} {xs:List Value} {o2:Obj} {s':ByteArray} {a1:Option Addr} {n1 c1 g cap:Nat} {t:Tm} (hQ:∀b,Q b->b<O) (hOr:O<wr.heap.size) (hrow:AN wr (O+1) 29 (λ_=>False) u L xs)
  (aa:Al Q wr w1) (ht:TV w1 (λb=>wr.heap.size<=b) (.agg #[.string s',.slice a1 n1 c1]) t)
  (hown:w3.ownsRow (O+1) 29 2 (.slice (some ⟨g,0,none⟩) (L.length+1) cap) (L.length+1) (xs++[.string s',.slice a1 n1 c1])) (hg:(w1.alloc o2).grownBy w3 u.ownBlock) (hat:u.ownBlock=some g∨g=(w1.alloc o2).heap.size):
  AN (w3.setCell ⟨O,1,none⟩ (.slice (some ⟨g,0,none⟩) (L.length+1) cap)) (O+1) 29 (λ_=>False) (.slice (some ⟨g,0,none⟩) (L.length+1) cap) (L++[t]) (xs++[.string s',.slice a1 n1 c1]):=by
 obtain⟨wm,ae,hsm,af⟩:=aa.mid
 have ag:=hrow.exq af (λb hb=>by have:=hQ b hb; omega) (λ_ _ h=>h)
 exact(ag.push (w1:=w1) (w2:=w1.alloc o2) (w3:=w3) (by omega) (λ_ h=>h.elim) ae (ht.mono λb h _=>Ae (by omega)) o2 rfl hown hg hat).setCell (by omega) (λh=>h) _
def Jt (E:Ev) (O:Nat) (f:Bool) (Y:Nat->Prop) (u:Value) (f':Bool) (Y':Nat->Prop) (wr:World):Prop:=
 E f' Y' wr/\(∀b,Y' b->Y b∨O+1<=b)/\(∀b,Y' b->some b≠u.ownBlock)/\(f=true->f'=true)
def XP (E:Ev) (Mt:Nat->Prop) (lk:ByteArray->Option Tm) (w:World) (F O:Nat) (s:ByteArray) (sv:Value) (l:List Tm) (n:Nat) (f:Bool) (Y:Nat->Prop) (i:Value) (wr:World):Prop:=
 ∃(k:Nat) (u:Value) (f':Bool) (Y':Nat->Prop),k<=l.length/\i=.int .i64 (k:Int)/\Jt E O f Y u f' Y' wr/\
  ((∃(m:Nat) (xs:List Value) (Mk:List Tm),Mk.length=k/\(m:Int)=(n:Int)-1-Ab Mk/\IJ Mt w F O s u #[.int .i64 (m:Int),sv] wr/\AN wr (O+1) 29 (λ_=>False) u Mk xs/\(f'=false->Mk=CY lk (l.take k)))∨
   (IJ Mt w F O s u #[.int .i64 (-1),sv] wr/\(∃a9 l9 c9,u=.slice a9 l9 c9)/\(f'=false->n<1+Ab (CY lk l))))
theorem XQ {E:Ev} {Mt:Nat->Prop} (hE:FF E Mt) {O:Nat} {f f' f1:Bool} {Y Y' Y1:Nat->Prop} {u:Value} {wr w1 w3:World} {o2:Obj} {g cap n9:Nat} {x:Value} (ah:∀b,Y b->b<O) (h:Jt E O f Y u f' Y' wr) (hu:∀k,u.ownBlock=some k->k<wr.heap.size) (hOr:O<wr.heap.size) (hsz:wr.heap.size<=w1.heap.size)
  (ae:E f1 Y1 w1) (aa:∀b,Y1 b->Y' b∨wr.heap.size<=b) (ai:f'=true->f1=true) (hg:(w1.alloc o2).grownBy w3 u.ownBlock) (hat:u.ownBlock=some g∨g=(w1.alloc o2).heap.size):
  Jt E O f Y (.slice (some ⟨g,0,none⟩) n9 cap) f1 Y1 (w3.setCell ⟨O,1,none⟩ x):=by
 obtain⟨h1,h2,h3,h4⟩:=h
 have af:=hE.inY _ _ _ ae
 have hno:∀b,Y1 b->some b≠u.ownBlock:=λb hb e=>by
  rcases aa b hb with h|h
  ·exact h3 b h e
  ·have:=hu b e.symm; omega
 have ag:∀b,Y1 b->Y b∨O+1<=b:=λb hb=>by
  rcases aa b hb with h|h
  ·exact h2 b h
  ·right; omega
 refine⟨hE.keep _ _ _ _ ae λb hb=>?_,ag,λb hb e=>?_,λh=>ai (h4 h)⟩
 ·have aj:b≠O:=λe=>by
   rcases ag b hb with h|h
   ·have:=ah b h; omega
   ·omega
  have ak:=af b hb
  rw[Aq _ _ _ _ (by simpa using aj),hg.block b (by simp; omega) (hno b hb),AP _ _ _ ak]
 ·have e2:b=g:=by simpa [Value.ownBlock] using e
  subst e2
  rcases hat with h|h
  ·exact hno b hb h.symm
  ·have:=af b hb; simp at h; omega
theorem MI {E:Ev} {Mt:Nat->Prop} (hE:FF E Mt) {w wr:World} {F O:Nat} {s:ByteArray} {u sv:Value} {tgt:Tm} {n:Nat} {f f':Bool} {Y Y':Nat->Prop} {a':Option Addr} {l' c':Nat} {m:Int} {v0 v1:Value} (hF:F<w.heap.size) (hY:∀b,Y b->b<w.heap.size) (hO:w.heap.size+2<=O)
  (h1:IJ Mt w F O s u #[.int .i64 m,sv] wr) (h2:Jt E O f Y u f' Y' wr) (hc:Hx w tgt n f' s a' l' m 2 wr):
  Gy E Mt F sv tgt n f Y w (.returned (.agg #[.string s,.slice a' l' c'])) ((wr.setCell ⟨w.heap.size+1,0,none⟩ v0).setCell ⟨w.heap.size+1,1,none⟩ v1):=
 IG hE hF hY h1.2.2.2.1 h1.1 h2.1 (λb hb=>(h2.2.1 b hb).imp id λh=>by omega) h2.2.2.2 hc
theorem XU {E:Ev} {Mt:Nat->Prop} (hE:FF E Mt) {w w':World} {F:Nat} {sv:Value} {tgt:Tm} {n:Nat} {f:Bool} {Y:Nat->Prop} {e:Ending} (h:Gy E Mt F sv tgt n f Y w e w') (o:Obj):Gy E Mt F sv tgt n f Y w e (w'.alloc o):=by
 obtain⟨s',a',l',c',m,f',Y',he,h1,h2,h3,h4,h5,h6⟩:=h
 refine⟨s',a',l',c',m,f',Y',he,h1.alloc o,h2.alloc o,hE.below h3 ((Af _ _).alloc (Aj _) o),h4,h5,?_⟩
 rcases h6 with ⟨y,e1,e2,e3,e4,e5,e6⟩|h6
 ·exact Ad ⟨y,e1,e2,e3,e4,e5.later ((Af _ _).alloc (Aj _) o),e6⟩
 ·exact Ae h6
theorem Qw {nm:ByteArray} {l:List Tm} {k:Nat} (h:k<l.length) (ho:Au nm [l[k]]):Au nm l:=by
 have:l=l.take k++(l[k]::l.drop (k+1)):=by rw[List.getElem_cons_drop,Eu]
 rw[this,Ku,BM]
 exact Ae (Ad ho)
theorem XV {E:Ev} {Mt:Nat->Prop} (hE:FF E Mt) (F S:Nat) (lk:ByteArray->Option Tm) (t:Tm):∀(n:Nat) (v:Value) (w:World) (X Y:Nat->Prop) (f:Bool),TV w X v t->(∀b,X b->b≠F/\¬Mt b)->n<=1000000->Ac w F #[.int .i64 (n:Int),sV S] 120->E f Y w->¬Y F->(∀nm,Au nm t.args->Ak nm=true->FZ E Mt S (lk nm) nm)->
  Calls Tryz.prog 102 #[.pointer (some ⟨F,0,none⟩),v,.func (.func 87) #[.pointer (some ⟨F,0,none⟩)] #[]] w λe w'=>Gy E Mt F (sV S) ⟨t.name,CY lk t.args⟩ n f Y w e w':=by
 induction t using Tm.ind with
 |h s l ih=>
  intro n v w X Y f hv aH hn hF ay aI hL
  obtain⟨a,c,rfl,hs⟩:=hv
  dsimp only
  have aj:Hid (∀b,Y b->b<w.heap.size):=hE.inY _ _ _ ay
  have a7:Hid (∀b,Mt b->b<w.heap.size):=λb hb=>aj.out b (hE.mt _ _ _ ay b hb)
  have HL:=Aa hL
  have aX:=Aa ay
  clear hL ay
  generalize aY:sV S=sv at *
  have IH:=Aa ih
  clear ih
  obtain⟨i0,aZ,hz0,hz1,hz2⟩:=CT Tryz.infoTerm
  have f0:∀o,(w.alloc o).cell? ⟨F,0,none⟩=some (.int .i64 (n:Int)):=λo=>(hF.alloc o).cell 0
  have ff:∀o,(w.alloc o).frozen? ⟨F,0,none⟩=false:=λo=>(hF.alloc o).frozen 0
  have az:F<w.heap.size:=hF.lt
  go_enter Tryz.func102,Tryz.ntmps102
  go_wp2_with fail
  have E3:Hid (IJ Mt w F (w.heap.size+1+1) s (.slice none 0 0) #[.int .i64 ((n:Int)-1),sv] ((((w.setCell ⟨F,0,none⟩ (.int .i64 ((n:Int)-1))).alloc (.cells #[.string s,.slice a l.length c] 29)).alloc (.cells #[.string ⟨#[]⟩,.slice none 0 0] 29)).alloc (.cells #[.string s,.slice none 0 0] 29))):=by
   refine⟨((((Al.refl _ w).set (Ad rfl) 0 _).alloc _).alloc _).alloc _,?_,?_,(((hF.set 0 _).alloc _).alloc _).alloc _,by simp[World.setCell]⟩
   ·have h:=(Ac.new ((w.setCell ⟨F,0,none⟩ (.int .i64 ((n:Int)-1))).alloc (.cells #[.string s,.slice a l.length c] 29)) #[.string ⟨#[]⟩,.slice none 0 0] 29).alloc (.cells #[.string s,.slice none 0 0] 29)
    simpa [World.setCell] using h
   ·have h:=Ac.new (((w.setCell ⟨F,0,none⟩ (.int .i64 ((n:Int)-1))).alloc (.cells #[.string s,.slice a l.length c] 29)).alloc (.cells #[.string ⟨#[]⟩,.slice none 0 0] 29)) #[.string s,.slice none 0 0] 29
    simpa [World.setCell] using h
  have ba:Hid (Jt E (w.heap.size+1+1) f Y (.slice none 0 0) f Y ((((w.setCell ⟨F,0,none⟩ (.int .i64 ((n:Int)-1))).alloc (.cells #[.string s,.slice a l.length c] 29)).alloc (.cells #[.string ⟨#[]⟩,.slice none 0 0] 29)).alloc (.cells #[.string s,.slice none 0 0] 29))):=by
   refine⟨hE.keep _ _ _ _ aX.out λb hb=>?_,λb hb=>Ad hb,λb _ e=>by simp[Value.ownBlock] at e,λh=>h⟩
   have h1:=aj.out b hb
   rw[AP _ _ _ (by simp[World.setCell]; omega),AP _ _ _ (by simp[World.setCell]; omega),AP _ _ _ (by simpa [World.setCell] using h1),Aq _ _ _ _ (by simp; intro e; subst e; exact aI hb)]
  generalize ((((w.setCell ⟨F,0,none⟩ (.int .i64 ((n:Int)-1))).alloc (.cells #[.string s,.slice a l.length c] 29)).alloc (.cells #[.string ⟨#[]⟩,.slice none 0 0] 29)).alloc (.cells #[.string s,.slice none 0 0] 29))=w3 at *
  generalize bb:w.heap.size+1+1=O at *
  have hO:w.heap.size+2<=O:=by omega
  clear bb
  clear f0 ff
  have HS:=Aa hs
  have hl:=hs.1
  have ak:=Aa aH
  clear hs aH
  have HQ:Hid (∀b,w.heap.size<=b->¬(b=F∨Mt b)):=λb hb h=>by
   rcases h with h|h
   ·omega
   ·have:=a7.out b h; omega
  go_loopw [23] (λi wr=>XP E Mt lk w F O s sv l n f Y i wr) (λi wr=>l.length-(intOf i).toNat)
  case atStart=>
   refine⟨0,.slice none 0 0,f,Y,AE _,rfl,ba.out,?_⟩
   by_cases bc:n=0
   ·subst bc
    exact Ae ⟨E3.out,⟨none,0,0,rfl⟩,λ_=>by omega⟩
   ·refine Ad ⟨n-1,[],[],rfl,by simp[Ab]; omega,?_,AN.start _ _ _ _,λ_=>by simp[CY]⟩
    rw[show((n-1:Nat):Int)=(n:Int)-1 by omega]
    exact E3.out
  case round=>
   obtain⟨k,u,f',Y',hk,rfl,aJ,ao⟩:=hrel
   have EV:=Aa aJ
   clear aJ
   rcases ao with ⟨m,xs,Mk,aq,hm,ae,hrow,hgd⟩|⟨ae,⟨a9,l9,c9,rfl⟩,ar⟩
   ·have XS:=Aa ae
    have XW:=Aa hrow
    have a8:=Aa hm
    have a6:=Aa hgd
    clear ae hrow hgd
    by_cases hlt:k<l.length
    ·obtain⟨b,o,a',c',rfl,d0,d1,hx⟩:=(HS.out.exq XS.out.1 (λb hb h=>by rcases h with h|h; exact(ak.out b hb).1 h; exact(ak.out b hb).2 h)).get (Af _ _) (λ_ _ h=>h) k hlt
     obtain⟨av,cv,ev,bf⟩:=hx
     simp at ev
     obtain⟨rfl,rfl⟩:=ev
     have aK:m<=1000000:=by omega
     have aA:¬(O=F∨Mt O):=HQ.out O (by omega)
     have aL:Hid (∀b,(b=F∨Mt b)->b<O):=λb h=>by
      rcases h with h|h
      ·omega
      ·have:=a7.out b h; omega
     have bx:k<=1000000:=by have h1:=Ez Mk; rw[aq] at h1; omega
     have aM:Hid (Mk.length+1<=maxLen/\(Mk.length+1)*40<=140737488355328):=by unfold Hid; rw[aq]; exact⟨by unfold maxLen; omega,by omega⟩
     have aB:¬Y' F:=λh=>by
      rcases EV.out.2.1 F h with h1|h1
      ·exact aI h1
      ·omega
     have bg:Hid (Calls Tryz.prog 87 #[.pointer (some ⟨F,0,none⟩),.agg #[.string l[k].name,.slice a' l[k].args.length c']] (wr.alloc (.cells #[.string l[k].name,.slice a' l[k].args.length c'] 29)).drew λe w''=>Gy E Mt F sv (C9 lk l[k]) m f' Y' (wr.alloc (.cells #[.string l[k].name,.slice a' l[k].args.length c'] 29)).drew e w''):=by
      have aN:Below wr.heap.size wr (wr.alloc (.cells #[.string l[k].name,.slice a' l[k].args.length c'] 29)).drew:=((Af _ _).alloc (Aj _) _).drew
      have bh:E f' Y' (wr.alloc (.cells #[.string l[k].name,.slice a' l[k].args.length c'] 29)).drew:=hE.below EV.out.1 aN
      have bj:Ac (wr.alloc (.cells #[.string l[k].name,.slice a' l[k].args.length c'] 29)).drew F #[.int .i64 (m:Int),sv] 120:=(XS.out.2.2.2.1.alloc _).drewN 1
      have bk:Sl (wr.alloc (.cells #[.string l[k].name,.slice a' l[k].args.length c'] 29)).drew X a' l[k].args:=bf.later aN
      have bl:=IH.out l[k] (AV hlt) m
      clear a8 XS XW
      subst aY
      refine Qp hE F S lk l[k] m a' c' _ X Y' f' aK ak.out aB bk bj bh (λhv=>HL.out _ (Qw hlt ?_) hv) (λw' f2 Y2 h1 h2 h3 h4=>bl _ w' X Y2 f2 ⟨a',c',rfl,h1⟩ ak.out aK h2 h3 h4 (λnm ho hv=>HL.out nm (Qw hlt ?_) hv))
      ·generalize l[k]=y
       obtain⟨n1,k1⟩:=y
       exact Dc.2 (Ad rfl)
      ·generalize l[k]=y at ho ⊢
       obtain⟨n1,k1⟩:=y
       exact Dc.2 (Ae (Ad ho))
     have f0:∀o,(wr.alloc o).cell? ⟨F,0,none⟩=some (.int .i64 (m:Int)):=λo=>(XS.out.2.2.2.1.alloc o).cell 0
     have o1:∀o,(wr.alloc o).cell? ⟨O,1,none⟩=some u:=λo=>(XS.out.2.2.1.alloc o).cell 1
     have bz:¬(m:Int)<0:=by omega
     go_wp2_with fail
     go_region_law (first
      | (go_simp; go_at_call 87; refine bg.out.mono ?_; rintro e w1 ⟨s1,a1,l1,c1,m1,f1,Y1,rfl,aO,aP,aQ,ag,au,aR⟩; have af:=(((Al.refl (λb=>b=F∨Mt b) wr).alloc (.cells #[.string l[k].name,.slice a' l[k].args.length c'] 29)).drew).trans aP; have aC:=Aa ag; have aS:=Aa au; have bm:=Aa aR; have bn:=Aa aQ; clear aP ag au aR aQ; have hc3:∀o,(w1.alloc o).cell? ⟨O,1,none⟩=some u:=λo=>((Ac.exq XS.out.2.2.1 af aA).alloc o).cell 1; have bo:w1.cell? ⟨O,1,none⟩=some u:=(Ac.exq XS.out.2.2.1 af aA).cell 1)
      | (refine step_append_lies _ rfl _ _ 27 rfl (O+1) 29 i0 _ 2 40 Tryz.underlying27 aZ hz0 hz1 hz2 rfl (by decide) u Mk.length xs rfl (by exact(AN.exq XW.out af (λb hb=>by have:=aL.out b hb; omega) (λ_ _ h=>h)).own.alloc _) ⟨w1.heap.size,0,none⟩ 1 1 [.string s1,.slice a1 l1 c1] rfl rfl (cell_two_new _ _ _ _) (λx hx=>by simp at hx; rcases hx with rfl|rfl<;>rfl) (by decide) aM.out.1 aM.out.2 (by have:=af.size; have:=XS.out.2.2.2.2; simp; omega) _ rfl ?_; intro g cap w3 ah aa ai aD; have aF:=Aa (((Ac.exq XS.out.2.2.1 af aA).alloc _).grown aa (XW.out.ne (EM _))); have bp:w3.cell? ⟨O,1,none⟩=some u:=aF.out.cell 1; have bq:=aF.out.frozen 1))
     all_goals
      have HK:=Aa (XM (v:=.slice (some ⟨g,0,none⟩) (Mk.length+1) cap) az a7.out hO XS.out (λj hj=>(XW.out.own.lt j hj).1) af aO aa)
      have aG:=Aa (XQ (n9:=Mk.length+1) (cap:=cap) (x:=.slice (some ⟨g,0,none⟩) (Mk.length+1) cap) hE (λb hb=>by have:=aj.out b hb; omega) EV.out (λj hj=>(XW.out.own.lt j hj).2) XS.out.2.2.2.2 af.size bn.out (λb hb=>(aC.out b hb).imp id λh=>by simp at h; omega) aS.out aa ai)
      have br:Hid (∀y:Tm,TV w1 (λb=>wr.heap.size<=b) (.agg #[.string s1,.slice a1 l1 c1]) y->AN (w3.setCell ⟨O,1,none⟩ (.slice (some ⟨g,0,none⟩) (Mk.length+1) cap)) (O+1) 29 (λ_=>False) (.slice (some ⟨g,0,none⟩) (Mk.length+1) cap) (Mk++[y]) (xs++[.string s1,.slice a1 l1 c1])):=λy hy=>XN aL.out XS.out.2.2.2.2 XW.out af hy ah aa ai
      clear ah aa ai hc3 bo bp bq aF aO af aD
      go_wp2_with fail
      go_roundw
      case rel=>
       have h1:=HK.out
       have h2:=br.out
       have h3:=aG.out
       have bs:=a8.out
       simp only[aq] at h1 h2 h3
       refine⟨k+1,.slice (some ⟨g,0,none⟩) (k+1) cap,f1,Y1,by omega,by go_num,h3,?_⟩
       have aT:CY lk (l.take (k+1))=CY lk (l.take k)++[C9 lk l[k]]:=by rw[Bm hlt,Qn]; simp[Kz]
       have aU:f1=false->f'=false:=λhf=>by
        cases h:f' with
        |false=>rfl
        |true=>have:=aS.out h; rw[hf] at this; cases this
       rcases bm.out with ⟨y,rfl,rfl,rfl,e4,e5,e6⟩|⟨rfl,e2⟩
       ·refine Ad ⟨m-Ab [y],xs++[.string y.name,.slice a1 y.args.length c1],Mk++[y],by simp[aq],by rw[D8]; omega,?_,h2 y ⟨a1,c1,rfl,e5.mono λb hb _=>by simp at hb; omega⟩,λhf=>by rw[aT,a6.out (aU hf),e6 hf]⟩
        rw[show((m-Ab [y]:Nat):Int)=(m:Int)-Ab [y] by omega]
        exact h1
       ·refine Ae ⟨h1,⟨_,_,_,rfl⟩,λhf=>?_⟩
        have h4:=e2 hf
        have h5:=a6.out (aU hf)
        have h6:Ab (CY lk (l.take (k+1)))=Ab Mk+Ab [C9 lk l[k]]:=by rw[aT,D8,h5]
        have h7:CY lk l=CY lk (l.take (k+1))++CY lk (l.drop (k+1)):=by rw[<-Qn,Eu]
        rw[h7,D8]
        omega
      case measure=>simp[intOf]; omega
    ·have bt:l.take k=l:=AW (by omega)
     rw[bt]at a6
     obtain⟨a9,c9,bu,aw⟩:=XW.out.sl
     subst bu
     have S9:=Aa aw
     clear aw
     have r0:=XS.out.2.1.c0
     have r1:=XS.out.2.1.c1
     have rf:=XS.out.2.1.frozen
     have o0:=XS.out.2.2.1.c0
     have o1:=XS.out.2.2.1.c1
     go_wp2_with fail
     refine Ap (v:=.agg #[.string s,.slice a9 Mk.length c9]) (by simp[results,Tryz.results102,go_sem,AU,AG,r0,r1,aq]) rfl ?_
     have bs:=a8.out
     have aV:Ab [(⟨s,Mk⟩:Tm)]=1+Ab Mk:=by simp[Ab]
     refine MI hE az aj.out hO XS.out EV.out (Ad ⟨⟨s,Mk⟩,rfl,rfl,by rw[aV]; omega,by rw[aV]; omega,S9.out.mono λb hb _=>?_,λhf=>by rw[a6.out hf]⟩)
     have hb':O+1<=b:=hb.elim False.elim id
     omega
   ·have XS:=Aa ae
    have ax:=Aa ar
    clear ae ar
    have aW:Ab [(⟨s,CY lk l⟩:Tm)]=1+Ab (CY lk l):=by simp[Ab]
    have f0:∀o,(wr.alloc o).cell? ⟨F,0,none⟩=some (.int .i64 (-1)):=λo=>(XS.out.2.2.2.1.alloc o).cell 0
    by_cases hlt:k<l.length
    ·obtain⟨b,o,a',c',rfl,d0,d1,hx⟩:=(HS.out.exq XS.out.1 (λb hb h=>by rcases h with h|h; exact(ak.out b hb).1 h; exact(ak.out b hb).2 h)).get (Af _ _) (λ_ _ h=>h) k hlt
     clear hx
     have o0:∀o,(wr.alloc o).cell? ⟨O,0,none⟩=some (.string s):=λo=>(XS.out.2.2.1.alloc o).cell 0
     have o1:∀o,(wr.alloc o).cell? ⟨O,1,none⟩=some (.slice a9 l9 c9):=λo=>(XS.out.2.2.1.alloc o).cell 1
     have r0:=XS.out.2.1.c0
     have r1:=XS.out.2.1.c1
     have rf:=XS.out.2.1.frozen
     have bw:w.heap.size+1<wr.heap.size:=XS.out.2.1.lt
     go_wp2_with fail
     refine Ap (v:=.agg #[.string s,.slice a9 l9 c9]) (by simp[results,Tryz.results102,go_sem,AU,AG,r0,r1,bw,Gc]) rfl ?_
     exact XU hE (MI hE az aj.out hO XS.out EV.out (Ae ⟨rfl,λhf=>by rw[aW]; exact ax.out hf⟩)) _
    ·have r0:=XS.out.2.1.c0
     have r1:=XS.out.2.1.c1
     have rf:=XS.out.2.1.frozen
     have o0:=XS.out.2.2.1.c0
     have o1:=XS.out.2.2.1.c1
     go_wp2_with fail
     refine Ap (v:=.agg #[.string s,.slice a9 l9 c9]) (by simp[results,Tryz.results102,go_sem,AU,AG,r0,r1]) rfl ?_
     exact MI hE az aj.out hO XS.out EV.out (Ae ⟨rfl,λhf=>by rw[aW]; exact ax.out hf⟩)
theorem XX {E:Ev} {Mt:Nat->Prop} (hE:FF E Mt) (F S:Nat) (lk:ByteArray->Option Tm) (t:Tm) (n:Nat) (a:Option Addr) (c:Nat) (w:World) (X Y:Nat->Prop) (f:Bool) (hn:n<=1000000) (aa:∀b,X b->b≠F/\¬Mt b) (ae:¬Y F) (hs:Sl w X a t.args) (hF:Ac w F #[.int .i64 (n:Int),sV S] 120) (af:E f Y w)
  (hL:∀nm,Au nm [t]->Ak nm=true->FZ E Mt S (lk nm) nm):
  Calls Tryz.prog 87 #[.pointer (some ⟨F,0,none⟩),.agg #[.string t.name,.slice a t.args.length c]] w λe w'=>Gy E Mt F (sV S) (C9 lk t) n f Y w e w':=
 Qp hE F S lk t n a c w X Y f hn aa ae hs hF af (λhv=>hL _ (by obtain⟨s,l⟩:=t; exact Dc.2 (Ad rfl)) hv)
  (λw' f' Y' h1 h2 h3 h4=>XV hE F S lk t n _ w' X Y' f' ⟨a,c,rfl,h1⟩ aa hn h2 h3 h4 (λnm ho hv=>hL nm (by obtain⟨s,l⟩:=t; exact Dc.2 (Ae (Ad ho))) hv))
def Qx (E:Ev) (Mt:Nat->Prop) (tgt:Tm) (n:Nat) (f:Bool) (Y:Nat->Prop) (w:World) (e:Ending) (w':World):Prop:=
 ∃(s':ByteArray) (a':Option Addr) (l' c':Nat) (ok:Bool) (f':Bool) (Y':Nat->Prop),e=.returned (.tuple #[.agg #[.string s',.slice a' l' c'],.bool ok])/\E f' Y' w'/\(∀b,Y' b->Y b∨w.heap.size<=b)/\(f=true->f'=true)/\Al Mt w w'/\
  ((ok=true/\∃y:Tm,s'=y.name/\l'=y.args.length/\Ab [y]<=n/\Sl w' (λb=>w.heap.size<=b) a' y.args/\(f'=false->y=tgt))∨(ok=false/\s'=⟨#[]⟩/\a'=none/\l'=0/\c'=0/\(f'=false->n<Ab [tgt])))
theorem XY {E:Ev} {Mt:Nat->Prop} (hE:FF E Mt) (S:Nat) (lk:ByteArray->Option Tm) (t:Tm) (n:Nat) (a:Option Addr) (c:Nat) (w:World) (X Y:Nat->Prop) (f:Bool) (hn:n<=1000000) (aq:∀b,X b->¬Mt b) (hs:Sl w X a t.args) (ah:E f Y w)
  (hL:∀nm,Au nm [t]->Ak nm=true->FZ E Mt S (lk nm) nm):
  Calls Tryz.prog 64 #[.agg #[.string t.name,.slice a t.args.length c],.int .i64 (n:Int),sV S] w λe w'=>Qx E Mt (C9 lk t) n f Y w e w':=by
 have aF:=@hmq Tryz.prog
 have HS:=Aa (hs.mono (Y:=λb=>X b/\b<w.heap.size) λb h1 h2=>⟨h1,h2⟩)
 have HE:=Aa ah
 have HL:=Aa hL
 have aB:=Aa aq
 have aj:Hid (∀b,Y b->b<w.heap.size):=hE.inY _ _ _ ah
 have aC:Hid (∀b,Mt b->b<w.heap.size):=λb hb=>aj.out b (hE.mt _ _ _ ah b hb)
 clear hs ah hL aq
 have ar:Hid (sV S=.func (.func 137) #[.pointer (some ⟨S,0,none⟩)] #[]):=rfl
 rw[ar.out]
 go_enter Tryz.func64,Tryz.ntmps64
 go_wp2_with fail
 rw[<-ar.out]
 have ak:Hid (Below w.heap.size w (((w.alloc (.cells #[.string t.name,.slice a t.args.length c] 29)).alloc (.cells #[.string ⟨#[]⟩,.slice none 0 0] 29)).alloc (.cells #[.int .i64 (n:Int),sV S] 120))):=((((Af w.heap.size w).alloc (Aj _) _).alloc (by simp) _).alloc (by simp; omega) _)
 have F3:Hid (Ac (((w.alloc (.cells #[.string t.name,.slice a t.args.length c] 29)).alloc (.cells #[.string ⟨#[]⟩,.slice none 0 0] 29)).alloc (.cells #[.int .i64 (n:Int),sV S] 120)) (w.heap.size+1+1) #[.int .i64 (n:Int),sV S] 120):=by
  have h:=Ac.new ((w.alloc (.cells #[.string t.name,.slice a t.args.length c] 29)).alloc (.cells #[.string ⟨#[]⟩,.slice none 0 0] 29)) #[.int .i64 (n:Int),sV S] 120
  unfold Hid
  simpa using h
 have R3:Hid (Ac (((w.alloc (.cells #[.string t.name,.slice a t.args.length c] 29)).alloc (.cells #[.string ⟨#[]⟩,.slice none 0 0] 29)).alloc (.cells #[.int .i64 (n:Int),sV S] 120)) (w.heap.size+1) #[.string ⟨#[]⟩,.slice none 0 0] 29):=by
  have h:=(Ac.new (w.alloc (.cells #[.string t.name,.slice a t.args.length c] 29)) #[.string ⟨#[]⟩,.slice none 0 0] 29).alloc (.cells #[.int .i64 (n:Int),sV S] 120)
  unfold Hid
  simpa using h
 have z3:(((w.alloc (.cells #[.string t.name,.slice a t.args.length c] 29)).alloc (.cells #[.string ⟨#[]⟩,.slice none 0 0] 29)).alloc (.cells #[.int .i64 (n:Int),sV S] 120)).heap.size=w.heap.size+3:=by simp
 generalize (((w.alloc (.cells #[.string t.name,.slice a t.args.length c] 29)).alloc (.cells #[.string ⟨#[]⟩,.slice none 0 0] 29)).alloc (.cells #[.int .i64 (n:Int),sV S] 120))=w3 at *
 refine(XX hE (w.heap.size+1+1) S lk t n a c w3 (λb=>X b/\b<w.heap.size) Y f hn (λb hb=>⟨by have:=hb.2; omega,aB.out b hb.1⟩) (λh=>by have:=aj.out _ h; omega) (HS.out.later ak.out) F3.out (hE.below HE.out ak.out) HL.out).mono ?_
 rintro e w9 ⟨s',a',l',c',m,f',Y',rfl,au,ai,av,aa,af,aw⟩
 have ax:=Aa au
 have R9:=Aa (R3.out.exq ai (λh=>by rcases h with h|h; omega; have:=aC.out _ h; omega))
 have aG:=ai.size
 have ay:Hid (Al Mt w w9):=(Al.ofBelow ak.out).transN ai (λi hi hl=>by rcases hi with h|h; omega; exact h)
 have az:=Aa av
 have ag:Hid (∀b,Y' b->Y b∨w.heap.size+3<=b):=λb hb=>(aa b hb).imp id λh=>by omega
 have a6:=Aa af
 have HC:=Aa aw
 clear au ai av aa af aw
 have r0:=R9.out.c0
 have r1:=R9.out.c1
 have rf:=R9.out.frozen
 have a7:w.heap.size+1<w9.heap.size:=R9.out.lt
 have a8:Hid (∀v0 v1 o,E f' Y' (((w9.setCell ⟨w.heap.size+1,0,none⟩ v0).setCell ⟨w.heap.size+1,1,none⟩ v1).alloc o)):=λv0 v1 o=>hE.keep _ _ _ _ az.out λb hb=>by
  have hne:b≠w.heap.size+1:=λe=>by
   rcases ag.out b hb with h|h
   ·have:=aj.out b h; omega
   ·omega
  have hl:=hE.inY _ _ _ az.out b hb
  rw[AP _ _ _ (by simpa [World.setCell] using hl),Aq _ _ _ _ (by simpa using hne),Aq _ _ _ _ (by simpa using hne)]
 have ae:Hid (∀b,Y' b->Y b∨w.heap.size<=b):=λb hb=>(ag.out b hb).imp id λh=>by omega
 rcases HC.out with ⟨y,rfl,rfl,rfl,hle,aA,hgd⟩|⟨rfl,hgd⟩
 ·have aD:=Aa aA
  have ao:=Aa hgd
  clear aA hgd
  have f0:∀o,(w9.alloc o).cell? ⟨w.heap.size+1+1,0,none⟩=some (.int .i64 ((n:Int)-Ab [y])):=λo=>(ax.out.alloc o).cell 0
  have hlt:¬((n:Int)-Ab [y])<0:=by omega
  go_wp2_with fail
  refine Ap (v:=.tuple #[.agg #[.string y.name,.slice a' y.args.length c'],.bool true]) (by simp[results,Tryz.results64,go_sem,AU,AG,r0,r1,a7,Gc]) rfl ?_
  refine⟨y.name,a',y.args.length,c',true,f',Y',rfl,a8.out _ _ _,ae.out,a6.out,((ay.out.setNew (by omega) _ _).setNew (by omega) _ _).alloc _,Ad ⟨rfl,y,rfl,rfl,hle,((aD.out.kept λb hb=>?_).later ((Af _ _).alloc (Aj _) _)).mono λb hb _=>by omega,ao.out⟩⟩
  rw[Aq _ _ _ _ (by simp; omega),Aq _ _ _ _ (by simp; omega)]
 ·have ao:=Aa hgd
  clear hgd
  have f0:∀o,(w9.alloc o).cell? ⟨w.heap.size+1+1,0,none⟩=some (.int .i64 (-1)):=λo=>(ax.out.alloc o).cell 0
  go_wp2_with fail
  refine Ap (v:=.tuple #[.agg #[.string ⟨#[]⟩,.slice none 0 0],.bool false]) (by simp[results,Tryz.results64,go_sem,AU,AG,r0,r1,a7,Gc]) rfl ?_
  exact⟨⟨#[]⟩,none,0,0,false,f',Y',rfl,a8.out _ _ _,ae.out,a6.out,((ay.out.setNew (by omega) _ _).setNew (by omega) _ _).alloc _,Ae ⟨rfl,rfl,rfl,rfl,rfl,ao.out⟩⟩
def MJ (S q:Nat) (td:Value) (h:List (ByteArray×Tm)) (tgt:Tm) (f:Bool) (Y:Nat->Prop) (w:World) (e:Ending) (w':World):Prop:=
 ∃(y:Tm) (a':Option Addr) (c':Nat) (ok:Bool) (f':Bool) (Y':Nat->Prop),e=.returned (.tuple #[.agg #[.string y.name,.slice a' y.args.length c'],.bool ok])/\Cd S q td h f' Y' w'/\(∀b,Y' b->Y b∨w.heap.size<=b)/\(f=true->f'=true)/\Al (Ce S q) w w'/\Sl w' (λb=>w.heap.size<=b) a' y.args/\
  (ok=true->f'=false/\y=tgt/\Ab [y]<=2000)/\(ok=false->f'=true∨2000<Ab [tgt])
theorem MK {S q:Nat} {td:Value} {h:List (ByteArray×Tm)} {f f':Bool} {Y Y':Nat->Prop} {w w1:World} {o:Obj} {y tgt:Tm} {a':Option Addr} {c':Nat} {ok:Bool} {v0 v1:Value} (hE:Cd S q td h f' Y' w1) (hY:∀b,Y b->b<w.heap.size) (aa:∀b,Y' b->Y b∨w.heap.size+2<=b) (ae:f=true->f'=true) (hx:Al (Ce S q) w w1) (hs:Sl w1 (λb=>w.heap.size+2<=b) a' y.args)
  (h1:ok=true->f'=false/\y=tgt/\Ab [y]<=2000) (h2:ok=false->f'=true∨2000<Ab [tgt]):
  MJ S q td h tgt f Y w (.returned (.tuple #[.agg #[.string y.name,.slice a' y.args.length c'],.bool ok])) (((w1.alloc o).setCell ⟨w.heap.size+1,0,none⟩ v0).setCell ⟨w.heap.size+1,1,none⟩ v1).drew:=by
 have hk:∀b,b<w1.heap.size->b≠w.heap.size+1->((((w1.alloc o).setCell ⟨w.heap.size+1,0,none⟩ v0).setCell ⟨w.heap.size+1,1,none⟩ v1).drew).heap[b]? = w1.heap[b]? := λb hb hn=>by
  show(((w1.alloc o).setCell ⟨w.heap.size+1,0,none⟩ v0).setCell ⟨w.heap.size+1,1,none⟩ v1).heap[b]? = _
  rw[Aq _ _ _ _ (by simpa using hn),Aq _ _ _ _ (by simpa using hn),AP _ _ _ hb]
 refine⟨y,a',c',ok,f',Y',rfl,(Dd S q td h).keep _ _ _ _ hE λb hb=>hk b (hE.2.2.2.1 b hb) λe=>?_,λb hb=>(aa b hb).imp id λh=>by omega,ae,(((hx.alloc o).setNew (by omega) _ _).setNew (by omega) _ _).drew,((hs.mono (Y:=λb=>w.heap.size+2<=b/\b<w1.heap.size) λb h1 h2=>⟨h1,h2⟩).kept λb hb=>hk b hb.2 (by omega)).mono λb hb _=>by omega,h1,h2⟩
 rcases aa b hb with h|h
 ·have:=hY b h; omega
 ·omega
theorem Qy (S q:Nat) (td:Value) (h:List (ByteArray×Tm)) (t:Tm) (a:Option Addr) (c:Nat) (w:World) (X Y:Nat->Prop) (f:Bool) (ak:∀b,X b->¬Ce S q b) (hs:Sl w X a t.args) (af:Cd S q td h f Y w)
  (hL:∀nm,Au nm [t]->Ak nm=true->FZ (Cd S q td h) (Ce S q) S (Ar (Ai h) nm) nm):
  Calls Tryz.prog 123 #[.pointer (some ⟨S,0,none⟩),.agg #[.string t.name,.slice a t.args.length c]] w λe w'=>MJ S q td h (C9 (Ar (Ai h)) t) f Y w e w':=by
 have az:=@hmq Tryz.prog
 have HS:=Aa hs
 have HE:=Aa af
 have HL:=Aa hL
 have ax:=Aa ak
 have a6:S<w.heap.size:=af.2.2.2.1 S af.2.1
 clear hs af hL ak
 have ag:Hid (∀b,Y b->b<w.heap.size):=HE.out.2.2.2.1
 have ay:Hid (∀b,Ce S q b->b<w.heap.size):=λb hb=>ag.out b ((Dd S q td h).mt _ _ _ HE.out b hb)
 have FA:Hid (∀w',Below w.heap.size w w'->Calls Tryz.prog 64 #[.agg #[.string t.name,.slice a t.args.length c],.int .i64 2000,.func (.func 137) #[.pointer (some ⟨S,0,none⟩)] #[]] w' λe w''=>Qx (Cd S q td h) (Ce S q) (C9 (Ar (Ai h)) t) 2000 f Y w' e w''):=λw' hb=>
  XY (Dd S q td h) S (Ar (Ai h)) t 2000 a c w' X Y f (by omega) ax.out (HS.out.later hb) ((Dd S q td h).below HE.out hb) HL.out
 have ao:Hid (Below w.heap.size w ((w.alloc (.cells #[.string t.name,.slice a t.args.length c] 29)).alloc (.cells #[.string ⟨#[]⟩,.slice none 0 0] 29))):=CO _ _
 have R2:Hid (Ac ((w.alloc (.cells #[.string t.name,.slice a t.args.length c] 29)).alloc (.cells #[.string ⟨#[]⟩,.slice none 0 0] 29)) (w.heap.size+1) #[.string ⟨#[]⟩,.slice none 0 0] 29):=by
  have h:=Ac.new (w.alloc (.cells #[.string t.name,.slice a t.args.length c] 29)) #[.string ⟨#[]⟩,.slice none 0 0] 29
  unfold Hid
  simpa using h
 have z2:((w.alloc (.cells #[.string t.name,.slice a t.args.length c] 29)).alloc (.cells #[.string ⟨#[]⟩,.slice none 0 0] 29)).heap.size=w.heap.size+2:=by simp
 go_enter Tryz.func123,Tryz.ntmps123
 go_wp2_with fail
 generalize ((w.alloc (.cells #[.string t.name,.slice a t.args.length c] 29)).alloc (.cells #[.string ⟨#[]⟩,.slice none 0 0] 29))=w2 at *
 refine(FA.out _ ao.out).mono ?_
 rintro e w1 ⟨s',a',l',c',ok,f',Y',rfl,aq,ae,ar,hx,hc⟩
 have ai:=Aa aq
 have aa:Hid (∀b,Y' b->Y b∨w.heap.size+2<=b):=λb hb=>(ae b hb).imp id λh=>by omega
 have au:=Aa ar
 have HX:Hid (Al (Ce S q) w w1):=(Al.ofBelow ao.out).trans hx
 have R1:=Aa (R2.out.exq hx (λh=>by have:=ay.out _ h; omega))
 have a7:Hid (w.heap.size+2<=w1.heap.size):=by have:=hx.size; unfold Hid; omega
 have HC:=Aa hc
 obtain⟨⟨L,av,_,_⟩,_⟩:=aq
 have b2:∀o,(w1.alloc o).cell? ⟨S,2,none⟩=some (.bool f'):=λo=>(av.alloc o).cell 2
 have r0:∀o,(w1.alloc o).cell? ⟨w.heap.size+1,0,none⟩=some (.string ⟨#[]⟩):=λo=>(R1.out.alloc o).cell 0
 have r1:∀o,(w1.alloc o).cell? ⟨w.heap.size+1,1,none⟩=some (.slice none 0 0):=λo=>(R1.out.alloc o).cell 1
 have rf:=R1.out.frozen
 clear av ae ar hx hc FA
 go_wp2_with fail
 have p0:∀o,(w1.alloc o).frozen? ⟨w.heap.size+1,0,none⟩=false:=λo=>(R1.out.alloc o).frozen 0
 have p1:∀o,(w1.alloc o).frozen? ⟨w.heap.size+1,1,none⟩=false:=λo=>(R1.out.alloc o).frozen 1
 rcases HC.out with ⟨rfl,y,rfl,rfl,hz,aw,hgd⟩|⟨rfl,rfl,rfl,rfl,rfl,hgd⟩
 ·have ah:Hid (Sl w1 (λb=>w.heap.size+2<=b) a' y.args):=aw.mono λb hb _=>by omega
  have aj:=Aa hgd
  have HZ:=Aa hz
  clear aw hgd hz
  cases f' with
  |true=>
   go_region
   all_goals
    go_wp2_with fail
    refine Ap (v:=.tuple #[.agg #[.string y.name,.slice a' y.args.length c'],.bool false]) (by simp[results,Tryz.results123,go_sem,AU,AG,r0,r1]) rfl ?_
    exact MK ai.out ag.out aa.out (λ_=>rfl) HX.out ah.out (λh=>by cases h) (λ_=>Ad rfl)
  |false=>
   go_region
   all_goals
    go_wp2_with fail
    refine Ap (v:=.tuple #[.agg #[.string y.name,.slice a' y.args.length c'],.bool true]) (by simp[results,Tryz.results123,go_sem,AU,AG,r0,r1]) rfl ?_
    exact MK ai.out ag.out aa.out au.out HX.out ah.out (λ_=>⟨rfl,aj.out trivial,HZ.out⟩) (λh=>by cases h)
 ·have aj:=Aa hgd
  clear hgd
  have ah:Hid (Sl w1 (λb=>w.heap.size+2<=b) none (⟨⟨#[]⟩,[]⟩:Tm).args):=⟨by simp,Ad rfl⟩
  go_region
  all_goals
   go_wp2_with fail
   refine Ap (v:=.tuple #[.agg #[.string (⟨⟨#[]⟩,[]⟩:Tm).name,.slice none (⟨⟨#[]⟩,[]⟩:Tm).args.length 0],.bool false]) (by simp[results,Tryz.results123,go_sem,AU,AG,r0,r1]) rfl ?_
   exact MK ai.out ag.out aa.out au.out HX.out ah.out (λh=>by cases h) (λ_=>by
    cases hf:f' with
    |true=>exact Ad rfl
    |false=>exact Ae (aj.out hf))
theorem Qz {w:World} {Y:Nat->Prop} {h:List (ByteArray×Tm)} {i:Nat} {hi:i<h.length} {v:Value} (e:Hy w Y h i hi v):∃(T:Tm) (j:Nat) (a:Option Addr) (c:Nat),T=stood h i (max j (i+1)) hi/\j<=h.length/\v=.agg #[.string T.name,.slice a T.args.length c,.int .i64 (j:Int)]/\Sl w Y a T.args:=by
 obtain⟨j,a,c,h1,h2,h3⟩:=e
 exact⟨_,j,a,c,rfl,h1,h2,h3⟩
theorem Ju {P:Program} {w:World} {T kt et:TypeId} {r:Nat} {L:List (ByteArray×Value)} (hm:P.underlying T=some (.map kt et)) (h:Bl w r L) (ty:TypeId):(Builtin.len_ #[T] ty #[.map (some r)]).run P w=.ok (.int .i64 (L.length:Int)) w:=by
 obtain⟨es,aa,hb,he,_⟩:=h
 have hl:es.size=L.length:=by have:=Bu List.length he; simpa using this
 simp[Builtin.len_,FM hm,Hg hb,goInt,Result.andThen,hl]
theorem QA (S q:Nat) (td:Value) (h:List (ByteArray×Tm)) (g:BO h) (nm:ByteArray) (hn:∀i (hi:i<h.length),h[i].1≠nm):FZ (Cd S q td h) (Ce S q) S (Ar (Ai h) nm) nm:=by
 intro f Y w hE
 have HE:=Aa hE
 obtain⟨⟨L,hB,hM,aa⟩,af,ag,hY,hg⟩:=hE
 have hz:∀w',(zeroValue 176).run Tryz.prog w'=.ok (.agg #[.string ⟨#[]⟩,.slice none 0 0,.int .i64 0]) w':=λw'=>Tryz.zeroValue176 w'
 have ae:=hM.lt
 have ah:=hB.lt
 have HF:=Aa (XK g hn)
 have b1:∀o,(w.alloc o).cell? ⟨S,1,none⟩=some (.map (some q)):=λo=>(hB.alloc o).cell 1
 have ai:∀o,(Instr.lookup 133 (.map (some q)) (.string nm) true).run Tryz.prog (w.alloc o)=.ok (.tuple #[.agg #[.string ⟨#[]⟩,.slice none 0 0,.int .i64 0],.bool false]) (w.alloc o):=λo=>by
  rw[ET (P:=Tryz.prog) Tryz.underlying133 Tryz.underlying9 (hz _) (hM.kept (AP _ _ _ ae)) nm,aa.none hn]; rfl
 have HB:=Aa hB
 clear hB hM aa hg
 go_enter Tryz.func137,Tryz.ntmps137
 go_wp2_with fail
 go_region
 all_goals go_wp2_with fail
 all_goals
  refine Ap (v:=.tuple #[.agg #[.string ⟨#[]⟩,.slice none 0 0],.bool false]) (by simp[results,Tryz.results137,go_sem]) rfl ?_
  exact⟨⟨#[]⟩,none,0,0,false,f,Y,rfl,(Dd S q td h).below HE.out (((Af _ _).alloc (Aj _) _).alloc (by simp) _).drew,λb hb=>Ad hb,λh=>h,(((Al.refl _ _).alloc _).alloc _).drew,Ae ⟨rfl,λ_=>HF.out⟩⟩
theorem XZ {S q:Nat} {td:Value} {h:List (ByteArray×Tm)} (g:BO h) {i:Nat} (hi:i<h.length) {f':Bool} {Y' Z:Nat->Prop} {w1 WS:World} (hE:Cd S q td h f' Y' w1) (hk:∀b,Y' b->WS.heap[b]? = w1.heap[b]?) {a':Option Addr} {c':Nat} {y:Tm} (hy:y=stood h i h.length hi) (hZ:∀b,Z b->b<WS.heap.size/\b≠S/\b≠q) (hs:Sl WS Z a' y.args) {nm:ByteArray} (ae:h[i].1=nm):
  ∃w5,(Instr.mapUpdate 133 (.map (some q)) (.string nm) (.agg #[.string y.name,.slice a' y.args.length c',.int .i64 (h.length:Int)])).run Tryz.prog WS=.ok () w5/\Cd S q td h f' (λb=>Y' b∨Z b) w5/\w5.heap.size=WS.heap.size/\w5.os=WS.os/\w5.tape=WS.tape/\w5.output=WS.output/\∀b,b≠q->w5.heap[b]? = WS.heap[b]? := by
 have af:=(Dd S q td h).keep _ _ _ _ hE hk
 obtain⟨⟨L,e1,e2,e3⟩,e4,e5,e6,e7⟩:=af
 obtain⟨v0,hv0,_⟩:=e3.get g hi
 have ag:S≠q:=λe=>by
  obtain⟨es,ah,h1,_⟩:=e2
  subst e
  unfold Ac at e1
  rw[h1]at e1; cases e1
 obtain⟨w5,h1,h2,h3,h4,h5,h6,h7⟩:=U1 (P:=Tryz.prog) Tryz.underlying133 Tryz.underlying9 e2 h[i].1 (.agg #[.string y.name,.slice a' y.args.length c',.int .i64 (h.length:Int)]) v0 hv0
 refine⟨w5,by rw[<-ae]; exact h1,⟨⟨_,?_,h2,?_⟩,Ad e4,Ad e5,λb hb=>?_,e7⟩,h3,h4,h5,h6,h7⟩
 ·unfold Ac at *; rw[h7 S ag]; exact e1
 ·have kp:∀(X:Nat->Prop) a l,(∀b,X b->(Y' b∨Z b)/\b≠S/\b≠q)->Sl WS X a l->Sl w5 (λb=>(Y' b∨Z b)/\b≠S/\b≠q) a l:=λX a l hX aa=>(aa.kept λb hb=>h7 b (hX b hb).2.2).mono λb hb _=>hX b hb
  refine(e3.imp λa l aa=>kp _ a l (λb hb=>⟨Ad hb.1,hb.2⟩) aa).set g hi ⟨h.length,a',c',Aj _,?_,?_⟩
  ·rw[Nat.max_eq_left (by omega),<-hy]
  ·rw[Nat.max_eq_left (by omega),<-hy]
   exact kp _ _ _ (λb hb=>⟨Ae hb,(hZ b hb).2⟩) hs
 ·rw[h3]
  rcases hb with hb|hb
  ·exact e6 b hb
  ·exact(hZ b hb).1
theorem X2 {S q:Nat} {td:Value} {h:List (ByteArray×Tm)} {f':Bool} {Y' Z:Nat->Prop} {w1 WS:World} (hE:Cd S q td h f' Y' w1) (hk:∀b,Y' b->WS.heap[b]? = w1.heap[b]?) (hg:AD (Ai h)=true) (hZ:∀b,Z b->b<WS.heap.size/\b≠S/\b≠q):Cd S q td h true (λb=>Y' b∨Z b) (WS.setCell ⟨S,2,none⟩ (.bool true)):=by
 have aa:=(Dd S q td h).keep _ _ _ _ hE hk
 obtain⟨⟨L,e1,e2,e3⟩,e4,e5,e6,e7⟩:=aa
 have ae:S≠q:=λe=>by
  obtain⟨es,ag,h1,_⟩:=e2
  subst e
  unfold Ac at e1
  rw[h1]at e1; cases e1
 have hk2:∀b,b≠S->(WS.setCell ⟨S,2,none⟩ (.bool true)).heap[b]? = WS.heap[b]? := λb hb=>Aq _ _ _ _ (by simpa using hb)
 refine⟨⟨L,?_,e2.kept (hk2 q (D6 ae)),e3.imp λa l af=>(af.kept λb hb=>hk2 b hb.2.1).mono λb hb _=>⟨Ad hb.1,hb.2⟩⟩,Ad e4,Ad e5,λb hb=>?_,λ_=>hg⟩
 ·have:=e1.set 2 (.bool true)
  simpa using this
 ·have hz:(WS.setCell ⟨S,2,none⟩ (.bool true)).heap.size=WS.heap.size:=by simp[World.setCell]
  rw[hz]
  rcases hb with hb|hb
  ·exact e6 b hb
  ·exact(hZ b hb).1
theorem X4 (S q:Nat) (td:Value) (h:List (ByteArray×Tm)) (g:BO h) (hN:F1 h) (i:Nat) (hi:i<h.length)
  (aw:∀k (hk:k<h.length),i<k->FZ (Cd S q td h) (Ce S q) S (Ar (Ai h) h[k].1) h[k].1):FZ (Cd S q td h) (Ce S q) S (Ar (Ai h) h[i].1) h[i].1:=by
 intro f Y w hE
 have HE:=Aa hE
 obtain⟨⟨L,hB,hM,aq⟩,bk,bl,hY,hg⟩:=hE
 obtain⟨v,ar,hst⟩:=aq.get g hi
 obtain⟨T,j,a,c,hT,hj,rfl,aI⟩:=Qz hst
 have HST:=Aa aq
 have ax:=Aa aI
 have aU:=Aa ar
 have aV:=Aa hM
 have HG:=Aa hg
 have HY:=Aa hY
 have hz:∀w',(zeroValue 176).run Tryz.prog w'=.ok (.agg #[.string ⟨#[]⟩,.slice none 0 0,.int .i64 0]) w':=λw'=>Tryz.zeroValue176 w'
 have ay:=hM.lt
 have aW:=hB.lt
 have hF:=II g hi
 obtain⟨nm,az⟩:∃nm,h[i].1=nm:=⟨_,rfl⟩
 rw[az]at ar hF aU ⊢
 have HF:=Aa hF
 clear hF
 have aX:=Aa az
 have HT:=Aa hT
 have bm:S≠q:=λe=>by
  obtain⟨es,bn,h1,_⟩:=hM
  subst e
  unfold Ac at hB
  rw[h1]at hB; cases hB
 have HB:=Aa hB
 have b1:∀o o',((w.alloc o).alloc o').cell? ⟨S,1,none⟩=some (.map (some q)):=λo o'=>((hB.alloc o).alloc o').cell 1
 have bo:∀o,(w.alloc o).cell? ⟨S,1,none⟩=some (.map (some q)):=λo=>(hB.alloc o).cell 1
 have b2:∀o o',((w.alloc o).alloc o').cell? ⟨S,2,none⟩=some (.bool f):=λo o'=>((hB.alloc o).alloc o').cell 2
 have bp:∀o,(Instr.lookup 133 (.map (some q)) (.string nm) true).run Tryz.prog (w.alloc o)=.ok (.tuple #[.agg #[.string T.name,.slice a T.args.length c,.int .i64 (j:Int)],.bool true]) (w.alloc o):=λo=>by
  rw[ET (P:=Tryz.prog) Tryz.underlying133 Tryz.underlying9 (hz _) (hM.kept (AP _ _ _ ay)) nm,ar]; rfl
 have aY:Hid (L.length=h.length):=aq.1
 have hlen:∀o o',Sem.run Tryz.prog (Builtin.len_ #[133] 3 #[.map (some q)]) ((w.alloc o).alloc o').drew=.ok (.int .i64 (h.length:Int)) ((w.alloc o).alloc o').drew:=λo o'=>by
  have h1:Bl ((w.alloc o).alloc o').drew q L:=aV.out.below ((((Af w.heap.size w).alloc (Aj _) o).alloc (by simp) o').drew) ay
  rw[Ju Tryz.underlying133 h1,aY.out]
 clear hB aq hg hY aI ar hst az hT hM
 cases f with
 |true=>
  go_enter Tryz.func137,Tryz.ntmps137
  go_wp2_with fail
  go_region
  all_goals go_wp2_with fail
  all_goals
   refine Ap (v:=.tuple #[.agg #[.string T.name,.slice a T.args.length c],.bool true]) (by simp[results,Tryz.results137,go_sem]) rfl ?_
   exact⟨T.name,a,T.args.length,c,true,true,Y,rfl,(Dd S q td h).below HE.out (((Af _ _).alloc (Aj _) _).alloc (by simp) _).drew,λb hb=>Ad hb,λh=>h,(((Al.refl _ _).alloc _).alloc _).drew,Ad ⟨rfl,T,rfl,rfl,(ax.out.later (((Af _ _).alloc (Aj _) _).alloc (by simp) _).drew).mono λb hb _=>hb.1,λh=>by cases h⟩⟩
 |false=>
  by_cases ag:j=h.length
  ·have HJ:=Aa ag
   have aZ:Hid (Ar (Ai h) nm=some T):=by
    unfold Hid
    rw[HF.out,HT.out,ag,Nat.max_eq_left (by omega)]
   have ba:((j:Int)==(h.length:Int))=true:=by rw[ag]; simp
   clear ag
   go_enter Tryz.func137,Tryz.ntmps137
   go_wp2_with fail
   go_region
   all_goals go_wp2_with fail
   all_goals
    refine Ap (v:=.tuple #[.agg #[.string T.name,.slice a T.args.length c],.bool true]) (by simp[results,Tryz.results137,go_sem]) rfl ?_
    exact⟨T.name,a,T.args.length,c,true,false,Y,rfl,(Dd S q td h).below HE.out (((Af _ _).alloc (Aj _) _).alloc (by simp) _).drew,λb hb=>Ad hb,λh=>h,(((Al.refl _ _).alloc _).alloc _).drew,Ad ⟨rfl,T,rfl,rfl,(ax.out.later (((Af _ _).alloc (Aj _) _).alloc (by simp) _).drew).mono λb hb _=>hb.1,λ_=>aZ.out⟩⟩
  ·have HJ:=Aa ag
   have ba:((j:Int)==(h.length:Int))=false:=DL.2 (by omega)
   clear ag
   go_enter Tryz.func137,Tryz.ntmps137
   go_wp2_with fail
   go_region
   go_wp2_with fail
   have a6:Hid (Below w.heap.size w ((w.alloc (.cells #[.string ⟨#[]⟩,.slice none 0 0] 29)).alloc (.cells #[.string T.name,.slice a T.args.length c,.int .i64 (h.length:Int)] 176)).drew):=(((Af _ _).alloc (Aj _) _).alloc (by simp) _).drew
   have R0:Hid (Ac ((w.alloc (.cells #[.string ⟨#[]⟩,.slice none 0 0] 29)).alloc (.cells #[.string T.name,.slice a T.args.length c,.int .i64 (h.length:Int)] 176)).drew w.heap.size #[.string ⟨#[]⟩,.slice none 0 0] 29):=((Ac.new w _ _).alloc _).drewN 1
   have X0:Hid (Ac ((w.alloc (.cells #[.string ⟨#[]⟩,.slice none 0 0] 29)).alloc (.cells #[.string T.name,.slice a T.args.length c,.int .i64 (h.length:Int)] 176)).drew (w.heap.size+1) #[.string T.name,.slice a T.args.length c,.int .i64 (h.length:Int)] 176):=by
    have h1:=Ac.new (w.alloc (.cells #[.string ⟨#[]⟩,.slice none 0 0] 29)) #[.string T.name,.slice a T.args.length c,.int .i64 (h.length:Int)] 176
    rw[CN]at h1
    exact h1
   have z0:((w.alloc (.cells #[.string ⟨#[]⟩,.slice none 0 0] 29)).alloc (.cells #[.string T.name,.slice a T.args.length c,.int .i64 (h.length:Int)] 176)).drew.heap.size=w.heap.size+2:=by simp
   generalize ((w.alloc (.cells #[.string ⟨#[]⟩,.slice none 0 0] 29)).alloc (.cells #[.string T.name,.slice a T.args.length c,.int .i64 (h.length:Int)] 176)).drew=w0 at *
   have bb:Hid (C9 (Ar (Ai h)) T=stood h i h.length hi):=by
    unfold Hid
    rw[HT.out]
    exact XL g hN hi (Nat.max_le.2 ⟨hj,hi⟩)
   have SF:=Qy S q td h T a c w0 (λb=>Y b/\b≠S/\b≠q) Y false (λb hb hm=>by rcases hm with h|h; exact hb.2.1 h; exact hb.2.2 h) (ax.out.later a6.out) ((Dd S q td h).below HE.out a6.out) (λn2 ho hv=>by
    by_cases aJ:∃k,∃hk:k<h.length,h[k].1=n2
    ·obtain⟨k,hk,rfl⟩:=aJ
     rw[HT.out]at ho
     have h1:=XC g hi (Nat.max_le.2 ⟨hj,hi⟩) (hN i hi) hk ho
     exact aw k hk (by omega)
    ·exact QA S q td h g n2 λk hk e=>aJ ⟨k,hk,e⟩)
   rw[bb.out]at SF
   refine SF.mono ?_
   clear SF
   rintro e w1 ⟨y,a',c',ok,f',Y',rfl,aK,ai,bc,hx,hs1,aL,hk2⟩
   have aM:Hid (Al (Ce S q) w w1):=(Al.ofBelow a6.out).trans hx
   have a7:∀b,Ce S q b->b<w.heap.size:=λb hb=>by rcases hb with rfl|rfl; exact aW; exact ay
   have R1:=Aa (R0.out.exq hx (λh=>by have:=a7 _ h; omega))
   have X1:=Aa (X0.out.exq hx (λh=>by have:=a7 _ h; omega))
   have bq:Hid (w.heap.size+2<=w1.heap.size):=by have:=hx.size; unfold Hid; omega
   have ae:Hid (∀b,Y' b->Y b∨w.heap.size+2<=b):=λb hb=>(ai b hb).imp id λh=>by omega
   have a8:Hid (Sl w1 (λb=>w.heap.size+2<=b/\b<w1.heap.size) a' y.args):=hs1.mono λb hb h2=>⟨by omega,h2⟩
   have aj:=Aa aK
   have au:Hid (∀b,Y' b->b≠w.heap.size/\b≠w.heap.size+1):=λb hb=>by
    rcases ae.out b hb with h1|h1
    ·have:=HY.out b h1; omega
    ·omega
   have x0:=X1.out.c0
   have x1:=X1.out.c1
   have x2:=X1.out.c2
   have xf:=X1.out.frozen
   have aN:=Aa aL
   have aA:=Aa hk2
   clear ai hx hs1 aL hk2 aK bc a7
   cases ok with
   |true=>
    obtain⟨rfl,aO,bf⟩:=aN.out rfl
    have aP:=Aa aO
    clear aO bf aN aA
    have aa:∀b,b≠w.heap.size+1->((w1.setCell ⟨w.heap.size+1,0,none⟩ (.string y.name)).setCell ⟨w.heap.size+1,1,none⟩ (.slice a' y.args.length c')).drew.heap[b]? = w1.heap[b]? := λb hb=>by
     show((w1.setCell ⟨w.heap.size+1,0,none⟩ (.string y.name)).setCell ⟨w.heap.size+1,1,none⟩ (.slice a' y.args.length c')).heap[b]? = _
     rw[Aq _ _ _ _ (by simpa using hb),Aq _ _ _ _ (by simpa using hb)]
    have ah:((w1.setCell ⟨w.heap.size+1,0,none⟩ (.string y.name)).setCell ⟨w.heap.size+1,1,none⟩ (.slice a' y.args.length c')).drew.heap.size=w1.heap.size:=by simp[World.setCell]
    obtain⟨w5,hput,aQ,aB,aR,aS,aT,ak⟩:=XZ (WS:=((w1.setCell ⟨w.heap.size+1,0,none⟩ (.string y.name)).setCell ⟨w.heap.size+1,1,none⟩ (.slice a' y.args.length c')).drew) (Z:=λb=>w.heap.size+2<=b/\b<w1.heap.size) (c':=c') g hi aj.out (λb hb=>aa b (au.out b hb).2) aP.out (λb hb=>⟨by rw[ah]; exact hb.2,by omega,by omega⟩) (a8.out.kept λb hb=>aa b (by omega)) aX.out
    have aC:=Aa aQ
    have XS:Hid (Ac w5 (w.heap.size+1) #[.string y.name,.slice a' y.args.length c',.int .i64 (h.length:Int)] 176):=by
     have h1:=(X1.out.set 0 (.string y.name)).set 1 (.slice a' y.args.length c')
     unfold Hid Ac
     rw[ak _ (by omega)]
     show((w1.setCell ⟨w.heap.size+1,0,none⟩ (.string y.name)).setCell ⟨w.heap.size+1,1,none⟩ (.slice a' y.args.length c')).heap[w.heap.size+1]? = _
     unfold Ac at h1
     rw[h1]
     simp
    have RS:Hid (Ac w5 w.heap.size #[.string ⟨#[]⟩,.slice none 0 0] 29):=by
     unfold Hid Ac
     rw[ak _ (by omega),aa _ (by omega)]
     exact R1.out
    have aD:Hid (Al (Ce S q) w w5):=by
     have h1:=((aM.out.setNew (b:=w.heap.size+1) (by omega) 0 (.string y.name)).setNew (b:=w.heap.size+1) (by omega) 1 (.slice a' y.args.length c')).drew
     exact⟨aR.trans h1.os,aS.trans h1.tape,aT.trans h1.output,by rw[aB]; exact h1.size,λb hb hn=>(ak b (λe=>hn (Ae e))).trans (h1.block b hb hn)⟩
    have s1:((w1.setCell ⟨w.heap.size+1,0,none⟩ (.string y.name)).setCell ⟨w.heap.size+1,1,none⟩ (.slice a' y.args.length c')).cell? ⟨S,1,none⟩=some (.map (some q)):=by
     obtain⟨⟨L1,av,_⟩,_⟩:=aj.out
     exact((av.setOther _ _ (by omega)).setOther _ _ (by omega)).cell 1
    have y0:((w1.setCell ⟨w.heap.size+1,0,none⟩ (.string y.name)).setCell ⟨w.heap.size+1,1,none⟩ (.slice a' y.args.length c')).cell? ⟨w.heap.size+1,0,none⟩=some (.string y.name):=by
     have:=((X1.out.set 0 (.string y.name)).set 1 (.slice a' y.args.length c')).cell 0
     simpa using this
    have y1:((w1.setCell ⟨w.heap.size+1,0,none⟩ (.string y.name)).setCell ⟨w.heap.size+1,1,none⟩ (.slice a' y.args.length c')).cell? ⟨w.heap.size+1,1,none⟩=some (.slice a' y.args.length c'):=by
     have:=((X1.out.set 0 (.string y.name)).set 1 (.slice a' y.args.length c')).cell 1
     simpa using this
    have y2:((w1.setCell ⟨w.heap.size+1,0,none⟩ (.string y.name)).setCell ⟨w.heap.size+1,1,none⟩ (.slice a' y.args.length c')).cell? ⟨w.heap.size+1,2,none⟩=some (.int .i64 (h.length:Int)):=by
     have:=((X1.out.set 0 (.string y.name)).set 1 (.slice a' y.args.length c')).cell 2
     simpa using this
    have q0:=XS.out.c0
    have q1:=XS.out.c1
    have r0:=RS.out.c0
    have r1:=RS.out.c1
    have rf:=RS.out.frozen
    have br:Hid (w5.heap.size=w1.heap.size):=by unfold Hid; rw[aB,ah]
    have aF:Hid (Sl w5 (λb=>w.heap.size+2<=b/\b<w1.heap.size) a' y.args):=(a8.out.kept λb hb=>aa b (by omega)).kept λb hb=>ak b (by omega)
    clear aQ aB aR aS aT ak ah aa
    go_wp2_with fail
    go_region
    all_goals go_wp2_with fail
    all_goals
     refine Ap (v:=.tuple #[.agg #[.string y.name,.slice a' y.args.length c'],.bool true]) (by simp[results,Tryz.results137,go_sem,AU,AG,r0,r1]) rfl ?_
     have ao:∀b,b≠w.heap.size->((w5.setCell ⟨w.heap.size,0,none⟩ (.string y.name)).setCell ⟨w.heap.size,1,none⟩ (.slice a' y.args.length c')).heap[b]? = w5.heap[b]? := λb hb=>by
      rw[Aq _ _ _ _ (by simpa using hb),Aq _ _ _ _ (by simpa using hb)]
     refine⟨y.name,a',y.args.length,c',true,false,_,rfl,(Dd S q td h).keep _ _ _ _ aC.out (λb hb=>ao b ?_),λb hb=>?_,λh=>h,(aD.out.setNew (by omega) _ _).setNew (by omega) _ _,Ad ⟨rfl,y,rfl,rfl,(aF.out.kept λb hb=>ao b (by omega)).mono λb hb _=>Ae hb,λ_=>by rw[HF.out,aP.out]⟩⟩
     ·rcases hb with hb|hb
      ·exact(au.out b hb).1
      ·omega
     ·rcases hb with hb|hb
      ·exact(ae.out b hb).imp id λh=>by omega
      ·right; omega
   |false=>
    have bg:Hid (AD (Ai h)=true):=by
     rcases aA.out rfl with h1|h1
     ·exact aj.out.2.2.2.2 h1
     ·exact Qv g hi h1
    have aa:∀b,b≠w.heap.size+1->((w1.setCell ⟨w.heap.size+1,0,none⟩ (.string y.name)).setCell ⟨w.heap.size+1,1,none⟩ (.slice a' y.args.length c')).heap[b]? = w1.heap[b]? := λb hb=>by
     rw[Aq _ _ _ _ (by simpa using hb),Aq _ _ _ _ (by simpa using hb)]
    have ah:((w1.setCell ⟨w.heap.size+1,0,none⟩ (.string y.name)).setCell ⟨w.heap.size+1,1,none⟩ (.slice a' y.args.length c')).heap.size=w1.heap.size:=by simp[World.setCell]
    have aC:=Aa (X2 (WS:=((w1.setCell ⟨w.heap.size+1,0,none⟩ (.string y.name)).setCell ⟨w.heap.size+1,1,none⟩ (.slice a' y.args.length c'))) (Z:=λb=>w.heap.size+2<=b/\b<w1.heap.size) aj.out (λb hb=>aa b (au.out b hb).2) bg.out (λb hb=>⟨by rw[ah]; exact hb.2,by omega,by omega⟩))
    obtain⟨⟨L1,av,bh,aG⟩,aH,af⟩:=aj.out
    have BS:=Aa ((av.setOther (b':=w.heap.size+1) 0 (.string y.name) (by omega)).setOther (b':=w.heap.size+1) 1 (.slice a' y.args.length c') (by omega))
    have XS:=Aa ((X1.out.set 0 (.string y.name)).set 1 (.slice a' y.args.length c'))
    have RS:=Aa ((R1.out.setOther (b':=w.heap.size+1) 0 (.string y.name) (by omega)).setOther (b':=w.heap.size+1) 1 (.slice a' y.args.length c') (by omega))
    have aD:=Aa ((aM.out.setNew (b:=w.heap.size+1) (by omega) 0 (.string y.name)).setNew (b:=w.heap.size+1) (by omega) 1 (.slice a' y.args.length c'))
    have aF:Hid (Sl ((w1.setCell ⟨w.heap.size+1,0,none⟩ (.string y.name)).setCell ⟨w.heap.size+1,1,none⟩ (.slice a' y.args.length c')) (λb=>w.heap.size+2<=b/\b<w1.heap.size) a' y.args):=a8.out.kept λb hb=>aa b (by omega)
    have s2:((w1.setCell ⟨w.heap.size+1,0,none⟩ (.string y.name)).setCell ⟨w.heap.size+1,1,none⟩ (.slice a' y.args.length c')).cell? ⟨S,2,none⟩=some (.bool f'):=BS.out.cell 2
    have sf:=BS.out.frozen 2
    have y0:(((w1.setCell ⟨w.heap.size+1,0,none⟩ (.string y.name)).setCell ⟨w.heap.size+1,1,none⟩ (.slice a' y.args.length c')).setCell ⟨S,2,none⟩ (.bool true)).cell? ⟨w.heap.size+1,0,none⟩=some (.string y.name):=by
     have:=(XS.out.setOther (b':=S) 2 (.bool true) (by omega)).cell 0
     simpa using this
    have y1:(((w1.setCell ⟨w.heap.size+1,0,none⟩ (.string y.name)).setCell ⟨w.heap.size+1,1,none⟩ (.slice a' y.args.length c')).setCell ⟨S,2,none⟩ (.bool true)).cell? ⟨w.heap.size+1,1,none⟩=some (.slice a' y.args.length c'):=by
     have:=(XS.out.setOther (b':=S) 2 (.bool true) (by omega)).cell 1
     simpa using this
    have r0:(((w1.setCell ⟨w.heap.size+1,0,none⟩ (.string y.name)).setCell ⟨w.heap.size+1,1,none⟩ (.slice a' y.args.length c')).setCell ⟨S,2,none⟩ (.bool true)).cell? ⟨w.heap.size,0,none⟩=some (.string ⟨#[]⟩):=(RS.out.setOther (b':=S) 2 (.bool true) (by omega)).cell 0
    have r1:(((w1.setCell ⟨w.heap.size+1,0,none⟩ (.string y.name)).setCell ⟨w.heap.size+1,1,none⟩ (.slice a' y.args.length c')).setCell ⟨S,2,none⟩ (.bool true)).cell? ⟨w.heap.size,1,none⟩=some (.slice none 0 0):=(RS.out.setOther (b':=S) 2 (.bool true) (by omega)).cell 1
    have rf:=R1.out.frozen
    have bs:w.heap.size+1≠S:=by omega
    have bj:w.heap.size≠S:=by omega
    clear av bh aG aH af aA aa ah
    go_wp2_with fail
    refine Ap (v:=.tuple #[.agg #[.string y.name,.slice a' y.args.length c'],.bool true]) (by simp[results,Tryz.results137,go_sem,AU,AG,r0,r1]) rfl ?_
    have ao:∀b,b≠w.heap.size->(((((w1.setCell ⟨w.heap.size+1,0,none⟩ (.string y.name)).setCell ⟨w.heap.size+1,1,none⟩ (.slice a' y.args.length c')).setCell ⟨S,2,none⟩ (.bool true)).setCell ⟨w.heap.size,0,none⟩ (.string y.name)).setCell ⟨w.heap.size,1,none⟩ (.slice a' y.args.length c')).heap[b]? = (((w1.setCell ⟨w.heap.size+1,0,none⟩ (.string y.name)).setCell ⟨w.heap.size+1,1,none⟩ (.slice a' y.args.length c')).setCell ⟨S,2,none⟩ (.bool true)).heap[b]? := λb hb=>by
     rw[Aq _ _ _ _ (by simpa using hb),Aq _ _ _ _ (by simpa using hb)]
    refine⟨y.name,a',y.args.length,c',true,true,_,rfl,(Dd S q td h).keep _ _ _ _ aC.out (λb hb=>ao b ?_),λb hb=>?_,λh=>rfl,((aD.out.set (Ad rfl) _ _).setNew (by omega) _ _).setNew (by omega) _ _,Ad ⟨rfl,y,rfl,rfl,((aF.out.kept λb hb=>Aq _ _ _ _ (by simp; omega)).kept λb hb=>ao b (by omega)).mono λb hb _=>Ae hb,λh=>by cases h⟩⟩
    ·rcases hb with hb|hb
     ·exact(au.out b hb).1
     ·omega
    ·rcases hb with hb|hb
     ·exact(ae.out b hb).imp id λh=>by omega
     ·right; omega
theorem QC (S q:Nat) (td:Value) (h:List (ByteArray×Tm)) (g:BO h) (hN:F1 h):∀(d i:Nat) (hi:i<h.length),h.length-i<=d->FZ (Cd S q td h) (Ce S q) S (Ar (Ai h) h[i].1) h[i].1
 |0,i,hi,hd=>by omega
 |d+1,i,hi,hd=>X4 S q td h g hN i hi λk hk hik=>QC S q td h g hN d k hk (by omega)
theorem X5 (S q:Nat) (td:Value) (h:List (ByteArray×Tm)) (g:BO h) (hN:F1 h) (nm:ByteArray):FZ (Cd S q td h) (Ce S q) S (Ar (Ai h) nm) nm:=by
 by_cases aa:∃k,∃hk:k<h.length,h[k].1=nm
 ·obtain⟨k,hk,rfl⟩:=aa
  exact QC S q td h g hN _ k hk (Aj _)
 ·exact QA S q td h g nm λk hk e=>aa ⟨k,hk,e⟩
theorem ML (S q:Nat) (td:Value) (h:List (ByteArray×Tm)) (g:BO h) (hN:F1 h) (t:Tm) (he:Ah [t]=0) (a:Option Addr) (c:Nat) (w:World) (X Y:Nat->Prop) (f:Bool) (aa:∀b,X b->¬Ce S q b) (hs:Sl w X a t.args) (ae:Cd S q td h f Y w):
  Calls Tryz.prog 123 #[.pointer (some ⟨S,0,none⟩),.agg #[.string t.name,.slice a t.args.length c]] w λe w'=>MJ S q td h (Ag (Ai h) t) f Y w e w':=by
 have h1:=Qy S q td h t a c w X Y f aa hs ae λnm _ _=>X5 S q td h g hN nm
 rw[Qq g.all.vars he]at h1
 exact h1
theorem QE {α:Type}:∀(l V:List α),l.Nodup->(∀x∈l,x∈V)->l.length<=V.length
 | [],V,_,_=>by simp
 |a::l,V,h,hs=>by
  classical
  obtain⟨h1,h2⟩:=List.nodup_cons.1 h
  have ih:=QE l (V.filter λx=>decide (x≠a)) h2 λx hx=>List.mem_filter.2 ⟨hs x (by simp[hx]),by simp; rintro rfl; exact h1 hx⟩
  have hlt:=MF (p:=λ_=>true) (q:=λx=>decide (x≠a)) V (λ_ _ _=>rfl) ⟨a,hs a (by simp),rfl,by simp⟩
  have e:V.filter (λ_=>true)=V:=List.filter_eq_self.2 (by simp)
  rw[e]at hlt
  simp only[Bs]
  omega
structure UI (V:List ByteArray) (h:List (ByteArray×Tm)) (l:List Pr):Prop where
 good:BO h
 names:F1 h
 inV:∀i (hi:i<h.length),h[i].1∈V
 err:Ah (Aw l)=0
 vars:∀y,Ak y=true->Au y (Am (Ai h) (Aw l))->y∈V
 size:∀p∈l,Ab [p.l]<=2000/\Ab [p.r]<=2000
 len:∃l1 l2,l=l1++l2/\(∀p∈l1,Ag (Ai h) p.l=p.l/\Ag (Ai h) p.r=p.r)/\Ab (l1.map (·.l))<=2000/\l2.length<=40+2000*h.length
theorem UI.hlen {V:List ByteArray} {h:List (ByteArray×Tm)} {l:List Pr} (u:UI V h l):h.length<=V.length:=by
 have h1:=QE (h.map (·.1)) V ?_ ?_
 ·simpa using h1
 ·rw[Nz,FP,JU]
  intro i j hi hj aa e
  have:=u.good.once hi hj e
  omega
 ·intro x hx
  obtain⟨p,hp,rfl⟩:=Cj.1 hx
  obtain⟨i,hi,rfl⟩:=Hb hp
  exact u.inV i hi
theorem MM:∀l:List Pr,l.length<=Ab (l.map (·.l))
 | []=>by simp
 |p::l=>by
  have:=MM l
  rw[BP,EG]
  have:=J5 p.l
  simp only[Bs]
  omega
theorem UI.llen {V:List ByteArray} {h:List (ByteArray×Tm)} {l:List Pr} (u:UI V h l):l.length<=2040+2000*V.length:=by
 obtain⟨l1,l2,rfl,_,h2,h3⟩:=u.len
 have h4:=MM l1
 have h5:=u.hlen
 rw[Dm]
 have:2000*h.length<=2000*V.length:=Nat.mul_le_mul_left _ h5
 omega
theorem UI.start {l:List Pr} (he:Ah (Aw l)=0) (hs:∀p∈l,Ab [p.l]<=2000/\Ab [p.r]<=2000) (hl:l.length<=40):UI ((Ao (Am [] (Aw l))).map (·.name)) [] l:=
 ⟨Xz,λi hi=>by simp at hi,λi hi=>by simp at hi,he,λy _ ho=>by obtain⟨k,hk,e⟩:=ho; exact Cj.2 ⟨k,hk,e⟩,hs,[],l,rfl,by simp,by simp[Ab],by simpa using hl⟩
theorem UI.drop {V:List ByteArray} {h:List (ByteArray×Tm)} {p:Pr} {l:List Pr} (u:UI V h (p::l)):UI V h l:=by
 obtain⟨g1,g2,g3,g4,g5,g6,l1,l2,e,g7,g8,g9⟩:=u
 rw[Aw]at g4 g5
 refine⟨g1,g2,g3,(Cp.1 (Cp.1 g4).2).2,λy hy ho=>g5 y hy ?_,λq hq=>g6 q (by simp[hq]),?_⟩
 ·rw[Ba,Ba]
  exact BM.2 (Ae (BM.2 (Ae ho)))
 ·cases l1 with
  |nil=>
   cases l2 with
   |nil=>cases e
   |cons q l2=>
    simp only[DY,Gd] at e
    obtain⟨rfl,rfl⟩:=e
    simp only[Bs] at g9
    exact⟨[],l,rfl,by simp,by simp[Ab],by omega⟩
  |cons q l1=>
   simp only[Cf,Gd] at e
   obtain⟨rfl,rfl⟩:=e
   rw[BP,EG]at g8
   exact⟨l1,l2,rfl,λq hq=>g7 q (by simp[hq]),by omega,g9⟩
theorem UI.head {V:List ByteArray} {h:List (ByteArray×Tm)} {p:Pr} {l:List Pr} (u:UI V h (p::l)):Ah [p.l]=0/\Ah [p.r]=0:=by
 have g:=u.err
 rw[Aw]at g
 exact⟨(Cp.1 g).1,(Cp.1 (Cp.1 g).2).1⟩
theorem G0 (u:Tm):Au u.name [u]:=by obtain⟨n,k⟩:=u; exact Dc.2 (Ad rfl)
theorem F2 {u:Tm} {y:ByteArray} (h:Au y u.args):Au y [u]:=by obtain⟨n,k⟩:=u; exact Dc.2 (Ae (Ad h))
theorem Fm {u:Tm} (h:Ah [u]=0):Ah u.args=0:=by obtain⟨n,k⟩:=u; exact(Gt h).2.1
theorem IK (u:Tm):Ab [u]=1+Ab u.args:=by obtain⟨n,k⟩:=u; simp[Ab]
theorem QF {u:Tm} (h:Ah [u]=0):Be u.name=true:=by obtain⟨n,k⟩:=u; exact Jo h
theorem UI.bindV {V:List ByteArray} {h:List (ByteArray×Tm)} {p:Pr} {l:List Pr} (u:UI V h (p::l)) {x:ByteArray} {t:Tm} (hx:Ak x=true) (aa:(x=(Ag (Ai h) p.l).name/\t=Ag (Ai h) p.r)∨(x=(Ag (Ai h) p.r).name/\t=Ag (Ai h) p.l)) (ho:¬AF x (At [] (Ao [t]))=true):
  FD (Ai h) x t/\UI V (h++[(x,t)]) l:=by
 have ok:=u.good.all
 obtain⟨e1,e2⟩:=u.head
 have ea:=Ed ok e1
 have eb:=Ed ok e2
 have ga:=ok.goneT e1
 have gb:=ok.goneT e2
 have hV:=u.vars
 rw[Aw,Ba,Ba]at hV
 have e3:Ah (Aw l)=0:=u.drop.err
 have both:(∀d∈Ai h,d.nm≠x)/\Ah [t]=0/\(∀e∈Ai h,¬Au e.nm [t])/\Be x=true/\x∈V/\(∀y,Au y [t]->Au y (Ag (Ai h) p.l::Ag (Ai h) p.r::Am (Ai h) (Aw l))):=by
  rcases aa with ⟨rfl,rfl⟩|⟨rfl,rfl⟩
  ·exact⟨λd hd e=>ga d hd (by rw[e]; exact G0 _),eb,gb,QF ea,hV _ hx (BM.2 (Ad (G0 _))),λy hy=>BM.2 (Ae (BM.2 (Ad hy)))⟩
  ·exact⟨λd hd e=>gb d hd (by rw[e]; exact G0 _),ea,ga,QF eb,hV _ hx (BM.2 (Ae (BM.2 (Ad (G0 _))))),λy hy=>BM.2 (Ad hy)⟩
 obtain⟨b1,b2,b3,b4,b5,b6⟩:=both
 have hoc:=IE hx ho
 have may:FD (Ai h) x t:=⟨hx,b1,b2,b3,hoc⟩
 obtain⟨f1,f2,f3⟩:=Kw (L:=Aw l) ok hx b1 b2 b3 hoc e3
 refine⟨may,u.good.snoc may,λi hi=>?_,λi hi=>?_,e3,λy hy hoc=>?_,u.drop.size,[],l,rfl,by simp,by simp[Ab],?_⟩
 ·by_cases e:i<h.length
  ·rw[JT e]; exact u.names i e
  ·have:i=h.length:=by simp at hi; omega
   subst this
   simpa using b4
 ·by_cases e:i<h.length
  ·rw[JT e]; exact u.inV i e
  ·have:i=h.length:=by simp at hi; omega
   subst this
   simpa using b5
 ·rw[Fl]at hoc
  rcases f2 y hy hoc with h1|h1
  ·exact hV y hy (BM.2 (Ae (BM.2 (Ae h1))))
  ·exact hV y hy (b6 y h1)
 ·obtain⟨l1,l2,e,g7,g8,g9⟩:=u.len
  have h4:=MM l1
  have h5:l.length+1=l1.length+l2.length:=by rw[<-Dm,<-e]; simp
  simp only[Dm,Bs,EN]
  omega
theorem KE:∀ {a b:List Tm} {p:Pr},p∈Ax a b->p.l∈a/\p.r∈b
 | [],_,p,h=>by simp[Ax] at h
 |_::_,[],p,h=>by simp[Ax] at h
 |t::a,u::b,p,h=>by
  rw[Ax]at h
  rcases BE.1 h with rfl|h
  ·exact⟨by simp,by simp⟩
  ·have:=KE h
   exact⟨by simp[this.1],by simp[this.2]⟩
theorem MN:∀ {a b:List Tm},a.length=b.length->(Ax a b).map (·.l)=a
 | [],[],_=>rfl
 | [],_::_,h=>by simp at h
 |_::_,[],h=>by simp at h
 |t::a,u::b,h=>by rw[Ax,BP,MN (by simpa using h)]
theorem QG {l:List Tm} {t:Tm} (h:t∈l):Ab [t]<=Ab l:=by
 induction l with
 |nil=>cases h
 |cons a r ih=>
  have hc:=EG a r
  rcases BE.1 h with rfl|h
  ·omega
  ·have:=ih h; omega
theorem Jv {s:List Bd} {t:Tm} (h:∀e∈s,¬Au e.nm [t]):Ag s t=t:=by
 have h1:=GX [t] h
 rw[Ba]at h1
 simpa [Am] using h1
theorem QH {y:ByteArray} {l:List Tm} {t:Tm} (h:t∈l) (ho:Au y [t]):Au y l:=by
 induction l with
 |nil=>cases h
 |cons a r ih=>
  rcases BE.1 h with rfl|h
  ·exact BM.2 (Ad ho)
  ·exact BM.2 (Ae (ih h))
theorem UI.deep {V:List ByteArray} {h:List (ByteArray×Tm)} {p:Pr} {l:List Pr} (u:UI V h (p::l)) (ha:Ab [Ag (Ai h) p.l]<=2000) (hb:Ab [Ag (Ai h) p.r]<=2000) (hl:(Ag (Ai h) p.l).args.length=(Ag (Ai h) p.r).args.length):
  UI V h (Ax (Ag (Ai h) p.l).args (Ag (Ai h) p.r).args++l)/\∀q∈Ax (Ag (Ai h) p.l).args (Ag (Ai h) p.r).args,Ag (Ai h) q.l=q.l/\Ag (Ai h) q.r=q.r:=by
 have ok:=u.good.all
 obtain⟨e1,e2⟩:=u.head
 have ea:=Ed ok e1
 have eb:=Ed ok e2
 have ga:=ok.goneT e1
 have gb:=ok.goneT e2
 have hV:=u.vars
 rw[Aw,Ba,Ba]at hV
 have aa:∀q∈Ax (Ag (Ai h) p.l).args (Ag (Ai h) p.r).args,Ag (Ai h) q.l=q.l/\Ag (Ai h) q.r=q.r:=λq hq=>by
  obtain⟨m1,m2⟩:=KE hq
  exact⟨Jv λe he ho=>ga e he (F2 (QH m1 ho)),Jv λe he ho=>gb e he (F2 (QH m2 ho))⟩
 have sa:=IK (Ag (Ai h) p.l)
 have sb:=IK (Ag (Ai h) p.r)
 refine⟨⟨u.good,u.names,u.inV,?_,λy hy ho=>?_,λq hq=>?_,?_⟩,aa⟩
 ·rw[FX]
  exact GY.2 ⟨Hv (Fm ea) (Fm eb),u.drop.err⟩
 ·rw[FX,Hk]at ho
  rcases Ku.1 ho with ho|ho
  ·rw[GX]at ho
   ·rcases Hu ho with ho|ho
    ·exact hV y hy (BM.2 (Ad (F2 ho)))
    ·exact hV y hy (BM.2 (Ae (BM.2 (Ad (F2 ho)))))
   ·intro e he hoc
    rcases Hu hoc with hoc|hoc
    ·exact ga e he (F2 hoc)
    ·exact gb e he (F2 hoc)
  ·exact hV y hy (BM.2 (Ae (BM.2 (Ae ho))))
 ·rcases Bg.1 hq with hq|hq
  ·obtain⟨m1,m2⟩:=KE hq
   have:=QG m1
   have:=QG m2
   omega
  ·exact u.size q (by simp[hq])
 ·obtain⟨l1,l2,e,g7,g8,g9⟩:=u.len
  cases l1 with
  |nil=>
   cases l2 with
   |nil=>cases e
   |cons q l2=>
    simp only[DY,Gd] at e
    obtain⟨rfl,rfl⟩:=e
    simp only[Bs] at g9
    exact⟨_,l,rfl,aa,by rw[MN hl]; omega,by omega⟩
  |cons q l1=>
   simp only[Cf,Gd] at e
   obtain⟨rfl,rfl⟩:=e
   rw[BP,EG]at g8
   have hp:=(g7 p (by simp)).1
   refine⟨Ax (Ag (Ai h) p.l).args (Ag (Ai h) p.r).args++l1,l2,by rw[Gb],λq hq=>?_,?_,g9⟩
   ·rcases Bg.1 hq with hq|hq
    ·exact aa q hq
    ·exact g7 q (by simp[hq])
   ·rw[Cr,D8,MN hl]
    rw[hp]at sa ⊢
    omega
def MO:Prop:=∀(q:Nat) (L:List (ByteArray×Value)) (w:World),Bl w q L->(L.map (·.1)).Pairwise (·≠·)->(∀p∈L,p.1.size<=8)->L.length<=1000000->
 (Calls Tryz.prog 122 #[.map (some q)] w λe w'=>e=.returned (.func (.func 136) #[] #[.pointer (some ⟨w.heap.size,0,none⟩)])/\w'=w.alloc (.cells #[.map (some q)] 133))/\
 (Calls Tryz.prog 121 #[.func (.func 136) #[] #[.pointer (some ⟨w.heap.size,0,none⟩)]] (w.alloc (.cells #[.map (some q)] 133)) λe w'=>∃(v:Value) (nl:List ByteArray),e=.returned v/\nl.Perm (L.map (·.1))/\(nl.Pairwise λa b=>Cs b a=false)/\LV Value.string w' (λb=>w.heap.size+1<=b) v nl/\Below (w.heap.size+1) (w.alloc (.cells #[.map (some q)] 133)) w')
theorem X8 (a b c:Value) (w:World):Sem.run Tryz.prog (Instr.field 176 (.agg #[a,b,c]) 0) w=.ok (.agg #[a,b]) w:=by
 rfl
theorem Ya {w w1:World} {N:Nat} {Y:Nat->Prop} {v:Value} {cs:List Bc} (h:Bh w N Y v cs) (hN:N<=w.heap.size) (hY:∀b,Y b->b<N) (hb:Below w.heap.size w w1) (x:Bc) (ht:Sl w1 (λb=>Y b∨w.heap.size<=b) x.2.1 x.1.t.args) (hn:cs.length<=1000000) (A:Nat) (hA:w1.heap.size=A):
  ∃v2 w3,(Builtin.append_ #[57,57] 57 #[v,.slice (some ⟨A,0,none⟩) 1 1]).run Tryz.prog (w1.alloc (.cells #[.string x.1.nm,.string x.1.t.name,.slice x.2.1 x.1.t.args.length x.2.2] 76))=.ok v2 w3/\Bh w3 N Y v2 (cs++[x])/\
   (w1.alloc (.cells #[.string x.1.nm,.string x.1.t.name,.slice x.2.1 x.1.t.args.length x.2.2] 76)).grownBy w3 v.ownBlock/\∀k,v2.ownBlock=some k->v.ownBlock=some k∨w1.heap.size<=k:=by
 subst hA
 obtain⟨i0,hi,hz0,hz1,hz2⟩:=CT Tryz.infoBind
 have hs:=hb.size
 obtain⟨g,cap,w3,hr,ho,hg,hat,hlt⟩:=run_append_lies (P:=Tryz.prog) (w:=w1.alloc (.cells #[.string x.1.nm,.string x.1.t.name,.slice x.2.1 x.1.t.args.length x.2.2] 76)) 57 57 N 76 i0 _ 3 56 Tryz.underlying57 hi hz0 hz1 hz2 rfl (by decide) v cs.length (C6 cs) ((h.below hb).own.alloc _)
  ⟨w1.heap.size,0,none⟩ 1 1 (Di x) rfl (Iu _ _ _ _ _) (λy hy=>by simp[Di] at hy; rcases hy with rfl|rfl|rfl<;>rfl) (by decide) (by unfold maxLen; omega) (by omega) (by simp; omega) _ rfl
 refine⟨_,w3,hr,h.push hN hY hb ht _ rfl ho hg hat,hg,λk hk=>?_⟩
 have e:g=k:=by simpa [Value.ownBlock] using hk
 rcases hat with h1|h1
 ·exact Ad (by rw[h1,e])
 ·right; simp at h1; omega
def Gz (s:List Bd) (n:ByteArray):Bd:=⟨n,(Ar s n).getD ⟨n,[]⟩⟩
def Yb (S q:Nat) (td:Value) (h:List (ByteArray×Tm)) (nl:List ByteArray) (Y:Nat->Prop) (w2:World) (u i:Value) (wr:World):Prop:=
 ∃(k:Nat) (f':Bool) (Y':Nat->Prop) (cs:List Bc),k<=nl.length/\i=.int .i64 (k:Int)/\Bh wr w2.heap.size (λ_=>False) u cs/\cs.map (·.1)=(nl.take k).map (Gz (Ai h))/\(∀x∈cs,Ab [x.1.t]<=2000)/\Cd S q td h f' Y' wr/\(∀b,Y' b->Y b∨w2.heap.size<=b)/\(∀b,Y' b->some b≠u.ownBlock)/\Al (Ce S q) w2 wr
def Yc (h:List (ByteArray×Tm)) (S q:Nat) (w:World) (e:Ending) (w':World):Prop:=
 Al (Ce S q) w w'/\((AD (Ai h)=true/\e=.returned (.tuple #[.slice none 0 0,.bool false]))∨(AD (Ai h)=false/\∃v,e=.returned (.tuple #[v,.bool true])/\BV w' (λb=>w.heap.size<=b) v (Ai h)))
theorem Yd:∀ {h:List (ByteArray×Tm)},BO h->E5 (Ai h):=fun {h} g=>by
 rcases List.eq_nil_or_concat h with rfl|⟨k,p,rfl⟩
 ·simp[Ai,E5]
 ·rw[List.concat_eq_append]at g ⊢
  rw[Fl]
  have hk:k.length<(k++[p]).length:=by simp
  have m:=g k.length hk
  rw[GI (Aj _),EO]at m
  have gk:=g.ok k.length (by simp)
  rw[GI (Aj _),EO]at gk
  have m2:∀d∈Ai k,d.nm≠p.1:=λd hd=>by
   have:=m.2.1 d hd
   simpa using this
  exact J3 _ (Jq gk.1 m2)
theorem Ye {h:List (ByteArray×Tm)} (g:BO h) {nl:List ByteArray} (hp:nl.Perm (h.map (·.1))) (ho:nl.Pairwise λa b=>Cs b a=false):nl.map (Gz (Ai h))=Ai h:=by
 have ok:=g.all
 have ae:(h.map (·.1)).Nodup:=by
  rw[Nz,FP,JU]
  intro i j hi hj ah e
  have:=g.once hi hj e
  omega
 have ai:nl.Nodup:=hp.symm.nodup ae
 have aa:(nl.map (Gz (Ai h))).Perm (Ai h):=by
  have h1:((h.map (·.1)).map (Gz (Ai h))).Perm (Ai h):=by
   refine(List.perm_ext_iff_of_nodup ?_ ?_).2 λd=>?_
   ·rw[Nz,FP]
    refine(Nz.1 ae).imp fun {a b} hab e=>hab ?_
    have:=Bu Bd.nm e
    exact this
   ·exact(List.Pairwise.imp (fun {a b} hab e=>hab (by rw[e])) ok.1:(Ai h).Pairwise (·≠·))
   ·constructor
    ·intro hd
     obtain⟨n,hn,rfl⟩:=Cj.1 hd
     obtain⟨p,af,rfl⟩:=Cj.1 hn
     obtain⟨i,hi,rfl⟩:=Hb af
     obtain⟨d,ag,e1,e2⟩:=Fy (II g hi)
     have:Gz (Ai h) h[i].1=d:=by
      unfold Gz
      rw[II g hi,Option.getD_some,<-e2,<-e1]
     rw[this]; exact ag
    ·intro hd
     have h2:=(g.bound h.length (Aj _) d.nm).1 ⟨d,by rw[EO]; exact hd,rfl⟩
     obtain⟨i,hi,_,e⟩:=h2
     refine Cj.2 ⟨d.nm,Cj.2 ⟨h[i],AV hi,e⟩,?_⟩
     unfold Gz
     rw[Kq ok.1 hd,Option.getD_some]
  exact(hp.map _).trans h1
 refine LL aa (LM (ok.1.perm aa) ?_) (Yd g)
 rw[FP]
 exact ho
theorem QI (bb:Hid MO) (S q:Nat) (td:Value) (h:List (ByteArray×Tm)) (g:BO h) (hN:F1 h) (hh:h.length<=1000000) (w:World) (Y:Nat->Prop) (f:Bool) (hE:Cd S q td h f Y w):
  Calls Tryz.prog 101 #[.pointer (some ⟨S,0,none⟩)] w λe w'=>Yc h S q w e w':=by
 have HE:=Aa hE
 obtain⟨⟨L,hB,hM,ai⟩,bD,bE,hY,hg⟩:=hE
 have bF:=hB.lt
 have bG:=hM.lt
 have bc:=ai.1
 have HY:=Aa hY
 have aD:Hid (L.map (·.1)=h.map (·.1)):=by
  refine List.ext_getElem (by simp[bc]) λi h1 h2=>?_
  simp only[Hc]
  exact(ai.2 i (by simpa using h2) (by simpa using h1)).1
 have SK:=bb.out q L w hM (by
   rw[aD.out,FP,JU]
   intro i j hi hj bH e
   have:=g.once hi hj e
   omega) (λp hp=>by
   obtain⟨i,hi,rfl⟩:=Hb hp
   rw[(ai.2 i (by omega) hi).1]
   have h1:=hN i (by omega)
   simp[Be]at h1
   omega) (by omega)
 rw[aD.out]at SK
 have s1:w.cell? ⟨S,1,none⟩=some (.map (some q)):=hB.cell 1
 clear hB hM ai hg hY
 go_enter Tryz.func101,Tryz.ntmps101
 go_wp2_with (first
  | (go_at_call 122; refine SK.1.mono ?_; rintro e w1 ⟨rfl,rfl⟩)
  | (go_at_call 121; refine SK.2.mono ?_; rintro e w2 ⟨v2,nl,rfl,ao,aF,hl2,hb2⟩; have bf:=Aa hl2; obtain⟨na,nc,rfl,bg,bh⟩:=hl2; clear bh))
 have HP:=Aa ao
 have HO:=Aa aF
 have aq:Hid (Below w.heap.size w w2):=((Af _ _).alloc (Aj _) _).trans (hb2.mono (by omega))
 have hz2:w.heap.size+1<=w2.heap.size:=by have:=hb2.size; simp at this; omega
 have bj:=Aa ((Dd S q td h).below HE.out aq.out)
 have aG:nl.length<=1000000:=by have:=ao.length_eq; simp at this; omega
 obtain⟨bk,bl⟩:=bg
 clear ao aF hb2 SK s1
 go_wp2_with fail
 go_loopw [4,16] (λu i wr=>Yb S q td h nl Y w2 u i wr) (λu i wr=>nl.length-(intOf i).toNat)
 case atStart=>exact⟨0,f,Y,[],AE _,rfl,Bh.start _ _ _,by simp,by simp,bj.out,λb hb=>Ad hb,λb _ e=>by simp[Value.ownBlock] at e,Al.refl _ _⟩
 case round=>
  obtain⟨k,f',Y',cs,hk,rfl,hR,hC,hZ,ar,ae,hown,hx⟩:=hrel
  have HR:=Aa hR
  have HC:=Aa hC
  have HZ:=Aa hZ
  have bm:=Aa ar
  have au:=Aa ae
  have av:=Aa hown
  have HX:=Aa hx
  have bI:=hx.size
  clear hR hC hZ ae hown hx
  by_cases hlt:k<nl.length
  ·have bo:(k:Int)<(nl.length:Int):=by omega
   have bp:LV Value.string wr (λb=>w.heap.size+1<=b/\b<w2.heap.size) (.slice na nl.length nc) nl:=(bf.out.mono (Y:=λb=>w.heap.size+1<=b/\b<w2.heap.size) λb h1 h2=>⟨h1,h2⟩).kept λb hb=>HX.out.block b hb.2 (λhm=>by rcases hm with e|e<;>omega)
   obtain⟨bJ,bK,e0,_,hcell⟩:=bp
   obtain⟨bn,on,rfl,bL,hcell⟩:=hcell.resolve_left (λe=>by rw[e] at hlt; simp at hlt)
   simp at e0
   obtain⟨rfl,rfl⟩:=e0
   have nk:=hcell k hlt
   obtain⟨i,hi,hik⟩:∃i,∃hi:i<h.length,h[i].1=nl[k]:=by
    have h1:=HP.out.subset (AV hlt)
    obtain⟨p,hp,e⟩:=Cj.1 h1
    obtain⟨i,hi,rfl⟩:=Hb hp
    exact⟨i,hi,e⟩
   have af:nl.take (k+1)=nl.take k++[nl[k]]:=Bm hlt
   have bq:=Aa af
   obtain⟨⟨L',aH,aI,ag⟩,aw,ax,aJ,br⟩:=ar
   obtain⟨v,ay,hst⟩:=ag.get g hi
   obtain⟨T,j,ta,tc,hT,hj,rfl,aK⟩:=Qz hst
   have bs:=Aa aK
   have HT:=Aa hT
   have bM:=Aa aJ
   have hz:∀w',(zeroValue 176).run Tryz.prog w'=.ok (.agg #[.string ⟨#[]⟩,.slice none 0 0,.int .i64 0]) w':=λw'=>Tryz.zeroValue176 w'
   have bN:=Aa hik
   rw[hik]at ay
   have bt:Hid (Gz (Ai h) nl[k]=⟨nl[k],stood h i h.length hi⟩):=by
    unfold Hid Gz
    rw[<-hik,II g hi,Option.getD_some]
   generalize nl[k]=nm at *
   have bu:(Instr.lookup 133 (.map (some q)) (.string nm) false).run Tryz.prog wr=.ok (.agg #[.string T.name,.slice ta T.args.length tc,.int .i64 (j:Int)]) wr:=by
    rw[U0 (P:=Tryz.prog) Tryz.underlying133 Tryz.underlying9 (hz _) aI nm,ay]; rfl
   have bO:Sem.run Tryz.prog (Instr.field 176 (.agg #[.string T.name,.slice ta T.args.length tc,.int .i64 (j:Int)]) 0) wr=.ok (.agg #[.string T.name,.slice ta T.args.length tc]) wr:=X8 _ _ _ _
   have s1:wr.cell? ⟨S,1,none⟩=some (.map (some q)):=aH.cell 1
   have bw:Hid (Ag (Ai h) T=stood h i h.length hi):=by
    unfold Hid
    rw[HT.out]
    exact Qm g hi (Nat.max_le.2 ⟨hj,hi⟩) (hN i hi)
   have bx:Hid (Ah [T]=0):=by
    unfold Hid
    rw[HT.out]
    exact Qu g hN hi (Nat.max_le.2 ⟨hj,hi⟩)
   have FI:=ML S q td h g hN T bx.out ta tc wr (λb=>Y' b/\b≠S/\b≠q) Y' f' (λb hb hm=>by rcases hm with e|e; exact hb.2.1 e; exact hb.2.2 e) bs.out bm.out
   rw[bw.out]at FI
   have bz:Hid (cs.length<=1000000):=by
    have h1:=Bu List.length HC.out
    simp at h1
    unfold Hid
    omega
   clear aH aI ag aw ax aJ br ay hst aK hT af hcell hik HT
   go_wp2_with fail
   refine FI.mono ?_
   clear FI
   rintro e w4 ⟨y,ya,yc,ok,f2,Y2,rfl,aL,aa,az,aj,ah,aM,hk2⟩
   have a6:=Aa aL
   have aN:Hid (Al (Ce S q) w2 w4):=HX.out.trans aj
   have a7:=Aa aj
   have a8:=Aa ah
   have aO:=Aa aa
   have aA:=Aa aM
   have aB:=Aa hk2
   have bP:=aj.size
   clear aL aa az aj ah aM hk2 bu s1 nk
   cases ok with
   |false=>
    have b3:Hid (AD (Ai h)=true):=by
     rcases aB.out rfl with h1|h1
     ·exact a6.out.2.2.2.2 h1
     ·exact Qv g hi h1
    clear aA aB
    go_wp2_with fail
    refine Ap (v:=.tuple #[.slice none 0 0,.bool false]) (by simp[results,Tryz.results101,go_sem]) rfl ?_
    exact⟨((Al.ofBelow aq.out).trans aN.out).alloc _,Ad ⟨b3.out,rfl⟩⟩
   |true=>
    obtain⟨rfl,aP,aQ⟩:=aA.out rfl
    have b4:=Aa aP
    have b5:=Aa aQ
    clear aP aQ aA aB
    obtain⟨wm,aR,hsm,aS⟩:=a7.out.mid
    have aT:=HR.out.exq aS (λb hb=>by rcases hb with rfl|rfl<;>omega) (λ_ _ h=>h)
    have b6:(w4.alloc (.cells #[.string y.name,.slice ya y.args.length yc] 29)).heap.size=w4.heap.size+1:=by simp
    have aU:Below wm.heap.size wm (w4.alloc (.cells #[.string y.name,.slice ya y.args.length yc] 29)):=aR.alloc (by omega) _
    obtain⟨v6,w6,hrun,aV,ak,aW⟩:=Ya aT (by omega) (λ_ h=>h.elim) aU (⟨nm,y⟩,ya,yc) ((a8.out.later ((Af _ _).alloc (Aj _) _)).mono λb hb _=>Ae (by omega)) bz.out (w4.heap.size+1) b6
    have aC:=Aa hrun
    have b7:=Aa aV
    have aX:=ak.size
    simp at aX
    have b8:Hid (Al (Ce S q) w2 w6):=((aN.out.alloc _).alloc _).grown ak (λb hb=>Ad (HR.out.own.lt b hb).1)
    have b9:Hid (∀b,Y2 b->Y b∨w2.heap.size<=b):=λb hb=>by
     rcases aO.out b hb with h1|h1
     ·exact au.out b h1
     ·right; omega
    have aY:Hid (∀b,Y2 b->some b≠u4.ownBlock):=λb hb e=>by
     rcases aO.out b hb with h1|h1
     ·exact av.out b h1 e
     ·have:=(HR.out.own.lt b e.symm).2; omega
    have aZ:Hid (∀b,Y2 b->b<w4.heap.size):=a6.out.2.2.2.1
    have bA:Hid (Cd S q td h false Y2 w6):=(Dd S q td h).keep _ _ _ _ a6.out λb hb=>by
     have h1:=aZ.out b hb
     rw[ak.block b (by simp; omega) (aY.out b hb),AP _ _ _ (by simp; omega),AP _ _ _ h1]
    have bB:Hid (∀b,Y2 b->some b≠v6.ownBlock):=λb hb e=>by
     rcases aW b e.symm with h1|h1
     ·exact aY.out b hb h1.symm
     ·have:=aZ.out b hb; omega
    clear aR aS aT aU hrun aV ak aW aX
    go_wp2_with (at_builtin; refine D1 rfl _ _ _ _ rfl rfl rfl aC.out ?_)
    go_roundw
    case rel=>
     refine⟨k+1,false,Y2,cs++[(⟨nm,y⟩,ya,yc)],by omega,by go_num,b7.out,?_,λx hx=>?_,bA.out,b9.out,bB.out,b8.out⟩
     ·rw[bq.out,Cr,Cr,HC.out]
      simp only[BP,G9]
      rw[bt.out,b4.out]
     ·rcases Bg.1 hx with hx|hx
      ·exact HZ.out x hx
      ·have e:x=(⟨nm,y⟩,ya,yc):=by simpa using hx
       rw[e]; exact b5.out
    case measure=>simp[intOf]; omega
  ·have af:nl.take k=nl:=AW (by omega)
   rw[af]at HC
   have ba:=Aa (Ye g HP.out HO.out)
   have bC:Hid (AD (Ai h)=false):=by
    unfold Hid
    rw[<-ba.out,<-HC.out]
    unfold AD
    rw[List.any_eq_false]
    intro d hd
    obtain⟨x,hx,rfl⟩:=Cj.1 hd
    have:=HZ.out x hx
    simp; omega
   clear ar af
   go_wp2_with fail
   refine Ap (v:=.tuple #[u4,.bool true]) (by simp[results,Tryz.results101,go_sem]) rfl ?_
   refine⟨(Al.ofBelow aq.out).trans HX.out,Ae ⟨bC.out,u4,rfl,?_⟩⟩
   have h1:=HR.out.bv
   rw[HC.out,ba.out]at h1
   exact h1.mono λb hb _=>by rcases hb with hb|hb; exact hb.elim; omega
theorem QJ {p:ByteArray} {l:List Tm} {k:Nat} (h:k<l.length):Br p (l.take (k+1))=(Br p (l.take k)||Br p [l[k]]):=by
 unfold Br
 rw[Jb l k h,He]
theorem Yf {p:ByteArray} {l:List Tm} {k:Nat} (h:k<l.length) (h0:Br p [l[k]]=true):Br p l=true:=by
 have e:l=l.take (k+1)++l.drop (k+1):=(Eu _ _).symm
 have h1:=QJ (p:=p) h
 rw[h0,Bool.or_true]at h1
 unfold Br at h1 ⊢
 rw[e,Ij,He,h1]
 rfl
theorem Yg (s:ByteArray) (l:List Tm) (p:ByteArray):Br p [⟨s,l⟩]=((s.toList==p.toList)||Br p l):=by
 unfold Br
 simp[Ao]
def Yh (p:ByteArray) (l:List Tm) (w:World) (v:Value) (wr:World):Prop:=∃k:Nat,k<=l.length/\v=.int .i64 (k:Int)/\Br p (l.take k)=false/\Below w.heap.size w wr
theorem Yi (P:Nat) (p:ByteArray) (l:List Tm) (a:Option Addr) (c:Nat) (w:World) (X:Nat->Prop) (hs:Sl w X a l)
  (aa:∀x∈l,∀a' c' w',Below w.heap.size w w'->Sl w' X a' x.args->Calls Tryz.prog 79 #[.agg #[.string x.name,.slice a' x.args.length c'],.pointer (some ⟨P,0,none⟩)] w' λe w''=>e=.returned (.bool (Br p [x]))/\Below w'.heap.size w' w''):
  Calls Tryz.prog 95 #[.slice a l.length c,.func (.func 79) #[] #[.pointer (some ⟨P,0,none⟩)]] w λe w'=>(∃i:Int,e=.returned (.int .i64 i)/\decide (0<=i)=Br p l)/\Below w.heap.size w w':=by
 have HS:=Aa hs
 have ah:=Aa aa
 have hl:=hs.1
 clear hs aa
 go_enter Tryz.func95,Tryz.ntmps95
 go_wp2_with fail
 go_loopw [8] (λv wr=>Yh p l w v wr) (λv wr=>l.length-(intOf v).toNat)
 case atStart=>exact⟨0,AE _,rfl,by simp[Br,Ao],Af _ _⟩
 case round=>
  obtain⟨k,hk,rfl,hT,hb⟩:=hrel
  have HT:=Aa hT
  have HB:=Aa hb
  clear hT
  by_cases hlt:k<l.length
  ·have ai:(k:Int)<(l.length:Int):=by omega
   obtain⟨b,o,a',c',rfl,d0,d1,hx⟩:=HS.out.get hb (λ_ _ h=>h) k hlt
   obtain⟨av,cv,ev,ae⟩:=hx
   simp at ev
   obtain⟨rfl,rfl⟩:=ev
   have CK:=Aa (ah.out l[k] (AV hlt) a' c' wr hb ae)
   have af:=Aa (QJ (p:=p) hlt)
   have aj:=Aa (Yf (p:=p) hlt)
   clear ae hb
   generalize l[k]=y at *
   go_wp2_with fail
   refine CK.out.mono ?_
   rintro e w1 ⟨rfl,hb1⟩
   have ag:=Aa (HB.out.trans (hb1.mono HB.out.size))
   clear hb1
   cases hm:Br p [y] with
   |true=>
    have HF:=Aa (aj.out hm)
    go_wp2_with fail
    go_ret
    exact⟨⟨_,rfl,by rw[HF.out]; simp⟩,ag.out⟩
   |false=>
    rw[hm]at af
    go_wp2_with fail
    go_roundw
    case rel=>exact⟨k+1,by omega,by go_num,by rw[af.out,HT.out]; rfl,ag.out⟩
    case measure=>simp[intOf]; omega
  ·have HF:Hid (false=Br p l):=by
    unfold Hid
    rw[<-HT.out,AW (by omega)]
   go_wp2_with fail
   go_ret
   exact⟨⟨-1,rfl,by rw[<-HF.out]; decide⟩,HB.out⟩
theorem Yj (P:Nat) (p:ByteArray) (l:List Tm) (a:Option Addr) (c:Nat) (w:World) (X:Nat->Prop) (hs:Sl w X a l)
  (aa:∀x∈l,∀a' c' w',Below w.heap.size w w'->Sl w' X a' x.args->Calls Tryz.prog 79 #[.agg #[.string x.name,.slice a' x.args.length c'],.pointer (some ⟨P,0,none⟩)] w' λe w''=>e=.returned (.bool (Br p [x]))/\Below w'.heap.size w' w''):
  Calls Tryz.prog 78 #[.slice a l.length c,.func (.func 79) #[] #[.pointer (some ⟨P,0,none⟩)]] w λe w'=>e=.returned (.bool (Br p l))/\Below w.heap.size w w':=by
 have IC:=Aa (Yi P p l a c w X hs aa)
 clear hs aa
 go_enter Tryz.func78,Tryz.ntmps78
 go_wp2_with fail
 refine IC.out.mono ?_
 rintro e w1 ⟨⟨i,rfl,hi⟩,hb1⟩
 have HI:=Aa hi
 have ae:=Aa hb1
 clear hi hb1
 go_wp2_with fail
 go_ret
 exact⟨BH (by rw[<-HI.out]),ae.out⟩
theorem QK (n:ByteArray) (t:Tm):∀(tv:Value) (w:World) (X:Nat->Prop),TV w X tv t->
  Calls Tryz.prog 53 #[tv,.string n] w λe w'=>e=.returned (.bool (Br n [t]))/\Below w.heap.size w w':=by
 induction t using Tm.ind with
 |h s l ih=>
  intro tv w X ht
  obtain⟨a,c,rfl,hs⟩:=ht
  have IH:=Aa ih
  have HS:=Aa hs
  have ae:=Aa (Yg s l n)
  clear ih hs
  dsimp only
  have aa:Hid (Below w.heap.size w ((w.alloc (.cells #[.string s,.slice a l.length c] 29)).alloc (.cells #[.string n] 9))):=CO _ _
  have PA:=Aa ((Ac.new w #[.string s,.slice a l.length c] 29).alloc (.cells #[.string n] 9))
  have PB:Hid (Ac ((w.alloc (.cells #[.string s,.slice a l.length c] 29)).alloc (.cells #[.string n] 9)) (w.heap.size+1) #[.string n] 9):=by
   have h:=Ac.new (w.alloc (.cells #[.string s,.slice a l.length c] 29)) #[.string n] 9
   unfold Hid
   simpa using h
  have ak:=@hmq Tryz.prog
  cases hm:(s.toList==n.toList) with
  |true=>
   have HF:Hid (true=Br n [⟨s,l⟩]):=by unfold Hid; rw[ae.out,hm]; rfl
   go_enter Tryz.func53,Tryz.ntmps53
   go_wp2_with fail
   go_ret
   exact⟨BH HF.out,aa.out⟩
  |false=>
   have HF:Hid (Br n l=Br n [⟨s,l⟩]):=by unfold Hid; rw[ae.out,hm]; rfl
   go_enter Tryz.func53,Tryz.ntmps53
   go_wp2_with fail
   generalize (w.alloc (.cells #[.string s,.slice a l.length c] 29)).alloc (.cells #[.string n] 9)=w3 at *
   have CF:=Aa (Yj (w.heap.size+1) n l a c w3 X (HS.out.later aa.out) (λx hx a' c' w' hb' af=>by
    have ag:=Aa (PB.out.below hb' PB.out.lt)
    have b0:∀o,(w'.alloc o).cell? ⟨w.heap.size+1,0,none⟩=some (.string n):=λo=>(ag.out.alloc o).cell 0
    have ah:=Aa (IH.out x hx (.agg #[.string x.name,.slice a' x.args.length c']) (w'.alloc (.cells #[.string x.name,.slice a' x.args.length c'] 29)) X ⟨_,_,rfl,af.later ((Af _ _).alloc (Aj _) _)⟩)
    clear af hb'
    go_enter Tryz.func79,Tryz.ntmps79
    go_wp2_with fail
    refine ah.out.mono ?_
    rintro e w1 ⟨rfl,hb1⟩
    have ai:=Aa (((Af w'.heap.size w').alloc (Aj _) _).trans (hb1.mono (by simp)))
    clear hb1
    go_wp2_with fail
    go_ret
    exact⟨rfl,ai.out⟩))
   refine CF.out.mono ?_
   rintro e w4 ⟨rfl,hb4⟩
   have aj:=Aa (aa.out.trans (hb4.mono aa.out.size))
   clear hb4
   go_wp2_with fail
   go_ret
   exact⟨BH HF.out,aj.out⟩
def QL (ta tb:Tm) (s1:ByteArray) (a1:Option Addr) (n1:Nat) (s2:ByteArray) (a2:Option Addr) (n2:Nat) (ok f':Bool) (Z:Nat->Prop) (w':World):Prop:=
 (ok=true/\f'=false/\s1=ta.name/\n1=ta.args.length/\s2=tb.name/\n2=tb.args.length/\Ab [ta]<=2000/\Ab [tb]<=2000/\Sl w' Z a1 ta.args/\Sl w' Z a2 tb.args)∨(ok=false/\(f'=true∨2000<Ab [ta]∨2000<Ab [tb]))
def Yk (S q:Nat) (td:Value) (h:List (ByteArray×Tm)) (ta tb:Tm) (X Y:Nat->Prop) (w:World) (e:Ending) (w':World):Prop:=
 ∃(s1:ByteArray) (a1:Option Addr) (n1 c1:Nat) (s2:ByteArray) (a2:Option Addr) (n2 c2:Nat) (ok f':Bool) (Y':Nat->Prop),e=.returned (.tuple #[.agg #[.string s1,.slice a1 n1 c1],.agg #[.string s2,.slice a2 n2 c2],.bool ok])/\Cd S q td h f' Y' w'/\(∀b,Y' b->Y b∨w.heap.size<=b)/\Al (Ce S q) w w'/\QL ta tb s1 a1 n1 s2 a2 n2 ok f' (λb=>(X b/\b<w.heap.size)∨w.heap.size<=b) w'
theorem Yl (w:World):w.drew.heap=w.heap:=rfl
theorem KH {w:World} {c1 c2 c3 c4 c5 c6 o1 o2 o3 o4 o5 o6:Nat} {v1 v2 v3 v4 v5 v6:Value} {b:Nat} (h1:b≠c1) (h2:b≠c2) (h3:b≠c3) (h4:b≠c4) (h5:b≠c5) (h6:b≠c6):
  ((((((w.setCell ⟨c1,o1,none⟩ v1).setCell ⟨c2,o2,none⟩ v2).setCell ⟨c3,o3,none⟩ v3).setCell ⟨c4,o4,none⟩ v4).setCell ⟨c5,o5,none⟩ v5).setCell ⟨c6,o6,none⟩ v6).drew.heap[b]? = w.heap[b]? := by
 rw[Yl]
 rw[Aq _ _ _ _ (by simpa using h6),Aq _ _ _ _ (by simpa using h5),Aq _ _ _ _ (by simpa using h4),Aq _ _ _ _ (by simpa using h3),Aq _ _ _ _ (by simpa using h2),Aq _ _ _ _ (by simpa using h1)]
theorem QM {Q:Nat->Prop} {a w:World} {c1 c2 c3 c4 c5 c6 o1 o2 o3 o4 o5 o6:Nat} {v1 v2 v3 v4 v5 v6:Value} (h:Al Q a w) (h1:a.heap.size<=c1) (h2:a.heap.size<=c2) (h3:a.heap.size<=c3) (h4:a.heap.size<=c4) (h5:a.heap.size<=c5) (h6:a.heap.size<=c6):
  Al Q a ((((((w.setCell ⟨c1,o1,none⟩ v1).setCell ⟨c2,o2,none⟩ v2).setCell ⟨c3,o3,none⟩ v3).setCell ⟨c4,o4,none⟩ v4).setCell ⟨c5,o5,none⟩ v5).setCell ⟨c6,o6,none⟩ v6).drew:=
 ((((((h.setNew h1 _ _).setNew h2 _ _).setNew h3 _ _).setNew h4 _ _).setNew h5 _ _).setNew h6 _ _).drew
theorem Ym (S q:Nat) (td:Value) (h:List (ByteArray×Tm)) (g:BO h) (hN:F1 h) (p:Pr) (he:Ah [p.l]=0/\Ah [p.r]=0) (j:Nat) (hj:j<=h.length) (hid:j=h.length->(Ag (Ai h) p.l=p.l/\Ag (Ai h) p.r=p.r)) (hsz:Ab [p.l]<=2000/\Ab [p.r]<=2000) (a1:Option Addr) (c1:Nat) (a2:Option Addr) (c2:Nat) (w:World) (X Y:Nat->Prop) (aN:∀b,X b->¬Ce S q b) (hs1:Sl w X a1 p.l.args) (hs2:Sl w X a2 p.r.args) (aO:Cd S q td h false Y w):
  Calls Tryz.prog 118 #[.pointer (some ⟨S,0,none⟩),.agg #[.string p.l.name,.slice a1 p.l.args.length c1,.string p.r.name,.slice a2 p.r.args.length c2,.int .i64 (j:Int)]] w λe w'=>Yk S q td h (Ag (Ai h) p.l) (Ag (Ai h) p.r) X Y w e w':=by
 have aP:=Aa hs1
 have aQ:=Aa hs2
 have HE:=Aa aO
 have a6:=Aa aN
 have aR:=Aa hid
 have aS:=Aa hsz
 obtain⟨⟨L,hB,hM,aT⟩,bp,bq,hY,hg⟩:=aO
 have bg:=hB.lt
 have aU:=hM.lt
 have HY:=Aa hY
 have bh:Hid (L.length=h.length):=aT.1
 have bj:=Aa hM
 have HB:=Aa hB
 clear hs1 hs2 aN hid hsz aT hg hY hM
 have s1:∀o o' af,(((w.alloc o).alloc o').alloc af).cell? ⟨S,1,none⟩=some (.map (some q)):=λo o' af=>(((hB.alloc o).alloc o').alloc af).cell 1
 have hlen:∀o o' af,Sem.run Tryz.prog (Builtin.len_ #[133] 3 #[.map (some q)]) (((w.alloc o).alloc o').alloc af).drew=.ok (.int .i64 (h.length:Int)) (((w.alloc o).alloc o').alloc af).drew:=λo o' af=>by
  have h1:Bl (((w.alloc o).alloc o').alloc af).drew q L:=bj.out.below (((((Af w.heap.size w).alloc (Aj _) o).alloc (by simp) o').alloc (by simp; omega) af).drew) aU
  rw[Ju Tryz.underlying133 h1,bh.out]
 clear hB
 by_cases ak:j=h.length
 ·have bk:((j:Int)==(h.length:Int))=true:=by rw[ak]; simp
  have HI:=Aa (aR.out ak)
  have HJ:=Aa ak
  clear ak
  go_enter Tryz.func118,Tryz.ntmps118
  go_wp2_with fail
  go_region
  go_wp2_with fail
  go_region
  all_goals go_wp2_with fail
  all_goals
   refine Ap (v:=.tuple #[.agg #[.string p.l.name,.slice a1 p.l.args.length c1],.agg #[.string p.r.name,.slice a2 p.r.args.length c2],.bool true]) (by simp[results,Tryz.results118,go_sem]) rfl ?_
   have ay:Below w.heap.size w (((w.alloc (.cells #[.string p.l.name,.slice a1 p.l.args.length c1,.string p.r.name,.slice a2 p.r.args.length c2,.int .i64 (j:Int)] 141)).alloc (.cells #[.string p.l.name,.slice a1 p.l.args.length c1] 29)).alloc (.cells #[.string p.r.name,.slice a2 p.r.args.length c2] 29)).drew.drew:=(((((Af w.heap.size w).alloc (Aj _) _).alloc (by simp) _).alloc (by simp; omega) _).drew).drew
   exact⟨p.l.name,a1,p.l.args.length,c1,p.r.name,a2,p.r.args.length,c2,true,false,Y,rfl,(Dd S q td h).below HE.out ay,λb hb=>Ad hb,Al.ofBelow ay,Ad ⟨rfl,rfl,by rw[HI.out.1],by rw[HI.out.1],by rw[HI.out.2],by rw[HI.out.2],by rw[HI.out.1]; exact aS.out.1,by rw[HI.out.2]; exact aS.out.2,by rw[HI.out.1]; exact(aP.out.mono (Y:=λb=>X b/\b<w.heap.size) λb h1 h2=>⟨h1,h2⟩).later ay |>.mono λb hb _=>Ad hb,by rw[HI.out.2]; exact(aQ.out.mono (Y:=λb=>X b/\b<w.heap.size) λb h1 h2=>⟨h1,h2⟩).later ay |>.mono λb hb _=>Ad hb⟩⟩
 ·have bk:((j:Int)==(h.length:Int))=false:=DL.2 (by omega)
  clear ak aR
  have a7:=Aa (aP.out.mono (Y:=λb=>X b/\b<w.heap.size) λb h1 h2=>⟨h1,h2⟩)
  have a8:=Aa (aQ.out.mono (Y:=λb=>X b/\b<w.heap.size) λb h1 h2=>⟨h1,h2⟩)
  have aA:Hid (Below w.heap.size w (((w.alloc (.cells #[.string p.l.name,.slice a1 p.l.args.length c1,.string p.r.name,.slice a2 p.r.args.length c2,.int .i64 (j:Int)] 141)).alloc (.cells #[.string ⟨#[]⟩,.slice none 0 0] 29)).alloc (.cells #[.string ⟨#[]⟩,.slice none 0 0] 29)).drew):=((((Af w.heap.size w).alloc (Aj _) _).alloc (by simp) _).alloc (by simp; omega) _).drew
  have Q3:Hid (Ac (((w.alloc (.cells #[.string p.l.name,.slice a1 p.l.args.length c1,.string p.r.name,.slice a2 p.r.args.length c2,.int .i64 (j:Int)] 141)).alloc (.cells #[.string ⟨#[]⟩,.slice none 0 0] 29)).alloc (.cells #[.string ⟨#[]⟩,.slice none 0 0] 29)).drew w.heap.size #[.string p.l.name,.slice a1 p.l.args.length c1,.string p.r.name,.slice a2 p.r.args.length c2,.int .i64 (j:Int)] 141):=((Ac.new w _ _).alloc _).alloc _
  have A3:Hid (Ac (((w.alloc (.cells #[.string p.l.name,.slice a1 p.l.args.length c1,.string p.r.name,.slice a2 p.r.args.length c2,.int .i64 (j:Int)] 141)).alloc (.cells #[.string ⟨#[]⟩,.slice none 0 0] 29)).alloc (.cells #[.string ⟨#[]⟩,.slice none 0 0] 29)).drew (w.heap.size+1) #[.string ⟨#[]⟩,.slice none 0 0] 29):=by
   have h1:=(Ac.new (w.alloc (.cells #[.string p.l.name,.slice a1 p.l.args.length c1,.string p.r.name,.slice a2 p.r.args.length c2,.int .i64 (j:Int)] 141)) #[.string ⟨#[]⟩,.slice none 0 0] 29).alloc (.cells #[.string ⟨#[]⟩,.slice none 0 0] 29)
   rw[CN]at h1
   exact h1
  have B3:Hid (Ac (((w.alloc (.cells #[.string p.l.name,.slice a1 p.l.args.length c1,.string p.r.name,.slice a2 p.r.args.length c2,.int .i64 (j:Int)] 141)).alloc (.cells #[.string ⟨#[]⟩,.slice none 0 0] 29)).alloc (.cells #[.string ⟨#[]⟩,.slice none 0 0] 29)).drew (w.heap.size+1+1) #[.string ⟨#[]⟩,.slice none 0 0] 29):=by
   have h1:=Ac.new ((w.alloc (.cells #[.string p.l.name,.slice a1 p.l.args.length c1,.string p.r.name,.slice a2 p.r.args.length c2,.int .i64 (j:Int)] 141)).alloc (.cells #[.string ⟨#[]⟩,.slice none 0 0] 29)) #[.string ⟨#[]⟩,.slice none 0 0] 29
   rw[CN,CN]at h1
   exact h1
  have z3:(((w.alloc (.cells #[.string p.l.name,.slice a1 p.l.args.length c1,.string p.r.name,.slice a2 p.r.args.length c2,.int .i64 (j:Int)] 141)).alloc (.cells #[.string ⟨#[]⟩,.slice none 0 0] 29)).alloc (.cells #[.string ⟨#[]⟩,.slice none 0 0] 29)).drew.heap.size=w.heap.size+3:=by simp
  go_enter Tryz.func118,Tryz.ntmps118
  go_wp2_with fail
  go_region
  go_wp2_with fail
  generalize (((w.alloc (.cells #[.string p.l.name,.slice a1 p.l.args.length c1,.string p.r.name,.slice a2 p.r.args.length c2,.int .i64 (j:Int)] 141)).alloc (.cells #[.string ⟨#[]⟩,.slice none 0 0] 29)).alloc (.cells #[.string ⟨#[]⟩,.slice none 0 0] 29)).drew=w3 at *
  refine(ML S q td h g hN p.l he.1 a1 c1 w3 _ Y false (λb hb=>a6.out b hb.1) (a7.out.later aA.out) ((Dd S q td h).below HE.out aA.out)).mono ?_
  rintro e w4 ⟨y,ya,yc,ok,f',Y',rfl,aV,ae,aB,hx,ao,aq,hk2⟩
  have ar:∀b,Ce S q b->b<w.heap.size:=λb hb=>by rcases hb with rfl|rfl; exact bg; exact aU
  have aW:Hid (Al (Ce S q) w w4):=(Al.ofBelow aA.out).trans hx
  have Q4:=Aa (Q3.out.exq hx (λh=>by have:=ar _ h; omega))
  have A4:=Aa (A3.out.exq hx (λh=>by have:=ar _ h; omega))
  have B4:=Aa (B3.out.exq hx (λh=>by have:=ar _ h; omega))
  have aX:Hid (w.heap.size+3<=w4.heap.size):=by have:=hx.size; unfold Hid; omega
  have ag:Hid (∀b,Y' b->Y b∨w.heap.size+3<=b):=λb hb=>(ae b hb).imp id λh=>by omega
  have aY:=Aa aV
  have aC:Hid (Sl w4 (λb=>w.heap.size+3<=b/\b<w4.heap.size) ya y.args):=ao.mono λb hb h2=>⟨by omega,h2⟩
  have aD:=Aa aq
  have aF:=Aa hk2
  have aG:=Aa ar
  clear ae hx ao aq hk2 aV aB ar
  have q2:=Q4.out.c2
  have q3:=Q4.out.c3
  have x0:=A4.out.c0
  have x1:=A4.out.c1
  have xf:=A4.out.frozen
  have y0:=B4.out.c0
  have y1:=B4.out.c1
  cases ok with
  |true=>
   obtain⟨rfl,aZ,ba⟩:=aD.out rfl
   have az:=Aa aZ
   have bl:=Aa ba
   clear aZ ba aD aF
   have aH:∀b,b≠w.heap.size+1->((w4.setCell ⟨w.heap.size+1,0,none⟩ (.string y.name)).setCell ⟨w.heap.size+1,1,none⟩ (.slice ya y.args.length yc)).heap[b]? = w4.heap[b]? := λb hb=>by
    rw[Aq _ _ _ _ (by simpa using hb),Aq _ _ _ _ (by simpa using hb)]
   have A5:Hid (Ac ((w4.setCell ⟨w.heap.size+1,0,none⟩ (.string y.name)).setCell ⟨w.heap.size+1,1,none⟩ (.slice ya y.args.length yc)) (w.heap.size+1) #[.string y.name,.slice ya y.args.length yc] 29):=by
    have:=(A4.out.set 0 (.string y.name)).set 1 (.slice ya y.args.length yc)
    unfold Hid
    simpa using this
   have B5:=Aa ((B4.out.setOther (b':=w.heap.size+1) 0 (.string y.name) (by omega)).setOther (b':=w.heap.size+1) 1 (.slice ya y.args.length yc) (by omega))
   have bm:=Aa ((Dd S q td h).keep _ _ _ _ aY.out λb hb=>aH b (λe=>by rcases ag.out b hb with h1|h1; have:=HY.out b h1; omega; omega))
   have bb:=Aa ((aW.out.setNew (b:=w.heap.size+1) (by omega) 0 (.string y.name)).setNew (b:=w.heap.size+1) (by omega) 1 (.slice ya y.args.length yc))
   have aI:=Aa (aC.out.kept λb hb=>aH b (by omega))
   have aJ:Hid (Sl ((w4.setCell ⟨w.heap.size+1,0,none⟩ (.string y.name)).setCell ⟨w.heap.size+1,1,none⟩ (.slice ya y.args.length yc)) (λb=>X b/\b<w.heap.size) a2 p.r.args):=a8.out.exq bb.out (λb hb=>a6.out b hb.1)
   have br:((w4.setCell ⟨w.heap.size+1,0,none⟩ (.string y.name)).setCell ⟨w.heap.size+1,1,none⟩ (.slice ya y.args.length yc)).heap.size=w4.heap.size:=by simp[World.setCell]
   go_wp2_with fail
   clear x0 x1 y0 y1 q2 q3 aH xf
   generalize ((w4.setCell ⟨w.heap.size+1,0,none⟩ (.string y.name)).setCell ⟨w.heap.size+1,1,none⟩ (.slice ya y.args.length yc))=w5 at *
   refine(ML S q td h g hN p.r he.2 a2 c2 w5 _ Y' false (λb hb=>a6.out b hb.1) aJ.out bm.out).mono ?_
   rintro e w6 ⟨y2,ah,aj,ok,f',Y2,rfl,bc,ae,aB,hx,ao,aq,hk2⟩
   have bn:Hid (Al (Ce S q) w w6):=bb.out.trans hx
   have A6:=Aa (A5.out.exq hx (λh=>by have:=aG.out _ h; omega))
   have B6:=Aa (B5.out.exq hx (λh=>by have:=aG.out _ h; omega))
   have bs:Hid (w4.heap.size<=w6.heap.size):=by have:=hx.size; unfold Hid; omega
   have ai:Hid (∀b,Y2 b->Y b∨w.heap.size+3<=b):=λb hb=>by
    rcases ae b hb with h1|h1
    ·exact ag.out b h1
    ·have:=aX.out; right; omega
   have bo:=Aa bc
   have aK:Hid (Sl w6 (λb=>w.heap.size+3<=b) ya y.args):=(aI.out.exq hx (λb hb h=>by have:=aG.out _ h; omega)).mono λb hb _=>hb.1
   have aL:Hid (Sl w6 (λb=>w.heap.size+3<=b) ah y2.args):=ao.mono λb hb h2=>by have:=aX.out; omega
   have aM:Hid (∀W:World,Sl W (λb=>w.heap.size+3<=b) ya y.args->Sl W (λb=>w.heap.size+3<=b) ah y2.args->QL (Ag (Ai h) p.l) (Ag (Ai h) p.r) y.name ya y.args.length y2.name ah y2.args.length ok f' (λb=>(X b/\b<w.heap.size)∨w.heap.size<=b) W):=λW g1 g2=>by
    cases ok with
    |true=>
     obtain⟨e1,e2,e3⟩:=aq rfl
     exact Ad ⟨rfl,e1,by rw[az.out],by rw[az.out],by rw[e2],by rw[e2],by rw[<-az.out]; exact bl.out,by rw[<-e2]; exact e3,by rw[<-az.out]; exact g1.mono λb hb _=>Ae (by omega),by rw[<-e2]; exact g2.mono λb hb _=>Ae (by omega)⟩
    |false=>
     rcases hk2 rfl with h1|h1
     ·exact Ae ⟨rfl,Ad h1⟩
     ·exact Ae ⟨rfl,Ae (Ae h1)⟩
   clear ae hx ao aq hk2 bc aB
   have x0:=A6.out.c0
   have x1:=A6.out.c1
   have xf:=A6.out.frozen
   have y0:=B6.out.c0
   have y1:=B6.out.c1
   have yf:=B6.out.frozen
   have bf:∀b,(Y2 b∨w.heap.size+3<=b)->b≠w.heap.size+1/\b≠w.heap.size+1+1:=λb hb=>by
    have h1:Y b∨w.heap.size+3<=b:=hb.elim (ai.out b) Ae
    rcases h1 with h1|h1
    ·have:=HY.out b h1; omega
    ·omega
   have aa:=Aa bf
   clear bf
   have FA:=Aa ((((((A6.out.setOther (b':=w.heap.size+1+1) 0 (.string y2.name) (by omega)).setOther (b':=w.heap.size+1+1) 1 (.slice ah y2.args.length aj) (by omega)).set 0 (.string y.name)).set 1 (.slice ya y.args.length yc)).setOther (b':=w.heap.size+1+1) 0 (.string y2.name) (by omega)).setOther (b':=w.heap.size+1+1) 1 (.slice ah y2.args.length aj) (by omega))
   have FB:=Aa ((((((B6.out.set 0 (.string y2.name)).set 1 (.slice ah y2.args.length aj)).setOther (b':=w.heap.size+1) 0 (.string y.name) (by omega)).setOther (b':=w.heap.size+1) 1 (.slice ya y.args.length yc) (by omega)).set 0 (.string y2.name)).set 1 (.slice ah y2.args.length aj))
   have au:=FA.out.cell 0
   have av:=FA.out.cell 1
   have aw:=FB.out.cell 0
   have ax:=FB.out.cell 1
   simp only[List.setIfInBounds_toArray,List.set_cons_zero,List.set_cons_succ,JQ,JR,Lt] at au av aw ax
   go_wp2_with fail
   go_region
   all_goals go_wp2_with fail
   all_goals
    refine Ap (v:=.tuple #[.agg #[.string y.name,.slice ya y.args.length yc],.agg #[.string y2.name,.slice ah y2.args.length aj],.bool ok]) (by simp[results,Tryz.results118,go_sem,au,av,aw,ax]) rfl ?_
    refine⟨y.name,ya,y.args.length,yc,y2.name,ah,y2.args.length,aj,ok,f',Y2,rfl,(Dd S q td h).keep _ _ _ _ bo.out (λb hb=>KH (aa.out b (Ad hb)).2 (aa.out b (Ad hb)).2 (aa.out b (Ad hb)).1 (aa.out b (Ad hb)).1 (aa.out b (Ad hb)).2 (aa.out b (Ad hb)).2),λb hb=>(ai.out b hb).imp id λh=>by omega,QM bn.out (by omega) (by omega) (by omega) (by omega) (by omega) (by omega),aM.out _ (aK.out.kept λb hb=>KH (by omega) (by omega) (by omega) (by omega) (by omega) (by omega)) (aL.out.kept λb hb=>KH (by omega) (by omega) (by omega) (by omega) (by omega) (by omega))⟩
  |false=>
   have yf:=B4.out.frozen
   have aa:Hid (∀b,Y' b->b≠w.heap.size+1/\b≠w.heap.size+1+1):=λb hb=>by
    rcases ag.out b hb with h1|h1
    ·have:=HY.out b h1; omega
    ·omega
   have aM:Hid (f'=true∨2000<Ab [Ag (Ai h) p.l]):=aF.out rfl
   clear aD aF
   have FA:=Aa ((((((A4.out.set 0 (.string y.name)).set 1 (.slice ya y.args.length yc)).set 0 (.string y.name)).set 1 (.slice ya y.args.length yc)).setOther (b':=w.heap.size+1+1) 0 (.string ⟨#[]⟩) (by omega)).setOther (b':=w.heap.size+1+1) 1 (.slice none 0 0) (by omega))
   have FB:=Aa ((((((B4.out.setOther (b':=w.heap.size+1) 0 (.string y.name) (by omega)).setOther (b':=w.heap.size+1) 1 (.slice ya y.args.length yc) (by omega)).setOther (b':=w.heap.size+1) 0 (.string y.name) (by omega)).setOther (b':=w.heap.size+1) 1 (.slice ya y.args.length yc) (by omega)).set 0 (.string ⟨#[]⟩)).set 1 (.slice none 0 0))
   have au:=FA.out.cell 0
   have av:=FA.out.cell 1
   have aw:=FB.out.cell 0
   have ax:=FB.out.cell 1
   simp only[List.setIfInBounds_toArray,List.set_cons_zero,List.set_cons_succ,JQ,JR,Lt] at au av aw ax
   go_wp2_with fail
   go_region
   all_goals go_wp2_with fail
   all_goals
    refine Ap (v:=.tuple #[.agg #[.string y.name,.slice ya y.args.length yc],.agg #[.string ⟨#[]⟩,.slice none 0 0],.bool false]) (by simp only[results,Tryz.results118]; simp[go_sem,au,av,aw,ax]) rfl ?_
    refine⟨y.name,ya,y.args.length,yc,⟨#[]⟩,none,0,0,false,f',Y',rfl,(Dd S q td h).keep _ _ _ _ aY.out (λb hb=>KH (aa.out b hb).1 (aa.out b hb).1 (aa.out b hb).1 (aa.out b hb).1 (aa.out b hb).2 (aa.out b hb).2),λb hb=>(ag.out b hb).imp id λh=>by omega,QM aW.out (by omega) (by omega) (by omega) (by omega) (by omega) (by omega),Ae ⟨rfl,?_⟩⟩
    rcases aM.out with h1|h1
    ·exact Ad h1
    ·exact Ae (Ad h1)
theorem QN {h:List (ByteArray×Tm)} {p:ByteArray×Tm} {i j:Nat} (hi:i<h.length) (aa:i<(h++[p]).length) (hj:j<=h.length):stood (h++[p]) i j aa=stood h i j hi:=by
 unfold stood
 rw[GI hj,JT hi]
theorem Yn {h:List (ByteArray×Tm)} {x:ByteArray} {t:Tm} (g:BO h) (m:FD (Ai h) x t) (hi:h.length<(h++[(x,t)]).length):stood (h++[(x,t)]) h.length (h.length+1) hi=t:=by
 have g2:=g.snoc m
 have h1:=II g2 hi
 have e1:(h++[(x,t)])[h.length].1=x:=by simp
 rw[e1]at h1
 have h2:(h++[(x,t)]).length=h.length+1:=by simp
 unfold stood
 rw[e1,show(h++[(x,t)]).take (h.length+1)=h++[(x,t)] from AW (by omega),Fl,Kv g.all.1 m.2.1 x]
 have h3:Ar (Ai h) x=none:=by
  cases hf:Ar (Ai h) x with
  |none=>rfl
  |some u=>
   obtain⟨d,hd,e,_⟩:=Fy hf
   exact absurd e (m.2.1 d hd)
 rw[Fz (Ai h),h3]
 show Ag [⟨x,t⟩] ⟨x,[]⟩=t
 exact Ik (by simp[Ar])
theorem Ee.snoc {w:World} {Z:Nat->Prop} {h:List (ByteArray×Tm)} (g:BO h) {L:List (ByteArray×Value)} (e:Ee w Z h L) {x:ByteArray} {t:Tm} (m:FD (Ai h) x t) {a:Option Addr} {c:Nat} (hs:Sl w Z a t.args):Ee w Z (h++[(x,t)]) (L++[(x,.agg #[.string t.name,.slice a t.args.length c,.int .i64 (h.length:Int)])]):=by
 have hl:=e.1
 refine⟨by simp[hl],λi hi af=>?_⟩
 by_cases hlt:i<h.length
 ·have aa:i<L.length:=by omega
  rw[JT hlt,JT aa]
  obtain⟨e1,j,a1,c1,e2,e3,e4⟩:=e.2 i hlt aa
  have hmx:max j (i+1)<=h.length:=Nat.max_le.2 ⟨e2,hlt⟩
  refine⟨e1,j,a1,c1,by simp; omega,?_,?_⟩
  ·rw[QN hlt hi hmx]; exact e3
  ·rw[QN hlt hi hmx]; exact e4
 ·have ae:i=h.length:=by simp at hi; omega
  subst ae
  have e1:(h++[(x,t)])[h.length]=(x,t):=by simp
  have e2:(L++[(x,Value.agg #[.string t.name,.slice a t.args.length c,.int .i64 (h.length:Int)])])[h.length]=(x,.agg #[.string t.name,.slice a t.args.length c,.int .i64 (h.length:Int)]):=by simp[<-hl]
  rw[e1,e2]
  have hst:=Yn g m hi
  refine⟨rfl,h.length,a,c,by simp,?_,?_⟩
  ·rw[Nat.max_eq_right (by omega),hst]
  ·rw[Nat.max_eq_right (by omega),hst]; exact hs
def Yo (S q:Nat) (td:Value) (h:List (ByteArray×Tm)) (nm:ByteArray) (t:Tm) (X Y:Nat->Prop) (w:World) (e:Ending) (w':World):Prop:=
 Al (Ce S q) w w'/\((t.name=nm/\e=.returned (.int .i64 0)/\Cd S q td h false Y w')∨(t.name≠nm/\Br nm [t]=true/\e=.returned (.int .i64 6)/\Cd S q td h false Y w')∨
  (t.name≠nm/\Br nm [t]=false/\e=.returned (.int .i64 0)/\Cd S q td (h++[(nm,t)]) false (λb=>Y b∨(X b/\b<w.heap.size)) w'))
theorem QO (S q:Nat) (td:Value) (h:List (ByteArray×Tm)) (g:BO h) (nm:ByteArray) (t:Tm) (ag:t.name≠nm->Br nm [t]=false->FD (Ai h) nm t) (a:Option Addr) (c:Nat) (w:World) (X Y:Nat->Prop) (av:∀b,X b->¬Ce S q b) (hs:Sl w X a t.args) (aw:Cd S q td h false Y w):
  Calls Tryz.prog 119 #[.pointer (some ⟨S,0,none⟩),.string nm,.agg #[.string t.name,.slice a t.args.length c]] w λe w'=>Yo S q td h nm t X Y w e w':=by
 have HE:=Aa aw
 have HS:=Aa hs
 have ax:=Aa av
 have aj:=Aa ag
 obtain⟨⟨L,hB,hM,ak⟩,aB,aC,hY,hg⟩:=aw
 have aD:=hB.lt
 have aF:=hM.lt
 have HY:=Aa hY
 have aG:Hid (L.length=h.length):=ak.1
 have ah:=Aa ak
 have ay:=Aa hM
 have HB:=Aa hB
 clear hs av ak hg hY hM ag
 by_cases hn:t.name=nm
 ·have aH:=Hi hn
  have HN:=Aa hn
  clear hn
  go_enter Tryz.func119,Tryz.ntmps119
  go_wp2_with fail
  go_ret
  exact⟨(Al.refl _ _).alloc _,Ad ⟨HN.out,rfl,(Dd S q td h).below HE.out ((Af _ _).alloc (Aj _) _)⟩⟩
 ·have aH:=I9 hn
  have HN:=Aa hn
  clear hn
  have az:Below w.heap.size w (w.alloc (.cells #[.string t.name,.slice a t.args.length c] 29)):=(Af _ _).alloc (Aj _) _
  have ao:=Aa az
  have T1:=Aa (Ac.new w #[.string t.name,.slice a t.args.length c] 29)
  have hz1:(w.alloc (.cells #[.string t.name,.slice a t.args.length c] 29)).heap.size=w.heap.size+1:=by simp
  clear az
  go_enter Tryz.func119,Tryz.ntmps119
  go_wp2_with fail
  generalize (w.alloc (.cells #[.string t.name,.slice a t.args.length c] 29))=w1 at *
  refine(QK nm t _ w1 X ⟨a,c,rfl,HS.out.later ao.out⟩).mono ?_
  rintro e w2 ⟨rfl,hb2⟩
  have af:=Aa (ao.out.trans (hb2.mono ao.out.size))
  have T2:=Aa (T1.out.below hb2 (by omega))
  have aI:Hid (w.heap.size+1<=w2.heap.size):=by have:=hb2.size; unfold Hid; omega
  clear hb2
  cases ho:Br nm [t] with
  |true=>
   go_wp2_with fail
   go_ret
   exact⟨Al.ofBelow af.out,Ae (Ad ⟨HN.out,ho,rfl,(Dd S q td h).below HE.out af.out⟩)⟩
  |false=>
   have HO:=Aa ho
   have aa:=aj.out HN.out ho
   have aJ:=Aa aa
   have B2:=Aa (HB.out.below af.out aD)
   have s1:w2.cell? ⟨S,1,none⟩=some (.map (some q)):=B2.out.cell 1
   have t0:=T2.out.c0
   have t1:=T2.out.c1
   have aq:Bl w2.drew q L:=ay.out.below (af.out.drew) aF
   have hlen:Sem.run Tryz.prog (Builtin.len_ #[133] 3 #[.map (some q)]) w2.drew=.ok (.int .i64 (h.length:Int)) w2.drew:=by
    rw[Ju Tryz.underlying133 aq,aG.out]
   have ae:Bb L nm=none:=ah.out.none λi hi e=>by
    obtain⟨d,hd,e1⟩:=(g.bound h.length (Aj _) h[i].1).2 ⟨i,hi,hi,rfl⟩
    rw[EO]at hd
    exact aa.2.1 d hd (e1.trans e)
   obtain⟨w5,hrun,a6,ar,a7,a8,aA,ai⟩:=Je (P:=Tryz.prog) Tryz.underlying133 Tryz.underlying9 aq nm (.agg #[.string t.name,.slice a t.args.length c,.int .i64 (h.length:Int)]) ae
   have aK:Hid (Al (Ce S q) w w5):=by
    have h1:Al (Ce S q) w w2.drew:=Al.ofBelow af.out.drew
    exact⟨a7.trans h1.os,a8.trans h1.tape,aA.trans h1.output,by rw[ar]; exact h1.size,λb hb hn=>(ai b (λe=>hn (Ae e))).trans (h1.block b hb hn)⟩
   have aL:Hid (Cd S q td (h++[(nm,t)]) false (λb=>Y b∨(X b/\b<w.heap.size)) w5):=by
    have aM:S≠q:=λe=>by
     obtain⟨es,aN,h1,_⟩:=ay.out
     have h2:=HB.out
     subst e
     unfold Ac at h2
     rw[h1]at h2; cases h2
    have keep:∀(Z:Nat->Prop) a l,(∀b,Z b->((Y b∨(X b/\b<w.heap.size))/\b≠S/\b≠q)/\b<w.heap.size)->Sl w Z a l->Sl w5 (λb=>(Y b∨(X b/\b<w.heap.size))/\b≠S/\b≠q) a l:=λZ a l hZ au=>(au.kept λb hb=>(ai b (hZ b hb).1.2.2).trans (af.out.drew.block b (hZ b hb).2)).mono λb hb _=>(hZ b hb).1
    refine⟨⟨_,?_,a6,?_⟩,Ad aB,Ad aC,λb hb=>?_,λhf=>by cases hf⟩
    ·have h1:=B2.out
     unfold Ac at *
     rw[ai S aM]
     exact h1
    ·exact Ee.snoc g (ah.out.imp λa l au=>keep _ a l (λb hb=>⟨⟨Ad hb.1,hb.2⟩,HY.out b hb.1⟩) au) aJ.out (keep (λb=>X b/\b<w.heap.size) a t.args (λb hb=>⟨⟨Ae hb,λe=>ax.out b hb.1 (Ad e),λe=>ax.out b hb.1 (Ae e)⟩,hb.2⟩) (HS.out.mono λb h1 h2=>⟨h1,h2⟩))
    ·rw[ar]
     show b<w2.heap.size
     have hb2:b<w.heap.size:=by
      rcases hb with hb|hb
      ·exact HY.out b hb
      ·exact hb.2
     have:=aI.out
     omega
   clear a6 ar a7 a8 aA ai aq ae aa ho
   go_wp2_with fail
   go_region
   all_goals go_wp2_with fail
   all_goals go_ret
   all_goals exact⟨aK.out,Ae (Ae ⟨HN.out,HO.out,rfl,aL.out⟩)⟩
abbrev Pc:=Pr×(Option Addr×Nat)×(Option Addr×Nat)
instance:Inhabited Pc:=⟨(⟨⟨⟨#[]⟩,[]⟩,⟨⟨#[]⟩,[]⟩⟩,(none,0),(none,0))⟩
def DQ (x:Pc):List Value:=[.string x.1.l.name,.slice x.2.1.1 x.1.l.args.length x.2.1.2,.string x.1.r.name,.slice x.2.2.1 x.1.r.args.length x.2.2.2]
def CH:List Pc->List Value
 | []=>[]
 |x::r=>DQ x++CH r
theorem KJ (b:List Pc):∀a,CH (a++b)=CH a++CH b
 | []=>rfl
 |x::r=>by rw[Cf,CH,CH,KJ b r,Gb]
theorem MP:∀a:List Pc,(CH a).length=a.length*4
 | []=>rfl
 |x::r=>by rw[CH,Dm,MP r]; simp[DQ]; omega
theorem IL:∀(a:List Pc) (i:Nat) (h:i<a.length) (j:Nat),j<4->(CH a)[i*4+j]? = (DQ a[i])[j]?
 | [],i,h,j,hj=>by simp at h
 |x::r,0,h,j,hj=>by
  rw[CH,List.getElem?_append_left (by simp[DQ]; omega)]; simp
 |x::r,i+1,h,j,hj=>by
  rw[CH,Ny (by simp[DQ]; omega)]
  have e:(i+1)*4+j-(DQ x).length=i*4+j:=by simp[DQ]; omega
  rw[e,IL r i (by simpa using h) j hj]
  simp
structure Cx (w:World) (N:Nat) (Y:Nat->Prop) (v:Value) (cs:List Pc):Prop where
 own:w.ownsRow N 31 4 v cs.length (CH cs)
 row:∀x∈cs,Sl w (λb=>Y b∨(N<=b/\some b≠v.ownBlock)) x.2.1.1 x.1.l.args/\Sl w (λb=>Y b∨(N<=b/\some b≠v.ownBlock)) x.2.2.1 x.1.r.args
theorem Cx.start (w:World) (N:Nat) (Y:Nat->Prop):Cx w N Y (.slice none 0 0) []:=⟨Ga w N _ 4,by simp⟩
theorem Cx.below {w w':World} {N:Nat} {Y:Nat->Prop} {v:Value} {cs:List Pc} (h:Cx w N Y v cs) (hb:Below w.heap.size w w'):Cx w' N Y v cs:=
 ⟨h.own.kept (w' := w') (row := none) ⟨hb.os, hb.tape, hb.output, hb.size, λj hj _ => hb.block j hj⟩ (by rcases F9 (Value.ownBlock v) with h | ⟨x, h⟩; exact Ad h; exact Ae (by rw [h]; simp)),
  λx hx=>⟨(h.row x hx).1.later hb,(h.row x hx).2.later hb⟩⟩
theorem Cx.ne {w:World} {N:Nat} {Y:Nat->Prop} {v:Value} {cs:List Pc} (h:Cx w N Y v cs) {b:Nat} (hb:b<N):some b≠v.ownBlock:=λe=>by
 have:=(h.own.lt b e.symm).1; omega
theorem Cx.push {w w1 w2 w3:World} {N:Nat} {Y:Nat->Prop} {v:Value} {cs:List Pc} (h:Cx w N Y v cs) (hN:N<=w.heap.size) (hY:∀b,Y b->b<N) (hb:Below w.heap.size w w1) {x:Pc}
  (ht:Sl w1 (λb=>Y b∨w.heap.size<=b) x.2.1.1 x.1.l.args/\Sl w1 (λb=>Y b∨w.heap.size<=b) x.2.2.1 x.1.r.args) (o:Obj) (hw2:w2=w1.alloc o) {g cap:Nat}
  (hown:w3.ownsRow N 31 4 (.slice (some ⟨g,0,none⟩) (cs.length+1) cap) (cs.length+1) (CH cs++DQ x)) (hg:w2.grownBy w3 v.ownBlock) (aa:v.ownBlock=some g∨g=w2.heap.size):
  Cx w3 N Y (.slice (some ⟨g,0,none⟩) (cs.length+1) cap) (cs++[x]):=by
 subst hw2
 have hlt:=h.own.lt
 have hsz:w1.heap.size<=(w1.alloc o).heap.size:=by simp
 have ae:=hb.size
 have af:N<=g:=by
  rcases aa with e|e
  ·exact(hlt g e).1
  ·simp at e; omega
 have old:∀(a:Option Addr) (l:List Tm),Sl w (λb=>Y b∨(N<=b/\some b≠v.ownBlock)) a l->Sl w3 (λb=>Y b∨(N<=b/\some b≠(Value.slice (some ⟨g,0,none⟩) (cs.length+1) cap).ownBlock)) a l:=λa l h0=>by
  have h1:Sl w (λb=>(Y b∨(N<=b/\some b≠v.ownBlock))/\b<w.heap.size) a l:=h0.mono λb h1 h2=>⟨h1,h2⟩
  have h2:Sl w3 (λb=>(Y b∨(N<=b/\some b≠v.ownBlock))/\b<w.heap.size) a l:=h1.kept λb hx=>by
   have hne:some b≠v.ownBlock:=by
    rcases hx.1 with hy|hy
    ·exact h.ne (hY b hy)
    ·exact hy.2
   rw[hg.block b (by simp; omega) hne,AP _ _ _ (by omega),hb.block b hx.2]
  refine h2.mono λb hx _=>?_
  rcases hx.1 with hy|hy
  ·exact Ad hy
  ·refine Ae ⟨hy.1,λe=>?_⟩
   simp[Value.ownBlock]at e
   rcases aa with e'|e'
   ·exact hy.2 (by rw[e',e])
   ·simp at e'; omega
 have new:∀(a:Option Addr) (l:List Tm),Sl w1 (λb=>Y b∨w.heap.size<=b) a l->Sl w3 (λb=>Y b∨(N<=b/\some b≠(Value.slice (some ⟨g,0,none⟩) (cs.length+1) cap).ownBlock)) a l:=λa l h0=>by
  have h1:Sl w1 (λb=>(Y b∨w.heap.size<=b)/\b<w1.heap.size) a l:=h0.mono λb h1 h2=>⟨h1,h2⟩
  have h2:Sl w3 (λb=>(Y b∨w.heap.size<=b)/\b<w1.heap.size) a l:=h1.kept λb hx=>by
   have hne:some b≠v.ownBlock:=by
    rcases hx.1 with hy|hy
    ·exact h.ne (hY b hy)
    ·intro e; have:=(hlt b e.symm).2; omega
   rw[hg.block b (by simp; omega) hne,AP _ _ _ hx.2]
  refine h2.mono λb hx _=>?_
  rcases hx.1 with hy|hy
  ·exact Ad hy
  ·refine Ae ⟨by omega,λe=>?_⟩
   simp[Value.ownBlock]at e
   rcases aa with e'|e'
   ·have:=(hlt g e').2; omega
   ·simp at e'; omega
 refine⟨by rw[KJ]; simpa [CH] using hown,λy hy=>?_⟩
 rcases Bg.1 hy with hy|hy
 ·exact⟨old _ _ (h.row y hy).1,old _ _ (h.row y hy).2⟩
 ·have e:y=x:=by simpa using hy
  subst e
  exact⟨new _ _ ht.1,new _ _ ht.2⟩
theorem Cx.qv {w:World} {N:Nat} {Y:Nat->Prop} {v:Value} {cs:List Pc} (h:Cx w N Y v cs):QV w (λb=>Y b∨N<=b) v (cs.map (·.1)):=by
 have af:cs.length<=9223372036854775807:=by
  rcases h.own.2 with ⟨_,h0⟩|⟨g,cap,cur,_,_,_,h1,h2,_⟩
  ·omega
  ·unfold maxLen at h2; omega
 by_cases h0:0<cs.length
 ·obtain⟨g,cap,rfl,hg,hlt,hc⟩:=EA h.own h0
  have ae:cs.length<=cap:=by
   rcases h.own.2 with ⟨e,_⟩|⟨g',cap',cur,e,_,_,h1,_⟩
   ·cases e
   ·simp at e; omega
  refine⟨_,cap,by simp,⟨by simpa using af,by simpa using ae⟩,Ae ⟨g,0,rfl,Ae hg,λi hi=>?_⟩⟩
  have aa:i<cs.length:=by simpa using hi
  have g0:=hc (i*4+0) (.string cs[i].1.l.name) (by rw[IL cs i aa 0 (by decide)]; rfl)
  have g1:=hc (i*4+1) (.slice cs[i].2.1.1 cs[i].1.l.args.length cs[i].2.1.2) (by rw[IL cs i aa 1 (by decide)]; rfl)
  have g2:=hc (i*4+2) (.string cs[i].1.r.name) (by rw[IL cs i aa 2 (by decide)]; rfl)
  have g3:=hc (i*4+3) (.slice cs[i].2.2.1 cs[i].1.r.args.length cs[i].2.2.2) (by rw[IL cs i aa 3 (by decide)]; rfl)
  simp only[Hc,Ey]
  obtain⟨r1,r2⟩:=h.row cs[i] (AV aa)
  exact⟨_,_,_,_,g0,g1,g2,g3,r1.mono λb hb _=>hb.imp id (λh=>h.1),r2.mono λb hb _=>hb.imp id (λh=>h.1)⟩
 ·have e:cs=[]:=Ew.1 (by omega)
  subst e
  rcases h.own.2 with ⟨hv,_⟩|⟨g,cap,cur,hv,_⟩
  ·exact⟨none,0,hv,by simp,Ad rfl⟩
  ·exact⟨_,_,hv,by simp,Ad rfl⟩
theorem Tryz.infoPair:(Tryz.prog.info? 31).map (λi=>(i.zero,i.size,i.bytes))=some (some (.agg #[.string ByteArray.empty,.slice none 0 0,.string ByteArray.empty,.slice none 0 0]),4,80):=by kernel_rfl
theorem QP (w:World) (c0 c1 c2 c3:Value) (T:Nat):∀j u,[c0,c1,c2,c3][j]? = some u->(w.alloc (.cells #[c0,c1,c2,c3] T)).cell? ((⟨w.heap.size,0,none⟩:Addr).add j)=some u:=
 World.news_of_block (cs:=#[c0,c1,c2,c3]) (EZ w _)
theorem MQ {w w1:World} {N:Nat} {Y:Nat->Prop} {v:Value} {cs:List Pc} (h:Cx w N Y v cs) (hN:N<=w.heap.size) (hY:∀b,Y b->b<N) (hb:Below w.heap.size w w1) (x:Pc) (ht:Sl w1 (λb=>Y b∨w.heap.size<=b) x.2.1.1 x.1.l.args/\Sl w1 (λb=>Y b∨w.heap.size<=b) x.2.2.1 x.1.r.args) (hn:cs.length<=1000000) (A:Nat) (hA:w1.heap.size=A):
  ∃v2 w3,(Builtin.append_ #[22,22] 22 #[v,.slice (some ⟨A,0,none⟩) 1 1]).run Tryz.prog (w1.alloc (.cells #[.string x.1.l.name,.slice x.2.1.1 x.1.l.args.length x.2.1.2,.string x.1.r.name,.slice x.2.2.1 x.1.r.args.length x.2.2.2] 31))=.ok v2 w3/\Cx w3 N Y v2 (cs++[x])/\
   (w1.alloc (.cells #[.string x.1.l.name,.slice x.2.1.1 x.1.l.args.length x.2.1.2,.string x.1.r.name,.slice x.2.2.1 x.1.r.args.length x.2.2.2] 31)).grownBy w3 v.ownBlock/\∀k,v2.ownBlock=some k->v.ownBlock=some k∨w1.heap.size<=k:=by
 subst hA
 obtain⟨i0,hi,hz0,hz1,hz2⟩:=CT Tryz.infoPair
 have aa:=hb.size
 obtain⟨g,cap,w3,hr,ho,hg,hat,hlt⟩:=run_append_lies (P:=Tryz.prog) (w:=w1.alloc (.cells #[.string x.1.l.name,.slice x.2.1.1 x.1.l.args.length x.2.1.2,.string x.1.r.name,.slice x.2.2.1 x.1.r.args.length x.2.2.2] 31)) 22 22 N 31 i0 _ 4 80 Tryz.underlying22 hi hz0 hz1 hz2 rfl (by decide) v cs.length (CH cs) ((h.below hb).own.alloc _)
  ⟨w1.heap.size,0,none⟩ 1 1 (DQ x) rfl (QP _ _ _ _ _ _) (λy hy=>by simp[DQ] at hy; rcases hy with rfl|rfl|rfl|rfl<;>rfl) (by decide) (by unfold maxLen; omega) (by omega) (by simp; omega) _ rfl
 refine⟨_,w3,hr,h.push hN hY hb ht _ rfl ho hg hat,hg,λk hk=>?_⟩
 have e:g=k:=by simpa [Value.ownBlock] using hk
 rcases hat with h1|h1
 ·exact Ad (by rw[h1,e])
 ·right; simp at h1; omega
abbrev Ec:=Pc×Nat
def EI (x:Ec):List Value:=[.string x.1.1.l.name,.slice x.1.2.1.1 x.1.1.l.args.length x.1.2.1.2,.string x.1.1.r.name,.slice x.1.2.2.1 x.1.1.r.args.length x.1.2.2.2,.int .i64 (x.2:Int)]
def CR:List Ec->List Value
 | []=>[]
 |x::r=>EI x++CR r
theorem Jw (b:List Ec):∀a,CR (a++b)=CR a++CR b
 | []=>rfl
 |x::r=>by rw[Cf,CR,CR,Jw b r,Gb]
theorem KK:∀a:List Ec,(CR a).length=a.length*5
 | []=>rfl
 |x::r=>by rw[CR,Dm,KK r]; simp[EI]; omega
theorem QQ:∀(a:List Ec) (i:Nat) (h:i<a.length) (j:Nat),j<5->(CR a)[i*5+j]? = (EI a[i])[j]?
 | [],i,h,j,hj=>by simp at h
 |x::r,0,h,j,hj=>by
  rw[CR,List.getElem?_append_left (by simp[EI]; omega)]; simp
 |x::r,i+1,h,j,hj=>by
  rw[CR,Ny (by simp[EI]; omega)]
  have e:(i+1)*5+j-(EI x).length=i*5+j:=by simp[EI]; omega
  rw[e,QQ r i (by simpa using h) j hj]
  simp
structure CZ (w:World) (N:Nat) (Y:Nat->Prop) (v:Value) (cs:List Ec):Prop where
 own:w.ownsRow N 141 5 v cs.length (CR cs)
 row:∀x∈cs,Sl w (λb=>Y b∨(N<=b/\some b≠v.ownBlock)) x.1.2.1.1 x.1.1.l.args/\Sl w (λb=>Y b∨(N<=b/\some b≠v.ownBlock)) x.1.2.2.1 x.1.1.r.args
theorem CZ.start (w:World) (N:Nat) (Y:Nat->Prop):CZ w N Y (.slice none 0 0) []:=⟨Ga w N _ 5,by simp⟩
theorem CZ.below {w w':World} {N:Nat} {Y:Nat->Prop} {v:Value} {cs:List Ec} (h:CZ w N Y v cs) (hb:Below w.heap.size w w'):CZ w' N Y v cs:=
 ⟨h.own.kept (w' := w') (row := none) ⟨hb.os, hb.tape, hb.output, hb.size, λj hj _ => hb.block j hj⟩ (by rcases F9 (Value.ownBlock v) with h | ⟨x, h⟩; exact Ad h; exact Ae (by rw [h]; simp)),
  λx hx=>⟨(h.row x hx).1.later hb,(h.row x hx).2.later hb⟩⟩
theorem CZ.ne {w:World} {N:Nat} {Y:Nat->Prop} {v:Value} {cs:List Ec} (h:CZ w N Y v cs) {b:Nat} (hb:b<N):some b≠v.ownBlock:=λe=>by
 have:=(h.own.lt b e.symm).1; omega
theorem CZ.push {w w1 w2 w3:World} {N:Nat} {Y:Nat->Prop} {v:Value} {cs:List Ec} (h:CZ w N Y v cs) (hN:N<=w.heap.size) (hY:∀b,Y b->b<N) (hb:Below w.heap.size w w1) {x:Ec}
  (ht:Sl w1 (λb=>Y b∨w.heap.size<=b) x.1.2.1.1 x.1.1.l.args/\Sl w1 (λb=>Y b∨w.heap.size<=b) x.1.2.2.1 x.1.1.r.args) (o:Obj) (hw2:w2=w1.alloc o) {g cap:Nat}
  (hown:w3.ownsRow N 141 5 (.slice (some ⟨g,0,none⟩) (cs.length+1) cap) (cs.length+1) (CR cs++EI x)) (hg:w2.grownBy w3 v.ownBlock) (aa:v.ownBlock=some g∨g=w2.heap.size):
  CZ w3 N Y (.slice (some ⟨g,0,none⟩) (cs.length+1) cap) (cs++[x]):=by
 subst hw2
 have hlt:=h.own.lt
 have hsz:w1.heap.size<=(w1.alloc o).heap.size:=by simp
 have ae:=hb.size
 have af:N<=g:=by
  rcases aa with e|e
  ·exact(hlt g e).1
  ·simp at e; omega
 have old:∀(a:Option Addr) (l:List Tm),Sl w (λb=>Y b∨(N<=b/\some b≠v.ownBlock)) a l->Sl w3 (λb=>Y b∨(N<=b/\some b≠(Value.slice (some ⟨g,0,none⟩) (cs.length+1) cap).ownBlock)) a l:=λa l h0=>by
  have h1:Sl w (λb=>(Y b∨(N<=b/\some b≠v.ownBlock))/\b<w.heap.size) a l:=h0.mono λb h1 h2=>⟨h1,h2⟩
  have h2:Sl w3 (λb=>(Y b∨(N<=b/\some b≠v.ownBlock))/\b<w.heap.size) a l:=h1.kept λb hx=>by
   have hne:some b≠v.ownBlock:=by
    rcases hx.1 with hy|hy
    ·exact h.ne (hY b hy)
    ·exact hy.2
   rw[hg.block b (by simp; omega) hne,AP _ _ _ (by omega),hb.block b hx.2]
  refine h2.mono λb hx _=>?_
  rcases hx.1 with hy|hy
  ·exact Ad hy
  ·refine Ae ⟨hy.1,λe=>?_⟩
   simp[Value.ownBlock]at e
   rcases aa with e'|e'
   ·exact hy.2 (by rw[e',e])
   ·simp at e'; omega
 have new:∀(a:Option Addr) (l:List Tm),Sl w1 (λb=>Y b∨w.heap.size<=b) a l->Sl w3 (λb=>Y b∨(N<=b/\some b≠(Value.slice (some ⟨g,0,none⟩) (cs.length+1) cap).ownBlock)) a l:=λa l h0=>by
  have h1:Sl w1 (λb=>(Y b∨w.heap.size<=b)/\b<w1.heap.size) a l:=h0.mono λb h1 h2=>⟨h1,h2⟩
  have h2:Sl w3 (λb=>(Y b∨w.heap.size<=b)/\b<w1.heap.size) a l:=h1.kept λb hx=>by
   have hne:some b≠v.ownBlock:=by
    rcases hx.1 with hy|hy
    ·exact h.ne (hY b hy)
    ·intro e; have:=(hlt b e.symm).2; omega
   rw[hg.block b (by simp; omega) hne,AP _ _ _ hx.2]
  refine h2.mono λb hx _=>?_
  rcases hx.1 with hy|hy
  ·exact Ad hy
  ·refine Ae ⟨by omega,λe=>?_⟩
   simp[Value.ownBlock]at e
   rcases aa with e'|e'
   ·have:=(hlt g e').2; omega
   ·simp at e'; omega
 refine⟨by rw[Jw]; simpa [CR] using hown,λy hy=>?_⟩
 rcases Bg.1 hy with hy|hy
 ·exact⟨old _ _ (h.row y hy).1,old _ _ (h.row y hy).2⟩
 ·have e:y=x:=by simpa using hy
  subst e
  exact⟨new _ _ ht.1,new _ _ ht.2⟩
theorem Tryz.infoEq:(Tryz.prog.info? 141).map (λi=>(i.zero,i.size,i.bytes))=some (some (.agg #[.string ByteArray.empty,.slice none 0 0,.string ByteArray.empty,.slice none 0 0,.int .i64 0]),5,88):=by kernel_rfl
theorem MR (w:World) (c0 c1 c2 c3 c4:Value) (T:Nat):∀j u,[c0,c1,c2,c3,c4][j]? = some u->(w.alloc (.cells #[c0,c1,c2,c3,c4] T)).cell? ((⟨w.heap.size,0,none⟩:Addr).add j)=some u:=
 World.news_of_block (cs:=#[c0,c1,c2,c3,c4]) (EZ w _)
end Go.Proofs.YtlkeafenklamjaaGreatDoor

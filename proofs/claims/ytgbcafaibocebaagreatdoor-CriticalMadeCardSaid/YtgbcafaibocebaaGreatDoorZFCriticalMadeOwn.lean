/- Several texts in one. -/
import Derived.Test.YtgbcafaibocebaaGreatDoorEn1
import Derived.Test.YtgbcafaibocebaaGreatDoorZECriticalMadeOwn
import Derived.Test.YtgbcafaibocebaaGreatDoorU3
import Derived.Laws.EntriesVeiled
namespace Go.Proofs.YtgbcafaibocebaaGreatDoor
set_option linter.all false
set_option maxRecDepth 20000
set_option maxHeartbeats 8000000
open Go.RowKit Go.Proofs.Tryz
def gN (ls:List Bd) (s:ByteArray) (bs:List Tm):Tm:=match As ls s with|some x=>x|none=>⟨s,bs⟩
def gL (ls:List Bd):List Tm->List Tm
 | []=>[]
 | ⟨s,a⟩::r=>gN ls s (gL ls a)::gL ls r
def gT (ls:List Bd) (t:Tm):Tm:=gN ls t.name (gL ls t.args)
theorem Q5 (ls:List Bd) (t:Tm) (r:List Tm):gL ls (t::r)=gT ls t::gL ls r:=by
 obtain⟨s,a⟩:=t;simp only[gL,gT]
theorem J1 (ls:List Bd):∀l,gL ls l=l.map (gT ls)
 | []=>by simp[gL]
 |t::r=>by rw[Q5,J1 ls r,Cb]
theorem Q6 {ls:List Bd} {t x:Tm} (h:As ls t.name=some x):gT ls t=x:=by simp[gT,gN,h]
theorem Q7 {ls:List Bd} {t:Tm} (h:As ls t.name=none):gT ls t=⟨t.name,gL ls t.args⟩:=by simp[gT,gN,h]
theorem Yz:∀l,gL [] l=l:=by
 intro l;induction l using Tm.indL with
 |h0=>simp[gL]
 |h s l r aa ab=>rw[gL,aa,ab]; simp[gN,As]
theorem YA (t:Tm):gT [] t=t:=by
 obtain⟨s,l⟩:=t;unfold gT gN;simp[As,Yz]
theorem YC (ls:List Bd) (l:List Tm) (k:Nat) (h:k<l.length):gL ls (l.take (k+1))=gL ls (l.take k)++[gT ls l[k]]:=by
 rw[J1,J1,Bo h,Cr];rfl
theorem YD (ls:List Bd) (l:List Tm) (k:Nat) (h:k<l.length):Ab (gL ls (l.take (k+1)))=Ab (gL ls (l.take k))+Ab [gT ls l[k]]:=by rw[YC ls l k h,Eb]
theorem YE (ls:List Bd) (l:List Tm) (k:Nat):Ab (gL ls (l.take k))<=Ab (gL ls l):=by
 rw[J1,J1];have:=Eb ((l.take k).map (gT ls)) ((l.drop k).map (gT ls));rw[<-Cr,EJ]at this;omega
theorem YF {ls:List Bd} (h:ES ls):∀l,gL ls l=fL ls l:=by
 intro l;induction l using Tm.indL with
 |h0=>simp[gL,fL]
 |h s l r aa ab=>
  rw[gL,fL,aa,ab];congr 1
  unfold gN fN;cases a:As ls s with
  |none=>simp
  |some x=>obtain⟨d,hd,e⟩:=Ld a;have:=h d hd;rw[e]at this;simp[this]
theorem YG {ls:List Bd} (h:ES ls) (t:Tm) (ht:AA t=0):gT ls t=Ag ls t:=by
 rw[<-X2 h t ht];unfold gT fT;rw[YF h];unfold gN fN;cases a:As ls t.name with
 |none=>simp
 |some x=>obtain⟨d,hd,e⟩:=Ld a;have:=h d hd;rw[e]at this;simp[this]
def GU (ls:List Bd) (P:Tm->Prop):Prop:=∀d∈ls,P d.t
theorem YH {P:Tm->Prop} {p t:Tm} {h h':List Bd} (hP:∀x,P x->∀y∈x.args,P y) (b:∀a g g',BM p.args a g=some g'->(∀y∈a,P y)->GU g P->GU g' P) (he:A7 p t h=some h') (ht:P t) (hv:GU h P):GU h' P:=by
 unfold A7 at he;split at he
 ·split at he
  ·split at he
   ·cases he; exact hv
   ·cases he
  ·cases he;intro d hd;rcases Bg.1 hd with hd|hd
   ·exact hv d hd
   ·simp at hd; subst hd; exact ht
 ·split at he
  ·exact b _ _ _ he (hP t ht) hv
  ·cases he
theorem YI {P:Tm->Prop} (hP:∀x,P x->∀y∈x.args,P y):∀(l a:List Tm) (h h':List Bd),BM l a h=some h'->(∀y∈a,P y)->GU h P->GU h' P:=by
 intro l;induction l using Tm.indL with
 |h0=>intro a h h' he ht hv;simp[BM]at he;subst he;exact hv
 |h s l r aa ab=>
  intro a h h' he ht hv;cases a with
  |nil=>simp[BM] at he
  |cons t a=>
   rw[Hf]at he;cases h1:A7 ⟨s,l⟩ t h with
   |none=>simp only[h1] at he; cases he
   |some g=>simp only[h1] at he;exact ab _ _ _ he (λy hy=>ht y (by simp[hy])) (YH (p:=⟨s,l⟩) hP aa h1 (ht t (by simp)) hv)
theorem YJ {P:Tm->Prop} (hP:∀x,P x->∀y∈x.args,P y) {p t:Tm} {h':List Bd} (aa:Al p.name=false) (he:A7 p t []=some h') (ht:∀y∈t.args,P y):GU h' P:=by
 unfold A7 at he;rw[Aj (by rw[aa]; simp)]at he;split at he
 ·exact YI hP _ _ _ _ he ht (by intro d hd; simp at hd)
 ·cases he
def GV (rs:List Pr) (x:Tm):Prop:=DG rs [x]
theorem YK (rs:List Pr):∀x,GV rs x->∀y∈x.args,GV rs y:=λx h y hy=>Im.1 (I6.1 h).2 y hy
theorem YL {rs:List Pr} {x:Tm} {y:Ft} (a:∀p∈rs,Bv p=0) (h:[y] <+: Cq rs x):y.1∈rs/\A7 y.1.l x []=some y.2/\Dq rs x=some (gT y.2 y.1.r)/\ES y.2:=by
 have key:∀rs:List Pr,(∀p∈rs,Bv p=0)->[y] <+: Cq rs x->y.1∈rs/\A7 y.1.l x []=some y.2/\Dq rs x=some (gT y.2 y.1.r):=by
  intro rs;induction rs with
  |nil=>intro _ h; simp[Cq] at h
  |cons r rs d=>
   intro a h;cases hm:A7 r.l x [] with
   |none=>
    have b:Cq (r::rs) x=Cq rs x:=by unfold Cq; rw[List.filterMap_cons]; simp[hm]
    rw[b]at h;obtain⟨h1,h2,h3⟩:=d (λp hp=>a p (by simp[hp])) h;refine⟨by simp[h1],h2,?_⟩;unfold Dq at *;rw[List.findSome?_cons];have c:Dh r x=none:=by unfold Dh; rw[hm]; rfl
    rw[c];exact h3
   |some g=>
    have b:Cq (r::rs) x=(r,g)::Cq rs x:=by unfold Cq; rw[List.filterMap_cons]; simp[hm]
    rw[b]at h;have c:y=(r,g):=by
     obtain⟨q,hq⟩:=h;simp at hq;exact hq.1
    subst c;refine⟨by simp,hm,?_⟩;unfold Dq;rw[List.findSome?_cons];have e:Dh r x=some (Ag g r.r):=by unfold Dh; rw[hm]; rfl
    rw[e,YG (Qz hm) r.r (ED (a r (by simp))).2.1]
 obtain⟨h1,h2,h3⟩:=key rs a h;exact⟨h1,h2,h3,Qz h2⟩
theorem YM {rs:List Pr} {x:Tm} (h:Cq rs x=[]):Dq rs x=none:=by
 unfold Dq;rw[List.findSome?_eq_none_iff];intro r a;unfold Cq at h;rw[List.filterMap_eq_nil_iff]at h;have:=h r a;unfold Dh;cases hm:A7 r.l x [] with
 |none=>rfl
 |some g=>rw[hm] at this; simp at this
def FY (rs:List Pr) (C:Tm->Tm) (m d:Nat) (t0 x:Tm) (d':Nat):Prop:=d<=d'/\d'<=m/\GV rs x/\Ab [C x]<=2000/\BN rs true (m-d) (C t0)=Ee (d'-d) (BN rs true (m-d') (C x))
theorem FY.here {rs:List Pr} {C:Tm->Tm} {m d:Nat} {x:Tm} (hd:d<=m) (h:GV rs x) (hz:Ab [C x]<=2000):FY rs C m d x x d:=
 ⟨Ai _,hd,h,hz,by rw[Nat.sub_self]; exact(M8 (Lh _ _ _ _)).symm⟩
theorem FY.trans {rs:List Pr} {C:Tm->Tm} {m d d1 d2:Nat} {t0 t1 x:Tm} (h1:d<=d1) (h2:BN rs true (m-d) (C t0)=Ee (d1-d) (BN rs true (m-d1) (C t1))) (h:FY rs C m d1 t1 x d2):FY rs C m d t0 x d2:=by
 obtain⟨a,b,c,z,e⟩:=h;refine⟨by omega,b,c,z,?_⟩;rw[h2,e,M9];congr 1
 omega
theorem YN {rs:List Pr} {C:Tm->Tm} {k m d:Nat} {a b:Tm} (c:Fy rs C k) (h:Dr rs true a=some b) (hd:d<m) (hz:Ab [b]+k<=2000):BN rs true (m-d) (C a)=Ee (d+1-d) (BN rs true (m-(d+1)) (C b)):=by
 have e:m-d=(m-(d+1))+1:=by omega
 have f:d+1-d=1:=by omega
 rw[e,f];exact M7 (c.1 _ _ h) (by rw[c.2]; exact hz)
theorem YO {rs:List Pr} {C:Tm->Tm} {k m:Nat} {a b:Tm} (c:Fy rs C k) (h:Dr rs true a=some b):BN rs true (m-m) (C a)=(9,⟨⟨#[]⟩,[]⟩,0):=by
 rw[Nat.sub_self];exact M6 (c.1 _ _ h)
theorem YP {rs:List Pr} {C:Tm->Tm} {k m d:Nat} {a b:Tm} (c:Fy rs C k) (h:Dr rs true a=some b) (hd:d<m) (hz:2000<Ab [b]+k):BN rs true (m-d) (C a)=(8,⟨⟨#[]⟩,[]⟩,0):=by
 have e:m-d=(m-(d+1))+1:=by omega
 rw[e];exact Lg (c.1 _ _ h) (by rw[c.2]; exact hz)
theorem YQ {rs:List Pr} {t:Tm} (a:DG rs t.args):Dr rs true t=Dq rs t:=by
 obtain⟨s,l⟩:=t;exact Ym a
theorem Q8 {n:ByteArray} {x:Tm}:∀ {h:List Bd},As h n=some x->∃d∈h,d.nm=n/\d.t=x
 | [],h=>by simp[As] at h
 |d::r,h=>by
  rw[As]at h;split at h
  ·rename_i e; exact⟨d,by simp,e,by simpa using h⟩
  ·obtain⟨d',h1,h2⟩:=Q8 h;exact⟨d',by simp[h1],h2⟩
theorem Q9 {l:List Tm}:Ah l=0↔∀t∈l,Ah [t]=0:=by
 induction l with
 |nil=>simp[Ah]
 |cons t r a=>
  rw[GG];constructor
  ·intro h;split at h
   ·rename_i h0;intro y hy;rcases Bq.1 hy with rfl|hy
    ·exact h0
    ·exact a.1 h y hy
   ·rename_i h0; exact absurd h h0
  ·intro h;rw[Ar (h t (by simp))];exact a.2 λy hy=>h y (by simp[hy])
theorem Ra {t:Tm} (h:Ah [t]=0):∀y∈t.args,Ah [y]=0:=by
 obtain⟨s,a⟩:=t;exact Q9.1 (I2 h).2.1
theorem YR {s:ByteArray} {a b:List Tm} (h:Ah [(⟨s,a⟩:Tm)]=0) (c:a=[]->b=[]) (hb:Ah b=0):Ah [(⟨s,b⟩:Tm)]=0:=by
 have h1:=(I2 h).1;have hn:AW s=true:=by
  cases hn:AW s with
  |true=>rfl
  |false=>simp[Ah,hn] at h
 cases hv:Al s with
 |false=>simp[Ah,hn,hv,hb]
 |true=>have:=c (h1 hv);subst this;simp[Ah,hn,hv]
theorem DH {t:Tm} (h:AA t=0):Ah [t]=0:=by
 unfold AA at h;split at h
 ·cases h
 ·exact h
theorem Rb {y:Tm} (hy:Ah [y]=0):∀(p:List Int) (t x:Tm),Ah [t]=0->AV t p=some x->Ah [AP y p t]=0/\Ah [x]=0
 | [],t,x,ht,h=>by simp[AV] at h; subst h; simp[AP]; exact⟨hy,ht⟩
 |i::r,t,x,ht,h=>by
  obtain⟨k,hk,rfl,h2⟩:=MI h;have a:=Ra ht;obtain⟨h3,c⟩:=Rb hy r _ x (a _ (AN hk)) h2;refine⟨?_,c⟩;obtain⟨s,l⟩:=t;have b:=M1 (AP y r) l 0 k hk;rw[EL]at b;rw[AP,b];refine YR ht (λh=>by simp only at h hk; subst h; simp at hk) (Q9.2 λz hz=>?_);rcases List.mem_or_eq_of_mem_set hz with hz|rfl
  ·exact a z hz
  ·exact h3
def AO (K:ByteArray->ByteArray):List ByteArray->List Tm->List Tm×List ByteArray
 |ns,[]=>([],ns)
 |ns,⟨s,l⟩::r=>
  if Al s=true then (⟨Cc (AB (K s) ns+1),[]⟩::(AO K (Cf ns (K s)) r).1,(AO K (Cf ns (K s)) r).2)
  else (⟨s,(AO K ns l).1⟩::(AO K (AO K ns l).2 r).1,(AO K (AO K ns l).2 r).2)
def AR (K:ByteArray->ByteArray) (ns:List ByteArray) (t:Tm):Tm×List ByteArray:=
 if Al t.name=true then (⟨Cc (AB (K t.name) ns+1),[]⟩,Cf ns (K t.name)) else (⟨t.name,(AO K ns t.args).1⟩,(AO K ns t.args).2)
theorem Fi (K:ByteArray->ByteArray) (ns:List ByteArray):AO K ns []=([],ns):=by rw[AO]
theorem Gm (K:ByteArray->ByteArray) (ns:List ByteArray) (t:Tm) (r:List Tm):AO K ns (t::r)=((AR K ns t).1::(AO K (AR K ns t).2 r).1,(AO K (AR K ns t).2 r).2):=by
 obtain⟨s,l⟩:=t;rw[AO];unfold AR;by_cases h:Al s=true
 ·simp[h]
 ·simp[h]
theorem Rc (K:ByteArray->ByteArray) (b:List Tm):∀(a:List Tm) (ns:List ByteArray),AO K ns (a++b)=((AO K ns a).1++(AO K (AO K ns a).2 b).1,(AO K (AO K ns a).2 b).2)
 | [],ns=>by simp[Fi]
 |t::r,ns=>by
  rw[Cj,Gm,Rc K b r,Gm];simp
theorem YS (K:ByteArray->ByteArray) (ns:List ByteArray) (l:List Tm) (k:Nat) (h:k<l.length):AO K ns (l.take (k+1))=((AO K ns (l.take k)).1++[(AR K (AO K ns (l.take k)).2 l[k]).1],(AR K (AO K ns (l.take k)).2 l[k]).2):=by
 rw[Bo h,Rc,Gm,Fi]
theorem Re (K:ByteArray->ByteArray):∀(l:List Tm) (ns:List ByteArray),(AO K ns l).1.length=l.length
 | [],ns=>by simp[Fi]
 |t::r,ns=>by rw[Gm]; simp[Re K r]
theorem Ni (K:ByteArray->ByteArray) (l:List Tm):∀(ns:List ByteArray),(AO K ns l).2.length<=ns.length+Ab l:=by
 induction l using Tm.indL with
 |h0=>intro ns; simp[Fi]
 |h s l r aa ab=>
  intro ns;have e:Ab ((⟨s,l⟩:Tm)::r)=1+Ab l+Ab r:=by simp[Ab]
  rw[e,Gm];have h2:=ab (AR K ns ⟨s,l⟩).2;have h3:(AR K ns ⟨s,l⟩).2.length<=ns.length+(1+Ab l):=by
   unfold AR;split
   ·have:=MA ns (K s); simp only; omega
   ·have:=aa ns; simp only; omega
  simp only;omega
theorem J2 (K:ByteArray->ByteArray) (t:Tm) (ns:List ByteArray):(AR K ns t).2.length<=ns.length+Ab [t]:=by
 have h:=Ni K [t] ns;rw[Gm,Fi]at h;exact h
def AC (i:Nat) (s:ByteArray):ByteArray:=(⟨(Lib.decDigits i).toArray⟩:ByteArray)++s
def Cp (K:ByteArray->ByteArray) (ns:List ByteArray) (p:Pr):Pr×List ByteArray:=(⟨(AR K ns p.l).1,(AR K (AR K ns p.l).2 p.r).1⟩,(AR K (AR K ns p.l).2 p.r).2)
def Av (o n:Pr):Pr×Pr:=((Cp (AC 0) [] o).1,(Cp (AC 1) (Cp (AC 0) [] o).2 n).1)
def DI (p:Pr):Pr:=(Cp id [] p).1
theorem Rf (K:ByteArray->ByteArray) (p:Pr) (ns:List ByteArray):(Cp K ns p).2.length<=ns.length+Ab [p.l]+Ab [p.r]:=by
 have h1:=J2 K p.l ns;have h2:=J2 K p.r (AR K ns p.l).2;unfold Cp;simp only;omega
def Ak (h:List (ByteArray×Tm)):List Bd:=h.foldl (λs p=>Cz s p.1 p.2) []
theorem FE (h:List (ByteArray×Tm)) (p:ByteArray×Tm):Ak (h++[p])=Cz (Ak h) p.1 p.2:=by simp[Ak]
theorem Nj {h:List (ByteArray×Tm)} {j:Nat} (hj:j<h.length):Ak (h.take (j+1))=Cz (Ak (h.take j)) h[j].1 h[j].2:=by
 rw[Bo hj,FE]
def FZ (s:List Bd) (x:ByteArray) (t:Tm):Prop:=Al x=true/\(∀d∈s,d.nm≠x)/\Ah [t]=0/\(∀e∈s,¬Au e.nm [t])/\¬Au x [t]
def Ca (h:List (ByteArray×Tm)):Prop:=∀j (hj:j<h.length),FZ (Ak (h.take j)) h[j].1 h[j].2
theorem YT:Ca []:=λj hj=>by simp at hj
theorem Ca.snoc {h:List (ByteArray×Tm)} (g:Ca h) {x:ByteArray} {t:Tm} (m:FZ (Ak h) x t):Ca (h++[(x,t)]):=by
 intro j hj;by_cases e:j<h.length
 ·have h1:=g j e;rw[G6 (by omega)];rw[Kq e];exact h1
 ·have a:j=h.length:=by simp at hj; omega
  subst a;rw[G6 (by omega),E5];simpa using m
theorem Ca.ok {h:List (ByteArray×Tm)} (g:Ca h):∀j,j<=h.length->BG (Ak (h.take j))
 |0,_=>by simpa [Ak] using Ja
 |j+1,hj=>by
  rw[Nj (by omega)];obtain⟨m1,m2,m3,m4,m5⟩:=g j (by omega);exact(g.ok j (by omega)).add m1 m2 m3 m4 m5
theorem Ca.all {h:List (ByteArray×Tm)} (g:Ca h):BG (Ak h):=by
 have:=g.ok h.length (Ai _);rwa [E5] at this
theorem Ca.absorb {h:List (ByteArray×Tm)} (g:Ca h) {i:Nat}:∀j,i<=j->j<=h.length->∀L:List Tm,Ah L=0->Ap (Ak (h.take j)) (Ap (Ak (h.take i)) L)=Ap (Ak (h.take j)) L
 |0,hi,_,L,he=>by
  have e:i=0:=by omega
  subst e;exact(g.ok 0 (AG _)).idem he
 |j+1,hi,hj,L,he=>by
  by_cases e:i=j+1
  ·subst e;exact(g.ok _ hj).idem he
  ·have c:=g.absorb (i:=i) j (by omega) (by omega) L he;have b:=g.ok j (by omega);have a:=g.ok (j+1) hj;have aa:j<h.length:=(by omega);obtain⟨m1,m2,_⟩:=g j aa;rw[Nj (h:=h) (j:=j) (by omega)]at a ⊢;rw[Jb b m1 m2 a _ (Io (g.ok i (by omega)) L he),Jb b m1 m2 a L he,c]
theorem Ca.bound {h:List (ByteArray×Tm)} (g:Ca h):∀j,j<=h.length->∀y,(∃d∈Ak (h.take j),d.nm=y)↔∃i,∃hi:i<h.length,i<j/\h[i].1=y
 |0,_,y=>by simp[Ak]
 |j+1,hj,y=>by
  have a:=g.bound j (by omega) y;rw[Nj (by omega)];have hp:=EO ((Ak (h.take j)).map (Br h[j].1 h[j].2)++[⟨h[j].1,h[j].2⟩]);constructor
  ·rintro⟨d,hd,e⟩;rcases Bg.1 (hp.subset hd) with hd|hd
   ·obtain⟨d0,h0,rfl⟩:=Ce.1 hd;obtain⟨i,hi,h1,h2⟩:=a.1 ⟨d0,h0,e⟩;exact⟨i,hi,by omega,h2⟩
   ·have b:d=⟨h[j].1,h[j].2⟩:=(by simpa using hd);rw[b]at e;exact⟨j,by omega,by omega,e⟩
  ·rintro⟨i,hi,h1,h2⟩;by_cases e:i=j
   ·subst e;exact⟨⟨h[i].1,h[i].2⟩,hp.symm.subset (by simp),h2⟩
   ·obtain⟨d0,h0,c⟩:=a.2 ⟨i,hi,by omega,h2⟩;exact⟨Br h[j].1 h[j].2 d0,hp.symm.subset (Bg.2 (Ad (Ce.2 ⟨d0,h0,rfl⟩))),c⟩
theorem Ca.once {h:List (ByteArray×Tm)} (g:Ca h) {i j:Nat} (hi:i<h.length) (hj:j<h.length) (e:h[i].1=h[j].1):i=j:=by
 have key:∀a b (c:a<h.length) (hb:b<h.length),a<b->h[a].1≠h[b].1:=λa b c hb aa e=>by
  obtain⟨d,hd,f⟩:=(g.bound b (by omega) h[a].1).2 ⟨a,c,aa,rfl⟩;exact(g b hb).2.1 d hd (f.trans e)
 rcases Nat.lt_trichotomy i j with h1|h1|h1
 ·exact absurd e (key i j hi hj h1)
 ·exact h1
 ·exact absurd e.symm (key j i hj hi h1)
def stood (h:List (ByteArray×Tm)) (i j:Nat) (hi:i<h.length):Tm:=Ag (Ak (h.take j)) ⟨h[i].1,[]⟩
theorem YU {h:List (ByteArray×Tm)} (g:Ca h) {i j:Nat} (aa:i<=j) (hj:j<=h.length) {t:Tm} (he:Ah [t]=0):Ag (Ak (h.take j)) (Ag (Ak (h.take i)) t)=Ag (Ak (h.take j)) t:=by
 have h1:=g.absorb j aa hj [t] he;rw[Bb,Bb,Bb]at h1;simpa [Ap] using h1
theorem Rg {h:List (ByteArray×Tm)} (g:Ca h) {i j:Nat} (hi:i<h.length) (hj:j<=h.length) (hn:AW h[i].1=true):Ag (Ak h) (stood h i j hi)=stood h i h.length hi:=by
 have h1:=YU g hj (Ai _) (I7 hn);unfold stood;rw[E5]at h1 ⊢;exact h1
theorem YV {h:List (ByteArray×Tm)} (g:Ca h) {i j k:Nat} (hi:i<h.length) (hj:j<=h.length) (hn:AW h[i].1=true) (hk:k<h.length) (ho:Au h[k].1 [stood h i j hi]):j<=k:=by
 rcases Nat.lt_or_ge k j with h1|h1
 ·obtain⟨d,hd,e⟩:=(g.bound j hj h[k].1).2 ⟨k,hk,h1,rfl⟩;have h2:=(g.ok j hj).goneT (I7 hn) d hd;rw[e]at h2;exact absurd ho h2
 ·exact h1
def F1 (lk:ByteArray->Option Tm) (s:ByteArray) (bs:List Tm):Tm:=if Al s=true then (match lk s with|some x=>x|none=>⟨s,bs⟩) else ⟨s,bs⟩
def C4 (lk:ByteArray->Option Tm):List Tm->List Tm
 | []=>[]
 | ⟨s,a⟩::r=>F1 lk s (C4 lk a)::C4 lk r
def Dj (lk:ByteArray->Option Tm) (t:Tm):Tm:=F1 lk t.name (C4 lk t.args)
theorem Lt (b:ByteArray->Option Tm):∀l:List Tm,C4 b l=l.map (Dj b)
 | []=>by simp[C4]
 | ⟨s,a⟩::r=>by rw[C4,Lt b r]; rfl
theorem Rh (c:ByteArray->Option Tm) (a b:List Tm):C4 c (a++b)=C4 c a++C4 c b:=by simp[Lt]
abbrev Ev:=Bool->(Nat->Prop)->World->Prop
structure F2 (E:Ev) (Mt:Nat->Prop):Prop where
 keep:∀f Y w w',E f Y w->(∀b,Y b->w'.heap[b]? = w.heap[b]?)->E f Y w'
 inY:∀f Y w,E f Y w->∀b,Y b->b<w.heap.size
 mt:∀f Y w,E f Y w->∀b,Mt b->Y b
theorem F2.below {E:Ev} {Mt:Nat->Prop} (h:F2 E Mt) {f:Bool} {Y:Nat->Prop} {w w':World} (he:E f Y w) (hb:Below w.heap.size w w'):E f Y w':=h.keep f Y w w' he λb hy=>hb.block b (h.inY f Y w he b hy)
def sV (S:Nat):Value:=.func (.func 146) #[zC S] #[]
def Ri (E:Ev) (Mt:Nat->Prop) (o:Option Tm) (f:Bool) (Y:Nat->Prop) (w:World) (e:Ending) (w':World):Prop:=
 ∃(s:ByteArray) (a:Option Addr) (n c:Nat) (ok:Bool) (f':Bool) (Y':Nat->Prop),e=.returned (.tuple #[.agg #[.string s,.slice a n c],.bool ok])/\E f' Y' w'/\(∀b,Y' b->Y b∨w.heap.size<=b)/\(f=true->f'=true)/\Am Mt w w'/\
  ((ok=true/\∃x:Tm,s=x.name/\n=x.args.length/\Sl w' Y' a x.args/\(f'=false->o=some x))∨(ok=false/\(f'=false->o=none)))
def Gn (E:Ev) (Mt:Nat->Prop) (S:Nat) (o:Option Tm) (nm:ByteArray):Prop:=
 ∀(f:Bool) (Y:Nat->Prop) (w:World),E f Y w->Calls prog 146 #[zC S,.string nm] w λe w'=>Ri E Mt o f Y w e w'
def Is (w:World) (tgt:Tm) (n:Nat) (f':Bool) (s':ByteArray) (a':Option Addr) (l':Nat) (m:Int) (k:Nat) (w':World):Prop:=
 (∃y:Tm,s'=y.name/\l'=y.args.length/\m=(n:Int)-Ab [y]/\Ab [y]<=n/\Sl w' (λb=>w.heap.size+k<=b) a' y.args/\(f'=false->y=tgt))∨(m=-1/\(f'=false->n<Ab [tgt]))
def GW (E:Ev) (Mt:Nat->Prop) (F:Nat) (sv:Value) (tgt:Tm) (n:Nat) (f:Bool) (Y:Nat->Prop) (w:World) (e:Ending) (w':World):Prop:=
 ∃(s':ByteArray) (a':Option Addr) (l' c':Nat) (m:Int) (f':Bool) (Y':Nat->Prop),e=.returned (.agg #[.string s',.slice a' l' c'])/\Ac w' F #[zA m,sv] 132/\Am (λb=>b=F∨Mt b) w w'/\E f' Y' w'/\(∀b,Y' b->Y b∨w.heap.size<=b)/\(f=true->f'=true)/\Is w tgt n f' s' a' l' m 0 w'
theorem Jd {E:Ev} {Mt:Nat->Prop} (g:F2 E Mt) {w a:World} {F:Nat} {sv:Value} {ab:Tm} {n:Nat} {f c:Bool} {Y Y':Nat->Prop} {s':ByteArray} {d:Option Addr} {l' c':Nat} {m:Int} {v0 v1:Value} (hF:F<w.heap.size) (i:∀b,Y b->b<w.heap.size)
  (h1:Ac a F #[zA m,sv] 132) (hx:Am (λb=>b=F∨Mt b) w a) (j:E c Y' a) (aa:∀b,Y' b->Y b∨w.heap.size+2<=b) (k:f=true->c=true) (hc:Is w ab n c s' d l' m 2 a):
  GW E Mt F sv ab n f Y w (.returned (.agg #[.string s',.slice d l' c'])) ((a.setCell (zD (w.heap.size+1) 0) v0).setCell (zD (w.heap.size+1) 1) v1):=by
 have hk:∀b,b≠w.heap.size+1->((a.setCell (zD (w.heap.size+1) 0) v0).setCell (zD (w.heap.size+1) 1) v1).heap[b]? = a.heap[b]? := λb hb=>by
  rw[Aq _ _ _ _ (by simpa using hb),Aq _ _ _ _ (by simpa using hb)]
 refine⟨s',d,l',c',m,c,Y',rfl,(h1.setOther _ _ (by omega)).setOther _ _ (by omega),(hx.setNew (by omega) _ _).setNew (by omega) _ _,g.keep _ _ _ _ j λb hb=>hk b λe=>?_,λb hb=>?_,k,?_⟩
 ·rcases aa b hb with h|h
  ·have:=i b h; omega
  ·omega
 ·rcases aa b hb with h|h
  ·exact Ad h
  ·exact Ae (by omega)
 ·rcases hc with ⟨y,l,o,q,r,s,t⟩|hc
  ·exact Ad ⟨y,l,o,q,r,(s.kept λb hb=>hk b (by omega)).mono λb hb _=>by omega,t⟩
  ·exact Ae hc
theorem YW {Q:Nat->Prop} {a w1:World} (h:Am Q a.drew w1):Am Q a w1:=((Am.refl Q a).drew).trans h
theorem YX {Q:Nat->Prop} {a w1:World} {o:Obj} (h:Am Q (a.alloc o).drew w1):Am Q a w1:=(((Am.refl Q a).alloc o).drew).trans h
theorem YY {Q:Nat->Prop} {a w1:World} {cs:Array Value} {T:Nat} (h:Am Q (a.alloc (.cells cs T)).drew w1) (b:¬Q a.heap.size):Ac w1 a.heap.size cs T:=((Ac.new a cs T).drewN 1).exq h b
theorem Rj {E:Ev} {Mt:Nat->Prop} (j:F2 E Mt) (F S:Nat) (l:ByteArray->Option Tm) (t:Tm) (n:Nat) (a:Option Addr) (c:Nat) (w:World) (X Y:Nat->Prop) (f:Bool) (hn:n<=1000000) (aW:∀b,X b->b≠F/\¬Mt b) (aL:¬Y F) (hs:Sl w X a t.args) (hF:Ac w F #[zA n,sV S] 132) (aM:E f Y w)
  (hL:Al t.name=true->Gn E Mt S (l t.name) t.name)
  (h:∀(w':World) (C:Bool) (Y':Nat->Prop),Sl w' X a t.args->Ac w' F #[zA n,sV S] 132->E C Y' w'->¬Y' F->Calls prog 111 #[zC F,.agg (zF t a c),.func (.func 96) #[zC F] #[]] w' λe aO=>GW E Mt F (sV S) ⟨t.name,C4 l t.args⟩ n C Y' w' e aO):
  Calls prog 96 #[zC F,.agg (zF t a c)] w λe w'=>GW E Mt F (sV S) (Dj l t) n f Y w e w':=by
 have bc:=@hmq prog;have H:=Aa h;have HS:=Aa hs;have HF:=Aa hF;have HE:=Aa aM;have HL:=Aa hL;have aX:=Aa aW;have bd:F<w.heap.size:=hF.lt;have D:Hid (∀b,Y b->b<w.heap.size):=j.inY _ _ _ aM;have aA:Hid (∀b,Mt b->Y b):=j.mt _ _ _ aM;have aP:¬Mt F:=λh=>aL (aA.o F h);clear h hs hF aM hL aW;have aN:=Aa (((Af w.heap.size w).alloc (Ai _) (.cells (zF t a c) 33)).alloc (by simp) (.cells #[.string ⟨#[]⟩,zB] 33));have f1:∀o o',((w.alloc o).alloc o').cell? (zD F 1)=some (sV S):=λo o'=>((HF.o.alloc o).alloc o').cell 1;have RW:Hid (Ac ((w.alloc (.cells (zF t a c) 33)).alloc (.cells #[.string ⟨#[]⟩,zB] 33)) (w.heap.size+1) #[.string ⟨#[]⟩,zB] 33):=Aa (by have h:=Ac.new (w.alloc (.cells (zF t a c) 33)) #[.string ⟨#[]⟩,zB] 33;simpa using h);have aC:=Aa (((Am.refl (λb=>b=F∨Mt b) w).alloc (.cells (zF t a c) 33)).alloc (.cells #[.string ⟨#[]⟩,zB] 33));have L:Hid (((w.alloc (.cells (zF t a c) 33)).alloc (.cells #[.string ⟨#[]⟩,zB] 33)).heap.size=w.heap.size+2):=Aa (by simp);have aD:¬(w.heap.size+1=F∨Mt (w.heap.size+1)):=λh=>by
  rcases h with h|h
  ·omega
  ·have:=D.o _ (aA.o _ h); omega
 cases hv:Al t.name with
 |false=>
  have M:=Aa hv;have HT:Hid (Dj l t=⟨t.name,C4 l t.args⟩):=Aa (by unfold Dj F1;rw[hv];rfl);clear hv;go_enter func96,ntmps96;go_wp2_with (go_at_call 59; refine(CG _ _).mono ?_; rintro e w' ⟨rfl,rfl⟩; rw[M.o]);refine(H.o _ f Y (HS.o.later aN.o) (by exact(HF.o.alloc _).alloc _) (j.below HE.o aN.o) aL).mono ?_;rintro e q ⟨s',s,l',c',m,C,Y',rfl,r,ab,G,aa,u,I⟩;have i:=Aa (RW.o.exq ab aD);have N:=Aa (aC.o.trans ab);have O:=Aa r;have P:=Aa G;have aQ:=Aa aa;have aY:=Aa u;have HC:=Aa I;clear r ab G aa u I;have R:=i.o.c0;have T:=i.o.c1;have rf:=i.o.frozen;go_wp2_with fail;refine An (v:=.agg #[.string s',.slice s l' c']) (by simp[results,results96,go_sem,Ay,Aw,R,T]) rfl ?_;rw[HT.o];refine Jd j (by omega) D.o O.o N.o P.o (λb hb=>(aQ.o b hb).imp id λh=>by rw[L.o] at h; exact h) aY.o ?_;rcases HC.o with ⟨y,z,A,U,V,e5,e6⟩|h
  ·exact Ad ⟨y,z,A,U,V,e5.mono λb hb _=>by have:=L.o; omega,e6⟩
  ·exact Ae h
 |true=>
  have M:=Aa hv;have aZ:=Aa (HL.o hv);clear hv HL;have E0:=Aa (j.below HE.o aN.o);have F0:=Aa ((HF.o.alloc (.cells (zF t a c) 33)).alloc (.cells #[.string ⟨#[]⟩,zB] 33));have S0:=Aa (HS.o.later aN.o);have T0:=Aa ((Ac.new w (zF t a c) 33).alloc (.cells #[.string ⟨#[]⟩,zB] 33));have g1:=F0.o.cell 1;have g0:=T0.o.cell 0;simp only[IE,L4,Kn] at g1 g0;have ba:Hid (∀w',Below ((w.alloc (.cells (zF t a c) 33)).alloc (.cells #[.string ⟨#[]⟩,zB] 33)).heap.size ((w.alloc (.cells (zF t a c) 33)).alloc (.cells #[.string ⟨#[]⟩,zB] 33)) w'->Calls prog 146 #[zC S,.string t.name] w' λe aO=>Ri E Mt (l t.name) f Y w' e aO):=λw' hb=>aZ.o f Y w' (j.below E0.o hb);have aR:Hid (∀w',Am Mt ((w.alloc (.cells (zF t a c) 33)).alloc (.cells #[.string ⟨#[]⟩,zB] 33)) w'->w'.cell? (zD F 1)=some (sV S)/\w'.cell? (zD w.heap.size 0)=some (.string t.name)):=λw' hb=>⟨(F0.o.exq hb aP).cell 1,(T0.o.exq hb (λh=>by have:=D.o _ (aA.o _ h); omega)).cell 0⟩;have nF:((w.alloc (.cells (zF t a c) 33)).alloc (.cells #[.string ⟨#[]⟩,zB] 33)).heap.size≠F:=by have:=L.o; omega
  have nT:((w.alloc (.cells (zF t a c) 33)).alloc (.cells #[.string ⟨#[]⟩,zB] 33)).heap.size≠w.heap.size:=by have:=L.o; omega
  have nM:¬Mt ((w.alloc (.cells (zF t a c) 33)).alloc (.cells #[.string ⟨#[]⟩,zB] 33)).heap.size:=λh=>by have:=D.o _ (aA.o _ h); have:=L.o; omega
  clear f1;unfold sV at g1 aR;go_enter func96,ntmps96;go_wp2_with (go_at_call 59; refine(CG _ _).mono ?_; rintro e w' ⟨rfl,rfl⟩; rw[M.o]);generalize ((w.alloc (.cells (zF t a c) 33)).alloc (.cells #[.string ⟨#[]⟩,zB] 33))=Z at *;go_region_held3 (λw'=>w'.cell? (zD F 1)=some (.func (.func 146) #[zC S] #[])/\w'.cell? (zD w.heap.size 0)=some (.string t.name)) (first|exact hS|exact⟨g1,g0⟩|exact GO hS nF nT|exact GO (GO hS nF nT) nF nT|go_keep)
   ((go_at_call 146; refine(ba.o _ (by first|exact(Af _ _).drew|exact((Af _ _).alloc (Ai _) _).drew)).mono ?_; rintro e w1 ⟨s1,a1,n1,c1,bf,f1,k,rfl,G,aa,u,ab,I⟩; have aS:=Aa G; have al:=Aa aa; have av:=Aa u; have aB:=Aa I; clear G aa u I; (first|(have ax:=YW ab; have hS:=aR.o _ ax)|(have ax:=YX ab; have xb:=Aa (YY ab nM); have x0:=xb.o.cell 0; have x1:=xb.o.cell 1; have xf:=xb.o.frozen; have hS:=aR.o _ ax)); have bg:=Aa ab; clear ab))
  ·generalize hz:(w1.alloc (Obj.cells #[Value.string s1,Value.slice a1 n1 c1] 33))=g at *;have bb:∀b,b<w1.heap.size->g.heap[b]? = w1.heap[b]? := λb hb=>by rw[<-hz]; exact AL _ _ _ hb
   have B:Am Mt Z g:=by rw[<-hz]; exact ax.alloc _
   have aE:Hid (∀b,k b->g.heap[b]? = w1.heap[b]?):=λb hb=>bb b (j.inY _ _ _ aS.o b hb);have ay:Hid (∀b,k b->Y b∨w.heap.size+2<=b):=λb hb=>(al.o b hb).imp id λh=>by have h2:=L.o; have h3:Z.heap.size<=b:=h; omega
   have q0:g.cell? (zD w1.heap.size 0)=some (.string s1):=by rw[<-hz]; exact(Ac.new w1 _ _).cell 0
   have q1:g.cell? (zD w1.heap.size 1)=some (.slice a1 n1 c1):=by rw[<-hz]; exact(Ac.new w1 _ _).cell 1
   have az:=Aa B;have a6:Hid (E f1 k g):=j.keep _ _ _ _ aS.o aE.o;have aF:=Aa (F0.o.exq B aP);have aG:=Aa (RW.o.exq B (λh=>aD (Ae h)));have aH:=Aa (T0.o.exq B (λh=>by have:=D.o _ (aA.o _ h); omega));have ae:Hid (¬k F):=λh=>by
    rcases ay.o F h with h1|h1
    ·exact aL h1
    ·omega
   have af:Hid (w.heap.size+2<=g.heap.size):=Aa (by have:=B.size;have:=L.o;omega);clear B hz hS ax;rcases aB.o with ⟨rfl,x,rfl,rfl,aI,J⟩|⟨rfl,J⟩
   ·have aT:Hid (Sl g k a1 x.args):=aI.kept aE.o;have W:=Aa J;clear aI J aB;go_wp2_with fail;refine(KK F _ x n _ g k ⟨a1,c1,rfl,aT.o⟩ (λb hb e=>ae.o (e▸hb)) hn aF.o).mono ?_;rintro e q ⟨s',s,l',c',m,rfl,r,ab,aJ,aK⟩;have i:=Aa (aG.o.ex ab (by omega));have N:Hid (Am (λb=>b=F∨Mt b) w q):=(aC.o.trans (az.o.mono λb hb _=>Ae hb)).trans (Am.ofEx ab (Ad rfl));have P:Hid (E f1 k q):=j.keep _ _ _ _ a6.o λb hb=>ab.block b (j.inY _ _ _ a6.o b hb) (λe=>ae.o (e▸hb));have O:=Aa r;have a7:Hid (Is w (Dj l t) n f1 s' s l' m 2 q):=by
     by_cases hle:Ab [x]<=n
     ·obtain⟨z,A,U,V⟩:=aJ hle;exact Ad ⟨x,A,U,z,hle,V.mono λb hb _=>by have:=af.o; omega,λd=>by unfold Dj F1; rw[M.o,W.o d]; rfl⟩
     ·exact Ae ⟨aK (by omega),λd=>by unfold Dj F1; rw[M.o,W.o d]; simpa using hle⟩
    clear r ab aJ aK;have R:=i.o.c0;have T:=i.o.c1;have rf:=i.o.frozen;go_wp2_with fail;refine An (v:=.agg #[.string s',.slice s l' c']) (by simp[results,results96,go_sem,Ay,Aw,R,T]) rfl ?_;exact Jd j (by omega) D.o O.o N.o P.o ay.o av.o a7.o
   ·have W:=Aa J;clear J aB;have t0:=aH.o.c0;have t1:=aH.o.c1;go_wp2_with fail;refine(H.o g f1 k (S0.o.exq az.o (λb hb=>(aX.o b hb).2)) aF.o a6.o ae.o).mono ?_;rintro e q ⟨s',s,l',c',m,C,Y',rfl,r,ab,G,aa,u,I⟩;have i:=Aa (aG.o.exq ab aD);have N:Hid (Am (λb=>b=F∨Mt b) w q):=(aC.o.trans (az.o.mono λb hb _=>Ae hb)).trans ab;have P:=Aa G;have O:=Aa r;have aU:Hid (∀b,Y' b->Y b∨w.heap.size+2<=b):=λb hb=>by
     rcases aa b hb with h|h
     ·exact ay.o b h
     ·right; have:=af.o; omega
    have a8:Hid (f=true->C=true):=λh=>u (av.o h);have a7:Hid (Is w (Dj l t) n C s' s l' m 2 q):=by
     have hT:C=false->Dj l t=⟨t.name,C4 l t.args⟩:=λd=>by
      have aV:f1=false:=by
       cases h:f1 with
       |false=>rfl
       |true=>have:=u h; rw[d] at this; cases this
      unfold Dj F1; rw[M.o,W.o aV]; rfl
     rcases I with ⟨y,z,A,U,V,e5,e6⟩|⟨z,A⟩
     ·exact Ad ⟨y,z,A,U,V,e5.mono λb hb _=>by have:=af.o; omega,λd=>by rw[hT d]; exact e6 d⟩
     ·exact Ae ⟨z,λd=>by rw[hT d]; exact A d⟩
    clear r ab G aa u I;have R:=i.o.c0;have T:=i.o.c1;have rf:=i.o.frozen;go_wp2_with fail;refine An (v:=.agg #[.string s',.slice s l' c']) (by simp[results,results96,go_sem,Ay,Aw,R,T]) rfl ?_;exact Jd j (by omega) D.o O.o N.o P.o aU.o a8.o a7.o
  ·generalize hz:((w1.setCell { block:=Z.heap.size,off:=0} (Value.string s1)).setCell { block:=Z.heap.size,off:=1} (Value.slice a1 n1 c1))=g at *;have B:Am Mt Z g:=by rw[<-hz]; exact(ax.setNew (Ai _) _ _).setNew (Ai _) _ _
   have ay:Hid (∀b,k b->Y b∨w.heap.size+2<=b):=λb hb=>(al.o b hb).imp id λh=>by have h2:=L.o; simp at h; omega
   have aE:Hid (∀b,k b->g.heap[b]? = w1.heap[b]?):=λb hb=>by
    have hne:b≠Z.heap.size:=λe=>by
     rcases al.o b hb with h|h
     ·have:=D.o b h; have:=L.o; omega
     ·simp at h; omega
    rw[<-hz,Aq _ _ _ _ (by simpa using hne),Aq _ _ _ _ (by simpa using hne)]
   have q0:g.cell? (zD Z.heap.size 0)=some (.string s1):=by rw[<-hz]; simp[Ay,Aw,x0,x1]
   have q1:g.cell? (zD Z.heap.size 1)=some (.slice a1 n1 c1):=by rw[<-hz]; simp[Ay,Aw,x0,x1]
   have az:=Aa B;have a6:Hid (E f1 k g):=j.keep _ _ _ _ aS.o aE.o;have aF:=Aa (F0.o.exq B aP);have aG:=Aa (RW.o.exq B (λh=>aD (Ae h)));have aH:=Aa (T0.o.exq B (λh=>by have:=D.o _ (aA.o _ h); omega));have ae:Hid (¬k F):=λh=>by
    rcases ay.o F h with h1|h1
    ·exact aL h1
    ·omega
   have af:Hid (w.heap.size+2<=g.heap.size):=Aa (by have:=B.size;have:=L.o;omega);clear B hz hS ax;rcases aB.o with ⟨rfl,x,rfl,rfl,aI,J⟩|⟨rfl,J⟩
   ·have aT:Hid (Sl g k a1 x.args):=aI.kept aE.o;have W:=Aa J;clear aI J aB;go_wp2_with fail;refine(KK F _ x n _ g k ⟨a1,c1,rfl,aT.o⟩ (λb hb e=>ae.o (e▸hb)) hn aF.o).mono ?_;rintro e q ⟨s',s,l',c',m,rfl,r,ab,aJ,aK⟩;have i:=Aa (aG.o.ex ab (by omega));have N:Hid (Am (λb=>b=F∨Mt b) w q):=(aC.o.trans (az.o.mono λb hb _=>Ae hb)).trans (Am.ofEx ab (Ad rfl));have P:Hid (E f1 k q):=j.keep _ _ _ _ a6.o λb hb=>ab.block b (j.inY _ _ _ a6.o b hb) (λe=>ae.o (e▸hb));have O:=Aa r;have a7:Hid (Is w (Dj l t) n f1 s' s l' m 2 q):=by
     by_cases hle:Ab [x]<=n
     ·obtain⟨z,A,U,V⟩:=aJ hle;exact Ad ⟨x,A,U,z,hle,V.mono λb hb _=>by have:=af.o; omega,λd=>by unfold Dj F1; rw[M.o,W.o d]; rfl⟩
     ·exact Ae ⟨aK (by omega),λd=>by unfold Dj F1; rw[M.o,W.o d]; simpa using hle⟩
    clear r ab aJ aK;have R:=i.o.c0;have T:=i.o.c1;have rf:=i.o.frozen;go_wp2_with fail;refine An (v:=.agg #[.string s',.slice s l' c']) (by simp[results,results96,go_sem,Ay,Aw,R,T]) rfl ?_;exact Jd j (by omega) D.o O.o N.o P.o ay.o av.o a7.o
   ·have W:=Aa J;clear J aB;have t0:=aH.o.c0;have t1:=aH.o.c1;go_wp2_with fail;refine(H.o g f1 k (S0.o.exq az.o (λb hb=>(aX.o b hb).2)) aF.o a6.o ae.o).mono ?_;rintro e q ⟨s',s,l',c',m,C,Y',rfl,r,ab,G,aa,u,I⟩;have i:=Aa (aG.o.exq ab aD);have N:Hid (Am (λb=>b=F∨Mt b) w q):=(aC.o.trans (az.o.mono λb hb _=>Ae hb)).trans ab;have P:=Aa G;have O:=Aa r;have aU:Hid (∀b,Y' b->Y b∨w.heap.size+2<=b):=λb hb=>by
     rcases aa b hb with h|h
     ·exact ay.o b h
     ·right; have:=af.o; omega
    have a8:Hid (f=true->C=true):=λh=>u (av.o h);have a7:Hid (Is w (Dj l t) n C s' s l' m 2 q):=by
     have hT:C=false->Dj l t=⟨t.name,C4 l t.args⟩:=λd=>by
      have aV:f1=false:=by
       cases h:f1 with
       |false=>rfl
       |true=>have:=u h; rw[d] at this; cases this
      unfold Dj F1; rw[M.o,W.o aV]; rfl
     rcases I with ⟨y,z,A,U,V,e5,e6⟩|⟨z,A⟩
     ·exact Ad ⟨y,z,A,U,V,e5.mono λb hb _=>by have:=af.o; omega,λd=>by rw[hT d]; exact e6 d⟩
     ·exact Ae ⟨z,λd=>by rw[hT d]; exact A d⟩
    clear r ab G aa u I;have R:=i.o.c0;have T:=i.o.c1;have rf:=i.o.frozen;go_wp2_with fail;refine An (v:=.agg #[.string s',.slice s l' c']) (by simp[results,results96,go_sem,Ay,Aw,R,T]) rfl ?_;exact Jd j (by omega) D.o O.o N.o P.o aU.o a8.o a7.o
theorem YZ {s:List Bd} (hs:∀d∈s,Al d.nm=true):∀l:List Tm,Ah l=0->C4 (As s) l=Ap s l:=by
 intro l;induction l using Tm.indL with
 |h0=>intro _; simp[C4,Ap]
 |h n l r aa ab=>
  intro he;obtain⟨g1,g2,g3⟩:=GR he;rw[C4,Bb,ab g3,aa g2];congr 1
  cases hv:Al n with
  |false=>rw[GT hs hv,F1,hv]; rfl
  |true=>
   have e:=g1 hv;subst e;rw[FV,F1,hv];cases As s n with
   |none=>simp[Ap]
   |some x=>rfl
theorem Rk {s:List Bd} (hs:∀d∈s,Al d.nm=true) {t:Tm} (he:Ah [t]=0):Dj (As s) t=Ag s t:=by
 have h:=YZ hs [t] he;rw[Lt,Bb]at h;simpa [Ap] using h
def Gp (h:List (ByteArray×Tm)):Prop:=∀i (hi:i<h.length),AW h[i].1=true
def It (w:World) (Y:Nat->Prop) (h:List (ByteArray×Tm)) (i:Nat) (hi:i<h.length) (v:Value):Prop:=
 ∃(j:Nat) (a:Option Addr) (c:Nat),j<=h.length/\v=.agg #[.string (stood h i (max j (i+1)) hi).name,.slice a (stood h i (max j (i+1)) hi).args.length c,zA j]/\Sl w Y a (stood h i (max j (i+1)) hi).args
def Eo (w:World) (Y:Nat->Prop) (h:List (ByteArray×Tm)) (L:List (ByteArray×Value)):Prop:=
 L.length=h.length/\∀i (hi:i<h.length) (hl:i<L.length),L[i].1=h[i].1/\It w Y h i hi L[i].2
theorem It.imp {w w':World} {Y Z:Nat->Prop} {h:List (ByteArray×Tm)} {i:Nat} {hi:i<h.length} {v:Value} (hs:∀a l,Sl w Y a l->Sl w' Z a l) (e:It w Y h i hi v):It w' Z h i hi v:=by
 obtain⟨j,a,c,h1,h2,h3⟩:=e;exact⟨j,a,c,h1,h2,hs _ _ h3⟩
theorem Eo.imp {w w':World} {Y Z:Nat->Prop} {h:List (ByteArray×Tm)} {L:List (ByteArray×Value)} (hs:∀a l,Sl w Y a l->Sl w' Z a l) (e:Eo w Y h L):Eo w' Z h L:=
 ⟨e.1,λi hi b=>⟨(e.2 i hi b).1,(e.2 i hi b).2.imp hs⟩⟩
theorem Rl:∀(L:List (ByteArray×Value)) (i:Nat) (hi:i<L.length),(∀k (hk:k<L.length),k<i->L[k].1≠L[i].1)->Be L L[i].1=some L[i].2
 | [],i,hi,_=>by simp at hi
 |p::r,0,hi,_=>by simp[Be]
 |p::r,i+1,hi,h=>by
  have h0:=h 0 (by simp) (by omega);simp only[EI,Gw] at h0 ⊢;rw[Be,Aj h0];refine Rl r i (by simpa using hi) λk hk aa=>?_;have:=h (k+1) (by simpa using hk) (by omega);simpa using this
theorem Rm:∀(L:List (ByteArray×Value)) (n:ByteArray),(∀k (hk:k<L.length),L[k].1≠n)->Be L n=none
 | [],n,_=>rfl
 |p::r,n,h=>by
  have h0:=h 0 (by simp);simp only[EI] at h0;rw[Be,Aj h0];exact Rm r n λk hk=>by have:=h (k+1) (by simpa using hk); simpa using this
theorem Ro:∀(L:List (ByteArray×Value)) (i:Nat) (hi:i<L.length) (v:Value),(∀k (hk:k<L.length),k<i->L[k].1≠L[i].1)->GM L L[i].1 v=L.set i (L[i].1,v)
 | [],i,hi,v,_=>by simp at hi
 |p::r,0,hi,v,_=>by simp[GM]
 |p::r,i+1,hi,v,h=>by
  have h0:=h 0 (by simp) (by omega);simp only[EI,Gw] at h0 ⊢;rw[GM,Aj h0,Ro r i (by simpa using hi) v λk hk aa=>by have:=h (k+1) (by simpa using hk) (by omega); simpa using this];rfl
theorem Eo.apart {w:World} {Y:Nat->Prop} {h:List (ByteArray×Tm)} {L:List (ByteArray×Value)} (e:Eo w Y h L) (g:Ca h) (i:Nat) (hi:i<L.length):∀k (hk:k<L.length),k<i->L[k].1≠L[i].1:=λk hk aa a=>by
 have hl:=e.1;rw[(e.2 k (by omega) hk).1,(e.2 i (by omega) hi).1]at a;have:=g.once (by omega) (by omega) a;omega
theorem Eo.get {w:World} {Y:Nat->Prop} {h:List (ByteArray×Tm)} {L:List (ByteArray×Value)} (e:Eo w Y h L) (g:Ca h) {i:Nat} (hi:i<h.length):∃v,Be L h[i].1=some v/\It w Y h i hi v:=by
 have a:i<L.length:=by rw[e.1]; exact hi
 have h1:=Rl L i a (e.apart g i a);rw[(e.2 i hi a).1]at h1;exact⟨_,h1,(e.2 i hi a).2⟩
theorem Eo.none {w:World} {Y:Nat->Prop} {h:List (ByteArray×Tm)} {L:List (ByteArray×Value)} (e:Eo w Y h L) {n:ByteArray} (hn:∀i (hi:i<h.length),h[i].1≠n):Be L n=none:=
 Rm L n λk hk=>by rw[(e.2 k (by rw[<-e.1]; exact hk) hk).1]; exact hn k _
theorem Eo.set {w:World} {Y:Nat->Prop} {h:List (ByteArray×Tm)} {L:List (ByteArray×Value)} (e:Eo w Y h L) (g:Ca h) {i:Nat} (hi:i<h.length) {v:Value} (hv:It w Y h i hi v):Eo w Y h (GM L h[i].1 v):=by
 have a:i<L.length:=by rw[e.1]; exact hi
 have h1:=Ro L i a v (e.apart g i a);rw[(e.2 i hi a).1]at h1;rw[h1];refine⟨by simp[e.1],λk hk ab=>?_⟩;by_cases aa:i=k
 ·subst aa;simp only[List.getElem_set_self];exact⟨trivial,hv⟩
 ·rw[List.getElem_set_ne aa];exact e.2 k hk (by simpa using ab)
theorem Je {h:List (ByteArray×Tm)} (g:Ca h) {i:Nat} (hi:i<h.length):As (Ak h) h[i].1=some (stood h i h.length hi):=by
 obtain⟨d,hd,e⟩:=(g.bound h.length (Ai _) h[i].1).2 ⟨i,hi,hi,rfl⟩;rw[E5]at hd;obtain⟨t,ht⟩:=QM hd;rw[e]at ht;rw[ht];unfold stood;rw[E5,IM ht]
theorem Y3 {h:List (ByteArray×Tm)} (g:Ca h) {n:ByteArray} (hn:∀i (hi:i<h.length),h[i].1≠n):As (Ak h) n=none:=by
 cases a:As (Ak h) n with
 |none=>rfl
 |some x=>obtain⟨d,hd,e,_⟩:=FU a;have h1:=(g.bound h.length (Ai _) n).1 ⟨d,by rw[E5]; exact hd,e⟩;obtain⟨i,hi,_,h2⟩:=h1;exact absurd h2 (hn i hi)
theorem Rp {h:List (ByteArray×Tm)} (g:Ca h) (hn:Gp h) {i:Nat} (hi:i<h.length) {j:Nat} (hj:j<=h.length):Ah [stood h i j hi]=0:=En (g.ok j hj) (I7 (hn i hi))
theorem Y4 {h:List (ByteArray×Tm)} (g:Ca h) (hn:Gp h) {i:Nat} (hi:i<h.length) {j:Nat} (hj:j<=h.length):Dj (As (Ak h)) (stood h i j hi)=stood h i h.length hi:=by
 rw[Rk g.all.vars (Rp g hn hi hj),Rg g hi hj (hn i hi)]
theorem Rq {h:List (ByteArray×Tm)} (g:Ca h) {i:Nat} (hi:i<h.length) (hz:2000<Ab [stood h i h.length hi]):AF (Ak h)=true:=by
 obtain⟨d,hd,e1,a⟩:=FU (Je g hi);unfold AF;rw[Ei];exact⟨d,hd,by rw[a]; simpa using hz⟩
def Cg (S q:Nat) (td:Value) (h:List (ByteArray×Tm)):Ev:=λf Y w=>
 (∃L,Ac w S #[td,.map (some q),.bool f] 148/\Bm w q L/\Eo w (λb=>Y b/\b≠S/\b≠q) h L)/\Y S/\Y q/\(∀b,Y b->b<w.heap.size)/\(f=true->AF (Ak h)=true)
def Ci (S q:Nat):Nat->Prop:=λb=>b=S∨b=q
theorem Do (S q:Nat) (e:Value) (h:List (ByteArray×Tm)):F2 (Cg S q e h) (Ci S q):=by
 refine⟨λf Y w w' he hk=>?_,λf Y w he=>he.2.2.2.1,λf Y w he b hb=>?_⟩
 ·obtain⟨⟨L,h1,h2,h3⟩,c,d,h6,g⟩:=he;refine⟨⟨L,?_,h2.kept (hk q d),h3.imp λa l hs=>hs.kept λb hb=>hk b hb.1⟩,c,d,λb hb=>?_,g⟩
  ·unfold Ac at *; rw[hk S c]; exact h1
  ·have h8:=hk b hb;have i:=h6 b hb;apply Hw;intro hn;rw[Jv (by omega),Array.getElem?_eq_getElem i]at h8;cases h8
 ·rcases hb with rfl|rfl
  ·exact he.2.1
  ·exact he.2.2.1
def Jf (Mt:Nat->Prop) (w:World) (F O:Nat) (s:ByteArray) (u:Value) (cF:Array Value) (wr:World):Prop:=
 Am (λb=>b=F∨Mt b) w wr/\Ac wr (w.heap.size+1) #[.string ⟨#[]⟩,zB] 33/\Ac wr O #[.string s,u] 33/\Ac wr F cF 132/\O<wr.heap.size
theorem Y5 {Mt:Nat->Prop} {w wr w1 w3:World} {F O:Nat} {s:ByteArray} {u v:Value} {g ab:Array Value} {a:Obj} (af:F<w.heap.size) (i:∀b,Mt b->b<w.heap.size) (hO:w.heap.size+2<=O) (h:Jf Mt w F O s u g wr) (hu:∀k,u.ownBlock=some k->O+1<=k)
  (aa:Am (λb=>b=F∨Mt b) wr w1) (j:Ac w1 F ab 132) (c:(w1.alloc a).grownBy w3 u.ownBlock):Jf Mt w F O s v ab (w3.setCell (zD O 1) v):=by
 obtain⟨h1,h2,h3,h4,h5⟩:=h;have d:∀b,b<O+1->some b≠u.ownBlock:=λb hb e=>by have:=hu b e.symm; omega
 have f:∀b,w.heap.size<=b->¬(b=F∨Mt b):=λb hb h=>by
  rcases h with h|h
  ·omega
  ·have:=i b h; omega
 have ag:=aa.size;have l:=c.size;simp at l;refine⟨(((h1.trans aa).alloc a).grown c (λk hk=>Ad (by have:=hu k hk; omega))).setNew (by omega) _ _,?_,?_,?_,by simp[World.setCell]; omega⟩
 ·exact(((h2.exq aa (f _ (by omega))).alloc a).grown c (d _ (by omega))).setOther _ _ (by omega)
 ·exact(((h3.exq aa (f _ (by omega))).alloc a).grown c (d _ (by omega))).set 1 _
 ·exact((j.alloc a).grown c (d _ (by omega))).setOther _ _ (by omega)
theorem Y7 {Q:Nat->Prop} {wr w1 w3:World} {O:Nat} {u:Value} {L:List Tm} {xs:List Value} {a:Obj} {s':ByteArray} {a1:Option Addr} {c c1 g cap:Nat} {t:Tm} (d:∀b,Q b->b<O) (hOr:O<wr.heap.size) (aa:AK wr (O+1) 33 (λ_=>False) u L xs)
  (e:Am Q wr w1) (ht:TV w1 (λb=>wr.heap.size<=b) (.agg #[.string s',.slice a1 c c1]) t)
  (ab:w3.ownsRow (O+1) 33 2 (.slice (some (zD g 0)) (L.length+1) cap) (L.length+1) (xs++[.string s',.slice a1 c c1])) (f:(w1.alloc a).grownBy w3 u.ownBlock) (i:u.ownBlock=some g∨g=(w1.alloc a).heap.size):
  AK (w3.setCell (zD O 1) (.slice (some (zD g 0)) (L.length+1) cap)) (O+1) 33 (λ_=>False) (.slice (some (zD g 0)) (L.length+1) cap) (L++[t]) (xs++[.string s',.slice a1 c c1]):=by
 obtain⟨wm,j,ai,k⟩:=e.mid;have l:=aa.exq k (λb hb=>by have:=d b hb; omega) (λ_ _ h=>h);exact(l.push (w1:=w1) (w2:=w1.alloc a) (w3:=w3) (by omega) (λ_ h=>h.elim) j (ht.mono λb h _=>Ae (by omega)) a rfl ab f i).setCell (by omega) (λh=>h) _
def J3 (E:Ev) (O:Nat) (f:Bool) (Y:Nat->Prop) (u:Value) (f':Bool) (Y':Nat->Prop) (wr:World):Prop:=
 E f' Y' wr/\(∀b,Y' b->Y b∨O+1<=b)/\(∀b,Y' b->some b≠u.ownBlock)/\(f=true->f'=true)
def Y8 (E:Ev) (Mt:Nat->Prop) (lk:ByteArray->Option Tm) (w:World) (F O:Nat) (s:ByteArray) (sv:Value) (l:List Tm) (n:Nat) (f:Bool) (Y:Nat->Prop) (i:Value) (wr:World):Prop:=
 ∃(k:Nat) (u:Value) (f':Bool) (Y':Nat->Prop),k<=l.length/\i=zA k/\J3 E O f Y u f' Y' wr/\
  ((∃(m:Nat) (xs:List Value) (Mk:List Tm),Mk.length=k/\(m:Int)=(n:Int)-1-Ab Mk/\Jf Mt w F O s u #[zA m,sv] wr/\AK wr (O+1) 33 (λ_=>False) u Mk xs/\(f'=false->Mk=C4 lk (l.take k)))∨
   (Jf Mt w F O s u #[zA (-1),sv] wr/\(∃a9 l9 c9,u=.slice a9 l9 c9)/\(f'=false->n<1+Ab (C4 lk l))))
theorem Za {E:Ev} {Mt:Nat->Prop} (c:F2 E Mt) {O:Nat} {f d f1:Bool} {Y Y' a:Nat->Prop} {u:Value} {wr w1 w3:World} {i:Obj} {g cap n9:Nat} {x:Value} (n:∀b,Y b->b<O) (h:J3 E O f Y u d Y' wr) (hu:∀k,u.ownBlock=some k->k<wr.heap.size) (hOr:O<wr.heap.size) (al:wr.heap.size<=w1.heap.size)
  (ab:E f1 a w1) (aa:∀b,a b->Y' b∨wr.heap.size<=b) (o:d=true->f1=true) (q:(w1.alloc i).grownBy w3 u.ownBlock) (r:u.ownBlock=some g∨g=(w1.alloc i).heap.size):
  J3 E O f Y (.slice (some (zD g 0)) n9 cap) f1 a (w3.setCell (zD O 1) x):=by
 obtain⟨h1,h2,h3,s⟩:=h;have j:=c.inY _ _ _ ab;have l:∀b,a b->some b≠u.ownBlock:=λb hb e=>by
  rcases aa b hb with h|h
  ·exact h3 b h e
  ·have:=hu b e.symm; omega
 have m:∀b,a b->Y b∨O+1<=b:=λb hb=>by
  rcases aa b hb with h|h
  ·exact h2 b h
  ·right; omega
 refine⟨c.keep _ _ _ _ ab λb hb=>?_,m,λb hb e=>?_,λh=>o (s h)⟩
 ·have t:b≠O:=λe=>by
   rcases m b hb with h|h
   ·have:=n b h; omega
   ·omega
  have v:=j b hb;rw[Aq _ _ _ _ (by simpa using t),q.block b (by simp; omega) (l b hb),AL _ _ _ v]
 ·have y:b=g:=by simpa [Value.ownBlock] using e
  subst y;rcases r with h|h
  ·exact l b hb h.symm
  ·have:=j b hb; simp at h; omega
theorem Nk {E:Ev} {Mt:Nat->Prop} (d:F2 E Mt) {w wr:World} {F O:Nat} {s:ByteArray} {u sv:Value} {aa:Tm} {n:Nat} {f a:Bool} {Y Y':Nat->Prop} {c:Option Addr} {l' c':Nat} {m:Int} {v0 v1:Value} (hF:F<w.heap.size) (e:∀b,Y b->b<w.heap.size) (hO:w.heap.size+2<=O)
  (h1:Jf Mt w F O s u #[zA m,sv] wr) (h2:J3 E O f Y u a Y' wr) (hc:Is w aa n a s c l' m 2 wr):
  GW E Mt F sv aa n f Y w (.returned (.agg #[.string s,.slice c l' c'])) ((wr.setCell (zD (w.heap.size+1) 0) v0).setCell (zD (w.heap.size+1) 1) v1):=
 Jd d hF e h1.2.2.2.1 h1.1 h2.1 (λb hb=>(h2.2.1 b hb).imp id λh=>by omega) h2.2.2.2 hc
theorem Zb {E:Ev} {Mt:Nat->Prop} (a:F2 E Mt) {w w':World} {F:Nat} {sv:Value} {aa:Tm} {n:Nat} {f:Bool} {Y:Nat->Prop} {e:Ending} (h:GW E Mt F sv aa n f Y w e w') (o:Obj):GW E Mt F sv aa n f Y w e (w'.alloc o):=by
 obtain⟨s',b,l',c',m,c,Y',he,h1,h2,h3,d,g,h6⟩:=h;refine⟨s',b,l',c',m,c,Y',he,h1.alloc o,h2.alloc o,a.below h3 ((Af _ _).alloc (Ai _) o),d,g,?_⟩;rcases h6 with ⟨y,i,j,k,l,q,r⟩|h6
 ·exact Ad ⟨y,i,j,k,l,q.later ((Af _ _).alloc (Ai _) o),r⟩
 ·exact Ae h6
theorem Rr {nm:ByteArray} {l:List Tm} {k:Nat} (h:k<l.length) (ho:Au nm [l[k]]):Au nm l:=by
 have:l=l.take k++(l[k]::l.drop (k+1)):=by rw[List.getElem_cons_drop,EJ]
 rw[this,Lq,BO];exact Ae (Ad ho)
theorem Zc {E:Ev} {Mt:Nat->Prop} (B:F2 E Mt) (F S:Nat) (r:ByteArray->Option Tm) (t:Tm):∀(n:Nat) (v:Value) (w:World) (X Y:Nat->Prop) (f:Bool),TV w X v t->(∀b,X b->b≠F/\¬Mt b)->n<=1000000->Ac w F #[zA n,sV S] 132->E f Y w->¬Y F->(∀nm,Au nm t.args->Al nm=true->Gn E Mt S (r nm) nm)->
  Calls prog 111 #[zC F,v,.func (.func 96) #[zC F] #[]] w λe w'=>GW E Mt F (sV S) ⟨t.name,C4 r t.args⟩ n f Y w e w':=by
 induction t using Tm.ind with
 |h s l ih=>
  intro n v w X Y f hv aD hn hF R aE hL;obtain⟨a,c,rfl,hs⟩:=hv;(try dsimp only[zF]);(try dsimp only[zG]);(try dsimp only[zE]);(try dsimp only);have H:Hid (∀b,Y b->b<w.heap.size):=B.inY _ _ _ R;have W:Hid (∀b,Mt b->b<w.heap.size):=λb hb=>H.o b (B.mt _ _ _ R b hb);have HL:=Aa hL;have aU:=Aa R;clear hL R;generalize aV:sV S=sv at *;have IH:=Aa ih;clear ih;obtain⟨i0,aW,aX,aY,aZ⟩:=CE Tryz.infoTerm;have f0:∀o,(w.alloc o).cell? (zD F 0)=some (zA n):=λo=>(hF.alloc o).cell 0;have ff:∀o,(w.alloc o).frozen? (zD F 0)=false:=λo=>(hF.alloc o).frozen 0;have T:F<w.heap.size:=hF.lt;go_enter func111,ntmps111;go_wp2_with fail;have E3:Hid (Jf Mt w F (w.heap.size+1+1) s zB #[zA ((n:Int)-1),sv] ((((w.setCell (zD F 0) (zA ((n:Int)-1))).alloc (.cells #[.string s,.slice a l.length c] 33)).alloc (.cells #[.string ⟨#[]⟩,zB] 33)).alloc (.cells #[.string s,zB] 33))):=by
   refine⟨((((Am.refl _ w).set (Ad rfl) 0 _).alloc _).alloc _).alloc _,?_,?_,(((hF.set 0 _).alloc _).alloc _).alloc _,by simp[World.setCell]⟩
   ·have h:=(Ac.new ((w.setCell (zD F 0) (zA ((n:Int)-1))).alloc (.cells #[.string s,.slice a l.length c] 33)) #[.string ⟨#[]⟩,zB] 33).alloc (.cells #[.string s,zB] 33);simpa [World.setCell] using h
   ·have h:=Ac.new (((w.setCell (zD F 0) (zA ((n:Int)-1))).alloc (.cells #[.string s,.slice a l.length c] 33)).alloc (.cells #[.string ⟨#[]⟩,zB] 33)) #[.string s,zB] 33;simpa [World.setCell] using h
  have ba:Hid (J3 E (w.heap.size+1+1) f Y zB f Y ((((w.setCell (zD F 0) (zA ((n:Int)-1))).alloc (.cells #[.string s,.slice a l.length c] 33)).alloc (.cells #[.string ⟨#[]⟩,zB] 33)).alloc (.cells #[.string s,zB] 33))):=(by refine⟨B.keep _ _ _ _ aU.o λb hb=>?_,λb hb=>Ad hb,λb _ e=>by simp[Value.ownBlock] at e,λh=>h⟩;have h1:=H.o b hb;rw[AL _ _ _ (by simp[World.setCell]; omega),AL _ _ _ (by simp[World.setCell]; omega),AL _ _ _ (by simpa [World.setCell] using h1),Aq _ _ _ _ (by simp; intro e; subst e; exact aE hb)]);generalize ((((w.setCell (zD F 0) (zA ((n:Int)-1))).alloc (.cells #[.string s,.slice a l.length c] 33)).alloc (.cells #[.string ⟨#[]⟩,zB] 33)).alloc (.cells #[.string s,zB] 33))=w3 at *;generalize bb:w.heap.size+1+1=O at *;have U:w.heap.size+2<=O:=by omega
  clear bb;clear f0 ff;have HS:=Aa hs;have hl:=hs.1;have I:=Aa aD;clear hs aD;have HQ:Hid (∀b,w.heap.size<=b->¬(b=F∨Mt b)):=λb hb h=>by
   rcases h with h|h
   ·omega
   ·have:=W.o b h; omega
  go_loopw [23] (λi wr=>Y8 E Mt r w F O s sv l n f Y i wr) (λi wr=>l.length-(intOf i).toNat);case atStart=>
   refine⟨0,zB,f,Y,AG _,rfl,ba.o,?_⟩;by_cases bc:n=0
   ·subst bc;exact Ae ⟨E3.o,⟨none,0,0,rfl⟩,λ_=>by omega⟩
   ·refine Ad ⟨n-1,[],[],rfl,by simp[Ab]; omega,?_,AK.start _ _ _ _,λ_=>by simp[C4]⟩;rw[show((n-1:Nat):Int)=(n:Int)-1 by omega];exact E3.o
  case round=>
   obtain⟨k,u,L,Y',hk,rfl,aF,aj⟩:=hrel;have J:=Aa aF;clear aF;rcases aj with ⟨m,xs,q,M,hm,ab,al,aG⟩|⟨ab,⟨a9,Z,c9,rfl⟩,an⟩
   ·have d:=Aa ab;have D:=Aa al;have az:=Aa hm;have V:=Aa aG;clear ab al aG;by_cases G:k<l.length
    ·obtain⟨b,o,A,c',rfl,d0,d1,hx⟩:=(HS.o.exq d.o.1 (λb hb h=>by rcases h with h|h; exact(I.o b hb).1 h; exact(I.o b hb).2 h)).get (Af _ _) (λ_ _ h=>h) k G;obtain⟨av,cv,ev,bd⟩:=hx;simp at ev;obtain⟨rfl,rfl⟩:=ev;have aH:m<=1000000:=(by omega);have a6:¬(O=F∨Mt O):=HQ.o O (by omega);have aI:Hid (∀b,(b=F∨Mt b)->b<O):=λb h=>by
      rcases h with h|h
      ·omega
      ·have:=W.o b h; omega
     have bz:k<=1000000:=by have h1:=EM q; rw[M] at h1; omega
     have aJ:Hid (q.length+1<=maxLen/\(q.length+1)*40<=140737488355328):=Aa (by rw[M];exact⟨by unfold maxLen; omega,by omega⟩);have a7:¬Y' F:=λh=>by
      rcases J.o.2.1 F h with h1|h1
      ·exact aE h1
      ·omega
     have bf:Hid (Calls prog 96 #[zC F,.agg (zF l[k] A c')] (wr.alloc (.cells (zF l[k] A c') 33)).drew λe bg=>GW E Mt F sv (Dj r l[k]) m L Y' (wr.alloc (.cells (zF l[k] A c') 33)).drew e bg):=by
      have aK:Below wr.heap.size wr (wr.alloc (.cells (zF l[k] A c') 33)).drew:=((Af _ _).alloc (Ai _) _).drew;have bh:E L Y' (wr.alloc (.cells (zF l[k] A c') 33)).drew:=B.below J.o.1 aK;have bj:Ac (wr.alloc (.cells (zF l[k] A c') 33)).drew F #[zA m,sv] 132:=(d.o.2.2.2.1.alloc _).drewN 1;have bk:Sl (wr.alloc (.cells (zF l[k] A c') 33)).drew X A l[k].args:=bd.later aK;have bl:=IH.o l[k] (AN G) m;clear az d D;subst aV;refine Rj B F S r l[k] m A c' _ X Y' L aH I.o a7 bk bj bh (λhv=>HL.o _ (Rr G ?_) hv) (λw' f2 Y2 h1 h2 h3 h4=>bl _ w' X Y2 f2 ⟨A,c',rfl,h1⟩ I.o aH h2 h3 h4 (λnm ho hv=>HL.o nm (Rr G ?_) hv))
      ·generalize l[k]=y;obtain⟨n1,k1⟩:=y;exact Dm.2 (Ad rfl)
      ·generalize l[k]=y at ho ⊢;obtain⟨n1,k1⟩:=y;exact Dm.2 (Ae (Ad ho))
     have f0:∀o,(wr.alloc o).cell? (zD F 0)=some (zA m):=λo=>(d.o.2.2.2.1.alloc o).cell 0;have o1:∀o,(wr.alloc o).cell? (zD O 1)=some u:=λo=>(d.o.2.2.1.alloc o).cell 1;have b0:¬(m:Int)<0:=(by omega);go_wp2_with fail;go_region_law (first
      | (go_simp; go_at_call 96; refine bf.o.mono ?_; rintro e w1 ⟨s1,a1,l1,c1,m1,f1,Y1,rfl,aL,aM,aN,ae,ao,aO⟩; have C:=(((Am.refl (λb=>b=F∨Mt b) wr).alloc (.cells (zF l[k] A c') 33)).drew).trans aM; have a8:=Aa ae; have aP:=Aa ao; have bm:=Aa aO; have bn:=Aa aN; clear aM ae ao aO aN; have bo:∀o,(w1.alloc o).cell? (zD O 1)=some u:=λo=>((Ac.exq d.o.2.2.1 C a6).alloc o).cell 1; have bp:w1.cell? (zD O 1)=some u:=(Ac.exq d.o.2.2.1 C a6).cell 1)
      | (refine step_append_lies _ rfl _ _ 31 rfl (O+1) 33 i0 _ 2 40 underlying31 aW aX aY aZ rfl (by decide) u q.length xs rfl (by exact(AK.exq D.o C (λb hb=>by have:=aI.o b hb; omega) (λ_ _ h=>h)).own.alloc _) (zD w1.heap.size 0) 1 1 [.string s1,.slice a1 l1 c1] rfl rfl (cell_two_new _ _ _ _) (λx hx=>by simp at hx; rcases hx with rfl|rfl<;>rfl) (by decide) aJ.o.1 aJ.o.2 (by have:=C.size; have:=d.o.2.2.2.2; simp; omega) _ rfl ?_; intro g cap w3 af aa ag aA; have aB:=Aa (((Ac.exq d.o.2.2.1 C a6).alloc _).grown aa (D.o.ne (D8 _))); have bq:w3.cell? (zD O 1)=some u:=aB.o.cell 1; have br:=aB.o.frozen 1))
     all_goals
      have HK:=Aa (Y5 (v:=.slice (some (zD g 0)) (q.length+1) cap) T W.o U d.o (λj hj=>(D.o.own.lt j hj).1) C aL aa);have aC:=Aa (Za (n9:=q.length+1) (cap:=cap) (x:=.slice (some (zD g 0)) (q.length+1) cap) B (λb hb=>by have:=H.o b hb; omega) J.o (λj hj=>(D.o.own.lt j hj).2) d.o.2.2.2.2 C.size bn.o (λb hb=>(a8.o b hb).imp id λh=>by simp at h; omega) aP.o aa ag);have bs:Hid (∀y:Tm,TV w1 (λb=>wr.heap.size<=b) (.agg #[.string s1,.slice a1 l1 c1]) y->AK (w3.setCell (zD O 1) (.slice (some (zD g 0)) (q.length+1) cap)) (O+1) 33 (λ_=>False) (.slice (some (zD g 0)) (q.length+1) cap) (q++[y]) (xs++[.string s1,.slice a1 l1 c1])):=λy hy=>Y7 aI.o d.o.2.2.2.2 D.o C hy af aa ag;clear af aa ag bo bp bq br aB aL C aA;go_wp2_with fail;go_roundw
      case rel=>
       have h1:=HK.o;have h2:=bs.o;have h3:=aC.o;have bt:=az.o;simp only[M] at h1 h2 h3;refine⟨k+1,.slice (some (zD g 0)) (k+1) cap,f1,Y1,by omega,by go_num,h3,?_⟩;have aQ:C4 r (l.take (k+1))=C4 r (l.take k)++[Dj r l[k]]:=by rw[Bo G,Rh]; simp[Lt]
       have aR:f1=false->L=false:=λz=>by
        cases h:L with
        |false=>rfl
        |true=>have:=aP.o h; rw[z] at this; cases this
       rcases bm.o with ⟨y,rfl,rfl,rfl,e4,e5,e6⟩|⟨rfl,e2⟩
       ·refine Ad ⟨m-Ab [y],xs++[.string y.name,.slice a1 y.args.length c1],q++[y],by simp[M],by rw[Eb]; omega,?_,h2 y ⟨a1,c1,rfl,e5.mono λb hb _=>by simp at hb; omega⟩,λz=>by rw[aQ,V.o (aR z),e6 z]⟩;rw[show((m-Ab [y]:Nat):Int)=(m:Int)-Ab [y] by omega];exact h1
       ·refine Ae ⟨h1,⟨_,_,_,rfl⟩,λz=>?_⟩;have h4:=e2 z;have h5:=V.o (aR z);have h6:Ab (C4 r (l.take (k+1)))=Ab q+Ab [Dj r l[k]]:=(by rw[aQ,Eb,h5]);have h7:C4 r l=C4 r (l.take (k+1))++C4 r (l.drop (k+1)):=(by rw[<-Rh,EJ]);rw[h7,Eb];omega
      case measure=>simp[intOf]; omega
    ·have bu:l.take k=l:=AX (by omega);rw[bu]at V;obtain⟨a9,c9,bw,aq⟩:=D.o.sl;subst bw;have S9:=Aa aq;clear aq;have N:=d.o.2.1.c0;have P:=d.o.2.1.c1;have rf:=d.o.2.1.frozen;have o0:=d.o.2.2.1.c0;have o1:=d.o.2.2.1.c1;go_wp2_with fail;refine An (v:=.agg #[.string s,.slice a9 q.length c9]) (by simp[results,results111,go_sem,Ay,Aw,N,P,M]) rfl ?_;have bt:=az.o;have aS:Ab [(⟨s,q⟩:Tm)]=1+Ab q:=(by simp[Ab]);refine Nk B T H.o U d.o J.o (Ad ⟨⟨s,q⟩,rfl,rfl,by rw[aS]; omega,by rw[aS]; omega,S9.o.mono λb hb _=>?_,λz=>by rw[V.o z]⟩);have b1:O+1<=b:=hb.elim False.elim id;omega
   ·have d:=Aa ab;have ar:=Aa an;clear ab an;have aT:Ab [(⟨s,C4 r l⟩:Tm)]=1+Ab (C4 r l):=(by simp[Ab]);have f0:∀o,(wr.alloc o).cell? (zD F 0)=some (zA (-1)):=λo=>(d.o.2.2.2.1.alloc o).cell 0;by_cases G:k<l.length
    ·obtain⟨b,o,A,c',rfl,d0,d1,hx⟩:=(HS.o.exq d.o.1 (λb hb h=>by rcases h with h|h; exact(I.o b hb).1 h; exact(I.o b hb).2 h)).get (Af _ _) (λ_ _ h=>h) k G;clear hx;have o0:∀o,(wr.alloc o).cell? (zD O 0)=some (.string s):=λo=>(d.o.2.2.1.alloc o).cell 0;have o1:∀o,(wr.alloc o).cell? (zD O 1)=some (.slice a9 Z c9):=λo=>(d.o.2.2.1.alloc o).cell 1;have N:=d.o.2.1.c0;have P:=d.o.2.1.c1;have rf:=d.o.2.1.frozen;have bx:w.heap.size+1<wr.heap.size:=d.o.2.1.lt;go_wp2_with fail;refine An (v:=.agg #[.string s,.slice a9 Z c9]) (by simp[results,results111,go_sem,Ay,Aw,N,P,bx,Da]) rfl ?_;exact Zb B (Nk B T H.o U d.o J.o (Ae ⟨rfl,λz=>by rw[aT]; exact ar.o z⟩)) _
    ·have N:=d.o.2.1.c0;have P:=d.o.2.1.c1;have rf:=d.o.2.1.frozen;have o0:=d.o.2.2.1.c0;have o1:=d.o.2.2.1.c1;go_wp2_with fail;refine An (v:=.agg #[.string s,.slice a9 Z c9]) (by simp[results,results111,go_sem,Ay,Aw,N,P]) rfl ?_;exact Nk B T H.o U d.o J.o (Ae ⟨rfl,λz=>by rw[aT]; exact ar.o z⟩)
theorem Zd {E:Ev} {Mt:Nat->Prop} (g:F2 E Mt) (F S:Nat) (d:ByteArray->Option Tm) (t:Tm) (n:Nat) (a:Option Addr) (c:Nat) (w:World) (X Y:Nat->Prop) (f:Bool) (hn:n<=1000000) (aa:∀b,X b->b≠F/\¬Mt b) (ab:¬Y F) (hs:Sl w X a t.args) (hF:Ac w F #[zA n,sV S] 132) (i:E f Y w)
  (h:∀nm,Au nm [t]->Al nm=true->Gn E Mt S (d nm) nm):
  Calls prog 96 #[zC F,.agg (zF t a c)] w λe w'=>GW E Mt F (sV S) (Dj d t) n f Y w e w':=
 Rj g F S d t n a c w X Y f hn aa ab hs hF i (λhv=>h _ (by obtain⟨s,l⟩:=t; exact Dm.2 (Ad rfl)) hv)
  (λw' j Y' h1 h2 h3 k=>Zc g F S d t n _ w' X Y' j ⟨a,c,rfl,h1⟩ aa hn h2 h3 k (λnm ho hv=>h nm (by obtain⟨s,l⟩:=t; exact Dm.2 (Ae (Ad ho))) hv))
def Rs (E:Ev) (Mt:Nat->Prop) (tgt:Tm) (n:Nat) (f:Bool) (Y:Nat->Prop) (w:World) (e:Ending) (w':World):Prop:=
 ∃(s':ByteArray) (a':Option Addr) (l' c':Nat) (ok:Bool) (f':Bool) (Y':Nat->Prop),e=.returned (.tuple #[.agg #[.string s',.slice a' l' c'],.bool ok])/\E f' Y' w'/\(∀b,Y' b->Y b∨w.heap.size<=b)/\(f=true->f'=true)/\Am Mt w w'/\
  ((ok=true/\∃y:Tm,s'=y.name/\l'=y.args.length/\Ab [y]<=n/\Sl w' (λb=>w.heap.size<=b) a' y.args/\(f'=false->y=tgt))∨(ok=false/\s'=⟨#[]⟩/\a'=none/\l'=0/\c'=0/\(f'=false->n<Ab [tgt])))
theorem Ze {E:Ev} {Mt:Nat->Prop} (d:F2 E Mt) (S:Nat) (r:ByteArray->Option Tm) (t:Tm) (n:Nat) (a:Option Addr) (c:Nat) (w:World) (X Y:Nat->Prop) (f:Bool) (hn:n<=1000000) (A:∀b,X b->¬Mt b) (hs:Sl w X a t.args) (k:E f Y w)
  (B:∀nm,Au nm [t]->Al nm=true->Gn E Mt S (r nm) nm):
  Calls prog 74 #[.agg (zF t a c),zA n,sV S] w λe w'=>Rs E Mt (Dj r t) n f Y w e w':=by
 have aA:=@hmq prog;have Z:=Aa (hs.mono (Y:=λb=>X b/\b<w.heap.size) λb h1 h2=>⟨h1,h2⟩);have HE:=Aa k;have HL:=Aa B;have a6:=Aa A;have s:Hid (∀b,Y b->b<w.heap.size):=d.inY _ _ _ k;have a7:Hid (∀b,Mt b->b<w.heap.size):=λb hb=>s.o b (d.mt _ _ _ k b hb);clear hs k B A;have C:Hid (sV S=.func (.func 146) #[zC S] #[]):=rfl;rw[C.o];go_enter func74,ntmps74;go_wp2_with fail;rw[<-C.o];have u:Hid (Below w.heap.size w (((w.alloc (.cells (zF t a c) 33)).alloc (.cells #[.string ⟨#[]⟩,zB] 33)).alloc (.cells #[zA n,sV S] 132))):=((((Af w.heap.size w).alloc (Ai _) _).alloc (by simp) _).alloc (by simp; omega) _);have F3:Hid (Ac (((w.alloc (.cells (zF t a c) 33)).alloc (.cells #[.string ⟨#[]⟩,zB] 33)).alloc (.cells #[zA n,sV S] 132)) (w.heap.size+1+1) #[zA n,sV S] 132):=Aa (by have h:=Ac.new ((w.alloc (.cells (zF t a c) 33)).alloc (.cells #[.string ⟨#[]⟩,zB] 33)) #[zA n,sV S] 132;simpa using h);have R3:Hid (Ac (((w.alloc (.cells (zF t a c) 33)).alloc (.cells #[.string ⟨#[]⟩,zB] 33)).alloc (.cells #[zA n,sV S] 132)) (w.heap.size+1) #[.string ⟨#[]⟩,zB] 33):=Aa (by have h:=(Ac.new (w.alloc (.cells (zF t a c) 33)) #[.string ⟨#[]⟩,zB] 33).alloc (.cells #[zA n,sV S] 132);simpa using h);have z3:(((w.alloc (.cells (zF t a c) 33)).alloc (.cells #[.string ⟨#[]⟩,zB] 33)).alloc (.cells #[zA n,sV S] 132)).heap.size=w.heap.size+3:=by simp
 generalize (((w.alloc (.cells (zF t a c) 33)).alloc (.cells #[.string ⟨#[]⟩,zB] 33)).alloc (.cells #[zA n,sV S] 132))=w3 at *;refine(Zd d (w.heap.size+1+1) S r t n a c w3 (λb=>X b/\b<w.heap.size) Y f hn (λb hb=>⟨by have:=hb.2; omega,a6.o b hb.1⟩) (λh=>by have:=s.o _ h; omega) (Z.o.later u.o) F3.o (d.below HE.o u.o) HL.o).mono ?_;rintro e g ⟨s',D,l',c',m,x,Y',rfl,F,l,G,aa,H,I⟩;have J:=Aa F;have q:=Aa (R3.o.exq l (λh=>by rcases h with h|h; omega; have:=a7.o _ h; omega));have aB:=l.size;have L:Hid (Am Mt w g):=(Am.ofBelow u.o).transN l (λi hi M=>by rcases hi with h|h; omega; exact h);have N:=Aa G;have O:Hid (∀b,Y' b->Y b∨w.heap.size+3<=b):=λb hb=>(aa b hb).imp id λh=>by omega
 have P:=Aa H;have HC:=Aa I;clear F l G aa H I;have R:=q.o.c0;have T:=q.o.c1;have rf:=q.o.frozen;have U:w.heap.size+1<g.heap.size:=q.o.lt;have V:Hid (∀v0 v1 o,E x Y' (((g.setCell (zD (w.heap.size+1) 0) v0).setCell (zD (w.heap.size+1) 1) v1).alloc o)):=λv0 v1 o=>d.keep _ _ _ _ N.o λb hb=>by
  have W:b≠w.heap.size+1:=λe=>by
   rcases O.o b hb with h|h
   ·have:=s.o b h; omega
   ·omega
  have M:=d.inY _ _ _ N.o b hb;rw[AL _ _ _ (by simpa [World.setCell] using M),Aq _ _ _ _ (by simpa using W),Aq _ _ _ _ (by simpa using W)]
 have ab:Hid (∀b,Y' b->Y b∨w.heap.size<=b):=λb hb=>(O.o b hb).imp id λh=>by omega
 rcases HC.o with ⟨y,rfl,rfl,rfl,hle,a1,j⟩|⟨rfl,j⟩
 ·have a8:=Aa a1;have z:=Aa j;clear a1 j;have f0:∀o,(g.alloc o).cell? (zD (w.heap.size+1+1) 0)=some (zA ((n:Int)-Ab [y])):=λo=>(J.o.alloc o).cell 0;have hlt:¬((n:Int)-Ab [y])<0:=by omega
  go_wp2_with fail;refine An (v:=.tuple #[.agg (zF y D c'),.bool true]) (by simp[results,results74,go_sem,Ay,Aw,R,T,U,Da]) rfl ?_;refine⟨y.name,D,y.args.length,c',true,x,Y',rfl,V.o _ _ _,ab.o,P.o,((L.o.setNew (by omega) _ _).setNew (by omega) _ _).alloc _,Ad ⟨rfl,y,rfl,rfl,hle,((a8.o.kept λb hb=>?_).later ((Af _ _).alloc (Ai _) _)).mono λb hb _=>by omega,z.o⟩⟩;rw[Aq _ _ _ _ (by simp; omega),Aq _ _ _ _ (by simp; omega)]
 ·have z:=Aa j;clear j;have f0:∀o,(g.alloc o).cell? (zD (w.heap.size+1+1) 0)=some (zA (-1)):=λo=>(J.o.alloc o).cell 0;go_wp2_with fail;refine An (v:=.tuple #[.agg #[.string ⟨#[]⟩,zB],.bool false]) (by simp[results,results74,go_sem,Ay,Aw,R,T,U,Da]) rfl ?_;exact⟨⟨#[]⟩,none,0,0,false,x,Y',rfl,V.o _ _ _,ab.o,P.o,((L.o.setNew (by omega) _ _).setNew (by omega) _ _).alloc _,Ae ⟨rfl,rfl,rfl,rfl,rfl,z.o⟩⟩
def Nl (S q:Nat) (td:Value) (h:List (ByteArray×Tm)) (tgt:Tm) (f:Bool) (Y:Nat->Prop) (w:World) (e:Ending) (w':World):Prop:=
 ∃(y:Tm) (a':Option Addr) (c':Nat) (ok:Bool) (f':Bool) (Y':Nat->Prop),e=.returned (.tuple #[.agg (zF y a' c'),.bool ok])/\Cg S q td h f' Y' w'/\(∀b,Y' b->Y b∨w.heap.size<=b)/\(f=true->f'=true)/\Am (Ci S q) w w'/\Sl w' (λb=>w.heap.size<=b) a' y.args/\
  (ok=true->f'=false/\y=tgt/\Ab [y]<=2000)/\(ok=false->f'=true∨2000<Ab [tgt])
theorem Nm {S q:Nat} {c:Value} {h:List (ByteArray×Tm)} {f a:Bool} {Y Y':Nat->Prop} {w w1:World} {o:Obj} {y ab:Tm} {d:Option Addr} {c':Nat} {ok:Bool} {v0 v1:Value} (g:Cg S q c h a Y' w1) (i:∀b,Y b->b<w.heap.size) (aa:∀b,Y' b->Y b∨w.heap.size+2<=b) (j:f=true->a=true) (hx:Am (Ci S q) w w1) (hs:Sl w1 (λb=>w.heap.size+2<=b) d y.args)
  (h1:ok=true->a=false/\y=ab/\Ab [y]<=2000) (h2:ok=false->a=true∨2000<Ab [ab]):
  Nl S q c h ab f Y w (.returned (.tuple #[.agg (zF y d c'),.bool ok])) (((w1.alloc o).setCell (zD (w.heap.size+1) 0) v0).setCell (zD (w.heap.size+1) 1) v1).drew:=by
 have hk:∀b,b<w1.heap.size->b≠w.heap.size+1->((((w1.alloc o).setCell (zD (w.heap.size+1) 0) v0).setCell (zD (w.heap.size+1) 1) v1).drew).heap[b]? = w1.heap[b]? := λb hb hn=>by
  show(((w1.alloc o).setCell (zD (w.heap.size+1) 0) v0).setCell (zD (w.heap.size+1) 1) v1).heap[b]? = _;rw[Aq _ _ _ _ (by simpa using hn),Aq _ _ _ _ (by simpa using hn),AL _ _ _ hb]
 refine⟨y,d,c',ok,a,Y',rfl,(Do S q c h).keep _ _ _ _ g λb hb=>hk b (g.2.2.2.1 b hb) λe=>?_,λb hb=>(aa b hb).imp id λh=>by omega,j,(((hx.alloc o).setNew (by omega) _ _).setNew (by omega) _ _).drew,((hs.mono (Y:=λb=>w.heap.size+2<=b/\b<w1.heap.size) λb h1 h2=>⟨h1,h2⟩).kept λb hb=>hk b hb.2 (by omega)).mono λb hb _=>by omega,h1,h2⟩;rcases aa b hb with h|h
 ·have:=i b h; omega
 ·omega
theorem Rt (S q:Nat) (d:Value) (h:List (ByteArray×Tm)) (t:Tm) (a:Option Addr) (c:Nat) (w:World) (X Y:Nat->Prop) (f:Bool) (B:∀b,X b->¬Ci S q b) (hs:Sl w X a t.args) (j:Cg S q d h f Y w)
  (C:∀nm,Au nm [t]->Al nm=true->Gn (Cg S q d h) (Ci S q) S (As (Ak h) nm) nm):
  Calls prog 132 #[zC S,.agg (zF t a c)] w λe w'=>Nl S q d h (Dj (As (Ak h)) t) f Y w e w':=by
 have ax:=@hmq prog;have M:=Aa hs;have m:=Aa j;have N:=Aa C;have O:=Aa B;have ay:S<w.heap.size:=j.2.2.2.1 S j.2.1;clear hs j C B;have k:Hid (∀b,Y b->b<w.heap.size):=m.o.2.2.2.1;have P:Hid (∀b,Ci S q b->b<w.heap.size):=λb hb=>k.o b ((Do S q d h).mt _ _ _ m.o b hb);have D:Hid (∀w',Below w.heap.size w w'->Calls prog 74 #[.agg (zF t a c),zA 2000,.func (.func 146) #[zC S] #[]] w' λe R=>Rs (Cg S q d h) (Ci S q) (Dj (As (Ak h)) t) 2000 f Y w' e R):=λw' hb=>
  Ze (Do S q d h) S (As (Ak h)) t 2000 a c w' X Y f (by omega) O.o (M.o.later hb) ((Do S q d h).below m.o hb) N.o
 have E:Hid (Below w.heap.size w ((w.alloc (.cells (zF t a c) 33)).alloc (.cells #[.string ⟨#[]⟩,zB] 33))):=CX _ _;have T:Hid (Ac ((w.alloc (.cells (zF t a c) 33)).alloc (.cells #[.string ⟨#[]⟩,zB] 33)) (w.heap.size+1) #[.string ⟨#[]⟩,zB] 33):=Aa (by have h:=Ac.new (w.alloc (.cells (zF t a c) 33)) #[.string ⟨#[]⟩,zB] 33;simpa using h);have z2:((w.alloc (.cells (zF t a c) 33)).alloc (.cells #[.string ⟨#[]⟩,zB] 33)).heap.size=w.heap.size+2:=by simp
 go_enter func132,ntmps132;go_wp2_with fail;generalize ((w.alloc (.cells (zF t a c) 33)).alloc (.cells #[.string ⟨#[]⟩,zB] 33))=w2 at *;refine(D.o _ E.o).mono ?_;rintro e w1 ⟨s',n,l',c',ok,r,Y',rfl,F,ab,G,hx,hc⟩;have s:=Aa F;have aa:Hid (∀b,Y' b->Y b∨w.heap.size+2<=b):=λb hb=>(ab b hb).imp id λh=>by omega
 have H:=Aa G;have u:Hid (Am (Ci S q) w w1):=(Am.ofBelow E.o).trans hx;have g:=Aa (T.o.exq hx (λh=>by have:=P.o _ h; omega));have az:Hid (w.heap.size+2<=w1.heap.size):=Aa (by have:=hx.size;omega);have U:=Aa hc;obtain⟨⟨L,I,_,_⟩,_⟩:=F;have b2:∀o,(w1.alloc o).cell? (zD S 2)=some (.bool r):=λo=>(I.alloc o).cell 2;have x:∀o,(w1.alloc o).cell? (zD (w.heap.size+1) 0)=some (.string ⟨#[]⟩):=λo=>(g.o.alloc o).cell 0;have z:∀o,(w1.alloc o).cell? (zD (w.heap.size+1) 1)=some (zB):=λo=>(g.o.alloc o).cell 1;have rf:=g.o.frozen;clear I ab G hx hc D;go_wp2_with fail;have p0:∀o,(w1.alloc o).frozen? (zD (w.heap.size+1) 0)=false:=λo=>(g.o.alloc o).frozen 0;have p1:∀o,(w1.alloc o).frozen? (zD (w.heap.size+1) 1)=false:=λo=>(g.o.alloc o).frozen 1;rcases U.o with ⟨rfl,y,rfl,rfl,hz,J,i⟩|⟨rfl,rfl,rfl,rfl,rfl,i⟩
 ·have l:Hid (Sl w1 (λb=>w.heap.size+2<=b) n y.args):=J.mono λb hb _=>by omega
  have A:=Aa i;have V:=Aa hz;clear J i hz;cases r with
  |true=>
   go_region
   all_goals
    go_wp2_with fail;refine An (v:=.tuple #[.agg (zF y n c'),.bool false]) (by simp[results,results132,go_sem,Ay,Aw,x,z]) rfl ?_;exact Nm s.o k.o aa.o (λ_=>rfl) u.o l.o (λh=>by cases h) (λ_=>Ad rfl)
  |false=>
   go_region
   all_goals
    go_wp2_with fail;refine An (v:=.tuple #[.agg (zF y n c'),.bool true]) (by simp[results,results132,go_sem,Ay,Aw,x,z]) rfl ?_;exact Nm s.o k.o aa.o H.o u.o l.o (λ_=>⟨rfl,A.o trivial,V.o⟩) (λh=>by cases h)
 ·have A:=Aa i;clear i;have l:Hid (Sl w1 (λb=>w.heap.size+2<=b) none (⟨⟨#[]⟩,[]⟩:Tm).args):=⟨by simp,Ad rfl⟩;go_region
  all_goals
   go_wp2_with fail;refine An (v:=.tuple #[.agg #[.string (⟨⟨#[]⟩,[]⟩:Tm).name,.slice none (⟨⟨#[]⟩,[]⟩:Tm).args.length 0],.bool false]) (by simp[results,results132,go_sem,Ay,Aw,x,z]) rfl ?_;exact Nm s.o k.o aa.o H.o u.o l.o (λh=>by cases h) (λ_=>by
    cases W:r with
    |true=>exact Ad rfl
    |false=>exact Ae (A.o W))
theorem Ru {w:World} {Y:Nat->Prop} {h:List (ByteArray×Tm)} {i:Nat} {hi:i<h.length} {v:Value} (e:It w Y h i hi v):∃(T:Tm) (j:Nat) (a:Option Addr) (c:Nat),T=stood h i (max j (i+1)) hi/\j<=h.length/\v=.agg #[.string T.name,.slice a T.args.length c,zA j]/\Sl w Y a T.args:=by
 obtain⟨j,a,c,h1,h2,h3⟩:=e;exact⟨_,j,a,c,rfl,h1,h2,h3⟩
theorem J5 {P:Program} {w:World} {T a b:TypeId} {r:Nat} {L:List (ByteArray×Value)} (hm:P.underlying T=some (.map a b)) (h:Bm w r L) (ty:TypeId):(Builtin.len_ #[T] ty #[.map (some r)]).run P w=.ok (zA (L.length:Int)) w:=by
 obtain⟨es,aa,hb,he,_⟩:=h;have c:es.size=L.length:=by have:=Bx List.length he; simpa using this
 simp[Builtin.len_,Ga hm,H8 hb,goInt,Result.andThen,c]
theorem Rv (S q:Nat) (d:Value) (h:List (ByteArray×Tm)) (g:Ca h) (nm:ByteArray) (hn:∀i (hi:i<h.length),h[i].1≠nm):Gn (Cg S q d h) (Ci S q) S (As (Ak h) nm) nm:=by
 intro f Y w e;have j:=Aa e;obtain⟨⟨L,a,c,aa⟩,ad,ae,hY,k⟩:=e;have hz:∀w',(zeroValue 188).run prog w'=.ok (.agg #[.string ⟨#[]⟩,zB,zA 0]) w':=λw'=>zeroValue188 w';have ab:=c.lt;have af:=a.lt;have l:=Aa (Y3 g hn);have b1:∀o,(w.alloc o).cell? (zD S 1)=some (.map (some q)):=λo=>(a.alloc o).cell 1;have ag:∀o,(Instr.lookup 145 (.map (some q)) (.string nm) true).run prog (w.alloc o)=.ok (.tuple #[.agg #[.string ⟨#[]⟩,zB,zA 0],.bool false]) (w.alloc o):=λo=>by
  rw[E9 (P:=prog) underlying145 underlying9 (hz _) (c.kept (AL _ _ _ ab)) nm,aa.none hn]; rfl
 have HB:=Aa a;clear a c aa k;go_enter func146,ntmps146;go_wp2_with fail;go_region
 all_goals go_wp2_with fail
 all_goals
  refine An (v:=.tuple #[.agg #[.string ⟨#[]⟩,zB],.bool false]) (by simp[results,results146,go_sem]) rfl ?_;exact⟨⟨#[]⟩,none,0,0,false,f,Y,rfl,(Do S q d h).below j.o (((Af _ _).alloc (Ai _) _).alloc (by simp) _).drew,λb hb=>Ad hb,λh=>h,(((Am.refl _ _).alloc _).alloc _).drew,Ae ⟨rfl,λ_=>l.o⟩⟩
theorem Zf {S q:Nat} {j:Value} {h:List (ByteArray×Tm)} (g:Ca h) {i:Nat} (hi:i<h.length) {m:Bool} {Y' Z:Nat->Prop} {w1 WS:World} (t:Cg S q j h m Y' w1) (hk:∀b,Y' b->WS.heap[b]? = w1.heap[b]?) {d:Option Addr} {c':Nat} {y:Tm} (hy:y=stood h i h.length hi) (n:∀b,Z b->b<WS.heap.size/\b≠S/\b≠q) (hs:Sl WS Z d y.args) {nm:ByteArray} (ab:h[i].1=nm):
  ∃c,(Instr.mapUpdate 145 (.map (some q)) (.string nm) (.agg #[.string y.name,.slice d y.args.length c',zA (h.length:Int)])).run prog WS=.ok () c/\Cg S q j h m (λb=>Y' b∨Z b) c/\c.heap.size=WS.heap.size/\c.os=WS.os/\c.tape=WS.tape/\c.output=WS.output/\∀b,b≠q->c.heap[b]? = WS.heap[b]? := by
 have u:=(Do S q j h).keep _ _ _ _ t hk;obtain⟨⟨L,f,o,r⟩,v,x,z,A⟩:=u;obtain⟨v0,B,_⟩:=r.get g hi;have C:S≠q:=λe=>by
  obtain⟨es,ag,h1,_⟩:=o;subst e;unfold Ac at f;rw[h1]at f; cases f
 obtain⟨c,h1,h2,h3,D,E,h6,k⟩:=V5 (P:=prog) underlying145 underlying9 o h[i].1 (.agg #[.string y.name,.slice d y.args.length c',zA (h.length:Int)]) v0 B;refine⟨c,by rw[<-ab]; exact h1,⟨⟨_,?_,h2,?_⟩,Ad v,Ad x,λb hb=>?_,A⟩,h3,D,E,h6,k⟩
 ·unfold Ac at *; rw[k S C]; exact f
 ·have kp:∀(X:Nat->Prop) a l,(∀b,X b->(Y' b∨Z b)/\b≠S/\b≠q)->Sl WS X a l->Sl c (λb=>(Y' b∨Z b)/\b≠S/\b≠q) a l:=λX a l s aa=>(aa.kept λb hb=>k b (s b hb).2.2).mono λb hb _=>s b hb;refine(r.imp λa l aa=>kp _ a l (λb hb=>⟨Ad hb.1,hb.2⟩) aa).set g hi ⟨h.length,d,c',Ai _,?_,?_⟩
  ·rw[Nat.max_eq_left (by omega),<-hy]
  ·rw[Nat.max_eq_left (by omega),<-hy];exact kp _ _ _ (λb hb=>⟨Ae hb,(n b hb).2⟩) hs
 ·rw[h3];rcases hb with hb|hb
  ·exact z b hb
  ·exact(n b hb).1
theorem Zg {S q:Nat} {d:Value} {h:List (ByteArray×Tm)} {g:Bool} {Y' Z:Nat->Prop} {w1 WS:World} (i:Cg S q d h g Y' w1) (hk:∀b,Y' b->WS.heap[b]? = w1.heap[b]?) (j:AF (Ak h)=true) (k:∀b,Z b->b<WS.heap.size/\b≠S/\b≠q):Cg S q d h true (λb=>Y' b∨Z b) (WS.setCell (zD S 2) (.bool true)):=by
 have ab:=(Do S q d h).keep _ _ _ _ i hk;obtain⟨⟨L,c,f,m⟩,n,o,r,e7⟩:=ab;have s:S≠q:=λe=>by
  obtain⟨es,af,h1,_⟩:=f;subst e;unfold Ac at c;rw[h1]at c; cases c
 have aa:∀b,b≠S->(WS.setCell (zD S 2) (.bool true)).heap[b]? = WS.heap[b]? := λb hb=>Aq _ _ _ _ (by simpa using hb);refine⟨⟨L,?_,f.kept (aa q (Eh s)),m.imp λa l t=>(t.kept λb hb=>aa b hb.2.1).mono λb hb _=>⟨Ad hb.1,hb.2⟩⟩,Ad n,Ad o,λb hb=>?_,λ_=>j⟩
 ·have:=c.set 2 (.bool true);simpa using this
 ·have hz:(WS.setCell (zD S 2) (.bool true)).heap.size=WS.heap.size:=by simp[World.setCell]
  rw[hz];rcases hb with hb|hb
  ·exact r b hb
  ·exact(k b hb).1
theorem Zh (S q:Nat) (l:Value) (h:List (ByteArray×Tm)) (g:Ca h) (hN:Gp h) (i:Nat) (hi:i<h.length)
  (aq:∀k (hk:k<h.length),i<k->Gn (Cg S q l h) (Ci S q) S (As (Ak h) h[k].1) h[k].1):Gn (Cg S q l h) (Ci S q) S (As (Ak h) h[i].1) h[i].1:=by
 intro f Y w hE;have H:=Aa hE;obtain⟨⟨L,m,x,D⟩,bg,bh,hY,hg⟩:=hE;obtain⟨v,E,aC⟩:=D.get g hi;obtain⟨T,j,a,c,hT,hj,rfl,aD⟩:=Ru aC;have bj:=Aa D;have I:=Aa aD;have aR:=Aa E;have aS:=Aa x;have HG:=Aa hg;have HY:=Aa hY;have hz:∀w',(zeroValue 188).run prog w'=.ok (.agg #[.string ⟨#[]⟩,zB,zA 0]) w':=λw'=>zeroValue188 w';have J:=x.lt;have aT:=m.lt;have hF:=Je g hi;obtain⟨nm,M⟩:∃nm,h[i].1=nm:=⟨_,rfl⟩;rw[M]at E hF aR ⊢;have HF:=Aa hF;clear hF;have aU:=Aa M;have N:=Aa hT;have bk:S≠q:=λe=>by
  obtain⟨es,bl,h1,_⟩:=x;subst e;unfold Ac at m;rw[h1]at m; cases m
 have HB:=Aa m;have b1:∀o o',((w.alloc o).alloc o').cell? (zD S 1)=some (.map (some q)):=λo o'=>((m.alloc o).alloc o').cell 1;have bm:∀o,(w.alloc o).cell? (zD S 1)=some (.map (some q)):=λo=>(m.alloc o).cell 1;have b2:∀o o',((w.alloc o).alloc o').cell? (zD S 2)=some (.bool f):=λo o'=>((m.alloc o).alloc o').cell 2;have bn:∀o,(Instr.lookup 145 (.map (some q)) (.string nm) true).run prog (w.alloc o)=.ok (.tuple #[.agg #[.string T.name,.slice a T.args.length c,zA j],.bool true]) (w.alloc o):=λo=>by
  rw[E9 (P:=prog) underlying145 underlying9 (hz _) (x.kept (AL _ _ _ J)) nm,E]; rfl
 have aV:Hid (L.length=h.length):=D.1;have hlen:∀o o',Sem.run prog (Builtin.len_ #[145] 3 #[.map (some q)]) ((w.alloc o).alloc o').drew=.ok (zA (h.length:Int)) ((w.alloc o).alloc o').drew:=λo o'=>by
  have h1:Bm ((w.alloc o).alloc o').drew q L:=aS.o.below ((((Af w.heap.size w).alloc (Ai _) o).alloc (by simp) o').drew) J;rw[J5 underlying145 h1,aV.o]
 clear m D hg hY aD E aC M hT x;cases f with
 |true=>
  go_enter func146,ntmps146;go_wp2_with fail;go_region
  all_goals go_wp2_with fail
  all_goals
   refine An (v:=.tuple #[.agg (zF T a c),.bool true]) (by simp[results,results146,go_sem]) rfl ?_;exact⟨T.name,a,T.args.length,c,true,true,Y,rfl,(Do S q l h).below H.o (((Af _ _).alloc (Ai _) _).alloc (by simp) _).drew,λb hb=>Ad hb,λh=>h,(((Am.refl _ _).alloc _).alloc _).drew,Ad ⟨rfl,T,rfl,rfl,(I.o.later (((Af _ _).alloc (Ai _) _).alloc (by simp) _).drew).mono λb hb _=>hb.1,λh=>by cases h⟩⟩
 |false=>
  by_cases s:j=h.length
  ·have HJ:=Aa s;have aW:Hid (As (Ak h) nm=some T):=Aa (by rw[HF.o,N.o,s,Nat.max_eq_left (by omega)]);have aX:((j:Int)==(h.length:Int))=true:=by rw[s]; simp
   clear s;go_enter func146,ntmps146;go_wp2_with fail;go_region
   all_goals go_wp2_with fail
   all_goals
    refine An (v:=.tuple #[.agg (zF T a c),.bool true]) (by simp[results,results146,go_sem]) rfl ?_;exact⟨T.name,a,T.args.length,c,true,false,Y,rfl,(Do S q l h).below H.o (((Af _ _).alloc (Ai _) _).alloc (by simp) _).drew,λb hb=>Ad hb,λh=>h,(((Am.refl _ _).alloc _).alloc _).drew,Ad ⟨rfl,T,rfl,rfl,(I.o.later (((Af _ _).alloc (Ai _) _).alloc (by simp) _).drew).mono λb hb _=>hb.1,λ_=>aW.o⟩⟩
  ·have HJ:=Aa s;have aX:((j:Int)==(h.length:Int))=false:=DU.2 (by omega);clear s;go_enter func146,ntmps146;go_wp2_with fail;go_region
   go_wp2_with fail;have O:Hid (Below w.heap.size w ((w.alloc (.cells #[.string ⟨#[]⟩,zB] 33)).alloc (.cells #[.string T.name,.slice a T.args.length c,zA (h.length:Int)] 188)).drew):=(((Af _ _).alloc (Ai _) _).alloc (by simp) _).drew;have R0:Hid (Ac ((w.alloc (.cells #[.string ⟨#[]⟩,zB] 33)).alloc (.cells #[.string T.name,.slice a T.args.length c,zA (h.length:Int)] 188)).drew w.heap.size #[.string ⟨#[]⟩,zB] 33):=((Ac.new w _ _).alloc _).drewN 1;have X0:Hid (Ac ((w.alloc (.cells #[.string ⟨#[]⟩,zB] 33)).alloc (.cells #[.string T.name,.slice a T.args.length c,zA (h.length:Int)] 188)).drew (w.heap.size+1) #[.string T.name,.slice a T.args.length c,zA (h.length:Int)] 188):=by
    have h1:=Ac.new (w.alloc (.cells #[.string ⟨#[]⟩,zB] 33)) #[.string T.name,.slice a T.args.length c,zA (h.length:Int)] 188;rw[CW]at h1;exact h1
   have z0:((w.alloc (.cells #[.string ⟨#[]⟩,zB] 33)).alloc (.cells #[.string T.name,.slice a T.args.length c,zA (h.length:Int)] 188)).drew.heap.size=w.heap.size+2:=(by simp);generalize ((w.alloc (.cells #[.string ⟨#[]⟩,zB] 33)).alloc (.cells #[.string T.name,.slice a T.args.length c,zA (h.length:Int)] 188)).drew=w0 at *;have aY:Hid (Dj (As (Ak h)) T=stood h i h.length hi):=Aa (by rw[N.o];exact Y4 g hN hi (Nat.max_le.2 ⟨hj,hi⟩));have R:=Rt S q l h T a c w0 (λb=>Y b/\b≠S/\b≠q) Y false (λb hb hm=>by rcases hm with h|h; exact hb.2.1 h; exact hb.2.2 h) (I.o.later O.o) ((Do S q l h).below H.o O.o) (λn2 ho hv=>by
    by_cases aE:∃k,∃hk:k<h.length,h[k].1=n2
    ·obtain⟨k,hk,rfl⟩:=aE;rw[N.o]at ho;have h1:=YV g hi (Nat.max_le.2 ⟨hj,hi⟩) (hN i hi) hk ho;exact aq k hk (by omega)
    ·exact Rv S q l h g n2 λk hk e=>aE ⟨k,hk,e⟩)
   rw[aY.o]at R;refine R.mono ?_;clear R;rintro e w1 ⟨y,d,c',ok,f',Y',rfl,aF,ag,aZ,hx,aG,aH,aI⟩;have aJ:Hid (Am (Ci S q) w w1):=(Am.ofBelow O.o).trans hx;have U:∀b,Ci S q b->b<w.heap.size:=λb hb=>by rcases hb with rfl|rfl; exact aT; exact J
   have V:=Aa (R0.o.exq hx (λh=>by have:=U _ h; omega));have n:=Aa (X0.o.exq hx (λh=>by have:=U _ h; omega));have bo:Hid (w.heap.size+2<=w1.heap.size):=Aa (by have:=hx.size;omega);have ab:Hid (∀b,Y' b->Y b∨w.heap.size+2<=b):=λb hb=>(ag b hb).imp id λh=>by omega
   have W:Hid (Sl w1 (λb=>w.heap.size+2<=b/\b<w1.heap.size) d y.args):=aG.mono λb hb h2=>⟨by omega,h2⟩;have z:=Aa aF;have F:Hid (∀b,Y' b->b≠w.heap.size/\b≠w.heap.size+1):=λb hb=>by
    rcases ab.o b hb with h1|h1
    ·have:=HY.o b h1; omega
    ·omega
   have x0:=n.o.c0;have x1:=n.o.c1;have x2:=n.o.c2;have xf:=n.o.frozen;have aK:=Aa aH;have az:=Aa aI;clear ag hx aG aH aI aF aZ U;cases ok with
   |true=>
    obtain⟨rfl,aL,ba⟩:=aK.o rfl;have aM:=Aa aL;clear aL ba aK az;have aa:∀b,b≠w.heap.size+1->((w1.setCell (zD (w.heap.size+1) 0) (.string y.name)).setCell (zD (w.heap.size+1) 1) (.slice d y.args.length c')).drew.heap[b]? = w1.heap[b]? := λb hb=>by
     show((w1.setCell (zD (w.heap.size+1) 0) (.string y.name)).setCell (zD (w.heap.size+1) 1) (.slice d y.args.length c')).heap[b]? = _;rw[Aq _ _ _ _ (by simpa using hb),Aq _ _ _ _ (by simpa using hb)]
    have t:((w1.setCell (zD (w.heap.size+1) 0) (.string y.name)).setCell (zD (w.heap.size+1) 1) (.slice d y.args.length c')).drew.heap.size=w1.heap.size:=(by simp[World.setCell]);obtain⟨r,bb,aN,a1,aO,aP,aQ,A⟩:=Zf (WS:=((w1.setCell (zD (w.heap.size+1) 0) (.string y.name)).setCell (zD (w.heap.size+1) 1) (.slice d y.args.length c')).drew) (Z:=λb=>w.heap.size+2<=b/\b<w1.heap.size) (c':=c') g hi z.o (λb hb=>aa b (F.o b hb).2) aM.o (λb hb=>⟨by rw[t]; exact hb.2,by omega,by omega⟩) (W.o.kept λb hb=>aa b (by omega)) aU.o;have a6:=Aa aN;have B:Hid (Ac r (w.heap.size+1) #[.string y.name,.slice d y.args.length c',zA (h.length:Int)] 188):=Aa (by have h1:=(n.o.set 0 (.string y.name)).set 1 (.slice d y.args.length c');unfold Ac;rw[A _ (by omega)];show((w1.setCell (zD (w.heap.size+1) 0) (.string y.name)).setCell (zD (w.heap.size+1) 1) (.slice d y.args.length c')).heap[w.heap.size+1]? = _;unfold Ac at h1;rw[h1];simp);have u:Hid (Ac r w.heap.size #[.string ⟨#[]⟩,zB] 33):=Aa (by unfold Ac;rw[A _ (by omega),aa _ (by omega)];exact V.o);have a7:Hid (Am (Ci S q) w r):=(by have h1:=((aJ.o.setNew (b:=w.heap.size+1) (by omega) 0 (.string y.name)).setNew (b:=w.heap.size+1) (by omega) 1 (.slice d y.args.length c')).drew;exact⟨aO.trans h1.os,aP.trans h1.tape,aQ.trans h1.output,by rw[a1]; exact h1.size,λb hb hn=>(A b (λe=>hn (Ae e))).trans (h1.block b hb hn)⟩);have s1:((w1.setCell (zD (w.heap.size+1) 0) (.string y.name)).setCell (zD (w.heap.size+1) 1) (.slice d y.args.length c')).cell? (zD S 1)=some (.map (some q)):=(by obtain⟨⟨L1,G,_⟩,_⟩:=z.o;exact((G.setOther _ _ (by omega)).setOther _ _ (by omega)).cell 1);have y0:((w1.setCell (zD (w.heap.size+1) 0) (.string y.name)).setCell (zD (w.heap.size+1) 1) (.slice d y.args.length c')).cell? (zD (w.heap.size+1) 0)=some (.string y.name):=(by have:=((n.o.set 0 (.string y.name)).set 1 (.slice d y.args.length c')).cell 0;simpa using this);have y1:((w1.setCell (zD (w.heap.size+1) 0) (.string y.name)).setCell (zD (w.heap.size+1) 1) (.slice d y.args.length c')).cell? (zD (w.heap.size+1) 1)=some (.slice d y.args.length c'):=(by have:=((n.o.set 0 (.string y.name)).set 1 (.slice d y.args.length c')).cell 1;simpa using this);have y2:((w1.setCell (zD (w.heap.size+1) 0) (.string y.name)).setCell (zD (w.heap.size+1) 1) (.slice d y.args.length c')).cell? (zD (w.heap.size+1) 2)=some (zA (h.length:Int)):=(by have:=((n.o.set 0 (.string y.name)).set 1 (.slice d y.args.length c')).cell 2;simpa using this);have q0:=B.o.c0;have q1:=B.o.c1;have r0:=u.o.c0;have r1:=u.o.c1;have rf:=u.o.frozen;have bp:Hid (r.heap.size=w1.heap.size):=Aa (by rw[a1,t]);have a8:Hid (Sl r (λb=>w.heap.size+2<=b/\b<w1.heap.size) d y.args):=(W.o.kept λb hb=>aa b (by omega)).kept λb hb=>A b (by omega);clear aN a1 aO aP aQ A t aa;go_wp2_with fail;go_region
    all_goals go_wp2_with fail
    all_goals
     refine An (v:=.tuple #[.agg (zF y d c'),.bool true]) (by simp[results,results146,go_sem,Ay,Aw,r0,r1]) rfl ?_;have C:∀b,b≠w.heap.size->((r.setCell (zD w.heap.size 0) (.string y.name)).setCell (zD w.heap.size 1) (.slice d y.args.length c')).heap[b]? = r.heap[b]? := λb hb=>by
      rw[Aq _ _ _ _ (by simpa using hb),Aq _ _ _ _ (by simpa using hb)]
     refine⟨y.name,d,y.args.length,c',true,false,_,rfl,(Do S q l h).keep _ _ _ _ a6.o (λb hb=>C b ?_),λb hb=>?_,λh=>h,(a7.o.setNew (by omega) _ _).setNew (by omega) _ _,Ad ⟨rfl,y,rfl,rfl,(a8.o.kept λb hb=>C b (by omega)).mono λb hb _=>Ae hb,λ_=>by rw[HF.o,aM.o]⟩⟩
     ·rcases hb with hb|hb
      ·exact(F.o b hb).1
      ·omega
     ·rcases hb with hb|hb
      ·exact(ab.o b hb).imp id λh=>by omega
      ·right; omega
   |false=>
    have bc:Hid (AF (Ak h)=true):=by
     rcases az.o rfl with h1|h1
     ·exact z.o.2.2.2.2 h1
     ·exact Rq g hi h1
    have aa:∀b,b≠w.heap.size+1->((w1.setCell (zD (w.heap.size+1) 0) (.string y.name)).setCell (zD (w.heap.size+1) 1) (.slice d y.args.length c')).heap[b]? = w1.heap[b]? := λb hb=>by
     rw[Aq _ _ _ _ (by simpa using hb),Aq _ _ _ _ (by simpa using hb)]
    have t:((w1.setCell (zD (w.heap.size+1) 0) (.string y.name)).setCell (zD (w.heap.size+1) 1) (.slice d y.args.length c')).heap.size=w1.heap.size:=(by simp[World.setCell]);have a6:=Aa (Zg (WS:=((w1.setCell (zD (w.heap.size+1) 0) (.string y.name)).setCell (zD (w.heap.size+1) 1) (.slice d y.args.length c'))) (Z:=λb=>w.heap.size+2<=b/\b<w1.heap.size) z.o (λb hb=>aa b (F.o b hb).2) bc.o (λb hb=>⟨by rw[t]; exact hb.2,by omega,by omega⟩));obtain⟨⟨L1,G,bd,aA⟩,aB,ad⟩:=z.o;have BS:=Aa ((G.setOther (b':=w.heap.size+1) 0 (.string y.name) (by omega)).setOther (b':=w.heap.size+1) 1 (.slice d y.args.length c') (by omega));have B:=Aa ((n.o.set 0 (.string y.name)).set 1 (.slice d y.args.length c'));have u:=Aa ((V.o.setOther (b':=w.heap.size+1) 0 (.string y.name) (by omega)).setOther (b':=w.heap.size+1) 1 (.slice d y.args.length c') (by omega));have a7:=Aa ((aJ.o.setNew (b:=w.heap.size+1) (by omega) 0 (.string y.name)).setNew (b:=w.heap.size+1) (by omega) 1 (.slice d y.args.length c'));have a8:Hid (Sl ((w1.setCell (zD (w.heap.size+1) 0) (.string y.name)).setCell (zD (w.heap.size+1) 1) (.slice d y.args.length c')) (λb=>w.heap.size+2<=b/\b<w1.heap.size) d y.args):=W.o.kept λb hb=>aa b (by omega);have s2:((w1.setCell (zD (w.heap.size+1) 0) (.string y.name)).setCell (zD (w.heap.size+1) 1) (.slice d y.args.length c')).cell? (zD S 2)=some (.bool f'):=BS.o.cell 2;have sf:=BS.o.frozen 2;have y0:(((w1.setCell (zD (w.heap.size+1) 0) (.string y.name)).setCell (zD (w.heap.size+1) 1) (.slice d y.args.length c')).setCell (zD S 2) (.bool true)).cell? (zD (w.heap.size+1) 0)=some (.string y.name):=(by have:=(B.o.setOther (b':=S) 2 (.bool true) (by omega)).cell 0;simpa using this);have y1:(((w1.setCell (zD (w.heap.size+1) 0) (.string y.name)).setCell (zD (w.heap.size+1) 1) (.slice d y.args.length c')).setCell (zD S 2) (.bool true)).cell? (zD (w.heap.size+1) 1)=some (.slice d y.args.length c'):=(by have:=(B.o.setOther (b':=S) 2 (.bool true) (by omega)).cell 1;simpa using this);have r0:(((w1.setCell (zD (w.heap.size+1) 0) (.string y.name)).setCell (zD (w.heap.size+1) 1) (.slice d y.args.length c')).setCell (zD S 2) (.bool true)).cell? (zD w.heap.size 0)=some (.string ⟨#[]⟩):=(u.o.setOther (b':=S) 2 (.bool true) (by omega)).cell 0;have r1:(((w1.setCell (zD (w.heap.size+1) 0) (.string y.name)).setCell (zD (w.heap.size+1) 1) (.slice d y.args.length c')).setCell (zD S 2) (.bool true)).cell? (zD w.heap.size 1)=some (zB):=(u.o.setOther (b':=S) 2 (.bool true) (by omega)).cell 1;have rf:=V.o.frozen;have bq:w.heap.size+1≠S:=(by omega);have bf:w.heap.size≠S:=(by omega);clear G bd aA aB ad az aa t;go_wp2_with fail;refine An (v:=.tuple #[.agg (zF y d c'),.bool true]) (by simp[results,results146,go_sem,Ay,Aw,r0,r1]) rfl ?_;have C:∀b,b≠w.heap.size->(((((w1.setCell (zD (w.heap.size+1) 0) (.string y.name)).setCell (zD (w.heap.size+1) 1) (.slice d y.args.length c')).setCell (zD S 2) (.bool true)).setCell (zD w.heap.size 0) (.string y.name)).setCell (zD w.heap.size 1) (.slice d y.args.length c')).heap[b]? = (((w1.setCell (zD (w.heap.size+1) 0) (.string y.name)).setCell (zD (w.heap.size+1) 1) (.slice d y.args.length c')).setCell (zD S 2) (.bool true)).heap[b]? := λb hb=>by
     rw[Aq _ _ _ _ (by simpa using hb),Aq _ _ _ _ (by simpa using hb)]
    refine⟨y.name,d,y.args.length,c',true,true,_,rfl,(Do S q l h).keep _ _ _ _ a6.o (λb hb=>C b ?_),λb hb=>?_,λh=>rfl,((a7.o.set (Ad rfl) _ _).setNew (by omega) _ _).setNew (by omega) _ _,Ad ⟨rfl,y,rfl,rfl,((a8.o.kept λb hb=>Aq _ _ _ _ (by simp; omega)).kept λb hb=>C b (by omega)).mono λb hb _=>Ae hb,λh=>by cases h⟩⟩
    ·rcases hb with hb|hb
     ·exact(F.o b hb).1
     ·omega
    ·rcases hb with hb|hb
     ·exact(ab.o b hb).imp id λh=>by omega
     ·right; omega
theorem Rw (S q:Nat) (a:Value) (h:List (ByteArray×Tm)) (g:Ca h) (b:Gp h):∀(d i:Nat) (hi:i<h.length),h.length-i<=d->Gn (Cg S q a h) (Ci S q) S (As (Ak h) h[i].1) h[i].1
 |0,i,hi,hd=>by omega
 |d+1,i,hi,hd=>Zh S q a h g b i hi λk hk aa=>Rw S q a h g b d k hk (by omega)
theorem Zi (S q:Nat) (a:Value) (h:List (ByteArray×Tm)) (g:Ca h) (b:Gp h) (nm:ByteArray):Gn (Cg S q a h) (Ci S q) S (As (Ak h) nm) nm:=by
 by_cases aa:∃k,∃hk:k<h.length,h[k].1=nm
 ·obtain⟨k,hk,rfl⟩:=aa;exact Rw S q a h g b _ k hk (Ai _)
 ·exact Rv S q a h g nm λk hk e=>aa ⟨k,hk,e⟩
theorem Nn (S q:Nat) (d:Value) (h:List (ByteArray×Tm)) (g:Ca h) (i:Gp h) (t:Tm) (he:Ah [t]=0) (a:Option Addr) (c:Nat) (w:World) (X Y:Nat->Prop) (f:Bool) (aa:∀b,X b->¬Ci S q b) (hs:Sl w X a t.args) (ab:Cg S q d h f Y w):
  Calls prog 132 #[zC S,.agg (zF t a c)] w λe w'=>Nl S q d h (Ag (Ak h) t) f Y w e w':=by
 have h1:=Rt S q d h t a c w X Y f aa hs ab λnm _ _=>Zi S q d h g i nm;rw[Rk g.all.vars he]at h1;exact h1
theorem Rx {α:Type}:∀(l V:List α),l.Nodup->(∀x∈l,x∈V)->l.length<=V.length
 | [],V,_,_=>by simp
 |a::l,V,h,hs=>by
  classical
  obtain⟨h1,h2⟩:=List.nodup_cons.1 h;have ih:=Rx l (V.filter λx=>decide (x≠a)) h2 λx hx=>List.mem_filter.2 ⟨hs x (by simp[hx]),by simp; rintro rfl; exact h1 hx⟩;have b:=Nh (p:=λ_=>true) (q:=λx=>decide (x≠a)) V (λ_ _ _=>rfl) ⟨a,hs a (by simp),rfl,by simp⟩;have e:V.filter (λ_=>true)=V:=List.filter_eq_self.2 (by simp);rw[e]at b;simp only[Bu];omega
structure UI (V:List ByteArray) (h:List (ByteArray×Tm)) (l:List Pr):Prop where
 good:Ca h
 names:Gp h
 inV:∀i (hi:i<h.length),h[i].1∈V
 err:Ah (Ax l)=0
 vars:∀y,Al y=true->Au y (Ap (Ak h) (Ax l))->y∈V
 size:∀p∈l,Ab [p.l]<=2000/\Ab [p.r]<=2000
 len:∃l1 l2,l=l1++l2/\(∀p∈l1,Ag (Ak h) p.l=p.l/\Ag (Ak h) p.r=p.r)/\Ab (l1.map (·.l))<=2000/\l2.length<=40+2000*h.length
theorem UI.hlen {V:List ByteArray} {h:List (ByteArray×Tm)} {l:List Pr} (u:UI V h l):h.length<=V.length:=by
 have h1:=Rx (h.map (·.1)) V ?_ ?_
 ·simpa using h1
 ·rw[Og,Gc,Kr];intro i j hi hj aa e;have:=u.good.once hi hj e;omega
 ·intro x hx;obtain⟨p,hp,rfl⟩:=Ce.1 hx;obtain⟨i,hi,rfl⟩:=Hz hp;exact u.inV i hi
theorem Np:∀l:List Pr,l.length<=Ab (l.map (·.l))
 | []=>by simp
 |p::l=>by
  have:=Np l;rw[Cb,ET];have:=KE p.l;simp only[Bu];omega
theorem UI.llen {V:List ByteArray} {h:List (ByteArray×Tm)} {l:List Pr} (u:UI V h l):l.length<=2040+2000*V.length:=by
 obtain⟨l1,l2,rfl,_,h2,h3⟩:=u.len;have h4:=Np l1;have a:=u.hlen;rw[Dx];have:2000*h.length<=2000*V.length:=Nat.mul_le_mul_left _ a;omega
theorem UI.start {l:List Pr} (he:Ah (Ax l)=0) (hs:∀p∈l,Ab [p.l]<=2000/\Ab [p.r]<=2000) (a:l.length<=40):UI ((Ao (Ap [] (Ax l))).map (·.name)) [] l:=
 ⟨YT,λi hi=>by simp at hi,λi hi=>by simp at hi,he,λy _ ho=>by obtain⟨k,hk,e⟩:=ho; exact Ce.2 ⟨k,hk,e⟩,hs,[],l,rfl,by simp,by simp[Ab],by simpa using a⟩
theorem UI.drop {V:List ByteArray} {h:List (ByteArray×Tm)} {p:Pr} {l:List Pr} (u:UI V h (p::l)):UI V h l:=by
 obtain⟨g1,g2,g3,g4,g5,g6,l1,l2,e,g7,g8,g9⟩:=u;rw[Ax]at g4 g5;refine⟨g1,g2,g3,(Cu.1 (Cu.1 g4).2).2,λy hy ho=>g5 y hy ?_,λq hq=>g6 q (by simp[hq]),?_⟩
 ·rw[Bb,Bb];exact BO.2 (Ae (BO.2 (Ae ho)))
 ·cases l1 with
  |nil=>
   cases l2 with
   |nil=>cases e
   |cons q l2=>simp only[D9,GC] at e;obtain⟨rfl,rfl⟩:=e;simp only[Bu] at g9;exact⟨[],l,rfl,by simp,by simp[Ab],by omega⟩
  |cons q l1=>simp only[Cj,GC] at e;obtain⟨rfl,rfl⟩:=e;rw[Cb,ET]at g8;exact⟨l1,l2,rfl,λq hq=>g7 q (by simp[hq]),by omega,g9⟩
theorem UI.head {V:List ByteArray} {h:List (ByteArray×Tm)} {p:Pr} {l:List Pr} (u:UI V h (p::l)):Ah [p.l]=0/\Ah [p.r]=0:=by
 have g:=u.err;rw[Ax]at g;exact⟨(Cu.1 g).1,(Cu.1 (Cu.1 g).2).1⟩
theorem Hp (u:Tm):Au u.name [u]:=by obtain⟨n,k⟩:=u; exact Dm.2 (Ad rfl)
theorem Gq {u:Tm} {y:ByteArray} (h:Au y u.args):Au y [u]:=by obtain⟨n,k⟩:=u; exact Dm.2 (Ae (Ad h))
theorem FF {u:Tm} (h:Ah [u]=0):Ah u.args=0:=by obtain⟨n,k⟩:=u; exact(GR h).2.1
theorem Jg (u:Tm):Ab [u]=1+Ab u.args:=by obtain⟨n,k⟩:=u; simp[Ab]
theorem Ry {u:Tm} (h:Ah [u]=0):AW u.name=true:=by obtain⟨n,k⟩:=u; exact JY h
theorem UI.bindV {V:List ByteArray} {h:List (ByteArray×Tm)} {p:Pr} {l:List Pr} (u:UI V h (p::l)) {x:ByteArray} {t:Tm} (hx:Al x=true) (aa:(x=(Ag (Ak h) p.l).name/\t=Ag (Ak h) p.r)∨(x=(Ag (Ak h) p.r).name/\t=Ag (Ak h) p.l)) (ho:¬AJ x (At [] (Ao [t]))=true):
  FZ (Ak h) x t/\UI V (h++[(x,t)]) l:=by
 have ok:=u.good.all;obtain⟨b,c⟩:=u.head;have f:=En ok b;have g:=En ok c;have j:=ok.goneT b;have k:=ok.goneT c;have a:=u.vars;rw[Ax,Bb,Bb]at a;have m:Ah (Ax l)=0:=u.drop.err;have both:(∀d∈Ak h,d.nm≠x)/\Ah [t]=0/\(∀e∈Ak h,¬Au e.nm [t])/\AW x=true/\x∈V/\(∀y,Au y [t]->Au y (Ag (Ak h) p.l::Ag (Ak h) p.r::Ap (Ak h) (Ax l))):=by
  rcases aa with ⟨rfl,rfl⟩|⟨rfl,rfl⟩
  ·exact⟨λd hd e=>j d hd (by rw[e]; exact Hp _),g,k,Ry f,a _ hx (BO.2 (Ad (Hp _))),λy hy=>BO.2 (Ae (BO.2 (Ad hy)))⟩
  ·exact⟨λd hd e=>k d hd (by rw[e]; exact Hp _),f,j,Ry g,a _ hx (BO.2 (Ae (BO.2 (Ad (Hp _))))),λy hy=>BO.2 (Ad hy)⟩
 obtain⟨n,o,q,b4,b5,s⟩:=both;have hoc:=Jc hx ho;have may:FZ (Ak h) x t:=⟨hx,n,o,q,hoc⟩;obtain⟨f1,f2,f3⟩:=Ls (L:=Ax l) ok hx n o q hoc m;refine⟨may,u.good.snoc may,λi hi=>?_,λi hi=>?_,m,λy hy hoc=>?_,u.drop.size,[],l,rfl,by simp,by simp[Ab],?_⟩
 ·by_cases e:i<h.length
  ·rw[Kq e]; exact u.names i e
  ·have:i=h.length:=by simp at hi; omega
   subst this;simpa using b4
 ·by_cases e:i<h.length
  ·rw[Kq e]; exact u.inV i e
  ·have:i=h.length:=by simp at hi; omega
   subst this;simpa using b5
 ·rw[FE]at hoc;rcases f2 y hy hoc with h1|h1
  ·exact a y hy (BO.2 (Ae (BO.2 (Ae h1))))
  ·exact a y hy (s y h1)
 ·obtain⟨l1,l2,e,g7,g8,g9⟩:=u.len;have h4:=Np l1;have h5:l.length+1=l1.length+l2.length:=by rw[<-Dx,<-e]; simp
  simp only[Dx,Bu,E4];omega
theorem Lu:∀ {a b:List Tm} {p:Pr},p∈Az a b->p.l∈a/\p.r∈b
 | [],_,p,h=>by simp[Az] at h
 |_::_,[],p,h=>by simp[Az] at h
 |t::a,u::b,p,h=>by
  rw[Az]at h;rcases Bq.1 h with rfl|h
  ·exact⟨by simp,by simp⟩
  ·have:=Lu h;exact⟨by simp[this.1],by simp[this.2]⟩
theorem Nq:∀ {a b:List Tm},a.length=b.length->(Az a b).map (·.l)=a
 | [],[],_=>rfl
 | [],_::_,h=>by simp at h
 |_::_,[],h=>by simp at h
 |t::a,u::b,h=>by rw[Az,Cb,Nq (by simpa using h)]
theorem Rz {l:List Tm} {t:Tm} (h:t∈l):Ab [t]<=Ab l:=by
 induction l with
 |nil=>cases h
 |cons a r b=>
  have hc:=ET a r;rcases Bq.1 h with rfl|h
  ·omega
  ·have:=b h; omega
theorem J6 {s:List Bd} {t:Tm} (h:∀e∈s,¬Au e.nm [t]):Ag s t=t:=by
 have h1:=Hn [t] h;rw[Bb]at h1;simpa [Ap] using h1
theorem RA {y:ByteArray} {l:List Tm} {t:Tm} (h:t∈l) (ho:Au y [t]):Au y l:=by
 induction l with
 |nil=>cases h
 |cons a r b=>
  rcases Bq.1 h with rfl|h
  ·exact BO.2 (Ad ho)
  ·exact BO.2 (Ae (b h))
theorem UI.deep {V:List ByteArray} {h:List (ByteArray×Tm)} {p:Pr} {l:List Pr} (u:UI V h (p::l)) (ha:Ab [Ag (Ak h) p.l]<=2000) (hb:Ab [Ag (Ak h) p.r]<=2000) (b:(Ag (Ak h) p.l).args.length=(Ag (Ak h) p.r).args.length):
  UI V h (Az (Ag (Ak h) p.l).args (Ag (Ak h) p.r).args++l)/\∀q∈Az (Ag (Ak h) p.l).args (Ag (Ak h) p.r).args,Ag (Ak h) q.l=q.l/\Ag (Ak h) q.r=q.r:=by
 have ok:=u.good.all;obtain⟨c,d⟩:=u.head;have i:=En ok c;have j:=En ok d;have f:=ok.goneT c;have g:=ok.goneT d;have a:=u.vars;rw[Ax,Bb,Bb]at a;have aa:∀q∈Az (Ag (Ak h) p.l).args (Ag (Ak h) p.r).args,Ag (Ak h) q.l=q.l/\Ag (Ak h) q.r=q.r:=λq hq=>by
  obtain⟨m1,m2⟩:=Lu hq;exact⟨J6 λe he ho=>f e he (Gq (RA m1 ho)),J6 λe he ho=>g e he (Gq (RA m2 ho))⟩
 have k:=Jg (Ag (Ak h) p.l);have sb:=Jg (Ag (Ak h) p.r);refine⟨⟨u.good,u.names,u.inV,?_,λy hy ho=>?_,λq hq=>?_,?_⟩,aa⟩
 ·rw[Gl];exact Ho.2 ⟨Iq (FF i) (FF j),u.drop.err⟩
 ·rw[Gl,Ic]at ho;rcases Lq.1 ho with ho|ho
  ·rw[Hn]at ho
   ·rcases Ip ho with ho|ho
    ·exact a y hy (BO.2 (Ad (Gq ho)))
    ·exact a y hy (BO.2 (Ae (BO.2 (Ad (Gq ho)))))
   ·intro e he hoc;rcases Ip hoc with hoc|hoc
    ·exact f e he (Gq hoc)
    ·exact g e he (Gq hoc)
  ·exact a y hy (BO.2 (Ae (BO.2 (Ae ho))))
 ·rcases Bg.1 hq with hq|hq
  ·obtain⟨m1,m2⟩:=Lu hq;have:=Rz m1;have:=Rz m2;omega
  ·exact u.size q (by simp[hq])
 ·obtain⟨l1,l2,e,g7,g8,g9⟩:=u.len;cases l1 with
  |nil=>
   cases l2 with
   |nil=>cases e
   |cons q l2=>simp only[D9,GC] at e;obtain⟨rfl,rfl⟩:=e;simp only[Bu] at g9;exact⟨_,l,rfl,aa,by rw[Nq b]; omega,by omega⟩
  |cons q l1=>
   simp only[Cj,GC] at e;obtain⟨rfl,rfl⟩:=e;rw[Cb,ET]at g8;have hp:=(g7 p (by simp)).1;refine⟨Az (Ag (Ak h) p.l).args (Ag (Ak h) p.r).args++l1,l2,by rw[Gz],λq hq=>?_,?_,g9⟩
   ·rcases Bg.1 hq with hq|hq
    ·exact aa q hq
    ·exact g7 q (by simp[hq])
   ·rw[Cr,Eb,Nq b];rw[hp]at k ⊢;omega

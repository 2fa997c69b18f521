/- Several texts in one. -/
import Derived.Test.YtacmmcnnhfmepaaGreatDoorZILongSaysOwn
import Derived.Deep.LoopGhost
import Derived.Sort.KeysCollected
import Derived.Sort.Walk0
import Derived.Maps.Range
import Derived.Maps.Own
import Derived.StringKeys
import Derived.Test.YtacmmcnnhfmepaaGreatDoorIterL
namespace Go.Proofs.YtacmmcnnhfmepaaGreatDoor
set_option linter.all false
set_option maxRecDepth 20000
set_option maxHeartbeats 8000000
open Go.RowKit Go.Proofs.Tryz
inductive FO where
 |go (s:List Bd) (l:List Pr)
 |stop (e:Int)
def Fr (s:List Bd) (x:ByteArray) (t:Tm):FO:=if Cd x (AR [] (Aw [t]))=true then .stop 6 else .go (CD s x t) []
def Ea (s:List Bd) (a b:Tm):FO:=
 if Av a.name=true then (if a.name=b.name then .go s [] else Fr s a.name b)
 else if Av b.name=true then Fr s b.name a
 else if a.name=b.name/\a.args.length=b.args.length then .go s (Az a.args b.args)
 else .stop 5
inductive FR:List Bd->List Pr->Int->List Bd->Prop
 |done (s:List Bd):FR s [] 0 s
 |step {s s' sf:List Bd} {p:Pr} {l' rest:List Pr} {e:Int}:Ea s (Af s p.l) (Af s p.r)=.go s' l'->FR s' (l'++rest) e sf->FR s (p::rest) e sf
 |stop {s:List Bd} {p:Pr} {rest:List Pr} {e:Int}:Ea s (Af s p.l) (Af s p.r)=.stop e->FR s (p::rest) e s
theorem Ts {s:List Bd} {x:ByteArray} {t:Tm} {e:Int} (h:Fr s x t=.stop e):e=6:=by
 unfold Fr at h;split at h
 ·cases h; rfl
 ·cases h
theorem Zb {s:List Bd} {a b:Tm} {e:Int} (h:Ea s a b=.stop e):e≠0:=by
 unfold Ea at h;split at h
 ·split at h
  ·cases h
  ·rw[Ts h]; decide
 ·split at h
  ·rw[Ts h]; decide
  ·split at h
   ·cases h
   ·cases h; decide
theorem FR.append_ok {s s':List Bd} {a:List Pr} {c:Int} (h:FR s a c s'):c=0->∀ {b:List Pr} {e:Int} {sf:List Bd},FR s' b e sf->FR s (a++b) e sf:=by
 induction h with
 |done s=>intro _ b e sf h; exact h
 |step h1 _ d=>intro h0 b e sf h; exact FR.step h1 (by have h2:=d h0 h; rw[IX] at h2; exact h2)
 |stop h1=>intro h0; exact absurd h0 (Zb h1)
theorem FR.append_err {s s':List Bd} {a:List Pr} {e:Int} (h:FR s a e s'):e≠0->∀(b:List Pr),FR s (a++b) e s':=by
 induction h with
 |done s=>intro h; exact absurd rfl h
 |step h1 _ c=>intro h0 b; exact FR.step h1 (by have h2:=c h0 b; rw[IX] at h2; exact h2)
 |stop h1=>intro h0 b; exact FR.stop h1
def FL (s s':List Bd):Prop:=∀L:List Tm,As L=0->An s' (An s L)=An s' L
theorem FL.T {s s':List Bd} (h:FL s s') {t:Tm} (he:As [t]=0):Af s' (Af s t)=Af s' t:=by
 have h1:=h [t] he;rw[Br,Br,Br]at h1;injection h1
theorem JB {s:List Bd} (h:Ce s):FL s s:=λL he=>h.idem he
theorem FL.trans {s s' a:List Bd} (b:Ce s) (h:FL s s') (k:FL s' a):FL s a:=λL he=>by
 rw[<-k (An s L) (Ix b L he),h L he,k L he]
theorem Zc {s s':List Bd} {x:ByteArray} {t:Tm} {l':List Pr} (a:Ce s) (hx:Av x=true) (b:∀d∈s,d.nm≠x) (he:As [t]=0) (ht:∀e∈s,¬Ax e.nm [t]) (h:Fr s x t=.go s' l'):s'=CD s x t/\l'=[]/\¬Ax x [t]/\Ce s'/\FL s s':=by
 unfold Fr at h;split at h
 ·cases h
 ·rename_i ho;cases h;have h1:=Km hx ho;have h2:=a.add hx b he ht h1;refine⟨rfl,rfl,h1,h2,λL c=>?_⟩;rw[Jb a hx b h2 _ (Ix a L c),Jb a hx b h2 L c,a.idem c]
def Tt (s s':List Bd) (a b:Tm) (l':List Pr):Prop:=
 Ce s'/\FL s s'/\As (AL l')=0/\(∀V:List ByteArray,(∀d∈s,d.nm∈V)->(∀y,Av y=true->(Ax y [a]∨Ax y [b])->y∈V)->(∀d∈s',d.nm∈V))/\
  (∀L,As L=0->∀y,Av y=true->Ax y (An s' L)->Ax y (An s L)∨Ax y [a]∨Ax y [b])/\
  (l'=[]∨(s'=s/\Av a.name=false/\Av b.name=false/\l'=Az a.args b.args))
theorem Tu {s s':List Bd} {a b:Tm} {l':List Pr} (c:Ce s) (j:As [a]=0) (hb:As [b]=0) (k:∀e∈s,¬Ax e.nm [a]) (l:∀e∈s,¬Ax e.nm [b]) (h:Ea s a b=.go s' l'):Tt s s' a b l':=by
 have bind:∀x t,Av x=true->(∀d∈s,d.nm≠x)->As [t]=0->(∀e∈s,¬Ax e.nm [t])->(Ax x [a]∨Ax x [b])->(∀y,Ax y [t]->Ax y [a]∨Ax y [b])->Fr s x t=.go s' l'->Tt s s' a b l':=λx t hx m he ht n o h=>by
  obtain⟨rfl,rfl,h3,q,h5⟩:=Zc c hx m he ht h;refine⟨q,h5,by simp[AL,As],λV h6 r d hd=>?_,λL f y hy ho=>?_,Ad rfl⟩
  ·have h8:=(EL (s.map (BD x t)++[⟨x,t⟩])).subset hd;rcases BJ.1 h8 with h8|h8
   ·obtain⟨d',u,rfl⟩:=Cv.1 h8;exact h6 d' u
   ·have e:d=⟨x,t⟩:=(by simpa using h8);rw[e];exact r x hx n
  ·exact((NW c hx m he ht h3 f).2.1 y hy ho).imp id (o y)
 unfold Ea at h;split at h
 ·rename_i g;split at h
  ·cases h;exact⟨c,JB c,by simp[AL,As],λV h6 _=>h6,λL f y hy ho=>Ad ho,Ad rfl⟩
  ·exact bind a.name b g (λd hd e=>k d hd (by rw[e]; exact Id a)) hb l (Ad (Id a)) (λy h=>Ae h) h
 ·rename_i g;split at h
  ·rename_i i;exact bind b.name a i (λd hd e=>l d hd (by rw[e]; exact Id b)) j k (Ae (Id b)) (λy h=>Ad h) h
  ·rename_i i;split at h
   ·cases h;exact⟨c,JB c,Js (FK j) (FK hb),λV h6 _=>h6,λL f y hy ho=>Ad ho,Ae ⟨rfl,by simpa using g,by simpa using i,rfl⟩⟩
   ·cases h
theorem Of {s:List Bd} {rest:List Pr} {a b:Tm} (ha:Ah [a]<=2000) (hb:Ah [b]<=2000):Bp false s rest a b=match Ea s a b with
  | .go s' l'=>.go s' (l'++rest)
  | .stop e=>.stop e s:=by
 have bind:∀x t,Co false s rest x t=match Fr s x t with
   | .go s' l'=>.go s' (l'++rest)
   | .stop e=>.stop e s:=λx t=>by
  unfold Co Fr;by_cases h:Cd x (AR [] (Aw [t]))=true
  ·rw[Aq h,Aq h]
  ·rw[Am h,Am h,Am (by simp)]; rfl
 unfold Bp Ea;rw[Am (by omega)];by_cases h1:Av a.name=true
 ·rw[Aq h1,Aq h1];by_cases h2:a.name=b.name
  ·rw[Aq h2,Aq h2]; rfl
  ·rw[Am h2,Am h2]; exact bind _ _
 ·rw[Am h1,Am h1];by_cases h2:Av b.name=true
  ·rw[Aq h2,Aq h2]; exact bind _ _
  ·rw[Am h2,Am h2];by_cases h3:a.name=b.name/\a.args.length=b.args.length
   ·rw[Aq h3,Aq h3]
   ·rw[Am h3,Am h3]
theorem Zd:∀ {a b:List Tm} {p:Pr},p∈Az a b->p.l∈a/\p.r∈b:=@Mq
theorem Tv {sf:List Bd} (a:Ce sf) {u x:Tm} (b:Av u.name=false) (hx:x∈u.args):Ah [Af sf x]<=Ah [Af sf u]:=by
 obtain⟨n,l⟩:=u;rw[EM a.vars b];have h1:=Za (t:=sf) hx;have h2:=Jw ⟨n,An sf l⟩;simp only at h1 h2;show Ah [Af sf x]<=Ah [⟨n,An sf l⟩];omega
theorem FR.run {s sf:List Bd} {l:List Pr} {e:Int} (h:FR s l e sf):Ce s->As (AL l)=0->(Ce sf/\FL s sf)/\((∀p∈l,Ah [Af sf p.l]<=2000/\Ah [Af sf p.r]<=2000)->∃n,AZ false n s l=some (e,sf))/\
  (∀V:List ByteArray,(∀d∈s,d.nm∈V)->(∀y,Av y=true->Ax y (An s (AL l))->y∈V)->∀d∈sf,d.nm∈V):=by
 induction h with
 |done s=>intro a _; exact⟨⟨a,JB a⟩,λ_=>⟨1,rfl⟩,λV h _=>h⟩
 | @step s s' sf p l' rest e h1 h2 i=>
  intro a he;obtain⟨e1,e2⟩:=CW.1 he;obtain⟨e2,e3⟩:=CW.1 e2;have j:=EN a e1;have k:=EN a e2;obtain⟨g1,g2,g3,g4,g5,g6⟩:=Tu a j k (a.goneT e1) (a.goneT e2) h1;have m:As (AL (l'++rest))=0:=by rw[Hc]; exact Jr.2 ⟨g3,e3⟩
  obtain⟨⟨c,i2⟩,i3,i4⟩:=i g1 m;have b:FL s sf:=g2.trans a i2;refine⟨⟨c,b⟩,λhz=>?_,λV h6 f=>i4 V (g4 V h6 λy hy ho=>f y hy ?_) λy hy ho=>?_⟩
  ·have za:=(hz p (by simp)).1;have zb:=(hz p (by simp)).2;have o:Ah [Af s p.l]<=2000:=(by have:=Nm sf (Af s p.l);rw[b.T e1]at this;omega);have q:Ah [Af s p.r]<=2000:=(by have:=Nm sf (Af s p.r);rw[b.T e2]at this;omega);obtain⟨n,t⟩:=i3 λu hp'=>by
    rcases BJ.1 hp' with hp'|hp'
    ·rcases g6 with g6|⟨rfl,va,g,g6⟩
     ·rw[g6]at hp'; cases hp'
     ·rw[g6]at hp';obtain⟨m1,m2⟩:=Zd hp';have z1:=Tv c va m1;have z2:=Tv c g m2;rw[b.T e1]at z1;rw[b.T e2]at z2;omega
    ·exact hz u (by simp[hp'])
   refine⟨n+1,?_⟩;rw[AZ,ED,Of o q,h1];exact t
  ·rw[AL,Br,Br];rcases ho with ho|ho
   ·exact Ch.2 (Ad ho)
   ·exact Ch.2 (Ae (Ch.2 (Ad ho)))
  ·refine f y hy ?_;rw[AL,Br,Br];rw[Hc,Iq]at ho;have fin:Ax y (An s (AL rest))∨Ax y [Af s p.l]∨Ax y [Af s p.r]:=by
    rcases LP.1 ho with ho|ho
    ·rcases g6 with g6|⟨gs,va,g,g6⟩
     ·rw[g6]at ho; simp only[AL,An] at ho; exact absurd ho FD
     ·rw[g6,gs]at ho;have v:An s (AL (Az (Af s p.l).args (Af s p.r).args))=AL (Az (Af s p.l).args (Af s p.r).args):=Iw _ λd hd hoc=>by
       rcases IK hoc with hoc|hoc
       ·exact a.goneT e1 d hd (GE hoc)
       ·exact a.goneT e2 d hd (GE hoc)
      rw[v]at ho;rcases IK ho with ho|ho
      ·exact Ae (Ad (GE ho))
      ·exact Ae (Ae (GE ho))
    ·exact g5 _ e3 y hy ho
   rcases fin with ho|ho|ho
   ·exact Ch.2 (Ae (Ch.2 (Ae ho)))
   ·exact Ch.2 (Ad ho)
   ·exact Ch.2 (Ae (Ch.2 (Ad ho)))
 | @stop s p rest e h1=>intro a he;obtain⟨e1,e2⟩:=CW.1 he;obtain⟨e2,e3⟩:=CW.1 e2;refine⟨⟨a,JB a⟩,λhz=>⟨1,?_⟩,λV h _=>h⟩;rw[AZ,ED,Of (hz p (by simp)).1 (hz p (by simp)).2,h1]
theorem Tw {y:ByteArray}:∀ {l:List Pr},Ax y (AL l)->∃p∈l,Ax y [p.l]∨Ax y [p.r]
 | [],h=>absurd h FD
 |p::r,h=>by
  rw[AL]at h;rcases Ch.1 h with h|h
  ·exact⟨p,by simp,Ad h⟩
  ·rcases Ch.1 h with h|h
   ·exact⟨p,by simp,Ae h⟩
   ·obtain⟨q,hq,h⟩:=Tw h;exact⟨q,by simp[hq],h⟩
theorem Mw:∀ {l:List Pr},As (AL l)=0->∀p∈l,As [p.l]=0/\As [p.r]=0
 | [],_,p,hp=>by cases hp
 |q::r,h,p,hp=>by
  rw[AL]at h;obtain⟨e1,e2⟩:=CW.1 h;obtain⟨e2,e3⟩:=CW.1 e2;rcases Cn.1 hp with rfl|hp
  ·exact⟨e1,e2⟩
  ·exact Mw e3 p hp
theorem FR.ends {sf:List Bd} {l:List Pr} {e:Int} (h:FR [] l e sf) (he:As (AL l)=0) (hz:∀p∈l,Ah [Af sf p.l]<=2000/\Ah [Af sf p.r]<=2000):(∃n,AZ false n [] l=some (e,sf))/\AU sf=false:=by
 obtain⟨⟨h1,h2⟩,h3,f⟩:=h.run Kc he;refine⟨h3 hz,?_⟩;have h5:=f ((Aw (AL l)).map (·.name)) (by simp) (λy hy ho=>by
  rw[Iw _ (by simp)]at ho;obtain⟨k,hk,rfl⟩:=ho;exact Cv.2 ⟨k,hk,rfl⟩)
 unfold AU;rw[Bool.eq_false_iff];intro a;rw[ER]at a;obtain⟨d,hd,g⟩:=a;simp only[decide_eq_true_eq] at g;obtain⟨k,hk,i⟩:=Cv.1 (h5 d hd);obtain⟨p,hp,ho⟩:=Tw (y:=d.nm) ⟨k,hk,i⟩;have b:=h1.vars d hd;have c:Af sf ⟨d.nm,[]⟩=d.t:=by rw[Fz,J8 h1.1 hd]; rfl
 obtain⟨e1,e2⟩:=Mw he p hp;have ab:=hz p hp;rcases ho with ho|ho
 ·have h6:=Od h1.vars b [p.l] e1 ho;rw[Br,c]at h6;simp only[An] at h6;omega
 ·have h6:=Od h1.vars b [p.r] e2 ho;rw[Br,c]at h6;simp only[An] at h6;omega
def Eb (s:List Bd) (l k:List Pr):Prop:=l.map (λp=>(Af s p.l,Af s p.r))=k.map (λp=>(Af s p.l,Af s p.r))
theorem Eb.later {s s':List Bd} (a:FL s s'):∀ {l k:List Pr},As (AL l)=0->As (AL k)=0->Eb s l k->Eb s' l k
 | [],[],_,_,_=>rfl
 | [],_::_,_,_,h=>by simp[Eb] at h
 |_::_,[],_,_,h=>by simp[Eb] at h
 |p::l,q::k,b,hk,h=>by
  unfold Eb at h;rw[Cu,Cu]at h;injection h with h1 h2
  injection h1 with h3 c
  obtain⟨e1,e2⟩:=CW.1 b;obtain⟨e2,e3⟩:=CW.1 e2;obtain⟨f1,f2⟩:=CW.1 hk;obtain⟨f2,f3⟩:=CW.1 f2;have h5:Eb s' l k:=Eb.later a e3 f3 h2;unfold Eb;rw[Cu,Cu,h5,<-a.T e1,<-a.T e2,<-a.T f1,<-a.T f2,h3,c]
theorem FR.congr {s sf:List Bd} {l:List Pr} {e:Int} (h:FR s l e sf):∀ {k:List Pr},Ce s->As (AL l)=0->As (AL k)=0->Eb s l k->FR s k e sf:=by
 induction h with
 |done s=>
  intro k _ _ _ hk;cases k with
  |nil=>exact FR.done s
  |cons q k=>simp[Eb] at hk
 | @step s s' sf p l' rest e h1 h2 d=>
  intro k a he hk h;cases k with
  |nil=>simp[Eb] at h
  |cons q k=>
   unfold Eb at h;rw[Cu,Cu]at h;injection h with h3 b
   injection h3 with h5 h6
   obtain⟨e1,e2⟩:=CW.1 he;obtain⟨e2,e3⟩:=CW.1 e2;obtain⟨f1,f2⟩:=CW.1 hk;obtain⟨f2,f3⟩:=CW.1 f2;obtain⟨g1,g2,g3,_⟩:=Tu a (EN a e1) (EN a e2) (a.goneT e1) (a.goneT e2) h1;refine FR.step (by rw[<-h5,<-h6]; exact h1) (d g1 (by rw[Hc]; exact Jr.2 ⟨g3,e3⟩) (by rw[Hc]; exact Jr.2 ⟨g3,f3⟩) ?_);have c:Eb s' rest k:=Eb.later g2 e3 f3 b;unfold Eb at c ⊢;rw[CY,CY,c]
 | @stop s p rest e h1=>
  intro k a he hk h;cases k with
  |nil=>simp[Eb] at h
  |cons q k=>
   unfold Eb at h;rw[Cu,Cu]at h;injection h with h3 b
   injection h3 with h5 h6
   exact FR.stop (by rw[<-h5,<-h6]; exact h1)
structure Zp where
 nm:ByteArray
 t:Tm
 b:Nat
 o:Nat
def CX (Z:List Zp) (s:List Bd):Prop:=Ce s/\(∀z∈Z,Av z.nm=true/\As [z.t]=0/\Af s ⟨z.nm,[]⟩=Af s z.t)/\(∀d∈s,∃z∈Z,z.nm=d.nm)/\∀z∈Z,∃d∈s,d.nm=z.nm
theorem Ze:CX [] []:=⟨Kc,by simp,by simp,by simp⟩
theorem CX.unbound {Z:List Zp} {s:List Bd} (h:CX Z s) {n:ByteArray} (a:∀z∈Z,z.nm≠n):∀d∈s,d.nm≠n:=λd hd e=>by
 obtain⟨z,hz,e2⟩:=h.2.2.1 d hd;exact a z hz (e2.trans e)
theorem CX.fresh {Z:List Zp} {s:List Bd} (h:CX Z s) {n:ByteArray} (a:∀d∈s,d.nm≠n):∀z∈Z,z.nm≠n:=λz hz e=>by
 obtain⟨d,hd,e2⟩:=h.2.2.2 z hz;exact a d hd (e2.trans e)
theorem CX.errs {Z:List Zp} {s:List Bd} (h:CX Z s):∀z∈Z,As [z.t]=0:=λz hz=>(h.2.1 z hz).2.1
theorem CX.stands {Z:List Zp} {s:List Bd} (h:CX Z s) {t:Tm} (he:As [t]=0) (a:Av t.name=true) {z:Zp} (hz:z∈Z) (b:z.nm=t.name):Af s z.t=Af s t:=by
 rw[JA he a,<-b];exact(h.2.1 z hz).2.2.symm
def Ew (s:List Bd) (t:Tm):Prop:=As [t]=0/\(Av t.name=true->∀d∈s,d.nm≠t.name)
theorem Tx {s:List Bd} {n:ByteArray} (h:∀d∈s,d.nm≠n):AC s n=none:=by
 induction s with
 |nil=>rfl
 |cons d r a=>rw[AC,Am (h d (by simp))]; exact a λe he=>h e (by simp[he])
theorem Ew.var {s:List Bd} {t:Tm} (h:Ew s t) (a:Av t.name=true):Af s t=⟨t.name,[]⟩:=by
 rw[JA h.1 a,Fz,Tx (h.2 a)];rfl
theorem JD {s:List Bd} (a:Ce s) {t:Tm} (b:Av t.name=false):Af s t=⟨t.name,An s t.args⟩:=by
 obtain⟨n,l⟩:=t;exact EM a.vars b l
theorem Ew.name {s:List Bd} (b:Ce s) {t:Tm} (h:Ew s t):(Af s t).name=t.name:=by
 cases a:Av t.name with
 |true=>rw[h.var a]
 |false=>rw[JD b a]
theorem Og (s:List Bd):∀l:List Tm,(An s l).length=l.length
 | []=>by simp[An]
 |t::r=>by rw[Br,Cg,Og s r,Cg]
theorem CX.add {Z:List Zp} {s:List Bd} (h:CX Z s) {x:ByteArray} {t:Tm} (hx:Av x=true) (c:∀d∈s,d.nm≠x) (he:As [t]=0) (ho:¬Ax x [Af s t]) (b o:Nat):CX (Z++[⟨x,t,b,o⟩]) (CD s x (Af s t)):=by
 have a:=h.1;have i:=EN a he;have h1:=a.add hx c i (a.goneT he) ho;have f:∀y,As [y]=0->Af (CD s x (Af s t)) y=Af [⟨x,Af s t⟩] (Af s y):=λy hy=>by
  have h2:=Jb a hx c h1 [y] hy;rw[Br,Br,Br]at h2;injection h2
 refine⟨h1,λz hz=>?_,λd hd=>?_,λz hz=>?_⟩
 ·rcases BJ.1 hz with hz|hz
  ·obtain⟨g1,g2,g3⟩:=h.2.1 z hz;exact⟨g1,g2,by rw[LQ a.1 c,g3,f _ g2]⟩
  ·have e:z=⟨x,t,b,o⟩:=(by simpa using hz);subst e;refine⟨hx,he,?_⟩;show Af (CD s x (Af s t)) ⟨x,[]⟩=Af (CD s x (Af s t)) t;rw[LQ a.1 c,f t he,Fz s x,Tx c,Jy (s:=[⟨x,Af s t⟩]) (t:=Af s t) (λd hd=>by
    have e:d=⟨x,Af s t⟩:=(by simpa using hd);rw[e]; exact ho)]
   simp[Fz,AC]
 ·have h8:=(EL (s.map (BD x (Af s t))++[⟨x,Af s t⟩])).subset hd;rcases BJ.1 h8 with h8|h8
  ·obtain⟨d',j,rfl⟩:=Cv.1 h8;obtain⟨z,hz,e⟩:=h.2.2.1 d' j;exact⟨z,by simp[hz],e⟩
  ·have e:d=⟨x,Af s t⟩:=(by simpa using h8);exact⟨⟨x,t,b,o⟩,by simp,by rw[e]⟩
 ·have g:∀d,d∈s.map (BD x (Af s t))++[⟨x,Af s t⟩]->d∈CD s x (Af s t):=λd hd=>(EL _).symm.subset hd;rcases BJ.1 hz with hz|hz
  ·obtain⟨d,hd,e⟩:=h.2.2.2 z hz;exact⟨BD x (Af s t) d,g _ (List.mem_append_left _ (Cv.2 ⟨d,hd,rfl⟩)),e⟩
  ·have e:z=⟨x,t,b,o⟩:=(by simpa using hz);exact⟨⟨x,Af s t⟩,g _ (by simp),by rw[e]⟩
theorem Tz {x:ByteArray} {t:Tm} (hx:Av x=true) (h:Ax x [t]):Cd x (AR [] (Aw [t]))=true:=by
 by_cases hi:Cd x (AR [] (Aw [t]))=true
 ·exact hi
 ·exact absurd h (Km hx hi)
theorem TB {x:ByteArray} {t:Tm} (h:¬Ax x [t]):¬Cd x (AR [] (Aw [t]))=true:=λhi=>by
 unfold Cd at hi;rw[ER]at hi;obtain⟨n,a,e⟩:=hi;rcases LM _ _ _ a with a|⟨k,hk,e2,_⟩
 ·cases a
 ·exact h ⟨k,hk,by rw[e2]; first|exact(FY (by simpa using e)).symm|exact FY (by simpa using e)⟩
theorem Zf {s:List Bd} {a b c b':Tm} (d:Ce s) (e:Af s c=Af s a) (hb:Af s b'=Af s b) (f:Ew s c) (g:Ew s b') (h:Av c.name=true) (i:b'.name=c.name):FR s [⟨a,b⟩] 0 s:=by
 refine FR.step (s':=s) (l':=[]) ?_ (FR.done s);show Ea s (Af s a) (Af s b)=_;rw[<-e,<-hb];unfold Ea;rw[f.name d,g.name d,Aq h,Aq i.symm]
theorem TD {s:List Bd} {a b c b':Tm} (d:Ce s) (e:Af s c=Af s a) (hb:Af s b'=Af s b) (f:Ew s c) (g:Ew s b') (h:(Av c.name=true/\b'.name≠c.name/\Ax c.name [Af s b'])∨(Av c.name=false/\Av b'.name=true/\Ax b'.name [Af s c])):FR s [⟨a,b⟩] 6 s:=by
 refine FR.stop ?_;show Ea s (Af s a) (Af s b)=_;rw[<-e,<-hb];unfold Ea;rw[f.name d,g.name d];rcases h with ⟨h1,h2,h3⟩|⟨h1,h2,h3⟩
 ·rw[Aq h1,Am (Ne.symm h2)];unfold Fr;rw[Aq (Tz h1 h3)]
 ·rw[Am (by rw[h1]; simp),Aq h2];unfold Fr;rw[Aq (Tz h2 h3)]
theorem TE {s:List Bd} {a b c b':Tm} (d:Ce s) (e:Af s c=Af s a) (hb:Af s b'=Af s b) (f:Ew s c) (g:Ew s b') {x:ByteArray} {u:Tm} (h:(Av c.name=true/\b'.name≠c.name/\x=c.name/\u=b')∨(Av c.name=false/\Av b'.name=true/\x=b'.name/\u=c)) (ho:¬Ax x [Af s u]):FR s [⟨a,b⟩] 0 (CD s x (Af s u)):=by
 refine FR.step (s':=CD s x (Af s u)) (l':=[]) ?_ (FR.done _);show Ea s (Af s a) (Af s b)=_;rw[<-e,<-hb];unfold Ea;rw[f.name d,g.name d];rcases h with ⟨h1,h2,rfl,rfl⟩|⟨h1,h2,rfl,rfl⟩
 ·rw[Aq h1,Am (Ne.symm h2)];unfold Fr;rw[Am (TB ho)]
 ·rw[Am (by rw[h1]; simp),Aq h2];unfold Fr;rw[Am (TB ho)]
theorem TF {s:List Bd} {a b c b':Tm} (d:Ce s) (f:Af s c=Af s a) (hb:Af s b'=Af s b) (va:Av c.name=false) (e:Av b'.name=false) (h:¬(c.name=b'.name/\c.args.length=b'.args.length)):FR s [⟨a,b⟩] 5 s:=by
 refine FR.stop ?_;show Ea s (Af s a) (Af s b)=_;rw[<-f,<-hb,JD d va,JD d e];unfold Ea;rw[Am (by rw[va]; simp),Am (by rw[e]; simp),Am (by simpa [Og] using h)]
theorem TG (s:List Bd):∀(a b:List Tm),(Az (An s a) (An s b))=(Az a b).map λp=>⟨Af s p.l,Af s p.r⟩
 | [],_=>by simp[An,Az]
 |_::_,[]=>by simp[An,Br,Az]
 |x::a,y::b=>by rw[Br,Br,Az,Az,TG s a b]; rfl
theorem TH {s sf:List Bd} {a b c b':Tm} {e:Int} (d:Ce s) (j:Af s c=Af s a) (hb:Af s b'=Af s b) (f:As [c]=0) (g:As [b']=0) (va:Av c.name=false) (i:Av b'.name=false) (k:c.name=b'.name) (m:c.args.length=b'.args.length) (h:FR s (Az c.args b'.args) e sf):FR s [⟨a,b⟩] e sf:=by
 refine FR.step (s':=s) (l':=Az (An s c.args) (An s b'.args)) ?_ ?_
 ·show Ea s (Af s a) (Af s b)=_;rw[<-j,<-hb,JD d va,JD d i];unfold Ea;rw[Am (by rw[va]; simp),Am (by rw[i]; simp),Aq (by simpa [Og] using⟨k,m⟩)]
 ·rw[List.append_nil];have e1:=Js (FK f) (FK g);have e2:As (AL (Az (An s c.args) (An s b'.args)))=0:=Js (Ix d _ (FK f)) (Ix d _ (FK g));refine h.congr d e1 e2 ?_;unfold Eb;rw[TG,List.map_map];refine List.map_congr_left λp hp=>?_;obtain⟨f1,f2⟩:=Mw e1 p hp;show(Af s p.l,Af s p.r)=(Af s (Af s p.l),Af s (Af s p.r));rw[(JB d).T f1,(JB d).T f2]
theorem TI:∀ {a b:List Tm} {k:Nat} (h:k<a.length) (h2:k<b.length),Az (a.take (k+1)) (b.take (k+1))=Az (a.take k) (b.take k)++[⟨a[k],b[k]⟩]
 |x::a,y::b,0,_,_=>by simp[Az]
 |x::a,y::b,k+1,h,h2=>by
  rw[JL,JL,Az,TI (k:=k) (by simpa using h) (by simpa using h2)];rfl
theorem TJ:∀(a b:List Tm) (k:Nat),Az a b=Az (a.take k) (b.take k)++Az (a.drop k) (b.drop k)
 |a,b,0=>by simp[Az]
 | [],b,k+1=>by simp[Az]
 |x::a,[],k+1=>by simp[Az]
 |x::a,y::b,k+1=>by
  rw[JL,JL,List.drop_succ_cons,List.drop_succ_cons,Az,Az,TJ a b k];rfl
theorem TL {s s' sf:List Bd} {a b:List Tm} {k:Nat} {e:Int} (h:k<a.length) (h2:k<b.length) (h0:FR s (Az (a.take k) (b.take k)) 0 s') (h1:FR s' [⟨a[k],b[k]⟩] e sf):FR s (Az (a.take (k+1)) (b.take (k+1))) e sf:=by
 rw[TI h h2];exact h0.append_ok rfl h1
theorem Zg {s sf:List Bd} {a b:List Tm} (k:Nat) {e:Int} (he:e≠0) (h:FR s (Az (a.take k) (b.take k)) e sf):FR s (Az a b) e sf:=by
 rw[TJ a b k];exact h.append_err he _
theorem TM {s s' sf:List Bd} {l:List Pr} {k:Nat} {e:Int} (h:k<l.length) (h0:FR s (l.take k) 0 s') (h1:FR s' [⟨l[k].l,l[k].r⟩] e sf):FR s (l.take (k+1)) e sf:=by
 rw[CB h];exact h0.append_ok rfl h1
theorem Zh {s sf:List Bd} {l:List Pr} (k:Nat) {e:Int} (he:e≠0) (h:FR s (l.take k) e sf):FR s l e sf:=by
 have h1:=h.append_err he (l.drop k);rwa [Fu] at h1
def Hf (w:World) (X:Nat->Prop) (b o:Nat) (t:Tm):Prop:=∃a c,w.cell? (zD b o)=some (.string t.name)/\w.cell? ⟨b,o+1,none⟩=some (.slice a t.args.length c)/\Sl w X a t.args/\b<w.heap.size
theorem Hf.later {w w':World} {X:Nat->Prop} {b o:Nat} {t:Tm} (h:Hf w X b o t) (hb:Below w.heap.size w w'):Hf w' X b o t:=by
 obtain⟨a,c,h1,h2,h3,d⟩:=h;exact⟨a,c,(hb.cell (p:=(zD b o)) d).trans h1,(hb.cell (p:=⟨b,o+1,none⟩) d).trans h2,h3.later hb,BO d hb.size⟩
theorem Hf.lt {w:World} {X:Nat->Prop} {b o:Nat} {t:Tm} (h:Hf w X b o t):b<w.heap.size:=by
 obtain⟨a,c,h1,h2,h3,d⟩:=h;exact d
theorem Hf.sub {w:World} {X:Nat->Prop} {b o:Nat} {t:Tm} (h:Hf w X b o t):∃a c,w.cell? ⟨b,o+1,none⟩=some (.slice a t.args.length c)/\∀k (hk:k<t.args.length),∃b' o',a=some (zD b' o')/\Hf w X b' (o'+k*2) t.args[k]:=by
 obtain⟨a,c,h1,h2,h3,h4⟩:=h;refine⟨a,c,h2,λk hk=>?_⟩;obtain⟨b',o',d,c',rfl,d0,d1,hx⟩:=h3.get (Ac _ _) (λ_ _ h=>h) k hk;obtain⟨a2,c2,e2,hx⟩:=hx;cases e2;exact⟨b',o',rfl,d,c',d0,d1,hx,Em d0⟩
def DJ (w:World) (X:Nat->Prop) (b o:Nat) (t:Tm):Prop:=Hf w X b o t/\X b
theorem DJ.exq {w w':World} {X Q:Nat->Prop} {b o:Nat} {t:Tm} (h:DJ w X b o t) (he:Ak Q w w') (d:∀b,X b->¬Q b):DJ w' X b o t:=by
 obtain⟨⟨a,c,h1,h2,h3,f⟩,h5⟩:=h;have e:=he.block b f (d b h5);exact⟨⟨a,c,(DC e).trans h1,(DC e).trans h2,h3.exq he d,BO f he.size⟩,h5⟩
theorem DJ.sub {w:World} {X:Nat->Prop} {b o:Nat} {t:Tm} (h:DJ w X b o t):∃a c,w.cell? ⟨b,o+1,none⟩=some (.slice a t.args.length c)/\t.args.length<=9223372036854775807/\∀k (hk:k<t.args.length),∃b' o',a=some (zD b' o')/\DJ w X b' (o'+k*2) t.args[k]:=by
 obtain⟨⟨a,c,h1,h2,h3,h4⟩,_⟩:=h;refine⟨a,c,h2,h3.1,λk hk=>?_⟩;obtain⟨b',o',d,c',rfl,d0,d1,hx⟩:=h3.get (Ac _ _) (λ_ _ h=>h) k hk;obtain⟨a2,c2,e2,hx⟩:=hx;cases e2;have e:X b':=by
  obtain⟨_,h1⟩:=h3;rcases h1 with h1|⟨b2,o2,e',h1⟩
  ·rw[h1]at hk; simp at hk
  ·cases e'; exact(KO _ _ _ h1 k hk).1
 exact⟨b',o',rfl,⟨d,c',d0,d1,hx,Em d0⟩,e⟩
def Hg (z:Zp):ByteArray×Value:=(z.nm,.pointer (some ⟨z.b,z.o,none⟩))
def C0 (w:World) (S q:Nat) (X:Nat->Prop) (Z:List Zp) (left:Int):Prop:=
 Ab w S #[.map (some q),zA left] 155/\BC w q (Z.map Hg)/\(∀z∈Z,DJ w X z.b z.o z.t)/\∀b,X b->b≠S/\b≠q
def CI (S q:Nat):Nat->Prop:=λb=>b=S∨b=q
theorem C0.ne {w:World} {S q:Nat} {X:Nat->Prop} {Z:List Zp} {left:Int} (h:C0 w S q X Z left):S≠q:=λe=>by
 obtain⟨es,aa,h1,_⟩:=h.2.1;have h2:=h.1;unfold Ab at h2;rw[e,h1]at h2; cases h2
theorem C0.X {w:World} {S q:Nat} {X:Nat->Prop} {Z:List Zp} {left:Int} (h:C0 w S q X Z left):∀b,X b->¬CI S q b:=λb hb hq=>by
 rcases hq with e|e
 ·exact(h.2.2.2 b hb).1 e
 ·exact(h.2.2.2 b hb).2 e
theorem C0.later {w w':World} {S q:Nat} {X:Nat->Prop} {Z:List Zp} {left:Int} (h:C0 w S q X Z left) (hb:Below w.heap.size w w'):C0 w' S q X Z left:=
 ⟨h.1.below hb h.1.lt,h.2.1.below hb h.2.1.lt,λz hz=>(h.2.2.1 z hz).exq (Ak.ofBelow (Q:=CI S q) hb) h.X,h.2.2.2⟩
theorem C0.spend {w:World} {S q:Nat} {X:Nat->Prop} {Z:List Zp} {left:Int} (h:C0 w S q X Z left) (n:Int):C0 (w.setCell (zD S 1) (zA n)) S q X Z n:=
 ⟨by have:=h.1.set 1 (zA n); simpa using this,h.2.1.kept (Al _ _ _ _ (by simpa using h.ne.symm)),λz hz=>(h.2.2.1 z hz).exq ((Ak.refl (CI S q) w).set (Ad rfl) 1 _) h.X,h.2.2.2⟩
theorem TN {Z:List Zp} {n:ByteArray}:(BG (Z.map Hg) n=none/\∀z∈Z,z.nm≠n)∨∃z∈Z,z.nm=n/\BG (Z.map Hg) n=some (.pointer (some ⟨z.b,z.o,none⟩)):=by
 induction Z with
 |nil=>exact Ad ⟨rfl,by simp⟩
 |cons y r c=>
  by_cases a:y.nm=n
  ·exact Ae ⟨y,by simp,a,by simp[BG,Hg,a]⟩
  ·rcases c with ⟨h1,h2⟩|⟨z,hz,h1,h2⟩
   ·refine Ad ⟨by rw[Cu,BG,Am (by simpa [Hg] using a)]; exact h1,λz hz=>?_⟩;rcases Cn.1 hz with rfl|hz
    ·exact a
    ·exact h2 z hz
   ·exact Ae ⟨z,by simp[hz],h1,by rw[Cu,BG,Am (by simpa [Hg] using a)]; exact h2⟩
def Zi (w:World) (S q:Nat) (X:Nat->Prop) (Z:List Zp) (left:Int) (t:Tm) (e:Ending) (w':World):Prop:=
 ∃(b o:Nat) (t':Tm) (n:Int),e=.returned (.pointer (some (zD b o)))/\C0 w' S q X Z n/\DJ w' X b o t'/\Ak (CI S q) w w'/\n<=left/\(-1<=n∨n=left)/\As [t']=0/\∀s,CX Z s->Af s t'=Af s t/\(0<=n->Ew s t')
def Zj (w:World) (S q:Nat) (X:Nat->Prop) (Z:List Zp) (left:Int) (t:Tm) (g:Nat) (tv:Value) (wr:World):Prop:=
 ∃(b o:Nat) (t':Tm) (n:Int),g=(n+1).toNat/\tv=.pointer (some (zD b o))/\C0 wr S q X Z n/\DJ wr X b o t'/\Ak (CI S q) w wr/\n<=left/\(-1<=n∨n=left)/\As [t']=0/\∀s,CX Z s->Af s t'=Af s t
theorem Mx (S q:Nat) (X:Nat->Prop) (Z:List Zp) (M:∀z∈Z,As [z.t]=0) (left:Int) (t:Tm) (b o:Nat) (w:World) (D:C0 w S q X Z left) (hl:-100<=left) (ay:left<=100000) (ht:DJ w X b o t) (he:As [t]=0):
  Calls prog 131 #[zC S,.pointer (some (zD b o))] w λe w'=>Zi w S q X Z left t e w':=by
 have N:=Aa D;have HT:=Aa ht;have O:=Aa he;clear D ht;go_enter func131,ntmps131;go_wp2_with fail;go_loopg [1] (left+1).toNat (λg R wr=>Zj w S q X Z left t g R wr)
 case atStart=>exact⟨b,o,t,left,rfl,rfl,N.o,HT.o,Ak.refl _ _,Int.le_refl _,Ae rfl,O.o,λ_ _=>rfl⟩
 case round=>
  obtain⟨d,f,t1,n,rfl,rfl,m,E,F,x,y,i,G⟩:=hrel;have a:=Aa m;have A:=Aa E;have r:=Aa F;have u:=Aa G;have s1:wr.cell? (zD S 1)=some (zA n):=m.1.cell 1;have T:=m.1.c0;obtain⟨⟨a1,c1,U,p1,az,a6⟩,a7⟩:=E;clear m F G;by_cases a8:0<=n
  ·cases j:Av t1.name with
   |false=>have k:Hid (∀s,CX Z s->Af s t1=Af s t/\(0<=n->Ew s t1)):=λs c=>⟨u.o s c,λ_=>⟨i,λh=>by rw[j] at h; cases h⟩⟩;go_wp2_with (go_at_call 109; refine(DO _ _).mono ?_; rintro e wr ⟨rfl,rfl⟩; rw[j]);refine Ao (v:=.pointer (some (zD d f))) (by simp[results,results131,go_sem]) rfl ?_;exact⟨d,f,t1,n,rfl,a.o,A.o,r.o,x,y,i,k.o⟩
   |true=>
    have hz:∀w',(zeroValue 157).run prog w'=.ok (.pointer none) w':=λw'=>zeroValue157 w';have H:=Aa (And.intro T U);rcases TN (Z:=Z) (n:=t1.name) with ⟨l,I⟩|⟨z,B,ar,l⟩
    ·have k:Hid (∀s,CX Z s->Af s t1=Af s t/\(0<=n->Ew s t1)):=λs c=>⟨u.o s c,λ_=>⟨i,λ_=>c.unbound I⟩⟩;have V:(Instr.lookup 153 (.map (some q)) (.string t1.name) true).run prog wr.drew=.ok (.tuple #[.pointer none,.bool false]) wr.drew:=(by rw[Hx (P:=prog) underlying153 underlying9 (hz _) (show BC wr.drew q (Z.map Hg) from a.o.2.1) t1.name,l]; rfl);clear l I;go_wp2_with (go_at_call 109; refine(DO _ _).mono ?_; rintro e wr ⟨rfl,rfl⟩; rw[j]);go_region_held3 (λw'=>w'.cell? (zD S 0)=some (.map (some q))/\w'.cell? (zD d f)=some (.string t1.name)) (first|exact H.o|go_keep) (fail);go_wp2_with fail;refine Ao (v:=.pointer (some (zD d f))) (by simp[results,results131,go_sem]) rfl ?_;have C:Below wr.heap.size wr wr.drew:=(Ac _ _).drew;exact⟨d,f,t1,n,rfl,a.o.later C,A.o.exq (Ak.ofBelow (Q:=CI S q) C) a.o.X,r.o.drew,x,y,i,k.o⟩
    ·have k:Hid (∀s,CX Z s->Af s z.t=Af s t):=λs c=>(c.stands i j B ar).trans (u.o s c);have J:=Aa B;have V:(Instr.lookup 153 (.map (some q)) (.string t1.name) true).run prog wr.drew=.ok (.tuple #[.pointer (some ⟨z.b,z.o,none⟩),.bool true]) wr.drew:=(by rw[Hx (P:=prog) underlying153 underlying9 (hz _) (show BC wr.drew q (Z.map Hg) from a.o.2.1) t1.name,l]; rfl);have aA:wr.drew.cell? (zD S 1)=some (zA n):=s1;have aB:wr.drew.frozen? (zD S 1)=false:=a.o.1.frozen 1;clear l B ar;go_wp2_with (go_at_call 109; refine(DO _ _).mono ?_; rintro e wr ⟨rfl,rfl⟩; rw[j]);go_region_held3 (λw'=>w'.cell? (zD S 0)=some (.map (some q))/\w'.cell? (zD d f)=some (.string t1.name)) (first|exact H.o|go_keep) (fail);have av:IntKind.i64.wrap (n-1)=n-1:=by rw[Dm]; omega
     go_wp2_with fail;have C:Below wr.heap.size wr wr.drew:=(Ac _ _).drew;have L:Ak (CI S q) wr (wr.setCell (zD S 1) (zA (n-1))).drew:=((Ak.refl (CI S q) wr).set (Ad rfl) 1 _).drew;go_roundg ((n-1)+1).toNat
     case rel=>exact⟨z.b,z.o,z.t,n-1,rfl,rfl,(a.o.spend (n-1)).later ((Ac _ _).drew),(a.o.2.2.1 z J.o).exq L a.o.X,r.o.trans L,by omega,by omega,M z J.o,k.o⟩
     case measure=>omega
  ·go_wp2_with fail;refine Ao (v:=.pointer (some (zD d f))) (by simp[results,results131,go_sem]) rfl ?_;exact⟨d,f,t1,n,rfl,a.o,A.o,r.o,x,y,i,λs c=>⟨u.o s c,λh=>absurd h (by omega)⟩⟩
theorem Ew.knot {s:List Bd} (b:Ce s) {t:Tm} (h:Ew s t):Af s t=⟨t.name,An s t.args⟩:=by
 cases a:Av t.name with
 |false=>exact JD b a
 |true=>
  rw[h.var a];have e:t.args=[]:=by rw[JA h.1 a]
  rw[e];simp[An]
theorem TO {s:List Bd} {x:ByteArray}:∀ {l:List Tm},Ax x (An s l)↔∃k,∃h:k<l.length,Ax x [Af s l[k]]
 | []=>by
  simp only[An];exact⟨λh=>absurd h FD,λ⟨k,h,_⟩=>absurd h (by simp)⟩
 |t::r=>by
  rw[Br,Ch,TO (l:=r)];constructor
  ·rintro(h|⟨k,hk,h⟩)
   ·exact⟨0,by simp,h⟩
   ·exact⟨k+1,by simpa using hk,h⟩
  ·rintro⟨k,hk,h⟩;cases k with
   |zero=>exact Ad h
   |succ k=>exact Ae ⟨k,by simpa using hk,h⟩
theorem Ku:∀ {l:List Tm},As l=0->∀k (h:k<l.length),As [l[k]]=0
 |t::r,he,0,_=>(CW.1 he).1
 |t::r,he,k+1,h=>Ku (CW.1 he).2 k (by simpa using h)
def Zk (w:World) (S q:Nat) (X:Nat->Prop) (Z:List Zp) (left:Int) (t:Tm) (x:ByteArray) (e:Ending) (w':World):Prop:=
 ∃(r:Bool) (n:Int),e=.returned (.bool r)/\C0 w' S q X Z n/\Ak (CI S q) w w'/\n<left/\-2<=n/\(n<0->r=true)/\(0<=n->∀s,CX Z s->(∀d∈s,d.nm≠x)->(r=true↔Ax x [Af s t]))
def Zl (w:World) (S q:Nat) (X:Nat->Prop) (Z:List Zp) (left:Int) (b1 o1:Nat) (t1:Tm) (x:ByteArray) (i:Value) (wr:World):Prop:=
 ∃(k:Nat) (n:Int),k<=t1.args.length/\i=zA k/\DJ wr X b1 o1 t1/\C0 wr S q X Z n/\Ak (CI S q) w wr/\n<left/\0<=n/\∀s,CX Z s->(∀d∈s,d.nm≠x)->∀j (h:j<t1.args.length),j<k->¬Ax x [Af s t1.args[j]]
theorem Zm (S q:Nat) (X:Nat->Prop) (Z:List Zp) (hZ:∀z∈Z,As [z.t]=0) (x:ByteArray) (m:Nat):∀(left:Int) (t:Tm) (b o:Nat) (w:World),left.toNat=m->0<=left->left<=100000->C0 w S q X Z left->DJ w X b o t->As [t]=0->
  Calls prog 142 #[zC S,.pointer (some (zD b o)),.string x] w λe w'=>Zk w S q X Z left t x e w':=by
 induction m using Nat.strongRecOn with
 |_ m F=>
  intro left t b o w hm h0 h1 G hP he;have IH:=Aa F;have HS:=Aa G;have HP:=Aa hP;clear F G hP;go_enter func142,ntmps142;go_wp2_with fail;refine(Mx S q X Z hZ left t b o w HS.o (by omega) h1 HP.o he).mono ?_;rintro e w1 ⟨b1,o1,t1,n,rfl,c,f,g,aO,aP,aG,H⟩;have aQ:=Aa c;have aR:=Aa f;have aS:=Aa g;have I:=Aa H;have s1:w1.cell? (zD S 1)=some (zA n):=c.1.cell 1;have f1:w1.frozen? (zD S 1)=false:=c.1.frozen 1;have ar:IntKind.i64.wrap (n-1)=n-1:=by rw[Dm]; omega
  have l:Ak (CI S q) w1 (w1.setCell (zD S 1) (zA (n-1))):=(Ak.refl (CI S q) w1).set (Ad rfl) 1 _;have r:=Aa (g.trans l);have u:=Aa (c.spend (n-1));have J:=Aa (f.exq l c.X);have aH:=Aa c.X;obtain⟨⟨a1,c1,p0,p1,L,aT⟩,aU⟩:=J.o;have aV:=L.1;clear c g H f L l;by_cases hlt:n-1<0
  ·go_wp2_with fail;refine Ao (v:=.bool true) (by simp[results,results142,go_sem]) rfl ?_;exact⟨true,n-1,rfl,u.o,r.o,by omega,by omega,λ_=>rfl,λh=>absurd h (by omega)⟩
  ·have d:Hid (∀s,CX Z s->Af s t1=Af s t/\Af s t1=⟨t1.name,An s t1.args⟩):=λs a=>⟨(I.o s a).1,((I.o s a).2 (by omega)).knot a.1⟩;cases y:(t1.name.toList==x.toList) with
   |true=>have hx:t1.name=x:=FY (by simpa using y);go_wp2_with fail;refine Ao (v:=.bool true) (by simp[results,results142,go_sem]) rfl ?_;refine⟨true,n-1,rfl,u.o,r.o,by omega,by omega,λ_=>rfl,λ_ s a _=>⟨λ_=>?_,λ_=>rfl⟩⟩;rw[<- (d.o s a).1,(d.o s a).2,<-hx];exact Dt.2 (Ad rfl)
   |false=>
    have HX:Hid (t1.name≠x):=λe=>by rw[e] at y; simp at y
    have M:Hid (∀s,CX Z s->(Ax x [Af s t]↔∃k,∃h:k<t1.args.length,Ax x [Af s t1.args[k]])):=λs a=>by
     rw[<- (d.o s a).1,(d.o s a).2,Dt,TO];exact⟨λh=>h.elim (λe=>absurd e HX.o) (λh=>h.elim id λh=>absurd h FD),λh=>Ae (Ad h)⟩
    have aI:As t1.args=0:=FK aG;go_wp2_with fail;go_loopw [36] (λi wr=>Zl w S q X Z left b1 o1 t1 x i wr) (λi wr=>t1.args.length-(intOf i).toNat);case atStart=>exact⟨0,n-1,Bm _,rfl,J.o,u.o,r.o,by omega,by omega,λ_ _ _ j _ h=>absurd h (by omega)⟩
    case round=>
     obtain⟨k,A,hk,rfl,B,N,O,aW,aJ,P⟩:=hrel;have aK:=Aa B;have R:=Aa N;have T:=Aa O;have U:=Aa P;obtain⟨a',c',q1,_,C⟩:=B.sub;clear B N O P p0 p1;by_cases D:k<t1.args.length
     ·obtain⟨b',o',rfl,hx⟩:=C k D;have aX:(k:Int)<(t1.args.length:Int):=(by omega);have aL:=Aa (IH.o A.toNat (by omega) A t1.args[k] b' (o'+k*2) wr rfl aJ (by omega) R.o hx (Ku aI k D));have aY:=Aa hx;clear C hx;go_wp2_with fail;refine aL.o.mono ?_;rintro e w5 ⟨r5,n5,rfl,V,E,aZ,ba,aM,W⟩;have Y:=Aa V;have aD:=Aa (T.o.trans E);have aN:=Aa (aK.o.exq E aH.o);have aE:=Aa W;clear V E W;cases r5 with
      |true=>go_wp2_with fail;refine Ao (v:=.bool true) (by simp[results,results142,go_sem]) rfl ?_;refine⟨true,n5,rfl,Y.o,aD.o,by omega,by omega,λ_=>rfl,λh5 s a hu=>⟨λ_=>?_,λ_=>rfl⟩⟩;exact(M.o s a).2 ⟨k,D,(aE.o h5 s a hu).1 (by simp)⟩
      |false=>
       have aF:0<=n5:=by
        by_cases h:n5<0
        ·have:=aM h; cases this
        ·omega
       go_wp2_with fail;go_roundw
       case rel => exact ⟨k + 1, n5, by omega, by go_num, aN.o, Y.o, aD.o, by omega, aF, λs a hu j h hj => by
        by_cases e:j=k
        ·subst e;intro hoc;have:=(aE.o aF s a hu).2 hoc;cases this
        ·exact U.o s a hu j h (by omega)⟩
       case measure=>simp[intOf]; omega
     ·clear C;go_wp2_with fail;refine Ao (v:=.bool false) (by simp[results,results142,go_sem]) rfl ?_;refine⟨false,A,rfl,R.o,T.o,by omega,by omega,λh=>absurd h (by omega),λ_ s a hu=>⟨(λh=>absurd h (by simp)),λh=>?_⟩⟩;obtain⟨j,hj,hoc⟩:=(M.o s a).1 h;exact absurd hoc (U.o s a hu j hj (by omega))
def Zn (w:World) (S q:Nat) (X:Nat->Prop) (Z:List Zp) (s:List Bd) (left:Int) (x:ByteArray) (u:Tm) (b o:Nat) (e:Ending) (w':World):Prop:=
 ∃(code n:Int) (Z':List Zp),e=.returned (zA code)/\C0 w' S q X Z' n/\(∀z∈Z',As [z.t]=0)/\Ak (CI S q) w w'/\n<=left/\-2<=n/\(n<0->code≠0)/\
  ((u.name=x/\code=0/\Z'=Z)∨(u.name≠x/\code=6/\Z'=Z/\(0<=n->Ax x [Af s u]))∨(u.name≠x/\code=0/\Z'=Z++[⟨x,u,b,o⟩]/\¬Ax x [Af s u]))
theorem TR (S q:Nat) (X:Nat->Prop) (Z:List Zp) (s:List Bd) (j:CX Z s) (x:ByteArray) (hx:∀d∈s,d.nm≠x) (left:Int) (u:Tm) (b o:Nat) (w:World) (h0:0<=left) (h1:left<=100000) (D:C0 w S q X Z left) (hP:DJ w X b o u) (he:As [u]=0):
  Calls prog 132 #[zC S,.string x,.pointer (some (zD b o))] w λe w'=>Zn w S q X Z s left x u b o e w':=by
 have E:=Aa D;have F:=Aa hP;have l:=Aa j;have f:=Aa j.errs;have m:=Aa hx;obtain⟨⟨a1,c1,p0,p1,T,a7⟩,a8⟩:=hP;clear D j T hx;cases y:(u.name.toList==x.toList) with
 |true=>have A:u.name=x:=FY (by simpa using y);go_enter func132,ntmps132;go_wp2_with fail;refine Ao (v:=zA 0) (by simp[results,results132,go_sem]) rfl ?_;exact⟨0,left,Z,rfl,E.o,f.o,Ak.refl _ _,Int.le_refl _,by omega,λh=>absurd h (by omega),Ad ⟨A,rfl,rfl⟩⟩
 |false=>
  have G:Hid (u.name≠x):=λe=>by rw[e] at y; simp at y
  go_enter func132,ntmps132;go_wp2_with fail;refine(Zm S q X Z f.o x left.toNat left u b o w rfl h0 h1 E.o F.o he).mono ?_;rintro e w1 ⟨r,n,rfl,a,c,aA,H,ar,B⟩;have U:=Aa a;have V:=Aa c;have I:=Aa B;cases r with
  |true=>clear a c B;go_wp2_with fail;refine Ao (v:=zA 6) (by simp[results,results132,go_sem]) rfl ?_;exact⟨6,n,Z,rfl,U.o,f.o,V.o,by omega,H,λ_=>by decide,Ae (Ad ⟨G.o,rfl,rfl,λh=>(I.o h s l.o m.o).1 (by simp)⟩)⟩
  |false=>
   have W:0<=n:=by
    by_cases h:n<0
    ·have:=ar h; cases this
    ·omega
   have Y:Hid (¬Ax x [Af s u]):=λhoc=>by
    have:=(I.o W s l.o m.o).2 hoc;cases this
   have g:BG (Z.map Hg) x=none:=by
    rcases TN (Z:=Z) (n:=x) with ⟨g,_⟩|⟨z,hz,e,_⟩
    ·exact g
    ·exact absurd e (l.o.fresh m.o z hz)
   have s0:w1.cell? (zD S 0)=some (.map (some q)):=a.1.cell 0;obtain⟨J,ax,L,M,N,O,R,C⟩:=Lj (P:=prog) underlying153 underlying9 a.2.1 x (.pointer (some (zD b o))) g;have i:Ak (CI S q) w1 J:=⟨N,O,R,by rw[M]; exact Ag _,λk hk A=>C k (λe=>A (Ae e))⟩;have ay:=Aa (c.trans i);have az:Hid (C0 J S q X (Z++[⟨x,u,b,o⟩]) n):=by
    refine⟨?_,by rw[CY]; exact L,λz hz=>?_,a.2.2.2⟩
    ·have h2:=a.1;unfold Ab at h2 ⊢;rw[C S a.ne]; exact h2
    ·rcases BJ.1 hz with hz|hz
     ·exact(a.2.2.1 z hz).exq i a.X
     ·have e:z=⟨x,u,b,o⟩:=(by simpa using hz);subst e;exact(F.o.exq c a.X).exq i a.X
   have a6:Hid (∀z∈Z++[(⟨x,u,b,o⟩:Zp)],As [z.t]=0):=λz hz=>by
    rcases BJ.1 hz with hz|hz
    ·exact f.o z hz
    ·have e:z=⟨x,u,b,o⟩:=(by simpa using hz);subst e; exact he
   clear a c B L M N O R C i g;go_wp2_with fail;refine Ao (v:=zA 0) (by simp[results,results132,go_sem]) rfl ?_;exact⟨0,n,_,rfl,az.o,a6.o,ay.o,by omega,H,λh=>absurd h (by omega),Ae (Ae ⟨G.o,rfl,rfl,Y.o⟩)⟩
def Zo (w:World) (S q:Nat) (X:Nat->Prop) (Z:List Zp) (left:Int) (t:Tm) (before:Nat) (e:Ending) (w':World):Prop:=
 ∃(c:Nat) (n:Int),e=.returned (zA c)/\C0 w' S q X Z n/\Ak (CI S q) w w'/\n<=left/\(-1<=n∨n=left)/\before<c/\c<=2001/\(n<0->2000<c)/\∀s,CX Z s->c<=2000->c=before+Ah [Af s t]
def Zr (w:World) (S q:Nat) (X:Nat->Prop) (Z:List Zp) (left:Int) (b1 o1:Nat) (t1:Tm) (before:Nat) (cv i:Value) (wr:World):Prop:=
 ∃(k c:Nat) (n:Int),k<=t1.args.length/\i=zA k/\cv=zA c/\DJ wr X b1 o1 t1/\C0 wr S q X Z n/\Ak (CI S q) w wr/\n<=left/\(-1<=n∨n=left)/\before<c/\c<=2001/\(n<0->2000<c)/\∀s,CX Z s->c<=2000->c=before+1+Ah (An s (t1.args.take k))
theorem TT (S q:Nat) (X:Nat->Prop) (Z:List Zp) (Y:∀z∈Z,As [z.t]=0) (m:Nat):∀(before:Nat) (left:Int) (t:Tm) (b o:Nat) (w:World),2001-before=m->before<=2000→-100<=left->left<=100000->C0 w S q X Z left->DJ w X b o t->As [t]=0->
  Calls prog 133 #[zC S,.pointer (some (zD b o)),zA before] w λe w'=>Zo w S q X Z left t before e w':=by
 induction m using Nat.strongRecOn with
 |_ m y=>
  intro before left t b o w hm aS h0 h1 A hP he;have IH:=Aa y;have HS:=Aa A;have HP:=Aa hP;clear y A hP;go_enter func133,ntmps133;go_wp2_with fail;refine(Mx S q X Z Y left t b o w HS.o h0 h1 HP.o he).mono ?_;rintro e w1 ⟨b1,o1,t1,n,rfl,d,B,C,D,E,aF,F⟩;have G:=Aa d;have aG:=Aa B;have ar:=Aa C;have H:=Aa F;have aH:=Aa d.X;have s1:w1.cell? (zD S 1)=some (zA n):=d.1.cell 1;obtain⟨⟨a1,c1,p0,p1,I,aT⟩,aU⟩:=B;have aV:=I.1;clear d C F I;by_cases hlt:n<0
  ·go_wp2_with fail;refine Ao (v:=zA 2001) (by simp[results,results133,go_sem]) rfl ?_;exact⟨2001,n,rfl,G.o,ar.o,D,E,by omega,by omega,λ_=>by omega,λ_ _ h=>absurd h (by omega)⟩
  ·have aI:Hid (∀s,CX Z s->Ah [Af s t]=1+Ah (An s t1.args)):=λs a=>by
    rw[<- (H.o s a).1,((H.o s a).2 (by omega)).knot a.1,Jw]
   have aw:IntKind.i64.wrap ((before:Int)+1)=(before:Int)+1:=by rw[Dm]; omega
   have aJ:As t1.args=0:=FK aF;go_wp2_with fail;go_loopw [7,24] (λJ i wr=>Zr w S q X Z left b1 o1 t1 before J i wr) (λJ i wr=>t1.args.length-(intOf i).toNat);case atStart=>exact⟨0,before+1,n,Bm _,rfl,by go_num,aG.o,G.o,ar.o,D,E,by omega,by omega,λh=>absurd h (by omega),λs _ _=>by simp[An,Ah]⟩
   case round=>
    obtain⟨k,c,g,hk,rfl,rfl,j,L,M,N,O,P,R,T,U⟩:=hrel;have aK:=Aa j;have l:=Aa L;have r:=Aa M;have V:=Aa U;obtain⟨a',c',q1,_,f⟩:=j.sub;clear j L M U p0 p1;by_cases u:k<t1.args.length
    ·have aW:(k:Int)<(t1.args.length:Int):=(by omega);by_cases aX:2000<c
     ·have ah:(2000:Int)<(c:Int):=(by omega);clear f;go_wp2_with fail;refine Ao (v:=zA c) (by simp[results,results133,go_sem]) rfl ?_;exact⟨c,g,rfl,l.o,r.o,N,O,P,R,T,λ_ _ h=>absurd h (by omega)⟩
     ·have ah:¬(2000:Int)<(c:Int):=(by omega);obtain⟨b',o',rfl,hx⟩:=f k u;have aL:=Aa (IH.o (2001-c) (by omega) c g t1.args[k] b' (o'+k*2) wr rfl (by omega) (by omega) (by omega) l.o hx (Ku aJ k u));clear f hx;go_wp2_with fail;refine aL.o.mono ?_;rintro e w5 ⟨c5,n5,rfl,aD,x,aY,aZ,ba,aM,aN,W⟩;have aO:=Aa aD;have aP:=Aa (r.o.trans x);have aQ:=Aa (aK.o.exq x aH.o);have aR:=Aa W;clear aD x W;go_wp2_with fail;go_roundw
      case rel => exact ⟨k + 1, c5, n5, by omega, by go_num, rfl, aQ.o, aO.o, aP.o, by omega, by omega, by omega, aM, aN, λs a h => by
       have h6:=V.o s a (by omega);have h7:=aR.o s a h;rw[CB u,Iq,FW,Br];simp only[An];omega⟩
      case measure=>simp[intOf]; omega
    ·clear f;go_wp2_with fail;refine Ao (v:=zA c) (by simp[results,results133,go_sem]) rfl ?_;refine⟨c,g,rfl,l.o,r.o,N,O,P,R,T,λs a h=>?_⟩;have h6:=V.o s a h;rw[Bv (by omega)]at h6;rw[aI.o s a];omega
def Zs (w:World) (S q:Nat) (X:Nat->Prop) (s:List Bd) (left:Int) (a b:Tm) (e:Ending) (w':World):Prop:=
 ∃(code n:Int) (Z':List Zp),e=.returned (zA code)/\C0 w' S q X Z' n/\(∀z∈Z',As [z.t]=0)/\Ak (CI S q) w w'/\n<left/\-2<=n/\(n<0->code≠0)/\(0<=n->∃s',CX Z' s'/\FR s [⟨a,b⟩] code s')
def Zt (w:World) (S q:Nat) (X:Nat->Prop) (s:List Bd) (left:Int) (b1 o1 b2 o2:Nat) (a1 a2:Tm) (i:Value) (wr:World):Prop:=
 ∃(k:Nat) (n:Int) (Z':List Zp) (s':List Bd),k<=a1.args.length/\i=zA k/\DJ wr X b1 o1 a1/\DJ wr X b2 o2 a2/\C0 wr S q X Z' n/\Ak (CI S q) w wr/\n<left/\0<=n/\CX Z' s'/\FR s (Az (a1.args.take k) (a2.args.take k)) 0 s'
theorem Zu (S q:Nat) (X:Nat->Prop) (m:Nat):∀(left:Int) (Z:List Zp) (s:List Bd) (a b:Tm) (ba oa bb ob:Nat) (w:World),left.toNat=m->0<=left->left<=100000->CX Z s->C0 w S q X Z left->DJ w X ba oa a->DJ w X bb ob b->As [a]=0->As [b]=0->
  Calls prog 117 #[zC S,.pointer (some (zD ba oa)),.pointer (some (zD bb ob))] w λe w'=>Zs w S q X s left a b e w':=by
 induction m using Nat.strongRecOn with
 |_ m ih=>
  intro left Z s a b ba oa bb ob w hm h0 h1 hC hS bk bl b8 b9;have IH:=Aa ih;have HS:=Aa hS;have l:=Aa hC;have U:=Aa hC.errs;have bA:=Aa bk;have bB:=Aa bl;clear ih hS bk bl hC;go_enter func117,ntmps117;go_wp2_with fail;refine(Mx S q X Z U.o left a ba oa w HS.o (by omega) h1 bA.o b8).mono ?_;rintro e w1 ⟨n,t,c,n1,rfl,aQ,bm,aR,bX,bY,V,bn⟩;have bC:=Aa aQ;have bD:=Aa bm;have bE:=Aa aR;have C:=Aa (bn s l.o);have aS:=Aa (bB.o.exq aR aQ.X);clear aQ bm aR bn;go_wp2_with fail;refine(Mx S q X Z U.o n1 b bb ob w1 bC.o (by omega) (by omega) aS.o b9).mono ?_;rintro e w2 ⟨r,u,a2,g,rfl,G,bo,aT,bZ,ca,W,bp⟩;have D:=Aa (bp s l.o);have aM:Ak (CI S q) w2 (w2.setCell (zD S 1) (zA (g-1))):=(Ak.refl (CI S q) w2).set (Ad rfl) 1 _;have N:=Aa ((bE.o.trans aT).trans aM);have O:=Aa (G.spend (g-1));have ar:=Aa ((bD.o.exq aT G.X).exq aM G.X);have au:=Aa (bo.exq aM G.X);have E:=Aa G.X;have s1:w2.cell? (zD S 1)=some (zA g):=G.1.cell 1;have f1:w2.frozen? (zD S 1)=false:=G.1.frozen 1;have bq:IntKind.i64.wrap (g-1)=g-1:=by rw[Dm]; omega
  obtain⟨⟨x1,c1,p0,p1,aA,bF⟩,bG⟩:=ar.o;obtain⟨⟨x2,c2,r0,r1,aB,bH⟩,bI⟩:=au.o;have cb:=aA.1;have bJ:=aB.1;clear G bo aT bp aM aA aB;by_cases hlt:g-1<0
  ·go_wp2_with fail;refine Ao (v:=zA 8) (by simp[results,results117,go_sem]) rfl ?_;exact⟨8,g-1,Z,rfl,O.o,U.o,N.o,by omega,by omega,λ_=>by decide,λh=>absurd h (by omega)⟩
  ·have L:Hid (Ew s c):=C.o.2 (by omega);have M:Hid (Ew s a2):=D.o.2 (by omega);have hs:Ce s:=l.o.1;have F:=Aa hs;clear hs;cases f:Av c.name with
   |true=>
    go_wp2_with (go_at_call 109; refine(DO _ _).mono ?_; rintro e w9 ⟨rfl,rfl⟩; rw[f]);refine(TR S q X Z s l.o c.name (L.o.2 f) (g-1) a2 r u _ (by omega) (by omega) O.o au.o W).mono ?_;rintro e H ⟨code,n5,P,rfl,I,J,x,br,Y,aD,hcs⟩;have R:=Aa I;have aE:=Aa J;have T:=Aa (N.o.trans x);clear I J x;go_wp2_with fail;refine Ao (v:=zA code) (by simp[results,results117,go_sem]) rfl ?_;refine⟨code,n5,P,rfl,R.o,aE.o,T.o,by omega,Y,aD,λh5=>?_⟩;rcases hcs with ⟨g1,rfl,rfl⟩|⟨g1,rfl,rfl,g2⟩|⟨g1,rfl,rfl,g2⟩
    ·exact⟨s,l.o,Zf F.o C.o.1 D.o.1 L.o M.o f g1⟩
    ·exact⟨s,l.o,TD F.o C.o.1 D.o.1 L.o M.o (Ad ⟨f,g1,g2 h5⟩)⟩
    ·exact⟨_,l.o.add f (L.o.2 f) W g2 r u,TE F.o C.o.1 D.o.1 L.o M.o (Ad ⟨f,g1,rfl,rfl⟩) g2⟩
   |false=>
    cases j:Av a2.name with
    |true=>
     go_wp2_with (go_at_call 109; refine(DO _ _).mono ?_; rintro e w9 ⟨rfl,rfl⟩; first|rw[f]|rw[j]);refine(TR S q X Z s l.o a2.name (M.o.2 j) (g-1) c n t _ (by omega) (by omega) O.o ar.o V).mono ?_;rintro e H ⟨code,n5,P,rfl,I,J,x,br,Y,aD,hcs⟩;have R:=Aa I;have aE:=Aa J;have T:=Aa (N.o.trans x);clear I J x;go_wp2_with fail;refine Ao (v:=zA code) (by simp[results,results117,go_sem]) rfl ?_;refine⟨code,n5,P,rfl,R.o,aE.o,T.o,by omega,Y,aD,λh5=>?_⟩;rcases hcs with ⟨g1,rfl,rfl⟩|⟨g1,rfl,rfl,g2⟩|⟨g1,rfl,rfl,g2⟩
     ·rw[g1,j]at f; cases f
     ·exact⟨s,l.o,TD F.o C.o.1 D.o.1 L.o M.o (Ae ⟨f,j,g2 h5⟩)⟩
     ·exact⟨_,l.o.add j (M.o.2 j) V g2 n t,TE F.o C.o.1 D.o.1 L.o M.o (Ae ⟨f,j,rfl,rfl⟩) g2⟩
    |false=>
     have aF:=Aa (And.intro p0 (And.intro p1 (And.intro r0 r1)));cases aU:(c.name.toList==a2.name.toList) with
     |false=>
      have hne:c.name≠a2.name:=λe=>by rw[e] at aU; simp at aU
      go_wp2_with (go_at_call 109; refine(DO _ _).mono ?_; rintro e w9 ⟨rfl,rfl⟩; first|rw[f]|rw[j]);generalize w2.setCell (zD S 1) (zA (g-1))=w3 at *;refine CC (S:=(λw'=>w'.cell? (zD n t)=some (.string c.name)/\w'.cell? ⟨n,t+1,none⟩=some (.slice x1 c.args.length c1)/\w'.cell? (zD r u)=some (.string a2.name)/\w'.cell? ⟨r,u+1,none⟩=some (.slice x2 a2.args.length c2))) (by kernel_rfl) aF.o λhHeld=>?_;refine tkz 0 ?_ (hy:=by intro w' d;obtain⟨y,z,A,B⟩:=d;go_simp<;>with_reducible rfl);refine tkz 1 ?_ (hy:=by intro w' d;obtain⟨y,z,A,B⟩:=d;go_simp<;>with_reducible rfl);refine tkz 2 ?_ (hy:=by intro w' d;obtain⟨y,z,A,B⟩:=d;go_simp<;>with_reducible rfl);refine tkz 3 ?_ (hy:=by intro w' d;obtain⟨y,z,A,B⟩:=d;go_simp<;>with_reducible rfl);refine tkz 4 ?_ (hy:=by intro w' d;obtain⟨y,z,A,B⟩:=d;go_simp<;>with_reducible rfl);refine tkz 5 ?_ (hy:=by intro w' d;obtain⟨y,z,A,B⟩:=d;go_simp<;>with_reducible rfl);refine tkz 6 ?_ (hy:=by intro w' d;obtain⟨y,z,A,B⟩:=d;go_simp<;>with_reducible rfl);refine tkz 7 ?_ (hy:=by intro w' d;obtain⟨y,z,A,B⟩:=d;go_simp<;>with_reducible rfl);refine tkz 8 ?_ (hy:=by intro w' d;obtain⟨y,z,A,B⟩:=d;go_simp<;>with_reducible rfl);refine tkz 9 ?_ (hy:=by intro w' d;obtain⟨y,z,A,B⟩:=d;go_simp<;>with_reducible rfl);refine tkv 10 ?_;refine tkv 11 ?_;refine tkv 12 ?_;refine tkv 13 ?_;refine tkv 14 ?_;refine tkv 15 ?_;refine tkv 16 ?_;refine tkv 17 ?_;refine tkv 18 ?_;refine tkv 19 ?_;refine tkv 20 ?_;refine tkz 21 ?_ (hy:=by intro w' d;obtain⟨y,z,A,B⟩:=d;go_simp<;>with_reducible rfl);refine tkz 22 ?_ (hy:=by intro w' d;obtain⟨y,z,A,B⟩:=d;go_simp<;>with_reducible rfl);refine dnq ?_;go_wp2_with fail;refine Ao (v:=zA 5) (by simp[results,results117,go_sem]) rfl ?_;exact⟨5,g-1,Z,rfl,O.o.later ((Ac _ _).drew),U.o,N.o.drew,by omega,by omega,λ_=>by decide,λ_=>⟨s,l.o,TF F.o C.o.1 D.o.1 f j (λh=>hne h.1)⟩⟩
     |true=>
      have hne:c.name=a2.name:=FY (by simpa using aU);by_cases hm:c.args.length=a2.args.length;case neg=>
       have bK:((c.args.length:Int)==(a2.args.length:Int))=false:=Dr.2 (by omega);have cc:((c.args.length:Int) !=(a2.args.length:Int))=true:=(by simp[bne,bK]);have HM:=Aa hm;clear hm;go_wp2_with (go_at_call 109; refine(DO _ _).mono ?_; rintro e w9 ⟨rfl,rfl⟩; first|rw[f]|rw[j]);generalize w2.setCell (zD S 1) (zA (g-1))=w3 at *;go_region_held3 (λw'=>w'.cell? (zD n t)=some (.string c.name)/\w'.cell? ⟨n,t+1,none⟩=some (.slice x1 c.args.length c1)/\w'.cell? (zD r u)=some (.string a2.name)/\w'.cell? ⟨r,u+1,none⟩=some (.slice x2 a2.args.length c2)) (first|exact aF.o|go_keep) (fail);go_wp2_with fail;refine Ao (v:=zA 5) (by simp[results,results117,go_sem]) rfl ?_;exact⟨5,g-1,Z,rfl,O.o.later ((Ac _ _).drew),U.o,N.o.drew,by omega,by omega,λ_=>by decide,λ_=>⟨s,l.o,TF F.o C.o.1 D.o.1 f j (λh=>HM.o h.2)⟩⟩
      case pos=>
       have aG:=Aa hm;rw[<-hm]at r1 bJ aF;clear hm;go_wp2_with (go_at_call 109; refine(DO _ _).mono ?_; rintro e w9 ⟨rfl,rfl⟩; first|rw[f]|rw[j]);generalize w2.setCell (zD S 1) (zA (g-1))=w3 at *;go_region_held3 (λw'=>w'.cell? (zD n t)=some (.string c.name)/\w'.cell? ⟨n,t+1,none⟩=some (.slice x1 c.args.length c1)/\w'.cell? (zD r u)=some (.string a2.name)/\w'.cell? ⟨r,u+1,none⟩=some (.slice x2 c.args.length c2)) (first|exact aF.o|go_keep) (fail);have bL:=Aa (FK V);have bM:=Aa (FK W);go_wp2_with fail;go_loopw [82] (λi wr=>Zt w S q X s left n t r u c a2 i wr) (λi wr=>c.args.length-(intOf i).toNat);case atStart=>exact⟨0,g-1,Z,s,Bm _,rfl,ar.o.exq ((Ak.refl (CI S q) _).drew) E.o,au.o.exq ((Ak.refl (CI S q) _).drew) E.o,O.o.later ((Ac _ _).drew),N.o.drew,by omega,by omega,l.o,by simpa [Az] using FR.done s⟩
       case round=>
        obtain⟨k,n3,Z3,s3,hk,rfl,aH,aI,bs,bt,br,Y,bu,bw⟩:=hrel;have bN:=Aa aH;have bO:=Aa aI;have bx:=Aa bs;have bz:=Aa bt;have aV:=Aa bu;have aW:=Aa bw;obtain⟨y1,d1,q1,_,af⟩:=aH.sub;obtain⟨y2,d2,q2,_,ag⟩:=aI.sub;rw[<-aG.o]at q2;have aX:=aH.1.lt;have aY:=aI.1.lt;have aJ:=aH.2;have aK:=aI.2;clear aH aI bs bt bu bw p0 p1 r0 r1 aF;by_cases aN:k<c.args.length
        ·have al:k<a2.args.length:=by have:=aG.o; omega
         have cd:(k:Int)<(c.args.length:Int):=(by omega);obtain⟨aZ,bc,rfl,b0⟩:=af k aN;obtain⟨bd,bf,rfl,b3⟩:=ag k al;have bg:=Aa (And.intro q1 q2);have hD:Below wr.heap.size wr wr.drew:=(Ac _ _).drew;have bP:=Aa (IH.o n3.toNat (by omega) n3 Z3 s3 c.args[k] a2.args[k] aZ (bc+k*2) bd (bf+k*2) wr.drew rfl Y (by omega) aV.o (bx.o.later hD) (b0.exq (Ak.ofBelow (Q:=CI S q) hD) E.o) (b3.exq (Ak.ofBelow (Q:=CI S q) hD) E.o) (Ku bL.o k aN) (Ku bM.o k al));have bQ:Hid (∀H,Ak (CI S q) wr.drew H->H.cell? ⟨n,t+1,none⟩=some (.slice (some (zD aZ bc)) c.args.length d1)/\H.cell? ⟨r,u+1,none⟩=some (.slice (some (zD bd bf)) c.args.length d2)):=λH h5=>⟨(DC (h5.block n aX (E.o _ aJ))).trans bg.o.1,(DC (h5.block r aY (E.o _ aK))).trans bg.o.2⟩;clear af ag b0 b3 hD;go_wp2_with fail;go_region_held3 (λw'=>w'.cell? ⟨n,t+1,none⟩=some (.slice (some (zD aZ bc)) c.args.length d1)/\w'.cell? ⟨r,u+1,none⟩=some (.slice (some (zD bd bf)) c.args.length d2)) (first|exact bg.o|exact aL|go_keep)
          ((go_at_call 117; refine bP.o.mono ?_; rintro e H ⟨code,n5,P,rfl,I,J,x,cf,bR,aD,b4⟩; have aL:=bQ.o H x))
         have R:=Aa I;have aE:=Aa J;have T:=Aa ((bz.o.drew).trans x);have bS:=Aa ((bN.o.exq ((Ak.refl (CI S q) _).drew) E.o).exq x E.o);have bT:=Aa ((bO.o.exq ((Ak.refl (CI S q) _).drew) E.o).exq x E.o);have b5:=Aa b4;clear I J x b4 aL;by_cases bh:code=0
         ·subst bh;have b6:0<=n5:=by
           by_cases h:n5<0
           ·exact absurd rfl (aD h)
           ·omega
          obtain⟨s5,aO,aP⟩:=b5.o b6;have bU:=Aa aO;have bV:=Aa (TL aN al aW.o aP);clear aO aP;go_wp2_with fail;go_roundw
          case rel=>exact⟨k+1,n5,P,s5,by omega,by go_num,bS.o,bT.o,R.o,T.o,by omega,b6,bU.o,bV.o⟩
          case measure=>simp[intOf]; omega
         ·have bj:(code==0)=false:=Dr.2 bh;have bW:(code !=0)=true:=(by simp[bne,bj]);have b7:=Aa bh;go_wp2_with fail;refine Ao (v:=zA code) (by simp[results,results117,go_sem]) rfl ?_;refine⟨code,n5,P,rfl,R.o,aE.o,T.o,by omega,bR,λ_=>b7.o,λh5=>?_⟩;obtain⟨s5,aO,aP⟩:=b5.o h5;exact⟨s5,aO,TH F.o C.o.1 D.o.1 V W f j hne aG.o (Zg (k+1) b7.o (TL aN al aW.o aP))⟩
        ·clear af ag;go_wp2_with fail;refine Ao (v:=zA 0) (by simp[results,results117,go_sem]) rfl ?_;refine⟨0,n3,Z3,rfl,bx.o,aV.o.errs,bz.o,by omega,by omega,λh=>absurd h (by omega),λ_=>⟨s3,aV.o,TH F.o C.o.1 D.o.1 V W f j hne aG.o ?_⟩⟩;have h6:=aW.o;rwa [Bv (by omega),Bv (by have:=aG.o; omega)] at h6
theorem QV.at {w:World} {X:Nat->Prop} {a:Option Addr} {n c:Nat} {l:List Pr} (h:QV w X (.slice a n c) l) (i:Nat) (hi:i<l.length):∃b o,a=some (zD b o)/\DJ w X b (o+i*4) l[i].l/\DJ w X b (o+i*4+2) l[i].r:=by
 obtain⟨a2,c2,e,hl,h⟩:=h;simp at e;obtain⟨rfl,rfl,rfl⟩:=e;rcases h with h|⟨b,o,f,d,h⟩
 ·subst h; simp at hi
 ·obtain⟨g,c1,a2,c2,h1,h2,h3,j,h5,h6⟩:=h i hi;exact⟨b,o,f,⟨⟨g,c1,h1,h2,h5,Em h1⟩,d⟩,⟨⟨a2,c2,h3,j,h6,Em h3⟩,d⟩⟩
theorem QV.exq {w w':World} {X Q:Nat->Prop} {v:Value} {l:List Pr} (h:QV w X v l) (he:Ak Q w w') (a:∀b,X b->¬Q b):QV w' X v l:=
 ((h.mono (Y:=λb=>X b/\b<w.heap.size) λb h1 h2=>⟨h1,h2⟩).kept λb hb=>he.block b hb.2 (a b hb.1)).mono λb hb _=>hb.1
def Zv (w:World) (S q:Nat) (X:Nat->Prop) (Z:List Zp) (left:Int) (ls:List Pr) (e:Ending) (w':World):Prop:=
 ∃(r:Bool) (n:Int),e=.returned (.bool r)/\C0 w' S q X Z n/\Ak (CI S q) w w'/\(left<0->ls≠[]->r=false)/\∀s,CX Z s->r=true->∀p∈ls,Ah [Af s p.l]<=2000/\Ah [Af s p.r]<=2000
def Zw (w:World) (S q:Nat) (X:Nat->Prop) (Z:List Zp) (left:Int) (ls:List Pr) (i:Value) (wr:World):Prop:=
 ∃(k:Nat) (n:Int),k<=ls.length/\i=zA k/\C0 wr S q X Z n/\Ak (CI S q) w wr/\n<=left/\-100<=n/\(0<k->0<=left)/\∀s,CX Z s->∀j (h:j<ls.length),j<k->Ah [Af s ls[j].l]<=2000/\Ah [Af s ls[j].r]<=2000
theorem Zx (S q:Nat) (X:Nat->Prop) (Z:List Zp) (x:∀z∈Z,As [z.t]=0) (left:Int) (h0:-100<=left) (h1:left<=100000) (ls:List Pr) (y:∀p∈ls,As [p.l]=0/\As [p.r]=0) (v:Value) (w:World) (f:C0 w S q X Z left) (A:QV w X v ls):
  Calls prog 118 #[zC S,v] w λe w'=>Zv w S q X Z left ls e w':=by
 have Y:=Aa f;have HV:=Aa A;have B:=Aa f.X;have a8:=Aa y;obtain⟨a,c,rfl,⟨aJ,aK⟩,_⟩:=A;clear f y;go_enter func118,ntmps118;go_wp2_with fail;go_loopw [8] (λi wr=>Zw w S q X Z left ls i wr) (λi wr=>ls.length-(intOf i).toNat);case atStart=>exact⟨0,left,Bm _,rfl,Y.o,Ak.refl _ _,Int.le_refl _,h0,λh=>absurd h (by omega),λ_ _ j _ h=>absurd h (by omega)⟩
 case round=>
  obtain⟨k,n,hk,rfl,C,D,aL,aA,aB,E⟩:=hrel;have F:=Aa C;have g:=Aa D;have G:=Aa E;clear C D E;by_cases H:k<ls.length
  ·obtain⟨b,o,rfl,I,J⟩:=(HV.o.exq g.o B.o).at k H;have aM:(k:Int)<(ls.length:Int):=(by omega);have aC:=Aa I;have aD:=Aa J;have ar:=a8.o ls[k] (Bu H);clear I J;go_wp2_with fail;refine(TT S q X Z x 2001 0 n ls[k].l b (o+k*4) wr rfl (by omega) aA (by omega) F.o aC.o ar.1).mono ?_;rintro e w5 ⟨c5,n5,rfl,L,m,aN,aO,aP,aQ,aE,M⟩;have N:=Aa L;have O:=Aa (g.o.trans m);have aF:=Aa (aD.o.exq m B.o);have aG:=Aa M;clear L m M;by_cases aR:2000<c5
   ·have ad:(2000:Int)<(c5:Int):=(by omega);go_wp2_with fail;refine Ao (v:=.bool false) (by simp[results,results118,go_sem]) rfl ?_;exact⟨false,n5,rfl,N.o,O.o,λ_ _=>rfl,λ_ _ h=>absurd h (by simp)⟩
   ·have ad:¬(2000:Int)<(c5:Int):=(by omega);have aH:0<=n5:=by
     by_cases h:n5<0
     ·have:=aE h; omega
     ·omega
    go_wp2_with fail;refine(TT S q X Z x 2001 0 n5 ls[k].r b (o+k*4+2) w5 rfl (by omega) (by omega) (by omega) N.o aF.o ar.2).mono ?_;rintro e w6 ⟨u,n6,rfl,P,R,aS,aT,aU,aV,aW,T⟩;have U:=Aa P;have V:=Aa (O.o.trans R);have aI:=Aa T;clear P R T;by_cases aX:2000<u
    ·have ae:(2000:Int)<(u:Int):=(by omega);go_wp2_with fail;refine Ao (v:=.bool false) (by simp[results,results118,go_sem]) rfl ?_;exact⟨false,n6,rfl,U.o,V.o,λ_ _=>rfl,λ_ _ h=>absurd h (by simp)⟩
    ·have ae:¬(2000:Int)<(u:Int):=(by omega);go_wp2_with fail;go_roundw
     case rel => exact ⟨k + 1, n6, by omega, by go_num, U.o, V.o, by omega, by omega, λ_ => by omega, λs d j h W => by
      by_cases e:j=k
      ·subst e;have g1:=aG.o s d (by omega);have g2:=aI.o s d (by omega);omega
      ·exact G.o s d j h (by omega)⟩
     case measure=>simp[intOf]; omega
  ·go_wp2_with fail;refine Ao (v:=.bool true) (by simp[results,results118,go_sem]) rfl ?_;refine⟨true,n,rfl,F.o,g.o,λhl hne=>?_,λs d _ p hp=>?_⟩
   ·have:0<ls.length:=GI.2 hne;have:=aB (by omega);omega
   ·obtain⟨j,W,rfl⟩:=IW hp;exact G.o s d j W (by omega)
def Zy (w:World) (ls:List Pr) (e:Ending) (w':World):Prop:=
 ∃code:Int,e=.returned (zA code)/\Below w.heap.size w w'/\(code≠0->∃n sf,AZ false n [] ls=some (code,sf)/\AU sf=false)
def Zz (w:World) (S q:Nat) (X:Nat->Prop) (ls:List Pr) (i:Value) (wr:World):Prop:=
 ∃(k:Nat) (n:Int) (Z:List Zp) (s:List Bd),k<=ls.length/\i=zA k/\C0 wr S q X Z n/\Ak (CI S q) w wr/\n<=100000/\0<=n/\CX Z s/\FR [] (ls.take k) 0 s
theorem ZB (ls:List Pr) (ar:As (AL ls)=0) (v:Value) (w:World) (X:Nat->Prop) (D:QV w X v ls):
  Calls prog 105 #[v] w λe w'=>Zy w ls e w':=by
 have HV:=Aa (D.mono (Y:=λb=>X b/\b<w.heap.size) λb h1 h2=>⟨h1,h2⟩);have E:=Aa (Mw ar);obtain⟨a,c,rfl,⟨bg,bh⟩,_⟩:=D;have bj:=@run_makeMap prog;go_enter func105,ntmps105;go_wp2_with fail;have Dv:Below w.heap.size w ((w.alloc (.map #[] 0)).alloc (.cells #[.map (some w.heap.size),zA 100000] 155)):=((Ac _ _).alloc (Ag _) _).alloc (by simp) _;have F:Ab ((w.alloc (.map #[] 0)).alloc (.cells #[.map (some w.heap.size),zA 100000] 155)) (w.heap.size+1) #[.map (some w.heap.size),zA 100000] 155:=(by have h1:=Ab.new (w.alloc (.map #[] 0)) #[.map (some w.heap.size),zA 100000] 155;rw[BK]at h1;exact h1);have G:BC ((w.alloc (.map #[] 0)).alloc (.cells #[.map (some w.heap.size),zA 100000] 155)) w.heap.size []:=(BC.new w).kept (BH _ _ _ (by simp));generalize (w.alloc (.map #[] 0)).alloc (.cells #[.map (some w.heap.size),zA 100000] 155)=w2 at *;have A:C0 w2 (w.heap.size+1) w.heap.size (λb=>X b/\b<w.heap.size) [] 100000:=⟨F,G,by simp,λb hb=>⟨by omega,by omega⟩⟩;have aM:=Aa (HV.o.later Dv);have f:=Aa A.X;have aN:=Aa A;have aO:=Aa Dv;have H:w.heap.size<=w2.heap.size:=Dv.size;have B:Hid (∀w',Ak (CI (w.heap.size+1) w.heap.size) w2 w'->Below w.heap.size w w'):=λw' h=>aO.o.trans (h.below H (λb hb=>by rcases hb with e|e<;>omega));clear A Dv F G;go_loopw [10] (λi wr=>Zz w2 (w.heap.size+1) w.heap.size (λb=>X b/\b<w.heap.size) ls i wr) (λi wr=>ls.length-(intOf i).toNat);case atStart=>exact⟨0,100000,[],[],Bm _,rfl,aN.o,Ak.refl _ _,by omega,by omega,Ze,by simpa using FR.done []⟩
 case round=>
  obtain⟨k,n,Z,s,hk,rfl,I,J,aP,aQ,L,M⟩:=hrel;have aR:=Aa I;have q:=Aa J;have aS:=Aa L;have N:=Aa M;clear I J L M;by_cases d:k<ls.length
  ·have C:=aM.o.exq q.o f.o;have aT:=Aa C;obtain⟨b,o,rfl,O,P⟩:=C.at k d;have bk:(k:Int)<(ls.length:Int):=(by omega);have R:=E.o ls[k] (Bu d);have t:Below wr.heap.size wr wr.drew:=(Ac _ _).drew;have HW:=Aa (Zu (w.heap.size+1) w.heap.size (λb=>X b/\b<w.heap.size) n.toNat n Z s ls[k].l ls[k].r b (o+k*4) b (o+k*4+2) wr.drew rfl aQ aP aS.o (aR.o.later t) (O.exq (Ak.ofBelow (Q:=CI (w.heap.size+1) w.heap.size) t) f.o) (P.exq (Ak.ofBelow (Q:=CI (w.heap.size+1) w.heap.size) t) f.o) R.1 R.2);have T:Hid (w.heap.size<=wr.heap.size):=AN H q.o.size;clear O P t C;go_wp2_with fail;go_region_held3 (λw'=>w.heap.size<=w'.heap.size) (first|exact T.o|exact an|go_keep)
    ((go_at_call 117; refine HW.o.mono ?_; rintro e U ⟨code,n5,V,rfl,aD,W,u,bl,bm,aU,aF⟩; have an:w.heap.size<=U.heap.size:=AN T.o u.size))
   have aG:=Aa aD;have aV:=Aa W;have aH:=Aa ((q.o.drew).trans u);have aW:=Aa ((aT.o.exq ((Ak.refl (CI (w.heap.size+1) w.heap.size) _).drew) f.o).exq u f.o);have aI:=Aa aF;clear aD W u aF;by_cases x:code=0
   ·subst x;have y:0<=n5:=by
     by_cases h:n5<0
     ·exact absurd rfl (aU h)
     ·omega
    obtain⟨z,j,m⟩:=aI.o y;have aX:=Aa j;have aY:=Aa (TM d N.o m);clear j m;go_wp2_with fail;go_roundw
    case rel=>exact⟨k+1,n5,V,z,by omega,by go_num,aG.o,aH.o,by omega,y,aX.o,aY.o⟩
    case measure=>simp[intOf]; omega
   ·have ao:(code==0)=false:=Dr.2 x;have aZ:(code !=0)=true:=(by simp[bne,ao]);have ba:=Aa x;clear x;go_wp2_with fail;refine(Zx (w.heap.size+1) w.heap.size (λb=>X b/\b<w.heap.size) V aV.o n5 (by omega) (by omega) ls E.o _ U aG.o aW.o).mono ?_;rintro e w6 ⟨r,n6,rfl,bb,aJ,aq,aK⟩;have aL:=Aa (aH.o.trans aJ);have bc:=Aa aK;clear bb aJ aK;cases r with
    |true=>
     have y:0<=n5:=by
      by_cases h:n5<0
      ·have:=aq h (λe=>by rw[e] at d; simp at d);cases this
      ·omega
     obtain⟨z,j,m⟩:=aI.o y;have bd:=Aa (FR.ends (Zh (k+1) ba.o (TM d N.o m)) ar (bc.o z j rfl));clear j m;go_wp2_with fail;refine Ao (v:=zA code) (by simp[results,results105,go_sem]) rfl ?_;obtain⟨⟨g,hg⟩,bf⟩:=bd.o;exact⟨code,rfl,B.o _ aL.o,λ_=>⟨g,z,hg,bf⟩⟩
    |false=>go_wp2_with fail;refine Ao (v:=zA 0) (by simp[results,results105,go_sem]) rfl ?_;exact⟨0,rfl,B.o _ aL.o,λh=>absurd rfl h⟩
  ·go_wp2_with fail;refine Ao (v:=zA 0) (by simp[results,results105,go_sem]) rfl ?_;exact⟨0,rfl,B.o _ q.o,λh=>absurd rfl h⟩
theorem Oh {lim:Bool}:∀(n m:Nat) (s:List Bd) (l:List Pr) (r a:Int×List Bd),AZ lim n s l=some r->AZ lim m s l=some a->r=a
 |0,_,_,_,_,_,h,_=>by cases h
 |_+1,0,_,_,_,_,_,h=>by cases h
 |n+1,m+1,s,l,r,a,h,h'=>by
  rw[AZ]at h h';cases b:Eg lim s l with
  |stop e s'=>rw[b]at h h';cases h; cases h'; rfl
  |go s' l'=>rw[b]at h h';exact Oh n m s' l' r a h h'
def Hh:Value->Option (DataW Unit×List MemPlace):=λ_=>some (.nil,[])
theorem ZC {w:World} {q:Nat} {L:List (ByteArray×Value)} (h:BC w q L) (f:(L.map (·.1)).Pairwise (·≠·)) (g:∀p∈L,p.1.size<=maxLen) (hl:L.length<=maxLen):
  ∃b:DataW Unit,w.ownsMap prog 9 Hh q L.length b/\(strKeys b).Perm (L.map (λp=>p.1.data.toList))/\Go.Maps.size b=L.length:=by
 obtain⟨es,c,hb,he,k⟩:=h;have hlen:es.toList.length=L.length:=by have:=Dl List.length he; simpa using this
 have a:∀i (h1:i<es.toList.length) (h2:i<L.length),es.toList[i].key=.string L[i].1:=λi h1 h2=>by
  have e1:(es.toList.map (λe=>(e.key,e.val)))[i]? = (L.map (λp=>(Value.string p.1,p.2)))[i]? := by rw[he]
  rw[List.getElem?_map,List.getElem?_map,FU h1,FU h2]at e1;simp only[Option.map_some,Il,Fi] at e1;exact e1.1
 have m:∀x∈es.toList,∃p∈L,x.key=.string p.1:=λx hx=>by
  obtain⟨i,hi,rfl⟩:=IW hx;have h2:i<L.length:=by omega
  exact⟨L[i],Bu h2,a i hi h2⟩
 have l:∀x∈es.toList,∀s:ByteArray,x.key=.string s->s.size<=maxLen->WideElems.rd prog 9 Hh x=some (.string s.data.toList,.nil):=λx hx s n hz=>by
  unfold WideElems.rd Hh;rw[n,Go.WideMaps.keyOf_string_mk underlying9 hz];rfl
 have F:WideElems.Fit prog 9 Hh es c:=by
  refine⟨by rw[<-Array.length_toList]; omega,(MapKept.stamped_iff es c).2 ⟨k.1,k.2,?_⟩,λx hx=>?_⟩
  ·rw[KK];intro i j hi o r e;rw[a i hi (by omega),a j o (by omega)]at e;rw[Hr,KK]at f;have:=f i j (by omega) (by omega) r;exact this (by simpa using e)
  ·obtain⟨p,hp,e⟩:=m x hx;exact⟨_,l x hx p.1 e (g p hp)⟩
 refine⟨.map ((es.toList.map (WideElems.rg prog 9 Hh)).foldr DataW.insert []),⟨es,c,hb,F,by rw[<-Array.length_toList]; omega,rfl⟩,?_,?_⟩
 ·have h1:(strKeys (DataW.map ((es.toList.map (WideElems.rg prog 9 Hh)).foldr DataW.insert []):DataW Unit)).Perm ((es.toList.map (WideElems.rg prog 9 Hh)).map λp=>strOf p.1):=(WideShapes.sorted_perm _).map _;refine h1.trans ?_;have h2:(es.toList.map (WideElems.rg prog 9 Hh)).map (λp=>strOf p.1)=L.map (λp=>p.1.data.toList):=(by refine List.ext_getElem (by simp; omega) λi h3 d=>?_;simp only[Gs] at h3 d;simp only[Im];unfold WideElems.rg;rw[l _ (Bu h3) L[i].1 (a i h3 d) (g _ (Bu d))];rfl);rw[h2]
 ·rw[Maps.size_eq,Go.length_sorted];simpa using hlen
open Go.RowKit Go.Maps Go.Sort Go.Shelf
theorem ZD (m:Nat):AnyZ.SortsIn prog Tryz.sortedK_ren Fence.wide m:=
 ⟨λblk off cap a W hH b c=>Fv.2 (AnyM.slices_Sort_string Tryz.sortK blk off cap a W hH b c),
  λp cap W=>Fv.2 (AnyM.slices_Sort_string_none Tryz.sortK p cap W)⟩
theorem ZE (a:Option Nat) (W:World):CallsIn Fence.wide 5 prog 139 #[.map a] W λe w'=>e=.returned (.func (.func 146) #[] #[zC W.heap.size])/\w'=W.alloc (.cells #[.map a] 159):=
 AnyZ.keys_in Tryz.keysK Fence.wide 5 trivial rfl a W
theorem ZF {H:Type} (b d:Nat) (a:DataW H) (R:Value->Option (DataW H×List MemPlace)) (w:World) (f:w.ownsMap prog 9 R b d a) (g:Maps.size a<=maxLen) (h:Maps.size a*16<=140737488355328):
  CallsIn Fence.wide 5 prog 138 #[.func (.func 146) #[] #[zC w.heap.size]] (w.alloc (.cells #[.map (some b)] 159)) λe w'=>∃(v:Value) (c:List (List UInt8)),e=.returned v/\c.Perm (strKeys a)/\
   w'.ownsRow (w.alloc (.cells #[.map (some b)] 159)).heap.size 9 1 v c.length ((c.mergeSort (λx y=>decide (x<=y))).map encStr)/\(v=zB↔c=[])/\Below (w.alloc (.cells #[.map (some b)] 159)).heap.size (w.alloc (.cells #[.map (some b)] 159)) w':=by
 have i:=f.lt;have j:SeqGives Fence.wide 2 prog 146 #[zC w.heap.size] encStr (λc=>c.Perm (strKeys a)) (Maps.size a) (w.alloc (.cells #[.map (some b)] 159)):=
  AnyZ.keys_gives (ρ:=Tryz.keysK_ren) { Tryz.keysK with} Fence.wide _ trivial rfl (by omega) w.heap.size b d a _ (by simp) (by simp) (by
   obtain⟨es,clock,hb,k,l,m⟩:=f;exact⟨es,clock,(BH _ _ b i).trans hb,k,l,m⟩)
 exact AnyZ.sorted_in Tryz.sortedK Fence.wide 5 trivial trivial trivial trivial rfl (by omega) (ZD _) (enters_of func145 (by kernel_rfl) rfl) 146 #[zC w.heap.size] trivial (enters_of func146 (by kernel_rfl) rfl) _ _ g h _ j
theorem TU:N7:=by
 intro q L w k m n hlen;refine⟨Fv.1 (ZE (some q) w),?_⟩;obtain⟨o,r,s,g⟩:=ZC k m (λp hp=>by have:=n p hp; unfold maxLen; omega) (by unfold maxLen; omega);refine(Fv.1 (ZF q L.length o Hh w r (by rw[g]; unfold maxLen; omega) (by rw[g]; omega))).mono ?_;rintro e w' ⟨v,d,rfl,hp,i,_,hb⟩;have t:(w.alloc (.cells #[.map (some q)] 159)).heap.size=w.heap.size+1:=by simp
 rw[t]at i hb;have j:=List.mergeSort_perm d (λx y=>decide (x<=y));have u:(d.mergeSort (λx y=>decide (x<=y))).Pairwise (λa b=>decide (a<=b)=true):=List.pairwise_mergeSort (λa b c h1 h2=>by simp at *; exact List.le_trans h1 h2) (λa b=>by simp; exact List.le_total a b) d;generalize d.mergeSort (λx y=>decide (x<=y))=ms at *;refine⟨v,ms.map (λl=>⟨l.toArray⟩),rfl,?_,?_,?_,hb⟩
 ·have h1:ms.Perm (L.map (λp=>p.1.data.toList)):=(j.trans hp).trans s;have h2:=h1.map (λl:List UInt8=>(⟨l.toArray⟩:ByteArray));simpa [Function.comp_def] using h2
 ·rw[Hr];refine u.imp fun {a b} h=>?_;unfold Cw;have e1:(⟨b.toArray⟩:ByteArray).toList=b:=by rw[GH]
  have e2:(⟨a.toArray⟩:ByteArray).toList=a:=by rw[GH]
  rw[e1,e2,bytesLess_eq];have h2:a<=b:=by simpa using h
  simpa using h2
 ·have h1:=LV.of_own (f:=Value.string) (l:=ms.map (λl:List UInt8=>(⟨l.toArray⟩:ByteArray))) (w:=w') (N:=w.heap.size+1) (T:=9) (v:=v) (by
   have h2:ms.length=d.length:=j.length_eq;rw[Gs,h2,List.map_map];exact i)
  exact h1
def ZG (w:World) (X:Nat->Prop) (l:List Bd) (n:ByteArray) (e:Ending) (w':World):Prop:=
 Below w.heap.size w w'/\((∃t a c,AC l n=some t/\e=.returned (.tuple #[.agg (zG t a c),.bool true])/\Sl w' X a t.args)∨(AC l n=none/\e=.returned (.tuple #[.agg #[.string ⟨#[]⟩,zB],.bool false])))
def ZH (l:List Bd) (n:ByteArray) (w0:World) (v:Value) (wr:World):Prop:=∃k:Nat,k<=l.length/\v=zA k/\AC (l.take k) n=none/\wr=w0
theorem TW (l:List Bd) (n:ByteArray) (v:Value) (w:World) (g:Nat->Prop) (i:BV w g v l):
  Calls prog 65 #[v,.string n] w λe w'=>ZG w (λb=>g b/\b<w.heap.size) l n e w':=by
 have A:=Aa (i.mono (Y:=λb=>g b/\b<w.heap.size) λb h1 h2=>⟨h1,h2⟩);obtain⟨a,c,rfl,hl,B⟩:=i;clear B;go_enter func65,ntmps65;go_wp2_with fail;have h:=Aa (Ab.new w #[.string ⟨#[]⟩,zB] 61);have j:=Aa ((Ac w.heap.size w).alloc (Ag _) (.cells #[.string ⟨#[]⟩,zB] 61));have C:=Aa (A.o.alloc (.cells #[.string ⟨#[]⟩,zB] 61));generalize w.alloc (.cells #[.string ⟨#[]⟩,zB] 61)=D at *;go_loopw [6] (λv wr=>ZH l n D v wr) (λv wr=>l.length-(intOf v).toNat);case atStart=>exact⟨0,Bm _,rfl,rfl,rfl⟩
 case round=>
  obtain⟨k,hk,rfl,m,rfl⟩:=hrel;have q:=Aa m;clear m;have r:=h.o.c0;have s:=h.o.c1;have rf:=h.o.frozen;by_cases u:k<l.length
  ·obtain⟨b,o,x,c',rfl,d0,d1,d2,y⟩:=C.o.get k u;have af:(k:Int)<(l.length:Int):=(by omega);have HT:=Aa (Vv u q.o);have E:=Aa y;clear y;generalize l[k]=d at *;by_cases he:d.nm=n
   ·have heq:=Ip he;have f:=Aa (HT.o.1 he);clear he;go_wp2_with fail;refine Ao (v:=.tuple #[.agg (zG d.t x c'),.bool true]) (by simp[results,results65,go_sem,AK,AB,r,s]) rfl ?_;refine⟨(j.o.setCell (by simp) _).setCell (by simp) _,Ad ⟨d.t,x,c',f.o,rfl,E.o.kept λb hb=>?_⟩⟩;rw[Al _ _ _ _ (by simp; omega),Al _ _ _ _ (by simp; omega)]
   ·have heq:=JT he;have f:=Aa (HT.o.2 he);clear he;go_wp2_with fail;go_roundw
    case rel=>exact⟨k+1,by omega,by go_num,f.o,by trivial⟩
    case measure=>simp[intOf]; omega
  ·have z:l.take k=l:=Bv (by omega);have f:=Aa q.o;rw[z]at f;clear z;go_wp2_with fail;refine Ao (v:=.tuple #[.agg #[.string ⟨#[]⟩,zB],.bool false]) (by simp[results,results65,go_sem,AK,AB,r,s]) rfl ?_;exact⟨(j.o.setCell (by simp) _).setCell (by simp) _,Ae ⟨f.o,rfl⟩⟩
def TX (w0:World) (M:Nat) (ls:List Bd) (l:List Tm) (most:Int) (n i:Value) (wr:World):Prop:=∃k:Nat,k<=l.length/\i=zA k/\n=zA (min (1+Ah (An ls (l.take k))) (most+1))/\Below M w0 wr
theorem ZI (ls:List Bd) (t:Tm):∀(u v:Value) (most:Int) (w:World) (X:Nat->Prop),BV w X u ls->TV w X v t->0<=most->most<=1000000->
  Calls prog 49 #[u,v,zA most] w λe w'=>e=.returned (zA (min (Ah [Af ls t]) (most+1)))/\Below w.heap.size w w':=by
 induction t using Tm.ind with
 |h s l N=>
  intro u v most w X hu R T U;obtain⟨a,c,rfl,E⟩:=R;have O:=Aa N;have F:=Aa hu;have P:=Aa E;have hl:=E.1;clear N hu E;go_enter func49,ntmps49;go_wp2_with fail;refine(TW ls s u _ X (by exact F.o.alloc _)).mono ?_;rintro e w1 ⟨G,V⟩;have r:=Aa ((Ab.new w #[.string s,.slice a l.length c] 61).below G (by simp));have g:=Aa (((Ac w.heap.size w).alloc (Ag _) (.cells #[.string s,.slice a l.length c] 61)).trans (G.mono (by simp)));have an:w.heap.size<w1.heap.size:=r.o.lt;clear G;have t0:∀o,(w1.alloc o).cell? (zD w.heap.size 0)=some (.string s):=λo=>(r.o.alloc o).cell 0;have t1:∀o,(w1.alloc o).cell? (zD w.heap.size 1)=some (.slice a l.length c):=λo=>(r.o.alloc o).cell 1;rcases V with ⟨x,C,D,q,rfl,H⟩|⟨q,rfl⟩
  ·by_cases I:l=[]
   ·subst I;have y:=Aa (Is q);have W:=Aa H;clear q H;go_wp2_with fail;refine(Vc x _ most _ _ ⟨C,D,rfl,W.o.later ((Ac w1.heap.size w1).alloc (Ag _) _)⟩ T U).mono ?_;rintro e w3 ⟨rfl,z⟩;go_wp2_with fail;go_ret;exact⟨AF (by rw[y.o]),(g.o.alloc g.o.size _).trans (z.mono (by have:=g.o.size; simp; omega))⟩
   ·have A:=Aa (GP (l:=ls) (s:=s) (Ad I));have ar:((l.length:Int)==0)=false:=Dr.2 (by have:=GI.2 I; omega);clear q H;go_wp2_with fail;have d:=Aa (r.o.alloc (.cells (zG x C D) 61));have B:=Aa (g.o.alloc g.o.size (.cells (zG x C D) 61));generalize w1.alloc (.cells (zG x C D) 61)=w2 at *;clear t0 t1;go_loopw [9,10] (λn i wr=>TX w2 w2.heap.size ls l most n i wr) (λn i wr=>l.length-(intOf i).toNat);case atStart=>exact⟨0,Bm _,rfl,by simp[An,Ah]; omega,Ac _ _⟩
    case round=>
     obtain⟨k,hk,rfl,rfl,hb⟩:=hrel;have c0:wr.cell? (zD w.heap.size 0)=some (.string s):=(d.o.below hb d.o.lt).cell 0;have c1:wr.cell? (zD w.heap.size 1)=some (.slice a l.length c):=(d.o.below hb d.o.lt).cell 1;have Y:0<=((1:Int)+Ah (An ls (l.take k))):=(by omega);have f:=Aa (B.o.trans (hb.mono B.o.size));have Z:=Aa hb;by_cases j:k<l.length
     ·obtain⟨b,o,a',c',rfl,d0,d1,hx⟩:=P.o.get f.o (λ_ _ h=>h) k j;by_cases hle:1+(Ah (An ls (l.take k)):Int)<=most
      ·have m:min (1+(Ah (An ls (l.take k)):Int)) (most+1)=1+(Ah (An ls (l.take k)):Int):=(by omega);rw[m];go_wp2_with fail;refine(O.o _ (Bu j) _ _ _ _ X (F.o.later f.o) hx (by omega) (by omega)).mono ?_;rintro e w3 ⟨rfl,z⟩;have J:=Aa (Pj ls l k j);have ao:0<=min ((Ah [Af ls l[k]]:Int)) (most-(1+(Ah (An ls (l.take k)):Int))+1):=(by omega);have aq:min ((Ah [Af ls l[k]]:Int)) (most-(1+(Ah (An ls (l.take k)):Int))+1)<=1000001:=(by omega);go_wp2_with fail;go_roundw
       case rel=>exact⟨k+1,by omega,by go_num,by rw[J.o]; congr 1; omega,hb.trans (z.mono hb.size)⟩
       case measure=>simp[intOf]; omega
      ·have m:min (1+(Ah (An ls (l.take k)):Int)) (most+1)=most+1:=(by omega);rw[m];have hz:(Ah [(⟨s,An ls l⟩:Tm)]:Int)=1+Ah (An ls l):=(by simp[Ah]);have ai:=Pk ls l k;have y:=Aa (show(most+1:Int)=min (Ah [(⟨s,An ls l⟩:Tm)]:Int) (most+1) by omega);clear hz;go_wp2_with fail;go_ret;exact⟨AF (by rw[A.o]; exact y.o),f.o⟩
     ·have L:l.take k=l:=Bv (by omega);rw[L];have hz:(Ah [(⟨s,An ls l⟩:Tm)]:Int)=1+Ah (An ls l):=(by simp[Ah]);have M:=Aa hz;clear hz;go_wp2_with fail;all_goals (go_ret; exact⟨AF (by rw[A.o]; have:=M.o; omega),f.o⟩)
  ·have A:Hid (Af ls ⟨s,l⟩=⟨s,An ls l⟩):=GP (Ae q);clear q;go_wp2_with fail;have d:=Aa (r.o.alloc (.cells #[.string ⟨#[]⟩,zB] 61));have B:=Aa (g.o.alloc g.o.size (.cells #[.string ⟨#[]⟩,zB] 61));generalize w1.alloc (.cells #[.string ⟨#[]⟩,zB] 61)=w2 at *;clear t0 t1;go_loopw [9,10] (λn i wr=>TX w2 w2.heap.size ls l most n i wr) (λn i wr=>l.length-(intOf i).toNat);case atStart=>exact⟨0,Bm _,rfl,by simp[An,Ah]; omega,Ac _ _⟩
   case round=>
    obtain⟨k,hk,rfl,rfl,hb⟩:=hrel;have c0:wr.cell? (zD w.heap.size 0)=some (.string s):=(d.o.below hb d.o.lt).cell 0;have c1:wr.cell? (zD w.heap.size 1)=some (.slice a l.length c):=(d.o.below hb d.o.lt).cell 1;have Y:0<=((1:Int)+Ah (An ls (l.take k))):=(by omega);have f:=Aa (B.o.trans (hb.mono B.o.size));have Z:=Aa hb;by_cases j:k<l.length
    ·obtain⟨b,o,a',c',rfl,d0,d1,hx⟩:=P.o.get f.o (λ_ _ h=>h) k j;by_cases hle:1+(Ah (An ls (l.take k)):Int)<=most
     ·have m:min (1+(Ah (An ls (l.take k)):Int)) (most+1)=1+(Ah (An ls (l.take k)):Int):=(by omega);rw[m];go_wp2_with fail;refine(O.o _ (Bu j) _ _ _ _ X (F.o.later f.o) hx (by omega) (by omega)).mono ?_;rintro e w3 ⟨rfl,z⟩;have J:=Aa (Pj ls l k j);have ao:0<=min ((Ah [Af ls l[k]]:Int)) (most-(1+(Ah (An ls (l.take k)):Int))+1):=(by omega);have aq:min ((Ah [Af ls l[k]]:Int)) (most-(1+(Ah (An ls (l.take k)):Int))+1)<=1000001:=(by omega);go_wp2_with fail;go_roundw
      case rel=>exact⟨k+1,by omega,by go_num,by rw[J.o]; congr 1; omega,hb.trans (z.mono hb.size)⟩
      case measure=>simp[intOf]; omega
     ·have m:min (1+(Ah (An ls (l.take k)):Int)) (most+1)=most+1:=(by omega);rw[m];have hz:(Ah [(⟨s,An ls l⟩:Tm)]:Int)=1+Ah (An ls l):=(by simp[Ah]);have ai:=Pk ls l k;have y:=Aa (show(most+1:Int)=min (Ah [(⟨s,An ls l⟩:Tm)]:Int) (most+1) by omega);clear hz;go_wp2_with fail;go_ret;exact⟨AF (by rw[A.o]; exact y.o),f.o⟩
    ·have L:l.take k=l:=Bv (by omega);rw[L];have hz:(Ah [(⟨s,An ls l⟩:Tm)]:Int)=1+Ah (An ls l):=(by simp[Ah]);have M:=Aa hz;clear hz;go_wp2_with fail;all_goals (go_ret; exact⟨AF (by rw[A.o]; have:=M.o; omega),f.o⟩)
theorem TZ (y:Bc):∀(cs:List Bc) (i:Nat),i<cs.length->DA (cs.set i y)=(((DA cs).set (i*3) (.string y.1.nm)).set (i*3+1) (.string y.1.t.name)).set (i*3+2) (.slice y.2.1 y.1.t.args.length y.2.2)
 | [],i,h=>by simp at h
 |x::r,0,h=>by simp[DA,DX]
 |x::r,i+1,h=>by
  have a:=TZ y r i (by simpa using h);rw[MS,DA,DA,a];rw[show(i+1)*3=i*3+3 by omega,show i*3+3+1=(i*3+1)+3 by omega,show i*3+3+2=(i*3+2)+3 by omega];simp[DX]
def put3 (w:World) (g i:Nat) (y:Bc):World:=(((w.setCell ⟨g,i*3,none⟩ (.string y.1.nm)).setCell ⟨g,i*3+1,none⟩ (.string y.1.t.name)).setCell ⟨g,i*3+2,none⟩ (.slice y.2.1 y.1.t.args.length y.2.2))
theorem ZJ {w:World} {g i b:Nat} {y:Bc} (h:b≠g):(put3 w g i y).heap[b]? = w.heap[b]? := by
 unfold put3;rw[Al _ _ _ _ (by simpa using h),Al _ _ _ _ (by simpa using h),Al _ _ _ _ (by simpa using h)]
theorem T8 {w:World} {g i:Nat} {y:Bc}:(put3 w g i y).heap.size=w.heap.size:=by simp[put3,World.setCell]
theorem T9 {b w:World} {B g i:Nat} {y:Bc} (h:Below B b w) (a:B<=g):Below B b (put3 w g i y):=((h.setCell (by exact a) _).setCell (by exact a) _).setCell (by exact a) _
theorem Sl.put3 {w:World} {N g n cap i:Nat} {Y:Nat->Prop} {a:Option Addr} {l:List Tm} {y:Bc} (h:Sl w (λb=>Y b∨(N<=b/\some b≠(Value.slice (some (zD g 0)) n cap).ownBlock)) a l) (c:∀b,Y b->b<N) (hg:N<=g):Sl (put3 w g i y) (λb=>Y b∨(N<=b/\some b≠(Value.slice (some (zD g 0)) n cap).ownBlock)) a l:=
 h.kept λb hb=>ZJ (by
  rcases hb with hb|hb
  ·have:=c b hb; omega
  ·intro e; exact hb.2 (by simp[Value.ownBlock,e]))
theorem Cm.put {w:World} {N:Nat} {Y:Nat->Prop} {cs:List Bc} {g n cap:Nat} (h:Cm w N Y (.slice (some (zD g 0)) n cap) cs) (a:∀b,Y b->b<N) (i:Nat) (hi:i<cs.length) (y:Bc) (hy:Sl w (λb=>Y b∨(N<=b/\some b≠(Value.slice (some (zD g 0)) n cap).ownBlock)) y.2.1 y.1.t.args):Cm (put3 w g i y) N Y (.slice (some (zD g 0)) n cap) (cs.set i y):=by
 have c:N<=g:=(h.own.lt g rfl).1;refine⟨?_,λx hx=>?_⟩
 ·rcases h.own.2 with ⟨e,_⟩|⟨g',ad,cur,e,d,hb,h1,h2,h3,f⟩
  ·cases e
  ·simp at e;obtain⟨rfl,rfl,rfl⟩:=e;have j:Ab w g cur 93:=hb;have k:=((j.set (i*3) (.string y.1.nm)).set (i*3+1) (.string y.1.t.name)).set (i*3+2) (.slice y.2.1 y.1.t.args.length y.2.2);refine⟨Pm _,Ae ⟨g,cap,_,by simp,d,k,by simpa using h1,h2,by simpa using h3,?_⟩⟩;rw[TZ y cs i hi,<-f];simp[List.take_set]
 ·rcases List.mem_or_eq_of_mem_set hx with h1|h1
  ·exact(h.row x h1).put3 a c
  ·rw[h1]; exact hy.put3 a c
theorem Cm.swap {w:World} {N:Nat} {Y:Nat->Prop} {A B:List Bc} {x y:Bc} {g n cap:Nat} (h:Cm w N Y (.slice (some (zD g 0)) n cap) ((A++[y])++x::B)) (a:∀b,Y b->b<N):Cm (put3 (put3 w g (A.length+1) y) g A.length x) N Y (.slice (some (zD g 0)) n cap) (A++x::y::B):=by
 have c:N<=g:=(h.own.lt g rfl).1;have h1:=h.put a (A.length+1) (by simp) y (h.row y (by simp));have h2:=h1.put a A.length (by simp) x ((h.row x (by simp)).put3 a c);have e:(((A++[y])++x::B).set (A.length+1) y).set A.length x=A++x::y::B:=(by rw[List.set_append_right _ _ (by simp)];simp[List.set_append_right]);rw[e]at h2;exact h2
def Kv (l:List Bc):Prop:=l.Pairwise λa b=>Cw b.1.nm a.1.nm=false
theorem Ua {A B:List Bc} {x:Bc} (hw:Kv (A++B)) (d:∀b∈B,Cw x.1.nm b.1.nm=true) (e:∀a∈A,Cw x.1.nm a.1.nm=false):Kv (A++x::B):=by
 obtain⟨h1,h2,h3⟩:=MQ.1 hw;refine MQ.2 ⟨h1,KF.2 ⟨λb hb=>Ps (d b hb),h2⟩,λa c b hb=>?_⟩;rcases Cn.1 hb with rfl|hb
 ·exact e a c
 ·exact h3 a c b hb
theorem ZK {A B:List Bc} {a x:Bc} (hw:Kv (A++[a]++B)) (h:Cw x.1.nm a.1.nm=false):∀y∈A++[a],Cw x.1.nm y.1.nm=false:=λy hy=>by
 rcases BJ.1 hy with hy|hy
 ·obtain⟨h1,_⟩:=MQ.1 hw;exact VB h ((MQ.1 h1).2.2 y hy a (by simp))
 ·have e:y=a:=by simpa using hy
  rw[e]; exact h
theorem Cm.atk {w:World} {N:Nat} {Y:Nat->Prop} {P Q:List Bc} {z:Bc} {g n cap:Nat} (h:Cm w N Y (.slice (some (zD g 0)) n cap) (P++z::Q)):
  w.cell? ⟨g,P.length*3,none⟩=some (.string z.1.nm)/\w.cell? ⟨g,P.length*3+1,none⟩=some (.string z.1.t.name)/\w.cell? ⟨g,P.length*3+2,none⟩=some (.slice z.2.1 z.1.t.args.length z.2.2)/\∀j,w.frozen? (zD g j)=false:=by
 obtain⟨b,c,e,_,_,hc⟩:=EU h.own (by simp only[Ed,Cg]; omega);simp at e;obtain⟨rfl,_,rfl⟩:=e;have d:∀j,w.frozen? (zD g j)=false:=by
  rcases h.own.2 with ⟨e,_⟩|⟨b,c,cur,e,_,hb,_⟩
  ·cases e
  ·simp at e;obtain⟨rfl,_,rfl⟩:=e;intro j;simp[World.frozen?,hb]
 have a:∀j,j<3->(DA (P++z::Q))[P.length*3+j]? = (DX z)[j]? := λj f=>by
  rw[JV _ P.length (by simp) j f];simp
 exact⟨hc _ _ (by have h0:=a 0 (by decide); rw[Hs] at h0; rw[h0]; rfl),hc _ _ (by rw[a 1 (by decide)]; rfl),hc _ _ (by rw[a 2 (by decide)]; rfl),d⟩
theorem Ub {A B cs:List Bc} {x:Bc} {l:List Bd} (h:A++B=cs) (hp:(cs.map (·.1)++[x.1]).Perm l):((A++x::B).map (·.1)).Perm l:=by
 refine List.Perm.trans ?_ hp;have h1:(A++x::B).Perm (cs++[x]):=by
  rw[<-h];exact List.perm_middle.trans (List.perm_append_singleton x (A++B)).symm
 simpa using h1.map (·.1)
def ZL (w:World) (Y:Nat->Prop) (ls:List Bd) (u v:Value) (wr:World):Prop:=
 ∃(k:Nat) (cs:List Bc),v=zA k/\k<=ls.length/\Cm wr w.heap.size Y u cs/\(cs.map (·.1)).Perm (ls.take k)/\Kv cs/\Below w.heap.size w wr
def ZM (w:World) (Y:Nat->Prop) (cs:List Bc) (x:Bc) (g cap:Nat) (v:Value) (wr:World):Prop:=
 ∃(A B:List Bc),v=zA (A.length:Int)/\A++B=cs/\(∀b∈B,Cw x.1.nm b.1.nm=true)/\Cm wr w.heap.size Y (.slice (some (zD g 0)) (cs.length+1) cap) (A++x::B)/\Below w.heap.size w wr
theorem Uc (ls:List Bd) (u:Value) (w:World) (X:Nat->Prop) (hu:BV w X u ls) (hn:ls.length<=1000000):
  Calls prog 48 #[u] w λe w'=>∃(v:Value) (cs:List Bc),e=.returned v/\Cm w' w.heap.size (λb=>X b/\b<w.heap.size) v cs/\(cs.map (·.1)).Perm ls/\Kv cs/\Below w.heap.size w w':=by
 have HU:=Aa (hu.mono (Y:=λb=>X b/\b<w.heap.size) λb h1 h2=>⟨h1,h2⟩);obtain⟨a,c,rfl,hl,aA⟩:=hu;clear aA;go_enter func48,ntmps48;go_wp2_with fail;go_loopw [3,4] (λu v wr=>ZL w (λb=>X b/\b<w.heap.size) ls u v wr) (λu v wr=>ls.length-(intOf v).toNat);case atStart=>exact⟨0,[],rfl,Bm _,Cm.start _ _ _,by simp,List.Pairwise.nil,Ac _ _⟩
 case round=>
  obtain⟨k,cs,rfl,hk,l,M,N,hb⟩:=hrel;have x:=Aa l;have z:=Aa M;have s:=Aa N;have r:=Aa hb;clear l M N;by_cases O:k<ls.length
  ·obtain⟨b,o,f,c',rfl,d0,d1,d2,P⟩:=(HU.o.later hb).get k O;have aB:(k:Int)<(ls.length:Int):=(by omega);have HS:=Aa P;have R:Hid ((cs.map (·.1)++[ls[k]]).Perm (ls.take (k+1))):=by
    unfold Hid;rw[CB O];exact z.o.append_right _
   have aC:cs.length<=1000000:=by have:=z.o.length_eq; simp at this; omega
   clear hb P;generalize ls[k]=d at *;obtain⟨v2,w2,T,Dv,U⟩:=NE x.o r.o.size (λb h=>h.2) (Ac wr.heap.size wr) (d,f,c') (HS.o.mono λb h _=>Ad h) aC wr.heap.size rfl;obtain⟨g,cap,rfl,aD,aH⟩:=Dv.own.form (by simp);have V:=Aa T;have W:=Aa Dv;have aE:Hid (Below w.heap.size w w2):=(r.o.alloc r.o.size _).grown U (by have:=r.o.size; simp; omega) (λj hj=>by have:=(x.o.own.lt j hj).1; omega);have ak:(cs++[(d,f,c')]).length=cs.length+1:=(by simp);rw[ak]at W V;clear T Dv U;have Z:w.heap.size<=g:=aD;go_wp2_with (at_builtin; refine Io rfl _ _ _ _ rfl rfl rfl V.o ?_);go_loopw [5] (λv wr=>ZM w (λb=>X b/\b<w.heap.size) cs (d,f,c') g cap v wr) (λv wr=>(intOf v).toNat);case atStart=>
    exact⟨cs,[],by go_num,by simp,by simp,W.o,aE.o⟩
   case round=>
    obtain⟨A,B,rfl,C,ay,l,hb⟩:=hrel;have D:=Aa l;have E:=Aa hb;have F:=Aa ay;have q:=Aa C;have aF:Hid (A.length+B.length=cs.length):=Aa (by have:=Dl List.length C;simpa using this);clear ay C;rcases List.eq_nil_or_concat A with rfl|⟨n,y,az⟩
    ·clear l hb;go_wp2_with fail;go_quiet (fail)
     go_wp2_with fail;go_roundw
     case rel=>exact⟨k+1,[]++(d,f,c')::B,by go_num,by omega,D.o.below (below_drewN (Ac _ _) _),Ub q.o R.o,Ua (by rw[q.o]; exact s.o) F.o (by simp),below_drewN E.o _⟩
     case measure=>simp[intOf]; omega
    ·rw[List.concat_eq_append]at az;subst az;have hlen:(n++[y]).length=n.length+1:=(by simp);have aI:n.length+1<cs.length+1:=by have:=aF.o; simp at this; omega
     have e1:(n++[y])++(d,f,c')::B=n++y::(d,f,c')::B:=(by simp);obtain⟨G,H,I,xf⟩:=l.atk;rw[e1]at l;obtain⟨y0,y1,y2,_⟩:=l.atk;simp only[Ed,Cg,Ee,Hq] at G H I ⊢;clear l hb hlen e1;generalize a1:n.length=m at *;have a6:=Aa a1;clear a1;have aJ:(0:Int)<=(m:Int):=(by omega);have aK:IntKind.i64.wrap ((m:Int)+1-1)=(m:Int):=by rw[Dm]; omega
     have aL:IntKind.i64.wrap (m:Int)=(m:Int):=by rw[Dm]; omega
     cases J:Op.bytesLess d.nm.toList y.1.nm.toList with
     |true=>
      have ar:=Aa J;go_wp2_with fail;go_quiet (fail)
      have al:=Aa (D.o.below (below_drewN (Ac wr.heap.size wr) nq));have a7:=Aa (below_drewN E.o nq);have aG:(wr.drewN nq).cell? ⟨g,(m+1)*3,none⟩=some (.string d.nm):=G;have aM:(wr.drewN nq).cell? ⟨g,(m+1)*3+1,none⟩=some (.string d.t.name):=H;have aN:(wr.drewN nq).cell? ⟨g,(m+1)*3+2,none⟩=some (.slice f d.t.args.length c'):=I;have aO:(wr.drewN nq).cell? ⟨g,m*3,none⟩=some (.string y.1.nm):=y0;have aP:(wr.drewN nq).cell? ⟨g,m*3+1,none⟩=some (.string y.1.t.name):=y1;have aQ:(wr.drewN nq).cell? ⟨g,m*3+2,none⟩=some (.slice y.2.1 y.1.t.args.length y.2.2):=y2;have aR:∀j,(wr.drewN nq).frozen? (zD g j)=false:=xf;have aS:g<(wr.drewN nq).heap.size:=Em aG;clear G H I y0 y1 y2 xf J;generalize wr.drewN nq=w5 at *;go_wp2_with fail;go_roundw
      case rel=>
       have L:=(al.o.swap λb h=>h.2).below ((Ac _ _).alloc (Ag _) (.cells #[.string d.nm,.string d.t.name,.slice f d.t.args.length c'] 93));rw[a6.o]at L;have a8:=(T9 (i:=m) (y:=(d,f,c')) (T9 (i:=m+1) (y:=y) a7.o Z) Z).alloc (by rw[T8,T8]; exact a7.o.size) (.cells #[.string d.nm,.string d.t.name,.slice f d.t.args.length c'] 93);simp only[put3] at L a8;refine⟨n,y::B,by rw[a6.o],by have:=q.o; simpa using this,λb hb=>?_,L,a8⟩;rcases Cn.1 hb with rfl|hb
       ·exact ar.o
       ·exact F.o b hb
      case measure=>simp[intOf]
     |false=>
      have ar:=Aa J;go_wp2_with fail;go_quiet (fail)
      go_wp2_with fail;go_roundw
      case rel=>exact⟨k+1,(n++[y])++(d,f,c')::B,by go_num,by omega,D.o.below (below_drewN (Ac _ _) _),Ub q.o R.o,Ua (by rw[q.o]; exact s.o) F.o (ZK (by rw[q.o]; exact s.o) ar.o),below_drewN E.o _⟩
      case measure=>simp[intOf]; omega
  ·go_wp2_with fail;go_ret;exact⟨u3,cs,rfl,x.o,by have h:=z.o; rwa [Bv (by omega)] at h,s.o,r.o⟩

import Derived.Test.YtgbcafaibocebaaGreatDoorZHCriticalMadeOwn
import Derived.Deep.LoopGhost
import Derived.Sort.KeysCollected
import Derived.Sort.Walk0
import Derived.Maps.Range
import Derived.Maps.Own
import Derived.StringKeys
import Derived.Test.YtgbcafaibocebaaGreatDoorIterL
import Derived.Test.YtgbcafaibocebaaGreatDoorW113
import Derived.Deep.RegionHeld3
import Derived.Deep.RegionLaw
import Derived.Defers
import Derived.Recover
import Derived.Laws.Pointers
namespace Go.Proofs.YtgbcafaibocebaaGreatDoor
set_option linter.all false
set_option maxRecDepth 20000
set_option maxHeartbeats 8000000
open Go.RowKit Go.Proofs.Tryz
inductive FO where
 |go (s:List Bd) (l:List Pr)
 |stop (e:Int)
def Fk (s:List Bd) (x:ByteArray) (t:Tm):FO:=if AJ x (At [] (Ao [t]))=true then .stop 6 else .go (Cz s x t) []
def D3 (s:List Bd) (a b:Tm):FO:=
 if Al a.name=true then (if a.name=b.name then .go s [] else Fk s a.name b)
 else if Al b.name=true then Fk s b.name a
 else if a.name=b.name/\a.args.length=b.args.length then .go s (Az a.args b.args)
 else .stop 5
inductive FR:List Bd->List Pr->Int->List Bd->Prop
 |done (s:List Bd):FR s [] 0 s
 |step {s s' sf:List Bd} {p:Pr} {l' rest:List Pr} {e:Int}:D3 s (Ag s p.l) (Ag s p.r)=.go s' l'->FR s' (l'++rest) e sf->FR s (p::rest) e sf
 |stop {s:List Bd} {p:Pr} {rest:List Pr} {e:Int}:D3 s (Ag s p.l) (Ag s p.r)=.stop e->FR s (p::rest) e s
theorem Sx {s:List Bd} {x:ByteArray} {t:Tm} {e:Int} (h:Fk s x t=.stop e):e=6:=by
 unfold Fk at h;split at h
 ·cases h; rfl
 ·cases h
theorem eK {s:List Bd} {a b:Tm} {e:Int} (h:D3 s a b=.stop e):e≠0:=by
 unfold D3 at h;split at h
 ·split at h
  ·cases h
  ·rw[Sx h]; decide
 ·split at h
  ·rw[Sx h]; decide
  ·split at h
   ·cases h
   ·cases h; decide
theorem FR.append_ok {s s':List Bd} {a:List Pr} {c:Int} (h:FR s a c s'):c=0->∀ {b:List Pr} {e:Int} {sf:List Bd},FR s' b e sf->FR s (a++b) e sf:=by
 induction h with
 |done s=>intro _ b e sf h; exact h
 |step h1 _ d=>intro h0 b e sf h; exact FR.step h1 (by have h2:=d h0 h; rw[Gz] at h2; exact h2)
 |stop h1=>intro h0; exact absurd h0 (eK h1)
theorem FR.append_err {s s':List Bd} {a:List Pr} {e:Int} (h:FR s a e s'):e≠0->∀(b:List Pr),FR s (a++b) e s':=by
 induction h with
 |done s=>intro h; exact absurd rfl h
 |step h1 _ c=>intro h0 b; exact FR.step h1 (by have h2:=c h0 b; rw[Gz] at h2; exact h2)
 |stop h1=>intro h0 b; exact FR.stop h1
def FG (s s':List Bd):Prop:=∀L:List Tm,Ah L=0->Ap s' (Ap s L)=Ap s' L
theorem FG.T {s s':List Bd} (h:FG s s') {t:Tm} (he:Ah [t]=0):Ag s' (Ag s t)=Ag s' t:=by
 have h1:=h [t] he;rw[Bb,Bb,Bb]at h1;injection h1
theorem Jm {s:List Bd} (h:BG s):FG s s:=λL he=>h.idem he
theorem FG.trans {s s' aa:List Bd} (hs:BG s) (h:FG s s') (k:FG s' aa):FG s aa:=λL he=>by
 rw[<-k (Ap s L) (Io hs L he),h L he,k L he]
theorem eL {s s':List Bd} {x:ByteArray} {t:Tm} {l':List Pr} (hs:BG s) (hx:Al x=true) (hn:∀d∈s,d.nm≠x) (he:Ah [t]=0) (ht:∀e∈s,¬Au e.nm [t]) (h:Fk s x t=.go s' l'):s'=Cz s x t/\l'=[]/\¬Au x [t]/\BG s'/\FG s s':=by
 unfold Fk at h;split at h
 ·cases h
 ·rename_i ho;cases h;have h1:=Jc hx ho;have h2:=hs.add hx hn he ht h1;refine⟨rfl,rfl,h1,h2,λL a=>?_⟩;rw[Jb hs hx hn h2 _ (Io hs L a),Jb hs hx hn h2 L a,hs.idem a]
def Sy (s s':List Bd) (a b:Tm) (l':List Pr):Prop:=
 BG s'/\FG s s'/\Ah (Ax l')=0/\(∀V:List ByteArray,(∀d∈s,d.nm∈V)->(∀y,Al y=true->(Au y [a]∨Au y [b])->y∈V)->(∀d∈s',d.nm∈V))/\
  (∀L,Ah L=0->∀y,Al y=true->Au y (Ap s' L)->Au y (Ap s L)∨Au y [a]∨Au y [b])/\
  (l'=[]∨(s'=s/\Al a.name=false/\Al b.name=false/\l'=Az a.args b.args))
theorem Sz {s s':List Bd} {a b:Tm} {l':List Pr} (hs:BG s) (i:Ah [a]=0) (hb:Ah [b]=0) (aa:∀e∈s,¬Au e.nm [a]) (ab:∀e∈s,¬Au e.nm [b]) (h:D3 s a b=.go s' l'):Sy s s' a b l':=by
 have bind:∀x t,Al x=true->(∀d∈s,d.nm≠x)->Ah [t]=0->(∀e∈s,¬Au e.nm [t])->(Au x [a]∨Au x [b])->(∀y,Au y [t]->Au y [a]∨Au y [b])->Fk s x t=.go s' l'->Sy s s' a b l':=λx t hx hn he ht j k h=>by
  obtain⟨rfl,rfl,h3,l,m⟩:=eL hs hx hn he ht h;refine⟨l,m,by simp[Ax,Ah],λV h6 n d hd=>?_,λL c y hy ho=>?_,Ad rfl⟩
  ·have h8:=(EO (s.map (Br x t)++[⟨x,t⟩])).subset hd;rcases Bg.1 h8 with h8|h8
   ·obtain⟨d',o,rfl⟩:=Ce.1 h8;exact h6 d' o
   ·have e:d=⟨x,t⟩:=(by simpa using h8);rw[e];exact n x hx j
  ·exact((Ls hs hx hn he ht h3 c).2.1 y hy ho).imp id (k y)
 unfold D3 at h;split at h
 ·rename_i f;split at h
  ·cases h;exact⟨hs,Jm hs,by simp[Ax,Ah],λV h6 _=>h6,λL c y hy ho=>Ad ho,Ad rfl⟩
  ·exact bind a.name b f (λd hd e=>aa d hd (by rw[e]; exact Hp a)) hb ab (Ad (Hp a)) (λy h=>Ae h) h
 ·rename_i f;split at h
  ·rename_i g;exact bind b.name a g (λd hd e=>ab d hd (by rw[e]; exact Hp b)) i aa (Ae (Hp b)) (λy h=>Ad h) h
  ·rename_i g;split at h
   ·cases h;exact⟨hs,Jm hs,Iq (FF i) (FF hb),λV h6 _=>h6,λL c y hy ho=>Ad ho,Ae ⟨rfl,by simpa using f,by simpa using g,rfl⟩⟩
   ·cases h
theorem ND {s:List Bd} {rest:List Pr} {a b:Tm} (ha:Ab [a]<=2000) (hb:Ab [b]<=2000):Bh false s rest a b=match D3 s a b with
  | .go s' l'=>.go s' (l'++rest)
  | .stop e=>.stop e s:=by
 have bind:∀x t,CI false s rest x t=match Fk s x t with
   | .go s' l'=>.go s' (l'++rest)
   | .stop e=>.stop e s:=λx t=>by
  unfold CI Fk;by_cases h:AJ x (At [] (Ao [t]))=true
  ·rw[Ar h,Ar h]
  ·rw[Aj h,Aj h,Aj (by simp)]; rfl
 unfold Bh D3;rw[Aj (by omega)];by_cases h1:Al a.name=true
 ·rw[Ar h1,Ar h1];by_cases h2:a.name=b.name
  ·rw[Ar h2,Ar h2]; rfl
  ·rw[Aj h2,Aj h2]; exact bind _ _
 ·rw[Aj h1,Aj h1];by_cases h2:Al b.name=true
  ·rw[Ar h2,Ar h2]; exact bind _ _
  ·rw[Aj h2,Aj h2];by_cases h3:a.name=b.name/\a.args.length=b.args.length
   ·rw[Ar h3,Ar h3]
   ·rw[Aj h3,Aj h3]
theorem eM:∀ {a b:List Tm} {p:Pr},p∈Az a b->p.l∈a/\p.r∈b:=@Lu
theorem SA {sf:List Bd} (a:BG sf) {u x:Tm} (hv:Al u.name=false) (hx:x∈u.args):Ab [Ag sf x]<=Ab [Ag sf u]:=by
 obtain⟨n,l⟩:=u;rw[GT a.vars hv];have h1:=eC (t:=sf) hx;have h2:=Jg ⟨n,Ap sf l⟩;simp only at h1 h2;show Ab [Ag sf x]<=Ab [⟨n,Ap sf l⟩];omega
theorem FR.run {s sf:List Bd} {l:List Pr} {e:Int} (h:FR s l e sf):BG s->Ah (Ax l)=0->(BG sf/\FG s sf)/\((∀p∈l,Ab [Ag sf p.l]<=2000/\Ab [Ag sf p.r]<=2000)->∃n,AU false n s l=some (e,sf))/\
  (∀V:List ByteArray,(∀d∈s,d.nm∈V)->(∀y,Al y=true->Au y (Ap s (Ax l))->y∈V)->∀d∈sf,d.nm∈V):=by
 induction h with
 |done s=>intro hs _; exact⟨⟨hs,Jm hs⟩,λ_=>⟨1,rfl⟩,λV h _=>h⟩
 | @step s s' sf p l' rest e h1 h2 k=>
  intro hs he;obtain⟨b,a⟩:=Cu.1 he;obtain⟨a,c⟩:=Cu.1 a;have m:=En hs b;have o:=En hs a;obtain⟨g1,g2,g3,g4,g5,g6⟩:=Sz hs m o (hs.goneT b) (hs.goneT a) h1;have ab:Ah (Ax (l'++rest))=0:=by rw[Gl]; exact Ho.2 ⟨g3,c⟩
  obtain⟨⟨f,i2⟩,i3,i4⟩:=k g1 ab;have aa:FG s sf:=g2.trans hs i2;refine⟨⟨f,aa⟩,λhz=>?_,λV h6 g=>i4 V (g4 V h6 λy hy ho=>g y hy ?_) λy hy ho=>?_⟩
  ·have za:=(hz p (by simp)).1;have zb:=(hz p (by simp)).2;have q:Ab [Ag s p.l]<=2000:=(by have:=Mu sf (Ag s p.l);rw[aa.T b]at this;omega);have t:Ab [Ag s p.r]<=2000:=(by have:=Mu sf (Ag s p.r);rw[aa.T a]at this;omega);obtain⟨n,hn⟩:=i3 λu hp'=>by
    rcases Bg.1 hp' with hp'|hp'
    ·rcases g6 with g6|⟨rfl,i,j,g6⟩
     ·rw[g6]at hp'; cases hp'
     ·rw[g6]at hp';obtain⟨m1,m2⟩:=eM hp';have z1:=SA f i m1;have z2:=SA f j m2;rw[aa.T b]at z1;rw[aa.T a]at z2;omega
    ·exact hz u (by simp[hp'])
   refine⟨n+1,?_⟩;rw[AU,E8,ND q t,h1];exact hn
  ·rw[Ax,Bb,Bb];rcases ho with ho|ho
   ·exact BO.2 (Ad ho)
   ·exact BO.2 (Ae (BO.2 (Ad ho)))
  ·refine g y hy ?_;rw[Ax,Bb,Bb];rw[Gl,Ic]at ho;have fin:Au y (Ap s (Ax rest))∨Au y [Ag s p.l]∨Au y [Ag s p.r]:=by
    rcases Lq.1 ho with ho|ho
    ·rcases g6 with g6|⟨gs,i,j,g6⟩
     ·rw[g6]at ho; simp only[Ax,Ap] at ho; exact absurd ho FD
     ·rw[g6,gs]at ho;have v:Ap s (Ax (Az (Ag s p.l).args (Ag s p.r).args))=Ax (Az (Ag s p.l).args (Ag s p.r).args):=Hn _ λd hd hoc=>by
       rcases Ip hoc with hoc|hoc
       ·exact hs.goneT b d hd (Gq hoc)
       ·exact hs.goneT a d hd (Gq hoc)
      rw[v]at ho;rcases Ip ho with ho|ho
      ·exact Ae (Ad (Gq ho))
      ·exact Ae (Ae (Gq ho))
    ·exact g5 _ c y hy ho
   rcases fin with ho|ho|ho
   ·exact BO.2 (Ae (BO.2 (Ae ho)))
   ·exact BO.2 (Ad ho)
   ·exact BO.2 (Ae (BO.2 (Ad ho)))
 | @stop s p rest e h1=>intro hs he;obtain⟨b,a⟩:=Cu.1 he;obtain⟨a,c⟩:=Cu.1 a;refine⟨⟨hs,Jm hs⟩,λhz=>⟨1,?_⟩,λV h _=>h⟩;rw[AU,E8,ND (hz p (by simp)).1 (hz p (by simp)).2,h1]
theorem SC {y:ByteArray}:∀ {l:List Pr},Au y (Ax l)->∃p∈l,Au y [p.l]∨Au y [p.r]
 | [],h=>absurd h FD
 |p::r,h=>by
  rw[Ax]at h;rcases BO.1 h with h|h
  ·exact⟨p,by simp,Ad h⟩
  ·rcases BO.1 h with h|h
   ·exact⟨p,by simp,Ae h⟩
   ·obtain⟨q,hq,h⟩:=SC h;exact⟨q,by simp[hq],h⟩
theorem LF:∀ {l:List Pr},Ah (Ax l)=0->∀p∈l,Ah [p.l]=0/\Ah [p.r]=0
 | [],_,p,hp=>by cases hp
 |q::r,h,p,hp=>by
  rw[Ax]at h;obtain⟨b,a⟩:=Cu.1 h;obtain⟨a,c⟩:=Cu.1 a;rcases Bq.1 hp with rfl|hp
  ·exact⟨b,a⟩
  ·exact LF c p hp
theorem FR.ends {sf:List Bd} {l:List Pr} {e:Int} (h:FR [] l e sf) (he:Ah (Ax l)=0) (hz:∀p∈l,Ab [Ag sf p.l]<=2000/\Ab [Ag sf p.r]<=2000):(∃n,AU false n [] l=some (e,sf))/\AF sf=false:=by
 obtain⟨⟨h1,h2⟩,h3,c⟩:=h.run Ja he;refine⟨h3 hz,?_⟩;have f:=c ((Ao (Ax l)).map (·.name)) (by simp) (λy hy ho=>by
  rw[Hn _ (by simp)]at ho;obtain⟨k,hk,rfl⟩:=ho;exact Ce.2 ⟨k,hk,rfl⟩)
 unfold AF;rw[Jw];intro a;rw[Ei]at a;obtain⟨d,hd,aa⟩:=a;simp only[decide_eq_true_eq] at aa;obtain⟨k,hk,g⟩:=Ce.1 (f d hd);obtain⟨p,hp,ho⟩:=SC (y:=d.nm) ⟨k,hk,g⟩;have hv:=h1.vars d hd;have b:Ag sf ⟨d.nm,[]⟩=d.t:=by rw[FV,Lj h1.1 hd]; rfl
 obtain⟨i,j⟩:=LF he p hp;have ab:=hz p hp;rcases ho with ho|ho
 ·have h6:=Sq h1.vars hv [p.l] i ho;rw[Bb,b]at h6;simp only[Ap] at h6;omega
 ·have h6:=Sq h1.vars hv [p.r] j ho;rw[Bb,b]at h6;simp only[Ap] at h6;omega
def D5 (s:List Bd) (l k:List Pr):Prop:=l.map (λp=>(Ag s p.l,Ag s p.r))=k.map (λp=>(Ag s p.l,Ag s p.r))
theorem D5.later {s s':List Bd} (a:FG s s'):∀ {l k:List Pr},Ah (Ax l)=0->Ah (Ax k)=0->D5 s l k->D5 s' l k
 | [],[],_,_,_=>rfl
 | [],_::_,_,_,h=>by simp[D5] at h
 |_::_,[],_,_,h=>by simp[D5] at h
 |p::l,q::k,c,hk,h=>by
  unfold D5 at h;rw[Cb,Cb]at h;injection h with h1 h2
  injection h1 with h3 d
  obtain⟨e,b⟩:=Cu.1 c;obtain⟨b,f⟩:=Cu.1 b;obtain⟨f1,f2⟩:=Cu.1 hk;obtain⟨f2,f3⟩:=Cu.1 f2;have g:D5 s' l k:=D5.later a f f3 h2;unfold D5;rw[Cb,Cb,g,<-a.T e,<-a.T b,<-a.T f1,<-a.T f2,h3,d]
theorem FR.congr {s sf:List Bd} {l:List Pr} {e:Int} (h:FR s l e sf):∀ {k:List Pr},BG s->Ah (Ax l)=0->Ah (Ax k)=0->D5 s l k->FR s k e sf:=by
 induction h with
 |done s=>
  intro k _ _ _ hk;cases k with
  |nil=>exact FR.done s
  |cons q k=>simp[D5] at hk
 | @step s s' sf p l' rest e h1 h2 i=>
  intro k hs he hk h;cases k with
  |nil=>simp[D5] at h
  |cons q k=>
   unfold D5 at h;rw[Cb,Cb]at h;injection h with h3 c
   injection h3 with b h6
   obtain⟨d,a⟩:=Cu.1 he;obtain⟨a,f⟩:=Cu.1 a;obtain⟨f1,f2⟩:=Cu.1 hk;obtain⟨f2,f3⟩:=Cu.1 f2;obtain⟨g1,g2,g3,_⟩:=Sz hs (En hs d) (En hs a) (hs.goneT d) (hs.goneT a) h1;refine FR.step (by rw[<-b,<-h6]; exact h1) (i g1 (by rw[Gl]; exact Ho.2 ⟨g3,f⟩) (by rw[Gl]; exact Ho.2 ⟨g3,f3⟩) ?_);have g:D5 s' rest k:=D5.later g2 f f3 c;unfold D5 at g ⊢;rw[Cr,Cr,g]
 | @stop s p rest e h1=>
  intro k hs he hk h;cases k with
  |nil=>simp[D5] at h
  |cons q k=>
   unfold D5 at h;rw[Cb,Cb]at h;injection h with h3 c
   injection h3 with b h6
   exact FR.stop (by rw[<-b,<-h6]; exact h1)
structure Zp where
 nm:ByteArray
 t:Tm
 b:Nat
 o:Nat
def CN (Z:List Zp) (s:List Bd):Prop:=BG s/\(∀z∈Z,Al z.nm=true/\Ah [z.t]=0/\Ag s ⟨z.nm,[]⟩=Ag s z.t)/\(∀d∈s,∃z∈Z,z.nm=d.nm)/\∀z∈Z,∃d∈s,d.nm=z.nm
theorem eN:CN [] []:=⟨Ja,by simp,by simp,by simp⟩
theorem CN.unbound {Z:List Zp} {s:List Bd} (h:CN Z s) {n:ByteArray} (hn:∀z∈Z,z.nm≠n):∀d∈s,d.nm≠n:=λd hd e=>by
 obtain⟨z,hz,a⟩:=h.2.2.1 d hd;exact hn z hz (a.trans e)
theorem CN.fresh {Z:List Zp} {s:List Bd} (h:CN Z s) {n:ByteArray} (hn:∀d∈s,d.nm≠n):∀z∈Z,z.nm≠n:=λz hz e=>by
 obtain⟨d,hd,a⟩:=h.2.2.2 z hz;exact hn d hd (a.trans e)
theorem CN.errs {Z:List Zp} {s:List Bd} (h:CN Z s):∀z∈Z,Ah [z.t]=0:=λz hz=>(h.2.1 z hz).2.1
theorem CN.stands {Z:List Zp} {s:List Bd} (h:CN Z s) {t:Tm} (he:Ah [t]=0) (hv:Al t.name=true) {z:Zp} (hz:z∈Z) (hn:z.nm=t.name):Ag s z.t=Ag s t:=by
 rw[NA he hv,<-hn];exact(h.2.1 z hz).2.2.symm
def Eq (s:List Bd) (t:Tm):Prop:=Ah [t]=0/\(Al t.name=true->∀d∈s,d.nm≠t.name)
theorem SD {s:List Bd} {n:ByteArray} (h:∀d∈s,d.nm≠n):As s n=none:=by
 induction s with
 |nil=>rfl
 |cons d r a=>rw[As,Aj (h d (by simp))]; exact a λe he=>h e (by simp[he])
theorem Eq.var {s:List Bd} {t:Tm} (h:Eq s t) (hv:Al t.name=true):Ag s t=⟨t.name,[]⟩:=by
 rw[NA h.1 hv,FV,SD (h.2 hv)];rfl
theorem Jn {s:List Bd} (hs:BG s) {t:Tm} (hv:Al t.name=false):Ag s t=⟨t.name,Ap s t.args⟩:=by
 obtain⟨n,l⟩:=t;exact GT hs.vars hv l
theorem Eq.name {s:List Bd} (hs:BG s) {t:Tm} (h:Eq s t):(Ag s t).name=t.name:=by
 cases hv:Al t.name with
 |true=>rw[h.var hv]
 |false=>rw[Jn hs hv]
theorem NE (s:List Bd):∀l:List Tm,(Ap s l).length=l.length
 | []=>by simp[Ap]
 |t::r=>by rw[Bb,Bu,NE s r,Bu]
theorem CN.add {Z:List Zp} {s:List Bd} (h:CN Z s) {x:ByteArray} {t:Tm} (hx:Al x=true) (hn:∀d∈s,d.nm≠x) (he:Ah [t]=0) (ho:¬Au x [Ag s t]) (b o:Nat):CN (Z++[⟨x,t,b,o⟩]) (Cz s x (Ag s t)):=by
 have hs:=h.1;have a:=En hs he;have h1:=hs.add hx hn a (hs.goneT he) ho;have aa:∀y,Ah [y]=0->Ag (Cz s x (Ag s t)) y=Ag [⟨x,Ag s t⟩] (Ag s y):=λy hy=>by
  have h2:=Jb hs hx hn h1 [y] hy;rw[Bb,Bb,Bb]at h2;injection h2
 refine⟨h1,λz hz=>?_,λd hd=>?_,λz hz=>?_⟩
 ·rcases Bg.1 hz with hz|hz
  ·obtain⟨g1,g2,g3⟩:=h.2.1 z hz;exact⟨g1,g2,by rw[Lr hs.1 hn,g3,aa _ g2]⟩
  ·have e:z=⟨x,t,b,o⟩:=(by simpa using hz);subst e;refine⟨hx,he,?_⟩;show Ag (Cz s x (Ag s t)) ⟨x,[]⟩=Ag (Cz s x (Ag s t)) t;rw[Lr hs.1 hn,aa t he,FV s x,SD hn,J6 (s:=[⟨x,Ag s t⟩]) (t:=Ag s t) (λd hd=>by
    have e:d=⟨x,Ag s t⟩:=(by simpa using hd);rw[e]; exact ho)]
   simp[FV,As]
 ·have h8:=(EO (s.map (Br x (Ag s t))++[⟨x,Ag s t⟩])).subset hd;rcases Bg.1 h8 with h8|h8
  ·obtain⟨d',c,rfl⟩:=Ce.1 h8;obtain⟨z,hz,e⟩:=h.2.2.1 d' c;exact⟨z,by simp[hz],e⟩
  ·have e:d=⟨x,Ag s t⟩:=(by simpa using h8);exact⟨⟨x,t,b,o⟩,by simp,by rw[e]⟩
 ·have ab:∀d,d∈s.map (Br x (Ag s t))++[⟨x,Ag s t⟩]->d∈Cz s x (Ag s t):=λd hd=>(EO _).symm.subset hd;rcases Bg.1 hz with hz|hz
  ·obtain⟨d,hd,e⟩:=h.2.2.2 z hz;exact⟨Br x (Ag s t) d,ab _ (List.mem_append_left _ (Ce.2 ⟨d,hd,rfl⟩)),e⟩
  ·have e:z=⟨x,t,b,o⟩:=(by simpa using hz);exact⟨⟨x,Ag s t⟩,ab _ (by simp),by rw[e]⟩
theorem SE {x:ByteArray} {t:Tm} (hx:Al x=true) (h:Au x [t]):AJ x (At [] (Ao [t]))=true:=by
 by_cases hi:AJ x (At [] (Ao [t]))=true
 ·exact hi
 ·exact absurd h (Jc hx hi)
theorem SG {x:ByteArray} {t:Tm} (h:¬Au x [t]):¬AJ x (At [] (Ao [t]))=true:=λhi=>by
 unfold AJ at hi;rw[Ei]at hi;obtain⟨n,hn,e⟩:=hi;rcases Lk _ _ _ hn with hn|⟨k,hk,a,_⟩
 ·cases hn
 ·exact h ⟨k,hk,by rw[a]; first|exact(Eu (by simpa using e)).symm|exact Eu (by simpa using e)⟩
theorem eP {s:List Bd} {a b c b':Tm} (hs:BG s) (d:Ag s c=Ag s a) (hb:Ag s b'=Ag s b) (fa:Eq s c) (e:Eq s b') (hv:Al c.name=true) (hn:b'.name=c.name):FR s [⟨a,b⟩] 0 s:=by
 refine FR.step (s':=s) (l':=[]) ?_ (FR.done s);show D3 s (Ag s a) (Ag s b)=_;rw[<-d,<-hb];unfold D3;rw[fa.name hs,e.name hs,Ar hv,Ar hn.symm]
theorem SH {s:List Bd} {a b c b':Tm} (hs:BG s) (d:Ag s c=Ag s a) (hb:Ag s b'=Ag s b) (fa:Eq s c) (e:Eq s b') (h:(Al c.name=true/\b'.name≠c.name/\Au c.name [Ag s b'])∨(Al c.name=false/\Al b'.name=true/\Au b'.name [Ag s c])):FR s [⟨a,b⟩] 6 s:=by
 refine FR.stop ?_;show D3 s (Ag s a) (Ag s b)=_;rw[<-d,<-hb];unfold D3;rw[fa.name hs,e.name hs];rcases h with ⟨h1,h2,h3⟩|⟨h1,h2,h3⟩
 ·rw[Ar h1,Aj (Eh h2)];unfold Fk;rw[Ar (SE h1 h3)]
 ·rw[Aj (by rw[h1]; simp),Ar h2];unfold Fk;rw[Ar (SE h2 h3)]
theorem SI {s:List Bd} {a b c b':Tm} (hs:BG s) (d:Ag s c=Ag s a) (hb:Ag s b'=Ag s b) (fa:Eq s c) (e:Eq s b') {x:ByteArray} {u:Tm} (h:(Al c.name=true/\b'.name≠c.name/\x=c.name/\u=b')∨(Al c.name=false/\Al b'.name=true/\x=b'.name/\u=c)) (ho:¬Au x [Ag s u]):FR s [⟨a,b⟩] 0 (Cz s x (Ag s u)):=by
 refine FR.step (s':=Cz s x (Ag s u)) (l':=[]) ?_ (FR.done _);show D3 s (Ag s a) (Ag s b)=_;rw[<-d,<-hb];unfold D3;rw[fa.name hs,e.name hs];rcases h with ⟨h1,h2,rfl,rfl⟩|⟨h1,h2,rfl,rfl⟩
 ·rw[Ar h1,Aj (Eh h2)];unfold Fk;rw[Aj (SG ho)]
 ·rw[Aj (by rw[h1]; simp),Ar h2];unfold Fk;rw[Aj (SG ho)]
theorem SJ {s:List Bd} {a b c b':Tm} (hs:BG s) (f:Ag s c=Ag s a) (hb:Ag s b'=Ag s b) (d:Al c.name=false) (e:Al b'.name=false) (h:¬(c.name=b'.name/\c.args.length=b'.args.length)):FR s [⟨a,b⟩] 5 s:=by
 refine FR.stop ?_;show D3 s (Ag s a) (Ag s b)=_;rw[<-f,<-hb,Jn hs d,Jn hs e];unfold D3;rw[Aj (by rw[d]; simp),Aj (by rw[e]; simp),Aj (by simpa [NE] using h)]
theorem SL (s:List Bd):∀(a b:List Tm),(Az (Ap s a) (Ap s b))=(Az a b).map λp=>⟨Ag s p.l,Ag s p.r⟩
 | [],_=>by simp[Ap,Az]
 |_::_,[]=>by simp[Ap,Bb,Az]
 |x::a,y::b=>by rw[Bb,Bb,Az,Az,SL s a b]; rfl
theorem SM {s sf:List Bd} {a b c b':Tm} {e:Int} (hs:BG s) (k:Ag s c=Ag s a) (hb:Ag s b'=Ag s b) (d:Ah [c]=0) (f:Ah [b']=0) (g:Al c.name=false) (i:Al b'.name=false) (hn:c.name=b'.name) (m:c.args.length=b'.args.length) (h:FR s (Az c.args b'.args) e sf):FR s [⟨a,b⟩] e sf:=by
 refine FR.step (s':=s) (l':=Az (Ap s c.args) (Ap s b'.args)) ?_ ?_
 ·show D3 s (Ag s a) (Ag s b)=_;rw[<-k,<-hb,Jn hs g,Jn hs i];unfold D3;rw[Aj (by rw[g]; simp),Aj (by rw[i]; simp),Ar (by simpa [NE] using⟨hn,m⟩)]
 ·rw[List.append_nil];have j:=Iq (FF d) (FF f);have n:Ah (Ax (Az (Ap s c.args) (Ap s b'.args)))=0:=Iq (Io hs _ (FF d)) (Io hs _ (FF f));refine h.congr hs j n ?_;unfold D5;rw[SL,List.map_map];refine List.map_congr_left λp hp=>?_;obtain⟨f1,f2⟩:=LF j p hp;show(Ag s p.l,Ag s p.r)=(Ag s (Ag s p.l),Ag s (Ag s p.r));rw[(Jm hs).T f1,(Jm hs).T f2]
theorem SN:∀ {a b:List Tm} {k:Nat} (h:k<a.length) (h2:k<b.length),Az (a.take (k+1)) (b.take (k+1))=Az (a.take k) (b.take k)++[⟨a[k],b[k]⟩]
 |x::a,y::b,0,_,_=>by simp[Az]
 |x::a,y::b,k+1,h,h2=>by
  rw[Ff,Ff,Az,SN (k:=k) (by simpa using h) (by simpa using h2)];rfl
theorem SO:∀(a b:List Tm) (k:Nat),Az a b=Az (a.take k) (b.take k)++Az (a.drop k) (b.drop k)
 |a,b,0=>by simp[Az]
 | [],b,k+1=>by simp[Az]
 |x::a,[],k+1=>by simp[Az]
 |x::a,y::b,k+1=>by
  rw[Ff,Ff,L8,L8,Az,Az,SO a b k];rfl
theorem SP {s s' sf:List Bd} {a b:List Tm} {k:Nat} {e:Int} (h:k<a.length) (h2:k<b.length) (h0:FR s (Az (a.take k) (b.take k)) 0 s') (h1:FR s' [⟨a[k],b[k]⟩] e sf):FR s (Az (a.take (k+1)) (b.take (k+1))) e sf:=by
 rw[SN h h2];exact h0.append_ok rfl h1
theorem eR {s sf:List Bd} {a b:List Tm} (k:Nat) {e:Int} (he:e≠0) (h:FR s (Az (a.take k) (b.take k)) e sf):FR s (Az a b) e sf:=by
 rw[SO a b k];exact h.append_err he _
theorem SR {s s' sf:List Bd} {l:List Pr} {k:Nat} {e:Int} (h:k<l.length) (h0:FR s (l.take k) 0 s') (h1:FR s' [⟨l[k].l,l[k].r⟩] e sf):FR s (l.take (k+1)) e sf:=by
 rw[Bo h];exact h0.append_ok rfl h1
theorem eS {s sf:List Bd} {l:List Pr} (k:Nat) {e:Int} (he:e≠0) (h:FR s (l.take k) e sf):FR s l e sf:=by
 have h1:=h.append_err he (l.drop k);rwa [EJ] at h1
def DJ (w:World) (X:Nat->Prop) (b o:Nat) (t:Tm):Prop:=ER w X b o t/\X b
theorem DJ.exq {w w':World} {X Q:Nat->Prop} {b o:Nat} {t:Tm} (h:DJ w X b o t) (he:Am Q w w') (d:∀b,X b->¬Q b):DJ w' X b o t:=by
 obtain⟨⟨a,c,h1,h2,h3,f⟩,g⟩:=h;have e:=he.block b f (d b g);exact⟨⟨a,c,(CV e).trans h1,(CV e).trans h2,h3.exq he d,Cn f he.size⟩,g⟩
theorem DJ.sub {w:World} {X:Nat->Prop} {b o:Nat} {t:Tm} (h:DJ w X b o t):∃a c,w.cell? ⟨b,o+1,none⟩=some (.slice a t.args.length c)/\t.args.length<=9223372036854775807/\∀k (hk:k<t.args.length),∃b' o',a=some (zD b' o')/\DJ w X b' (o'+k*2) t.args[k]:=by
 obtain⟨⟨a,c,h1,h2,h3,h4⟩,_⟩:=h;refine⟨a,c,h2,h3.1,λk hk=>?_⟩;obtain⟨b',o',d,c',rfl,d0,d1,hx⟩:=h3.get (Af _ _) (λ_ _ h=>h) k hk;obtain⟨a2,c2,e,hx⟩:=hx;cases e;have f:X b':=by
  obtain⟨_,h1⟩:=h3;rcases h1 with h1|⟨b2,o2,e',h1⟩
  ·rw[h1]at hk; simp at hk
  ·cases e'; exact(Ge _ _ _ h1 k hk).1
 exact⟨b',o',rfl,⟨d,c',d0,d1,hx,Ej d0⟩,f⟩
def GZ (z:Zp):ByteArray×Value:=(z.nm,.pointer (some ⟨z.b,z.o,none⟩))
def CU (w:World) (S q:Nat) (X:Nat->Prop) (Z:List Zp) (left:Int):Prop:=
 Ac w S #[.map (some q),zA left] 142/\Bm w q (Z.map GZ)/\(∀z∈Z,DJ w X z.b z.o z.t)/\∀b,X b->b≠S/\b≠q
def Cv (S q:Nat):Nat->Prop:=λb=>b=S∨b=q
theorem CU.ne {w:World} {S q:Nat} {X:Nat->Prop} {Z:List Zp} {left:Int} (h:CU w S q X Z left):S≠q:=λe=>by
 obtain⟨es,aa,h1,_⟩:=h.2.1;have h2:=h.1;unfold Ac at h2;rw[e,h1]at h2; cases h2
theorem CU.X {w:World} {S q:Nat} {X:Nat->Prop} {Z:List Zp} {left:Int} (h:CU w S q X Z left):∀b,X b->¬Cv S q b:=λb hb hq=>by
 rcases hq with e|e
 ·exact(h.2.2.2 b hb).1 e
 ·exact(h.2.2.2 b hb).2 e
theorem CU.later {w w':World} {S q:Nat} {X:Nat->Prop} {Z:List Zp} {left:Int} (h:CU w S q X Z left) (hb:Below w.heap.size w w'):CU w' S q X Z left:=
 ⟨h.1.below hb h.1.lt,h.2.1.below hb h.2.1.lt,λz hz=>(h.2.2.1 z hz).exq (Am.ofBelow (Q:=Cv S q) hb) h.X,h.2.2.2⟩
theorem CU.spend {w:World} {S q:Nat} {X:Nat->Prop} {Z:List Zp} {left:Int} (h:CU w S q X Z left) (n:Int):CU (w.setCell (zD S 1) (zA n)) S q X Z n:=
 ⟨by have:=h.1.set 1 (zA n); simpa using this,h.2.1.kept (Aq _ _ _ _ (by simpa using h.ne.symm)),λz hz=>(h.2.2.1 z hz).exq ((Am.refl (Cv S q) w).set (Ad rfl) 1 _) h.X,h.2.2.2⟩
theorem SS {Z:List Zp} {n:ByteArray}:(Be (Z.map GZ) n=none/\∀z∈Z,z.nm≠n)∨∃z∈Z,z.nm=n/\Be (Z.map GZ) n=some (.pointer (some ⟨z.b,z.o,none⟩)):=by
 induction Z with
 |nil=>exact Ad ⟨rfl,by simp⟩
 |cons y r a=>
  by_cases hn:y.nm=n
  ·exact Ae ⟨y,by simp,hn,by simp[Be,GZ,hn]⟩
  ·rcases a with ⟨h1,h2⟩|⟨z,hz,h1,h2⟩
   ·refine Ad ⟨by rw[Cb,Be,Aj (by simpa [GZ] using hn)]; exact h1,λz hz=>?_⟩;rcases Bq.1 hz with rfl|hz
    ·exact hn
    ·exact h2 z hz
   ·exact Ae ⟨z,by simp[hz],h1,by rw[Cb,Be,Aj (by simpa [GZ] using hn)]; exact h2⟩
def eT (w:World) (S q:Nat) (X:Nat->Prop) (Z:List Zp) (left:Int) (t:Tm) (e:Ending) (w':World):Prop:=
 ∃(b o:Nat) (t':Tm) (n:Int),e=.returned (.pointer (some (zD b o)))/\CU w' S q X Z n/\DJ w' X b o t'/\Am (Cv S q) w w'/\n<=left/\(-1<=n∨n=left)/\Ah [t']=0/\∀s,CN Z s->Ag s t'=Ag s t/\(0<=n->Eq s t')
def eU (w:World) (S q:Nat) (X:Nat->Prop) (Z:List Zp) (left:Int) (t:Tm) (g:Nat) (tv:Value) (wr:World):Prop:=
 ∃(b o:Nat) (t':Tm) (n:Int),g=(n+1).toNat/\tv=.pointer (some (zD b o))/\CU wr S q X Z n/\DJ wr X b o t'/\Am (Cv S q) w wr/\n<=left/\(-1<=n∨n=left)/\Ah [t']=0/\∀s,CN Z s->Ag s t'=Ag s t
theorem LG (S q:Nat) (X:Nat->Prop) (Z:List Zp) (J:∀z∈Z,Ah [z.t]=0) (left:Int) (t:Tm) (b o:Nat) (w:World) (A:CU w S q X Z left) (hl:-100<=left) (ay:left<=100000) (ht:DJ w X b o t) (he:Ah [t]=0):
  Calls prog 123 #[zC S,.pointer (some (zD b o))] w λe w'=>eT w S q X Z left t e w':=by
 have L:=Aa A;have M:=Aa ht;have N:=Aa he;clear A ht;go_enter func123,ntmps123;go_wp2_with fail;go_loopg [1] (left+1).toNat (λg O wr=>eU w S q X Z left t g O wr)
 case atStart=>exact⟨b,o,t,left,rfl,rfl,L.o,M.o,Am.refl _ _,Int.le_refl _,Ae rfl,N.o,λ_ _=>rfl⟩
 case round=>
  obtain⟨a,c,t1,n,rfl,rfl,j,B,C,m,r,ab,D⟩:=hrel;have aa:=Aa j;have u:=Aa B;have k:=Aa C;have l:=Aa D;have s1:wr.cell? (zD S 1)=some (zA n):=j.1.cell 1;have R:=j.1.c0;obtain⟨⟨a1,c1,T,p1,az,a6⟩,a7⟩:=B;clear j C D;by_cases a8:0<=n
  ·cases d:Al t1.name with
   |false=>have f:Hid (∀s,CN Z s->Ag s t1=Ag s t/\(0<=n->Eq s t1)):=λs hs=>⟨l.o s hs,λ_=>⟨ab,λh=>by rw[d] at h; cases h⟩⟩;go_wp2_with (go_at_call 59; refine(CG _ _).mono ?_; rintro e wr ⟨rfl,rfl⟩; rw[d]);refine An (v:=.pointer (some (zD a c))) (by simp[results,results123,go_sem]) rfl ?_;exact⟨a,c,t1,n,rfl,aa.o,u.o,k.o,m,r,ab,f.o⟩
   |true=>
    have hz:∀w',(zeroValue 144).run prog w'=.ok (.pointer none) w':=λw'=>zeroValue144 w';have E:=Aa (And.intro R T);rcases SS (Z:=Z) (n:=t1.name) with ⟨i,F⟩|⟨z,x,G,i⟩
    ·have f:Hid (∀s,CN Z s->Ag s t1=Ag s t/\(0<=n->Eq s t1)):=λs hs=>⟨l.o s hs,λ_=>⟨ab,λ_=>hs.unbound F⟩⟩;have U:(Instr.lookup 140 (.map (some q)) (.string t1.name) true).run prog wr.drew=.ok (.tuple #[.pointer none,.bool false]) wr.drew:=(by rw[E9 (P:=prog) underlying140 underlying9 (hz _) (show Bm wr.drew q (Z.map GZ) from aa.o.2.1) t1.name,i]; rfl);clear i F;go_wp2_with (go_at_call 59; refine(CG _ _).mono ?_; rintro e wr ⟨rfl,rfl⟩; rw[d]);go_region_held3 (λw'=>w'.cell? (zD S 0)=some (.map (some q))/\w'.cell? (zD a c)=some (.string t1.name)) (first|exact E.o|go_keep) (fail);go_wp2_with fail;refine An (v:=.pointer (some (zD a c))) (by simp[results,results123,go_sem]) rfl ?_;have y:Below wr.heap.size wr wr.drew:=(Af _ _).drew;exact⟨a,c,t1,n,rfl,aa.o.later y,u.o.exq (Am.ofBelow (Q:=Cv S q) y) aa.o.X,k.o.drew,m,r,ab,f.o⟩
    ·have f:Hid (∀s,CN Z s->Ag s z.t=Ag s t):=λs hs=>(hs.stands ab d x G).trans (l.o s hs);have H:=Aa x;have U:(Instr.lookup 140 (.map (some q)) (.string t1.name) true).run prog wr.drew=.ok (.tuple #[.pointer (some ⟨z.b,z.o,none⟩),.bool true]) wr.drew:=(by rw[E9 (P:=prog) underlying140 underlying9 (hz _) (show Bm wr.drew q (Z.map GZ) from aa.o.2.1) t1.name,i]; rfl);have aA:wr.drew.cell? (zD S 1)=some (zA n):=s1;have aB:wr.drew.frozen? (zD S 1)=false:=aa.o.1.frozen 1;clear i x G;go_wp2_with (go_at_call 59; refine(CG _ _).mono ?_; rintro e wr ⟨rfl,rfl⟩; rw[d]);go_region_held3 (λw'=>w'.cell? (zD S 0)=some (.map (some q))/\w'.cell? (zD a c)=some (.string t1.name)) (first|exact E.o|go_keep) (fail);have av:IntKind.i64.wrap (n-1)=n-1:=by rw[EZ]; omega
     go_wp2_with fail;have y:Below wr.heap.size wr wr.drew:=(Af _ _).drew;have I:Am (Cv S q) wr (wr.setCell (zD S 1) (zA (n-1))).drew:=((Am.refl (Cv S q) wr).set (Ad rfl) 1 _).drew;go_roundg ((n-1)+1).toNat
     case rel=>exact⟨z.b,z.o,z.t,n-1,rfl,rfl,(aa.o.spend (n-1)).later ((Af _ _).drew),(aa.o.2.2.1 z H.o).exq I aa.o.X,k.o.trans I,by omega,by omega,J z H.o,f.o⟩
     case measure=>omega
  ·go_wp2_with fail;refine An (v:=.pointer (some (zD a c))) (by simp[results,results123,go_sem]) rfl ?_;exact⟨a,c,t1,n,rfl,aa.o,u.o,k.o,m,r,ab,λs hs=>⟨l.o s hs,λh=>absurd h (by omega)⟩⟩
theorem Eq.knot {s:List Bd} (hs:BG s) {t:Tm} (h:Eq s t):Ag s t=⟨t.name,Ap s t.args⟩:=by
 cases hv:Al t.name with
 |false=>exact Jn hs hv
 |true=>
  rw[h.var hv];have e:t.args=[]:=by rw[NA h.1 hv]
  rw[e];simp[Ap]
theorem ST {s:List Bd} {x:ByteArray}:∀ {l:List Tm},Au x (Ap s l)↔∃k,∃h:k<l.length,Au x [Ag s l[k]]
 | []=>by
  simp only[Ap];exact⟨λh=>absurd h FD,λ⟨k,h,_⟩=>absurd h (by simp)⟩
 |t::r=>by
  rw[Bb,BO,ST (l:=r)];constructor
  ·rintro(h|⟨k,hk,h⟩)
   ·exact⟨0,by simp,h⟩
   ·exact⟨k+1,by simpa using hk,h⟩
  ·rintro⟨k,hk,h⟩;cases k with
   |zero=>exact Ad h
   |succ k=>exact Ae ⟨k,by simpa using hk,h⟩
theorem Kd:∀ {l:List Tm},Ah l=0->∀k (h:k<l.length),Ah [l[k]]=0
 |t::r,he,0,_=>(Cu.1 he).1
 |t::r,he,k+1,h=>Kd (Cu.1 he).2 k (by simpa using h)
def eV (w:World) (S q:Nat) (X:Nat->Prop) (Z:List Zp) (left:Int) (t:Tm) (x:ByteArray) (e:Ending) (w':World):Prop:=
 ∃(r:Bool) (n:Int),e=.returned (.bool r)/\CU w' S q X Z n/\Am (Cv S q) w w'/\n<left/\-2<=n/\(n<0->r=true)/\(0<=n->∀s,CN Z s->(∀d∈s,d.nm≠x)->(r=true↔Au x [Ag s t]))
def eX (w:World) (S q:Nat) (X:Nat->Prop) (Z:List Zp) (left:Int) (b1 o1:Nat) (t1:Tm) (x:ByteArray) (i:Value) (wr:World):Prop:=
 ∃(k:Nat) (n:Int),k<=t1.args.length/\i=zA k/\DJ wr X b1 o1 t1/\CU wr S q X Z n/\Am (Cv S q) w wr/\n<left/\0<=n/\∀s,CN Z s->(∀d∈s,d.nm≠x)->∀j (h:j<t1.args.length),j<k->¬Au x [Ag s t1.args[j]]
theorem eY (S q:Nat) (X:Nat->Prop) (Z:List Zp) (hZ:∀z∈Z,Ah [z.t]=0) (x:ByteArray) (m:Nat):∀(left:Int) (t:Tm) (b o:Nat) (w:World),left.toNat=m->0<=left->left<=100000->CU w S q X Z left->DJ w X b o t->Ah [t]=0->
  Calls prog 142 #[zC S,.pointer (some (zD b o)),.string x] w λe w'=>eV w S q X Z left t x e w':=by
 induction m using Nat.strongRecOn with
 |_ m C=>
  intro left t b o w hm h0 h1 D hP he;have IH:=Aa C;have HS:=Aa D;have HP:=Aa hP;clear C D hP;go_enter func142,ntmps142;go_wp2_with fail;refine(LG S q X Z hZ left t b o w HS.o (by omega) h1 HP.o he).mono ?_;rintro e w1 ⟨b1,o1,t1,n,rfl,aa,c,d,aO,aP,aG,E⟩;have aQ:=Aa aa;have aR:=Aa c;have aS:=Aa d;have F:=Aa E;have s1:w1.cell? (zD S 1)=some (zA n):=aa.1.cell 1;have f1:w1.frozen? (zD S 1)=false:=aa.1.frozen 1;have ar:IntKind.i64.wrap (n-1)=n-1:=by rw[EZ]; omega
  have f:Am (Cv S q) w1 (w1.setCell (zD S 1) (zA (n-1))):=(Am.refl (Cv S q) w1).set (Ad rfl) 1 _;have g:=Aa (d.trans f);have l:=Aa (aa.spend (n-1));have G:=Aa (c.exq f aa.X);have aH:=Aa aa.X;obtain⟨⟨a1,c1,p0,p1,H,aT⟩,aU⟩:=G.o;have aV:=H.1;clear aa d E c H f;by_cases hlt:n-1<0
  ·go_wp2_with fail;refine An (v:=.bool true) (by simp[results,results142,go_sem]) rfl ?_;exact⟨true,n-1,rfl,l.o,g.o,by omega,by omega,λ_=>rfl,λh=>absurd h (by omega)⟩
  ·have a:Hid (∀s,CN Z s->Ag s t1=Ag s t/\Ag s t1=⟨t1.name,Ap s t1.args⟩):=λs hs=>⟨(F.o s hs).1,((F.o s hs).2 (by omega)).knot hs.1⟩;cases r:(t1.name.toList==x.toList) with
   |true=>have hx:t1.name=x:=Eu (by simpa using r);go_wp2_with fail;refine An (v:=.bool true) (by simp[results,results142,go_sem]) rfl ?_;refine⟨true,n-1,rfl,l.o,g.o,by omega,by omega,λ_=>rfl,λ_ s hs _=>⟨λ_=>?_,λ_=>rfl⟩⟩;rw[<- (a.o s hs).1,(a.o s hs).2,<-hx];exact Dm.2 (Ad rfl)
   |false=>
    have HX:Hid (t1.name≠x):=λe=>by rw[e] at r; simp at r
    have I:Hid (∀s,CN Z s->(Au x [Ag s t]↔∃k,∃h:k<t1.args.length,Au x [Ag s t1.args[k]])):=λs hs=>by
     rw[<- (a.o s hs).1,(a.o s hs).2,Dm,ST];exact⟨λh=>h.elim (λe=>absurd e HX.o) (λh=>h.elim id λh=>absurd h FD),λh=>Ae (Ad h)⟩
    have aI:Ah t1.args=0:=FF aG;go_wp2_with fail;go_loopw [36] (λi wr=>eX w S q X Z left b1 o1 t1 x i wr) (λi wr=>t1.args.length-(intOf i).toNat);case atStart=>exact⟨0,n-1,AG _,rfl,G.o,l.o,g.o,by omega,by omega,λ_ _ _ j _ h=>absurd h (by omega)⟩
    case round=>
     obtain⟨k,u,hk,rfl,y,J,L,aW,aJ,M⟩:=hrel;have aK:=Aa y;have N:=Aa J;have O:=Aa L;have P:=Aa M;obtain⟨a',c',q1,_,ab⟩:=y.sub;clear y J L M p0 p1;by_cases A:k<t1.args.length
     ·obtain⟨b',o',rfl,hx⟩:=ab k A;have aX:(k:Int)<(t1.args.length:Int):=(by omega);have aL:=Aa (IH.o u.toNat (by omega) u t1.args[k] b' (o'+k*2) wr rfl aJ (by omega) N.o hx (Kd aI k A));have aY:=Aa hx;clear ab hx;go_wp2_with fail;refine aL.o.mono ?_;rintro e w5 ⟨r5,n5,rfl,R,B,aZ,ba,aM,T⟩;have U:=Aa R;have V:=Aa (O.o.trans B);have aN:=Aa (aK.o.exq B aH.o);have W:=Aa T;clear R B T;cases r5 with
      |true=>go_wp2_with fail;refine An (v:=.bool true) (by simp[results,results142,go_sem]) rfl ?_;refine⟨true,n5,rfl,U.o,V.o,by omega,by omega,λ_=>rfl,λh5 s hs hu=>⟨λ_=>?_,λ_=>rfl⟩⟩;exact(I.o s hs).2 ⟨k,A,(W.o h5 s hs hu).1 (by simp)⟩
      |false=>
       have Y:0<=n5:=by
        by_cases h:n5<0
        ·have:=aM h; cases this
        ·omega
       go_wp2_with fail;go_roundw
       case rel => exact ⟨k + 1, n5, by omega, by go_num, aN.o, U.o, V.o, by omega, Y, λs hs hu j h hj => by
        by_cases e:j=k
        ·subst e;intro hoc;have:=(W.o Y s hs hu).2 hoc;cases this
        ·exact P.o s hs hu j h (by omega)⟩
       case measure=>simp[intOf]; omega
     ·clear ab;go_wp2_with fail;refine An (v:=.bool false) (by simp[results,results142,go_sem]) rfl ?_;refine⟨false,u,rfl,N.o,O.o,by omega,by omega,λh=>absurd h (by omega),λ_ s hs hu=>⟨(λh=>absurd h (by simp)),λh=>?_⟩⟩;obtain⟨j,hj,hoc⟩:=(I.o s hs).1 h;exact absurd hoc (P.o s hs hu j hj (by omega))
def eZ (w:World) (S q:Nat) (X:Nat->Prop) (Z:List Zp) (s:List Bd) (left:Int) (x:ByteArray) (u:Tm) (b o:Nat) (e:Ending) (w':World):Prop:=
 ∃(code n:Int) (Z':List Zp),e=.returned (zA code)/\CU w' S q X Z' n/\(∀z∈Z',Ah [z.t]=0)/\Am (Cv S q) w w'/\n<=left/\-2<=n/\(n<0->code≠0)/\
  ((u.name=x/\code=0/\Z'=Z)∨(u.name≠x/\code=6/\Z'=Z/\(0<=n->Au x [Ag s u]))∨(u.name≠x/\code=0/\Z'=Z++[⟨x,u,b,o⟩]/\¬Au x [Ag s u]))
theorem SW (S q:Nat) (X:Nat->Prop) (Z:List Zp) (s:List Bd) (g:CN Z s) (x:ByteArray) (hx:∀d∈s,d.nm≠x) (left:Int) (u:Tm) (b o:Nat) (w:World) (h0:0<=left) (h1:left<=100000) (A:CU w S q X Z left) (hP:DJ w X b o u) (he:Ah [u]=0):
  Calls prog 124 #[zC S,.string x,.pointer (some (zD b o))] w λe w'=>eZ w S q X Z s left x u b o e w':=by
 have B:=Aa A;have C:=Aa hP;have i:=Aa g;have a:=Aa g.errs;have j:=Aa hx;obtain⟨⟨a1,c1,p0,p1,N,a7⟩,a8⟩:=hP;clear A g N hx;cases l:(u.name.toList==x.toList) with
 |true=>have hn:u.name=x:=Eu (by simpa using l);go_enter func124,ntmps124;go_wp2_with fail;refine An (v:=zA 0) (by simp[results,results124,go_sem]) rfl ?_;exact⟨0,left,Z,rfl,B.o,a.o,Am.refl _ _,Int.le_refl _,by omega,λh=>absurd h (by omega),Ad ⟨hn,rfl,rfl⟩⟩
 |false=>
  have D:Hid (u.name≠x):=λe=>by rw[e] at l; simp at l
  go_enter func124,ntmps124;go_wp2_with fail;refine(eY S q X Z a.o x left.toNat left u b o w rfl h0 h1 B.o C.o he).mono ?_;rintro e w1 ⟨r,n,rfl,aa,ab,aA,E,O,m⟩;have R:=Aa aa;have T:=Aa ab;have F:=Aa m;cases r with
  |true=>clear aa ab m;go_wp2_with fail;refine An (v:=zA 6) (by simp[results,results124,go_sem]) rfl ?_;exact⟨6,n,Z,rfl,R.o,a.o,T.o,by omega,E,λ_=>by decide,Ae (Ad ⟨D.o,rfl,rfl,λh=>(F.o h s i.o j.o).1 (by simp)⟩)⟩
  |false=>
   have U:0<=n:=by
    by_cases h:n<0
    ·have:=O h; cases this
    ·omega
   have V:Hid (¬Au x [Ag s u]):=λhoc=>by
    have:=(F.o U s i.o j.o).2 hoc;cases this
   have c:Be (Z.map GZ) x=none:=by
    rcases SS (Z:=Z) (n:=x) with ⟨c,_⟩|⟨z,hz,e,_⟩
    ·exact c
    ·exact absurd e (i.o.fresh j.o z hz)
   have s0:w1.cell? (zD S 0)=some (.map (some q)):=aa.1.cell 0;obtain⟨G,ax,H,I,J,L,M,y⟩:=JN (P:=prog) underlying140 underlying9 aa.2.1 x (.pointer (some (zD b o))) c;have f:Am (Cv S q) w1 G:=⟨J,L,M,by rw[I]; exact Ai _,λk hk hn=>y k (λe=>hn (Ae e))⟩;have W:=Aa (ab.trans f);have Y:Hid (CU G S q X (Z++[⟨x,u,b,o⟩]) n):=by
    refine⟨?_,by rw[Cr]; exact H,λz hz=>?_,aa.2.2.2⟩
    ·have h2:=aa.1;unfold Ac at h2 ⊢;rw[y S aa.ne]; exact h2
    ·rcases Bg.1 hz with hz|hz
     ·exact(aa.2.2.1 z hz).exq f aa.X
     ·have e:z=⟨x,u,b,o⟩:=(by simpa using hz);subst e;exact(C.o.exq ab aa.X).exq f aa.X
   have a6:Hid (∀z∈Z++[(⟨x,u,b,o⟩:Zp)],Ah [z.t]=0):=λz hz=>by
    rcases Bg.1 hz with hz|hz
    ·exact a.o z hz
    ·have e:z=⟨x,u,b,o⟩:=(by simpa using hz);subst e; exact he
   clear aa ab m H I J L M y f c;go_wp2_with fail;refine An (v:=zA 0) (by simp[results,results124,go_sem]) rfl ?_;exact⟨0,n,_,rfl,Y.o,a6.o,W.o,by omega,E,λh=>absurd h (by omega),Ae (Ae ⟨D.o,rfl,rfl,V.o⟩)⟩
def fA (w:World) (S q:Nat) (X:Nat->Prop) (Z:List Zp) (left:Int) (t:Tm) (before:Nat) (e:Ending) (w':World):Prop:=
 ∃(c:Nat) (n:Int),e=.returned (zA c)/\CU w' S q X Z n/\Am (Cv S q) w w'/\n<=left/\(-1<=n∨n=left)/\before<c/\c<=2001/\(n<0->2000<c)/\∀s,CN Z s->c<=2000->c=before+Ab [Ag s t]
def fB (w:World) (S q:Nat) (X:Nat->Prop) (Z:List Zp) (left:Int) (b1 o1:Nat) (t1:Tm) (before:Nat) (cv i:Value) (wr:World):Prop:=
 ∃(k c:Nat) (n:Int),k<=t1.args.length/\i=zA k/\cv=zA c/\DJ wr X b1 o1 t1/\CU wr S q X Z n/\Am (Cv S q) w wr/\n<=left/\(-1<=n∨n=left)/\before<c/\c<=2001/\(n<0->2000<c)/\∀s,CN Z s->c<=2000->c=before+1+Ab (Ap s (t1.args.take k))
theorem SY (S q:Nat) (X:Nat->Prop) (Z:List Zp) (W:∀z∈Z,Ah [z.t]=0) (m:Nat):∀(before:Nat) (left:Int) (t:Tm) (b o:Nat) (w:World),2001-before=m->before<=2000→-100<=left->left<=100000->CU w S q X Z left->DJ w X b o t->Ah [t]=0->
  Calls prog 125 #[zC S,.pointer (some (zD b o)),zA before] w λe w'=>fA w S q X Z left t before e w':=by
 induction m using Nat.strongRecOn with
 |_ m r=>
  intro before left t b o w hm aS h0 h1 u hP he;have Y:=Aa r;have HS:=Aa u;have HP:=Aa hP;clear r u hP;go_enter func125,ntmps125;go_wp2_with fail;refine(LG S q X Z W left t b o w HS.o h0 h1 HP.o he).mono ?_;rintro e w1 ⟨b1,o1,t1,n,rfl,ab,x,y,A,B,aF,C⟩;have D:=Aa ab;have aG:=Aa x;have E:=Aa y;have F:=Aa C;have aH:=Aa ab.X;have s1:w1.cell? (zD S 1)=some (zA n):=ab.1.cell 1;obtain⟨⟨a1,c1,p0,p1,G,aT⟩,aU⟩:=x;have aV:=G.1;clear ab y C G;by_cases hlt:n<0
  ·go_wp2_with fail;refine An (v:=zA 2001) (by simp[results,results125,go_sem]) rfl ?_;exact⟨2001,n,rfl,D.o,E.o,A,B,by omega,by omega,λ_=>by omega,λ_ _ h=>absurd h (by omega)⟩
  ·have aI:Hid (∀s,CN Z s->Ab [Ag s t]=1+Ab (Ap s t1.args)):=λs hs=>by
    rw[<- (F.o s hs).1,((F.o s hs).2 (by omega)).knot hs.1,Jg]
   have aw:IntKind.i64.wrap ((before:Int)+1)=(before:Int)+1:=by rw[EZ]; omega
   have aJ:Ah t1.args=0:=FF aF;go_wp2_with fail;go_loopw [7,24] (λH i wr=>fB w S q X Z left b1 o1 t1 before H i wr) (λH i wr=>t1.args.length-(intOf i).toNat);case atStart=>exact⟨0,before+1,n,AG _,rfl,by go_num,aG.o,D.o,E.o,A,B,by omega,by omega,λh=>absurd h (by omega),λs _ _=>by simp[Ap,Ab]⟩
   case round=>
    obtain⟨k,c,a,hk,rfl,rfl,d,I,J,L,M,N,O,P,R⟩:=hrel;have aK:=Aa d;have f:=Aa I;have g:=Aa J;have T:=Aa R;obtain⟨a',c',q1,_,aa⟩:=d.sub;clear d I J R p0 p1;by_cases j:k<t1.args.length
    ·have aW:(k:Int)<(t1.args.length:Int):=(by omega);by_cases aX:2000<c
     ·have ah:(2000:Int)<(c:Int):=(by omega);clear aa;go_wp2_with fail;refine An (v:=zA c) (by simp[results,results125,go_sem]) rfl ?_;exact⟨c,a,rfl,f.o,g.o,L,M,N,O,P,λ_ _ h=>absurd h (by omega)⟩
     ·have ah:¬(2000:Int)<(c:Int):=(by omega);obtain⟨b',o',rfl,hx⟩:=aa k j;have aL:=Aa (Y.o (2001-c) (by omega) c a t1.args[k] b' (o'+k*2) wr rfl (by omega) (by omega) (by omega) f.o hx (Kd aJ k j));clear aa hx;go_wp2_with fail;refine aL.o.mono ?_;rintro e w5 ⟨c5,n5,rfl,U,l,aY,aZ,ba,aM,aN,V⟩;have aO:=Aa U;have aP:=Aa (g.o.trans l);have aQ:=Aa (aK.o.exq l aH.o);have aR:=Aa V;clear U l V;go_wp2_with fail;go_roundw
      case rel => exact ⟨k + 1, c5, n5, by omega, by go_num, rfl, aQ.o, aO.o, aP.o, by omega, by omega, by omega, aM, aN, λs hs h => by
       have h6:=T.o s hs (by omega);have h7:=aR.o s hs h;rw[Bo j,Ic,Eb,Bb];simp only[Ap];omega⟩
      case measure=>simp[intOf]; omega
    ·clear aa;go_wp2_with fail;refine An (v:=zA c) (by simp[results,results125,go_sem]) rfl ?_;refine⟨c,a,rfl,f.o,g.o,L,M,N,O,P,λs hs h=>?_⟩;have h6:=T.o s hs h;rw[AX (by omega)]at h6;rw[aI.o s hs];omega
def fC (w:World) (S q:Nat) (X:Nat->Prop) (s:List Bd) (left:Int) (a b:Tm) (e:Ending) (w':World):Prop:=
 ∃(code n:Int) (Z':List Zp),e=.returned (zA code)/\CU w' S q X Z' n/\(∀z∈Z',Ah [z.t]=0)/\Am (Cv S q) w w'/\n<left/\-2<=n/\(n<0->code≠0)/\(0<=n->∃s',CN Z' s'/\FR s [⟨a,b⟩] code s')
def fD (w:World) (S q:Nat) (X:Nat->Prop) (s:List Bd) (left:Int) (b1 o1 b2 o2:Nat) (a1 a2:Tm) (i:Value) (wr:World):Prop:=
 ∃(k:Nat) (n:Int) (Z':List Zp) (s':List Bd),k<=a1.args.length/\i=zA k/\DJ wr X b1 o1 a1/\DJ wr X b2 o2 a2/\CU wr S q X Z' n/\Am (Cv S q) w wr/\n<left/\0<=n/\CN Z' s'/\FR s (Az (a1.args.take k) (a2.args.take k)) 0 s'
theorem fE (S q:Nat) (X:Nat->Prop) (m:Nat):∀(left:Int) (Z:List Zp) (s:List Bd) (a b:Tm) (ba oa bb ob:Nat) (w:World),left.toNat=m->0<=left->left<=100000->CN Z s->CU w S q X Z left->DJ w X ba oa a->DJ w X bb ob b->Ah [a]=0->Ah [b]=0->
  Calls prog 106 #[zC S,.pointer (some (zD ba oa)),.pointer (some (zD bb ob))] w λe w'=>fC w S q X s left a b e w':=by
 induction m using Nat.strongRecOn with
 |_ m ih=>
  intro left Z s a b ba oa bb ob w hm h0 h1 hC hS bk bl b8 b9;have IH:=Aa ih;have HS:=Aa hS;have f:=Aa hC;have P:=Aa hC.errs;have bA:=Aa bk;have bB:=Aa bl;clear ih hS bk bl hC;go_enter func106,ntmps106;go_wp2_with fail;refine(LG S q X Z P.o left a ba oa w HS.o (by omega) h1 bA.o b8).mono ?_;rintro e w1 ⟨g,l,a1,n1,rfl,aQ,bm,aR,bX,bY,R,bn⟩;have bC:=Aa aQ;have bD:=Aa bm;have bE:=Aa aR;have y:=Aa (bn s f.o);have aS:=Aa (bB.o.exq aR aQ.X);clear aQ bm aR bn;go_wp2_with fail;refine(LG S q X Z P.o n1 b bb ob w1 bC.o (by omega) (by omega) aS.o b9).mono ?_;rintro e w2 ⟨j,n,a2,c,rfl,C,bo,aT,bZ,ca,T,bp⟩;have z:=Aa (bp s f.o);have aM:Am (Cv S q) w2 (w2.setCell (zD S 1) (zA (c-1))):=(Am.refl (Cv S q) w2).set (Ad rfl) 1 _;have J:=Aa ((bE.o.trans aT).trans aM);have L:=Aa (C.spend (c-1));have ar:=Aa ((bD.o.exq aT C.X).exq aM C.X);have au:=Aa (bo.exq aM C.X);have A:=Aa C.X;have s1:w2.cell? (zD S 1)=some (zA c):=C.1.cell 1;have f1:w2.frozen? (zD S 1)=false:=C.1.frozen 1;have bq:IntKind.i64.wrap (c-1)=c-1:=by rw[EZ]; omega
  obtain⟨⟨x1,c1,p0,p1,aA,bF⟩,bG⟩:=ar.o;obtain⟨⟨x2,c2,r0,r1,aB,bH⟩,bI⟩:=au.o;have cb:=aA.1;have bJ:=aB.1;clear C bo aT bp aM aA aB;by_cases hlt:c-1<0
  ·go_wp2_with fail;refine An (v:=zA 8) (by simp[results,results106,go_sem]) rfl ?_;exact⟨8,c-1,Z,rfl,L.o,P.o,J.o,by omega,by omega,λ_=>by decide,λh=>absurd h (by omega)⟩
  ·have H:Hid (Eq s a1):=y.o.2 (by omega);have I:Hid (Eq s a2):=z.o.2 (by omega);have hs:BG s:=f.o.1;have B:=Aa hs;clear hs;cases ab:Al a1.name with
   |true=>
    go_wp2_with (go_at_call 59; refine(CG _ _).mono ?_; rintro e w9 ⟨rfl,rfl⟩; rw[ab]);refine(SW S q X Z s f.o a1.name (H.o.2 ab) (c-1) a2 j n _ (by omega) (by omega) L.o au.o T).mono ?_;rintro e D ⟨code,n5,M,rfl,E,F,r,br,U,V,hcs⟩;have N:=Aa E;have W:=Aa F;have O:=Aa (J.o.trans r);clear E F r;go_wp2_with fail;refine An (v:=zA code) (by simp[results,results106,go_sem]) rfl ?_;refine⟨code,n5,M,rfl,N.o,W.o,O.o,by omega,U,V,λG=>?_⟩;rcases hcs with ⟨g1,rfl,rfl⟩|⟨g1,rfl,rfl,g2⟩|⟨g1,rfl,rfl,g2⟩
    ·exact⟨s,f.o,eP B.o y.o.1 z.o.1 H.o I.o ab g1⟩
    ·exact⟨s,f.o,SH B.o y.o.1 z.o.1 H.o I.o (Ad ⟨ab,g1,g2 G⟩)⟩
    ·exact⟨_,f.o.add ab (H.o.2 ab) T g2 j n,SI B.o y.o.1 z.o.1 H.o I.o (Ad ⟨ab,g1,rfl,rfl⟩) g2⟩
   |false=>
    cases d:Al a2.name with
    |true=>
     go_wp2_with (go_at_call 59; refine(CG _ _).mono ?_; rintro e w9 ⟨rfl,rfl⟩; first|rw[ab]|rw[d]);refine(SW S q X Z s f.o a2.name (I.o.2 d) (c-1) a1 g l _ (by omega) (by omega) L.o ar.o R).mono ?_;rintro e D ⟨code,n5,M,rfl,E,F,r,br,U,V,hcs⟩;have N:=Aa E;have W:=Aa F;have O:=Aa (J.o.trans r);clear E F r;go_wp2_with fail;refine An (v:=zA code) (by simp[results,results106,go_sem]) rfl ?_;refine⟨code,n5,M,rfl,N.o,W.o,O.o,by omega,U,V,λG=>?_⟩;rcases hcs with ⟨g1,rfl,rfl⟩|⟨g1,rfl,rfl,g2⟩|⟨g1,rfl,rfl,g2⟩
     ·rw[g1,d]at ab; cases ab
     ·exact⟨s,f.o,SH B.o y.o.1 z.o.1 H.o I.o (Ae ⟨ab,d,g2 G⟩)⟩
     ·exact⟨_,f.o.add d (I.o.2 d) R g2 g l,SI B.o y.o.1 z.o.1 H.o I.o (Ae ⟨ab,d,rfl,rfl⟩) g2⟩
    |false=>
     have Y:=Aa (And.intro p0 (And.intro p1 (And.intro r0 r1)));cases aU:(a1.name.toList==a2.name.toList) with
     |false=>
      have hne:a1.name≠a2.name:=λe=>by rw[e] at aU; simp at aU
      go_wp2_with (go_at_call 59; refine(CG _ _).mono ?_; rintro e w9 ⟨rfl,rfl⟩; first|rw[ab]|rw[d]);generalize w2.setCell (zD S 1) (zA (c-1))=w3 at *;refine CR (S:=(λw'=>w'.cell? (zD g l)=some (.string a1.name)/\w'.cell? ⟨g,l+1,none⟩=some (.slice x1 a1.args.length c1)/\w'.cell? (zD j n)=some (.string a2.name)/\w'.cell? ⟨j,n+1,none⟩=some (.slice x2 a2.args.length c2))) (by kernel_rfl) Y.o λhHeld=>?_;refine tkz 0 ?_ (hy:=by intro w' aa;obtain⟨k1,t,u,x⟩:=aa;go_simp<;>with_reducible rfl);refine tkz 1 ?_ (hy:=by intro w' aa;obtain⟨k1,t,u,x⟩:=aa;go_simp<;>with_reducible rfl);refine tkz 2 ?_ (hy:=by intro w' aa;obtain⟨k1,t,u,x⟩:=aa;go_simp<;>with_reducible rfl);refine tkz 3 ?_ (hy:=by intro w' aa;obtain⟨k1,t,u,x⟩:=aa;go_simp<;>with_reducible rfl);refine tkz 4 ?_ (hy:=by intro w' aa;obtain⟨k1,t,u,x⟩:=aa;go_simp<;>with_reducible rfl);refine tkz 5 ?_ (hy:=by intro w' aa;obtain⟨k1,t,u,x⟩:=aa;go_simp<;>with_reducible rfl);refine tkz 6 ?_ (hy:=by intro w' aa;obtain⟨k1,t,u,x⟩:=aa;go_simp<;>with_reducible rfl);refine tkz 7 ?_ (hy:=by intro w' aa;obtain⟨k1,t,u,x⟩:=aa;go_simp<;>with_reducible rfl);refine tkz 8 ?_ (hy:=by intro w' aa;obtain⟨k1,t,u,x⟩:=aa;go_simp<;>with_reducible rfl);refine tkz 9 ?_ (hy:=by intro w' aa;obtain⟨k1,t,u,x⟩:=aa;go_simp<;>with_reducible rfl);refine tkv 10 ?_;refine tkv 11 ?_;refine tkv 12 ?_;refine tkv 13 ?_;refine tkv 14 ?_;refine tkv 15 ?_;refine tkv 16 ?_;refine tkv 17 ?_;refine tkv 18 ?_;refine tkv 19 ?_;refine tkv 20 ?_;refine tkz 21 ?_ (hy:=by intro w' aa;obtain⟨k1,t,u,x⟩:=aa;go_simp<;>with_reducible rfl);refine tkz 22 ?_ (hy:=by intro w' aa;obtain⟨k1,t,u,x⟩:=aa;go_simp<;>with_reducible rfl);refine dnq ?_;go_wp2_with fail;refine An (v:=zA 5) (by simp[results,results106,go_sem]) rfl ?_;exact⟨5,c-1,Z,rfl,L.o.later ((Af _ _).drew),P.o,J.o.drew,by omega,by omega,λ_=>by decide,λ_=>⟨s,f.o,SJ B.o y.o.1 z.o.1 ab d (λh=>hne h.1)⟩⟩
     |true=>
      have hne:a1.name=a2.name:=Eu (by simpa using aU);by_cases hm:a1.args.length=a2.args.length;case neg=>
       have bK:((a1.args.length:Int)==(a2.args.length:Int))=false:=DU.2 (by omega);have cc:((a1.args.length:Int) !=(a2.args.length:Int))=true:=(by simp[bne,bK]);have HM:=Aa hm;clear hm;go_wp2_with (go_at_call 59; refine(CG _ _).mono ?_; rintro e w9 ⟨rfl,rfl⟩; first|rw[ab]|rw[d]);generalize w2.setCell (zD S 1) (zA (c-1))=w3 at *;go_region_held3 (λw'=>w'.cell? (zD g l)=some (.string a1.name)/\w'.cell? ⟨g,l+1,none⟩=some (.slice x1 a1.args.length c1)/\w'.cell? (zD j n)=some (.string a2.name)/\w'.cell? ⟨j,n+1,none⟩=some (.slice x2 a2.args.length c2)) (first|exact Y.o|go_keep) (fail);go_wp2_with fail;refine An (v:=zA 5) (by simp[results,results106,go_sem]) rfl ?_;exact⟨5,c-1,Z,rfl,L.o.later ((Af _ _).drew),P.o,J.o.drew,by omega,by omega,λ_=>by decide,λ_=>⟨s,f.o,SJ B.o y.o.1 z.o.1 ab d (λh=>HM.o h.2)⟩⟩
      case pos=>
       have aG:=Aa hm;rw[<-hm]at r1 bJ Y;clear hm;go_wp2_with (go_at_call 59; refine(CG _ _).mono ?_; rintro e w9 ⟨rfl,rfl⟩; first|rw[ab]|rw[d]);generalize w2.setCell (zD S 1) (zA (c-1))=w3 at *;go_region_held3 (λw'=>w'.cell? (zD g l)=some (.string a1.name)/\w'.cell? ⟨g,l+1,none⟩=some (.slice x1 a1.args.length c1)/\w'.cell? (zD j n)=some (.string a2.name)/\w'.cell? ⟨j,n+1,none⟩=some (.slice x2 a1.args.length c2)) (first|exact Y.o|go_keep) (fail);have bL:=Aa (FF R);have bM:=Aa (FF T);go_wp2_with fail;go_loopw [82] (λi wr=>fD w S q X s left g l j n a1 a2 i wr) (λi wr=>a1.args.length-(intOf i).toNat);case atStart=>exact⟨0,c-1,Z,s,AG _,rfl,ar.o.exq ((Am.refl (Cv S q) _).drew) A.o,au.o.exq ((Am.refl (Cv S q) _).drew) A.o,L.o.later ((Af _ _).drew),J.o.drew,by omega,by omega,f.o,by simpa [Az] using FR.done s⟩
       case round=>
        obtain⟨k,n3,Z3,s3,hk,rfl,aH,aI,bs,bt,br,U,bu,bw⟩:=hrel;have bN:=Aa aH;have bO:=Aa aI;have bx:=Aa bs;have bz:=Aa bt;have aV:=Aa bu;have aW:=Aa bw;obtain⟨y1,d1,q1,_,af⟩:=aH.sub;obtain⟨y2,d2,q2,_,ag⟩:=aI.sub;rw[<-aG.o]at q2;have aX:=aH.1.lt;have aY:=aI.1.lt;have aJ:=aH.2;have aK:=aI.2;clear aH aI bs bt bu bw p0 p1 r0 r1 Y;by_cases aN:k<a1.args.length
        ·have al:k<a2.args.length:=by have:=aG.o; omega
         have cd:(k:Int)<(a1.args.length:Int):=(by omega);obtain⟨aZ,bc,rfl,b0⟩:=af k aN;obtain⟨bd,bf,rfl,b3⟩:=ag k al;have bg:=Aa (And.intro q1 q2);have hD:Below wr.heap.size wr wr.drew:=(Af _ _).drew;have bP:=Aa (IH.o n3.toNat (by omega) n3 Z3 s3 a1.args[k] a2.args[k] aZ (bc+k*2) bd (bf+k*2) wr.drew rfl U (by omega) aV.o (bx.o.later hD) (b0.exq (Am.ofBelow (Q:=Cv S q) hD) A.o) (b3.exq (Am.ofBelow (Q:=Cv S q) hD) A.o) (Kd bL.o k aN) (Kd bM.o k al));have bQ:Hid (∀D,Am (Cv S q) wr.drew D->D.cell? ⟨g,l+1,none⟩=some (.slice (some (zD aZ bc)) a1.args.length d1)/\D.cell? ⟨j,n+1,none⟩=some (.slice (some (zD bd bf)) a1.args.length d2)):=λD G=>⟨(CV (G.block g aX (A.o _ aJ))).trans bg.o.1,(CV (G.block j aY (A.o _ aK))).trans bg.o.2⟩;clear af ag b0 b3 hD;go_wp2_with fail;go_region_held3 (λw'=>w'.cell? ⟨g,l+1,none⟩=some (.slice (some (zD aZ bc)) a1.args.length d1)/\w'.cell? ⟨j,n+1,none⟩=some (.slice (some (zD bd bf)) a1.args.length d2)) (first|exact bg.o|exact aL|go_keep)
          ((go_at_call 106; refine bP.o.mono ?_; rintro e D ⟨code,n5,M,rfl,E,F,r,cf,bR,V,b4⟩; have aL:=bQ.o D r))
         have N:=Aa E;have W:=Aa F;have O:=Aa ((bz.o.drew).trans r);have bS:=Aa ((bN.o.exq ((Am.refl (Cv S q) _).drew) A.o).exq r A.o);have bT:=Aa ((bO.o.exq ((Am.refl (Cv S q) _).drew) A.o).exq r A.o);have b5:=Aa b4;clear E F r b4 aL;by_cases bh:code=0
         ·subst bh;have b6:0<=n5:=by
           by_cases h:n5<0
           ·exact absurd rfl (V h)
           ·omega
          obtain⟨s5,aO,aP⟩:=b5.o b6;have bU:=Aa aO;have bV:=Aa (SP aN al aW.o aP);clear aO aP;go_wp2_with fail;go_roundw
          case rel=>exact⟨k+1,n5,M,s5,by omega,by go_num,bS.o,bT.o,N.o,O.o,by omega,b6,bU.o,bV.o⟩
          case measure=>simp[intOf]; omega
         ·have bj:(code==0)=false:=DU.2 bh;have bW:(code !=0)=true:=(by simp[bne,bj]);have b7:=Aa bh;go_wp2_with fail;refine An (v:=zA code) (by simp[results,results106,go_sem]) rfl ?_;refine⟨code,n5,M,rfl,N.o,W.o,O.o,by omega,bR,λ_=>b7.o,λG=>?_⟩;obtain⟨s5,aO,aP⟩:=b5.o G;exact⟨s5,aO,SM B.o y.o.1 z.o.1 R T ab d hne aG.o (eR (k+1) b7.o (SP aN al aW.o aP))⟩
        ·clear af ag;go_wp2_with fail;refine An (v:=zA 0) (by simp[results,results106,go_sem]) rfl ?_;refine⟨0,n3,Z3,rfl,bx.o,aV.o.errs,bz.o,by omega,by omega,λh=>absurd h (by omega),λ_=>⟨s3,aV.o,SM B.o y.o.1 z.o.1 R T ab d hne aG.o ?_⟩⟩;have h6:=aW.o;rwa [AX (by omega),AX (by have:=aG.o; omega)] at h6
theorem QV.at {w:World} {X:Nat->Prop} {a:Option Addr} {n c:Nat} {l:List Pr} (h:QV w X (.slice a n c) l) (i:Nat) (hi:i<l.length):∃b o,a=some (zD b o)/\DJ w X b (o+i*4) l[i].l/\DJ w X b (o+i*4+2) l[i].r:=by
 obtain⟨a2,c2,e,hl,h⟩:=h;simp at e;obtain⟨rfl,rfl,rfl⟩:=e;rcases h with h|⟨b,o,f,d,h⟩
 ·subst h; simp at hi
 ·obtain⟨a1,c1,a2,c2,h1,h2,h3,g,j,h6⟩:=h i hi;exact⟨b,o,f,⟨⟨a1,c1,h1,h2,j,Ej h1⟩,d⟩,⟨⟨a2,c2,h3,g,h6,Ej h3⟩,d⟩⟩
theorem QV.exq {w w':World} {X Q:Nat->Prop} {v:Value} {l:List Pr} (h:QV w X v l) (he:Am Q w w') (a:∀b,X b->¬Q b):QV w' X v l:=
 ((h.mono (Y:=λb=>X b/\b<w.heap.size) λb h1 h2=>⟨h1,h2⟩).kept λb hb=>he.block b hb.2 (a b hb.1)).mono λb hb _=>hb.1
def fF (w:World) (S q:Nat) (X:Nat->Prop) (Z:List Zp) (left:Int) (ls:List Pr) (e:Ending) (w':World):Prop:=
 ∃(r:Bool) (n:Int),e=.returned (.bool r)/\CU w' S q X Z n/\Am (Cv S q) w w'/\(left<0->ls≠[]->r=false)/\∀s,CN Z s->r=true->∀p∈ls,Ab [Ag s p.l]<=2000/\Ab [Ag s p.r]<=2000
def fG (w:World) (S q:Nat) (X:Nat->Prop) (Z:List Zp) (left:Int) (ls:List Pr) (i:Value) (wr:World):Prop:=
 ∃(k:Nat) (n:Int),k<=ls.length/\i=zA k/\CU wr S q X Z n/\Am (Cv S q) w wr/\n<=left/\-100<=n/\(0<k->0<=left)/\∀s,CN Z s->∀j (h:j<ls.length),j<k->Ab [Ag s ls[j].l]<=2000/\Ab [Ag s ls[j].r]<=2000
theorem fH (S q:Nat) (X:Nat->Prop) (Z:List Zp) (g:∀z∈Z,Ah [z.t]=0) (left:Int) (h0:-100<=left) (h1:left<=100000) (ls:List Pr) (m:∀p∈ls,Ah [p.l]=0/\Ah [p.r]=0) (v:Value) (w:World) (d:CU w S q X Z left) (hv:QV w X v ls):
  Calls prog 107 #[zC S,v] w λe w'=>fF w S q X Z left ls e w':=by
 have R:=Aa d;have T:=Aa hv;have u:=Aa d.X;have U:=Aa m;obtain⟨a,c,rfl,⟨aJ,aK⟩,_⟩:=hv;clear d m;go_enter func107,ntmps107;go_wp2_with fail;go_loopw [8] (λi wr=>fG w S q X Z left ls i wr) (λi wr=>ls.length-(intOf i).toNat);case atStart=>exact⟨0,left,AG _,rfl,R.o,Am.refl _ _,Int.le_refl _,h0,λh=>absurd h (by omega),λ_ _ j _ h=>absurd h (by omega)⟩
 case round=>
  obtain⟨k,n,hk,rfl,x,y,aL,V,W,A⟩:=hrel;have B:=Aa x;have aa:=Aa y;have C:=Aa A;clear x y A;by_cases D:k<ls.length
  ·obtain⟨b,o,rfl,E,F⟩:=(T.o.exq aa.o u.o).at k D;have aM:(k:Int)<(ls.length:Int):=(by omega);have Y:=Aa E;have aD:=Aa F;have G:=U.o ls[k] (AN D);clear E F;go_wp2_with fail;refine(SY S q X Z g 2001 0 n ls[k].l b (o+k*4) wr rfl (by omega) V (by omega) B.o Y.o G.1).mono ?_;rintro e w5 ⟨c5,n5,rfl,H,ab,aN,aO,aP,aQ,aE,I⟩;have J:=Aa H;have L:=Aa (aa.o.trans ab);have aF:=Aa (aD.o.exq ab u.o);have aG:=Aa I;clear H ab I;by_cases aR:2000<c5
   ·have ad:(2000:Int)<(c5:Int):=(by omega);go_wp2_with fail;refine An (v:=.bool false) (by simp[results,results107,go_sem]) rfl ?_;exact⟨false,n5,rfl,J.o,L.o,λ_ _=>rfl,λ_ _ h=>absurd h (by simp)⟩
   ·have ad:¬(2000:Int)<(c5:Int):=(by omega);have aH:0<=n5:=by
     by_cases h:n5<0
     ·have:=aE h; omega
     ·omega
    go_wp2_with fail;refine(SY S q X Z g 2001 0 n5 ls[k].r b (o+k*4+2) w5 rfl (by omega) (by omega) (by omega) J.o aF.o G.2).mono ?_;rintro e w6 ⟨f,n6,rfl,M,N,aS,aT,aU,aV,aW,a1⟩;have O:=Aa M;have P:=Aa (L.o.trans N);have aI:=Aa a1;clear M N a1;by_cases aX:2000<f
    ·have ae:(2000:Int)<(f:Int):=(by omega);go_wp2_with fail;refine An (v:=.bool false) (by simp[results,results107,go_sem]) rfl ?_;exact⟨false,n6,rfl,O.o,P.o,λ_ _=>rfl,λ_ _ h=>absurd h (by simp)⟩
    ·have ae:¬(2000:Int)<(f:Int):=(by omega);go_wp2_with fail;go_roundw
     case rel => exact ⟨k + 1, n6, by omega, by go_num, O.o, P.o, by omega, by omega, λ_ => by omega, λs hs j h hj => by
      by_cases e:j=k
      ·subst e;have g1:=aG.o s hs (by omega);have g2:=aI.o s hs (by omega);omega
      ·exact C.o s hs j h (by omega)⟩
     case measure=>simp[intOf]; omega
  ·go_wp2_with fail;refine An (v:=.bool true) (by simp[results,results107,go_sem]) rfl ?_;refine⟨true,n,rfl,B.o,aa.o,λhl hne=>?_,λs hs _ p hp=>?_⟩
   ·have:0<ls.length:=Fp.2 hne;have:=W (by omega);omega
   ·obtain⟨j,hj,rfl⟩:=Hz hp;exact C.o s hs j hj (by omega)
def fI (w:World) (ls:List Pr) (e:Ending) (w':World):Prop:=
 ∃code:Int,e=.returned (zA code)/\Below w.heap.size w w'/\(code≠0->∃n sf,AU false n [] ls=some (code,sf)/\AF sf=false)
def fJ (w:World) (S q:Nat) (X:Nat->Prop) (ls:List Pr) (i:Value) (wr:World):Prop:=
 ∃(k:Nat) (n:Int) (Z:List Zp) (s:List Bd),k<=ls.length/\i=zA k/\CU wr S q X Z n/\Am (Cv S q) w wr/\n<=100000/\0<=n/\CN Z s/\FR [] (ls.take k) 0 s
theorem fK (ls:List Pr) (B:Ah (Ax ls)=0) (v:Value) (w:World) (X:Nat->Prop) (hv:QV w X v ls):
  Calls prog 93 #[v] w λe w'=>fI w ls e w':=by
 have HV:=Aa (hv.mono (Y:=λb=>X b/\b<w.heap.size) λb h1 h2=>⟨h1,h2⟩);have C:=Aa (LF B);obtain⟨a,c,rfl,⟨bg,bh⟩,_⟩:=hv;have bj:=@run_makeMap prog;go_enter func93,ntmps93;go_wp2_with fail;have BH:Below w.heap.size w ((w.alloc (.map #[] 0)).alloc (.cells #[.map (some w.heap.size),zA 100000] 142)):=((Af _ _).alloc (Ai _) _).alloc (by simp) _;have D:Ac ((w.alloc (.map #[] 0)).alloc (.cells #[.map (some w.heap.size),zA 100000] 142)) (w.heap.size+1) #[.map (some w.heap.size),zA 100000] 142:=(by have h1:=Ac.new (w.alloc (.map #[] 0)) #[.map (some w.heap.size),zA 100000] 142;rw[CW]at h1;exact h1);have E:Bm ((w.alloc (.map #[] 0)).alloc (.cells #[.map (some w.heap.size),zA 100000] 142)) w.heap.size []:=(Bm.new w).kept (AL _ _ _ (by simp));generalize (w.alloc (.map #[] 0)).alloc (.cells #[.map (some w.heap.size),zA 100000] 142)=w2 at *;have y:CU w2 (w.heap.size+1) w.heap.size (λb=>X b/\b<w.heap.size) [] 100000:=⟨D,E,by simp,λb hb=>⟨by omega,by omega⟩⟩;have aM:=Aa (HV.o.later BH);have ab:=Aa y.X;have aN:=Aa y;have aO:=Aa BH;have F:w.heap.size<=w2.heap.size:=BH.size;have z:Hid (∀w',Am (Cv (w.heap.size+1) w.heap.size) w2 w'->Below w.heap.size w w'):=λw' h=>aO.o.trans (h.below F (λb hb=>by rcases hb with e|e<;>omega));clear y BH D E;go_loopw [10] (λi wr=>fJ w2 (w.heap.size+1) w.heap.size (λb=>X b/\b<w.heap.size) ls i wr) (λi wr=>ls.length-(intOf i).toNat);case atStart=>exact⟨0,100000,[],[],AG _,rfl,aN.o,Am.refl _ _,by omega,by omega,eN,by simpa using FR.done []⟩
 case round=>
  obtain⟨k,n,Z,s,hk,rfl,G,H,aP,aQ,a1,I⟩:=hrel;have aR:=Aa G;have j:=Aa H;have aS:=Aa a1;have J:=Aa I;clear G H a1 I;by_cases aa:k<ls.length
  ·have A:=aM.o.exq j.o ab.o;have aT:=Aa A;obtain⟨b,o,rfl,L,M⟩:=A.at k aa;have bk:(k:Int)<(ls.length:Int):=(by omega);have N:=C.o ls[k] (AN aa);have m:Below wr.heap.size wr wr.drew:=(Af _ _).drew;have HW:=Aa (fE (w.heap.size+1) w.heap.size (λb=>X b/\b<w.heap.size) n.toNat n Z s ls[k].l ls[k].r b (o+k*4) b (o+k*4+2) wr.drew rfl aQ aP aS.o (aR.o.later m) (L.exq (Am.ofBelow (Q:=Cv (w.heap.size+1) w.heap.size) m) ab.o) (M.exq (Am.ofBelow (Q:=Cv (w.heap.size+1) w.heap.size) m) ab.o) N.1 N.2);have O:Hid (w.heap.size<=wr.heap.size):=AY F j.o.size;clear L M m A;go_wp2_with fail;go_region_held3 (λw'=>w.heap.size<=w'.heap.size) (first|exact O.o|exact an|go_keep)
    ((go_at_call 106; refine HW.o.mono ?_; rintro e P ⟨code,n5,R,rfl,T,U,q,bl,bm,aU,V⟩; have an:w.heap.size<=P.heap.size:=AY O.o q.size))
   have W:=Aa T;have aV:=Aa U;have aH:=Aa ((j.o.drew).trans q);have aW:=Aa ((aT.o.exq ((Am.refl (Cv (w.heap.size+1) w.heap.size) _).drew) ab.o).exq q ab.o);have aI:=Aa V;clear T U q V;by_cases t:code=0
   ·subst t;have u:0<=n5:=by
     by_cases h:n5<0
     ·exact absurd rfl (aU h)
     ·omega
    obtain⟨x,d,f⟩:=aI.o u;have aX:=Aa d;have aY:=Aa (SR aa J.o f);clear d f;go_wp2_with fail;go_roundw
    case rel=>exact⟨k+1,n5,R,x,by omega,by go_num,W.o,aH.o,by omega,u,aX.o,aY.o⟩
    case measure=>simp[intOf]; omega
   ·have ao:(code==0)=false:=DU.2 t;have aZ:(code !=0)=true:=(by simp[bne,ao]);have ba:=Aa t;clear t;go_wp2_with fail;refine(fH (w.heap.size+1) w.heap.size (λb=>X b/\b<w.heap.size) R aV.o n5 (by omega) (by omega) ls C.o _ P W.o aW.o).mono ?_;rintro e w6 ⟨r,n6,rfl,bb,aJ,aq,aK⟩;have aL:=Aa (aH.o.trans aJ);have bc:=Aa aK;clear bb aJ aK;cases r with
    |true=>
     have u:0<=n5:=by
      by_cases h:n5<0
      ·have:=aq h (λe=>by rw[e] at aa; simp at aa);cases this
      ·omega
     obtain⟨x,d,f⟩:=aI.o u;have bd:=Aa (FR.ends (eS (k+1) ba.o (SR aa J.o f)) B (bc.o x d rfl));clear d f;go_wp2_with fail;refine An (v:=zA code) (by simp[results,results93,go_sem]) rfl ?_;obtain⟨⟨g,hg⟩,bf⟩:=bd.o;exact⟨code,rfl,z.o _ aL.o,λ_=>⟨g,x,hg,bf⟩⟩
    |false=>go_wp2_with fail;refine An (v:=zA 0) (by simp[results,results93,go_sem]) rfl ?_;exact⟨0,rfl,z.o _ aL.o,λh=>absurd rfl h⟩
  ·go_wp2_with fail;refine An (v:=zA 0) (by simp[results,results93,go_sem]) rfl ?_;exact⟨0,rfl,z.o _ j.o,λh=>absurd rfl h⟩
theorem NF {lim:Bool}:∀(n m:Nat) (s:List Bd) (l:List Pr) (r a:Int×List Bd),AU lim n s l=some r->AU lim m s l=some a->r=a
 |0,_,_,_,_,_,h,_=>by cases h
 |_+1,0,_,_,_,_,_,h=>by cases h
 |n+1,m+1,s,l,r,a,h,h'=>by
  rw[AU]at h h';cases hn:Ez lim s l with
  |stop e s'=>rw[hn]at h h';cases h; cases h'; rfl
  |go s' l'=>rw[hn]at h h';exact NF n m s' l' r a h h'
def G0:Value->Option (DataW Unit×List MemPlace):=λ_=>some (.nil,[])
theorem fM {w:World} {q:Nat} {L:List (ByteArray×Value)} (h:Bm w q L) (d:(L.map (·.1)).Pairwise (·≠·)) (f:∀p∈L,p.1.size<=maxLen) (hl:L.length<=maxLen):
  ∃a:DataW Unit,w.ownsMap prog 9 G0 q L.length a/\(strKeys a).Perm (L.map (λp=>p.1.data.toList))/\Go.Maps.size a=L.length:=by
 obtain⟨es,ab,hb,he,g⟩:=h;have hlen:es.toList.length=L.length:=by have:=Bx List.length he; simpa using this
 have aa:∀i (h1:i<es.toList.length) (h2:i<L.length),es.toList[i].key=.string L[i].1:=λi h1 h2=>by
  have b:(es.toList.map (λe=>(e.key,e.val)))[i]? = (L.map (λp=>(Value.string p.1,p.2)))[i]? := by rw[he]
  rw[List.getElem?_map,List.getElem?_map,G4 h1,G4 h2]at b;simp only[Option.map_some,H7,Prod.mk.injEq] at b;exact b.1
 have l:∀x∈es.toList,∃p∈L,x.key=.string p.1:=λx hx=>by
  obtain⟨i,hi,rfl⟩:=Hz hx;have h2:i<L.length:=by omega
  exact⟨L[i],AN h2,aa i hi h2⟩
 have k:∀x∈es.toList,∀s:ByteArray,x.key=.string s->s.size<=maxLen->WideElems.rd prog 9 G0 x=some (.string s.data.toList,.nil):=λx hx s hs hz=>by
  unfold WideElems.rd G0;rw[hs,Go.WideMaps.keyOf_string_mk underlying9 hz];rfl
 have F:WideElems.Fit prog 9 G0 es ab:=by
  refine⟨by rw[<-Array.length_toList]; omega,(MapKept.stamped_iff es ab).2 ⟨g.1,g.2,?_⟩,λx hx=>?_⟩
  ·rw[Kr];intro i j hi hj m e;rw[aa i hi (by omega),aa j hj (by omega)]at e;rw[Gc,Kr]at d;have:=d i j (by omega) (by omega) m;exact this (by simpa using e)
  ·obtain⟨p,hp,e⟩:=l x hx;exact⟨_,k x hx p.1 e (f p hp)⟩
 refine⟨.map ((es.toList.map (WideElems.rg prog 9 G0)).foldr DataW.insert []),⟨es,ab,hb,F,by rw[<-Array.length_toList]; omega,rfl⟩,?_,?_⟩
 ·have h1:(strKeys (DataW.map ((es.toList.map (WideElems.rg prog 9 G0)).foldr DataW.insert []):DataW Unit)).Perm ((es.toList.map (WideElems.rg prog 9 G0)).map λp=>strOf p.1):=(WideShapes.sorted_perm _).map _;refine h1.trans ?_;have h2:(es.toList.map (WideElems.rg prog 9 G0)).map (λp=>strOf p.1)=L.map (λp=>p.1.data.toList):=(by refine List.ext_getElem (by simp; omega) λi h3 c=>?_;simp only[Ea] at h3 c;simp only[Jz];unfold WideElems.rg;rw[k _ (AN h3) L[i].1 (aa i h3 c) (f _ (AN c))];rfl);rw[h2]
 ·rw[Maps.size_eq,Go.length_sorted];simpa using hlen
open Go.RowKit Go.Maps Go.Sort Go.Shelf
theorem fO (m:Nat):AnyZ.SortsIn prog Tryz.sortedK_ren Fence.wide m:=
 ⟨λblk off cap a W hH aa ab=>DW.2 (AnyM.slices_Sort_string Tryz.sortK blk off cap a W hH aa ab),
  λp cap W=>DW.2 (AnyM.slices_Sort_string_none Tryz.sortK p cap W)⟩
theorem fP (a:Option Nat) (W:World):CallsIn Fence.wide 5 prog 131 #[.map a] W λe w'=>e=.returned (.func (.func 145) #[] #[zC W.heap.size])/\w'=W.alloc (.cells #[.map a] 145):=
 AnyZ.keys_in Tryz.keysK Fence.wide 5 trivial rfl a W
theorem fQ {H:Type} (b d:Nat) (a:DataW H) (R:Value->Option (DataW H×List MemPlace)) (w:World) (ab:w.ownsMap prog 9 R b d a) (f:Maps.size a<=maxLen) (aa:Maps.size a*16<=140737488355328):
  CallsIn Fence.wide 5 prog 130 #[.func (.func 145) #[] #[zC w.heap.size]] (w.alloc (.cells #[.map (some b)] 145)) λe w'=>∃(v:Value) (c:List (List UInt8)),e=.returned v/\c.Perm (strKeys a)/\
   w'.ownsRow (w.alloc (.cells #[.map (some b)] 145)).heap.size 9 1 v c.length ((c.mergeSort (λx y=>decide (x<=y))).map encStr)/\(v=zB↔c=[])/\Below (w.alloc (.cells #[.map (some b)] 145)).heap.size (w.alloc (.cells #[.map (some b)] 145)) w':=by
 have g:=ab.lt;have h:SeqGives Fence.wide 2 prog 145 #[zC w.heap.size] encStr (λc=>c.Perm (strKeys a)) (Maps.size a) (w.alloc (.cells #[.map (some b)] 145)):=
  AnyZ.keys_gives (ρ:=Tryz.keysK_ren) { Tryz.keysK with} Fence.wide _ trivial rfl (by omega) w.heap.size b d a _ (by simp) (by simp) (by
   obtain⟨es,clock,hb,Ft,hs,i⟩:=ab;exact⟨es,clock,(AL _ _ b g).trans hb,Ft,hs,i⟩)
 exact AnyZ.sorted_in Tryz.sortedK Fence.wide 5 trivial trivial trivial trivial rfl (by omega) (fO _) (enters_of func144 (by kernel_rfl) rfl) 145 #[zC w.heap.size] trivial (enters_of func145 (by kernel_rfl) rfl) _ _ f aa _ h
theorem S8:Nr:=by
 intro q L w j k m hlen;refine⟨DW.1 (fP (some q) w),?_⟩;obtain⟨n,o,ab,aa⟩:=fM j k (λp hp=>by have:=m p hp; unfold maxLen; omega) (by unfold maxLen; omega);refine(DW.1 (fQ q L.length n G0 w o (by rw[aa]; unfold maxLen; omega) (by rw[aa]; omega))).mono ?_;rintro e w' ⟨v,d,rfl,hp,g,_,hb⟩;have r:(w.alloc (.cells #[.map (some q)] 145)).heap.size=w.heap.size+1:=by simp
 rw[r]at g hb;have i:=List.mergeSort_perm d (λx y=>decide (x<=y));have s:(d.mergeSort (λx y=>decide (x<=y))).Pairwise (λa b=>decide (a<=b)=true):=List.pairwise_mergeSort (λa b c h1 h2=>by simp at *; exact List.le_trans h1 h2) (λa b=>by simp; exact List.le_total a b) d;generalize d.mergeSort (λx y=>decide (x<=y))=ms at *;refine⟨v,ms.map (λl=>⟨l.toArray⟩),rfl,?_,?_,?_,hb⟩
 ·have h1:ms.Perm (L.map (λp=>p.1.data.toList)):=(i.trans hp).trans ab;have h2:=h1.map (λl:List UInt8=>(⟨l.toArray⟩:ByteArray));simpa [Function.comp_def] using h2
 ·rw[Gc];refine s.imp fun {a b} h=>?_;unfold Cw;have t:(⟨b.toArray⟩:ByteArray).toList=b:=by rw[G3]
  have u:(⟨a.toArray⟩:ByteArray).toList=a:=by rw[G3]
  rw[t,u,bytesLess_eq];have h2:a<=b:=by simpa using h
  simpa using h2
 ·have h1:=LV.of_own (f:=Value.string) (l:=ms.map (λl:List UInt8=>(⟨l.toArray⟩:ByteArray))) (w:=w') (N:=w.heap.size+1) (T:=9) (v:=v) (by
   have h2:ms.length=d.length:=i.length_eq;rw[Ea,h2,List.map_map];exact g)
  exact h1
theorem LH {t:Tm} (h:AA t=0):Ah [t]=0/\Ab [t]<=2000:=by
 unfold AA at h;split at h
 ·cases h
 ·exact⟨h,by omega⟩
theorem Ta:∀(l:List Pr),(∀p∈l,Ab [p.l]<=2000/\Ab [p.r]<=2000)->Ab (Ax l)<=4000*l.length
 | [],_=>by simp[Ax,Ab]
 |p::l,h=>by
  have h1:=h p (by simp);have h2:=Ta l λq hq=>h q (by simp[hq]);have e1:=ET p.l (p.r::Ax l);have e2:=ET p.r (Ax l);rw[Ax];simp only[Bu];omega
theorem Tc:∀(l:List Pr),(∀p∈l,Ah [p.l]=0/\Ah [p.r]=0)->Ah (Ax l)=0
 | [],_=>by simp[Ax,Ah]
 |p::l,h=>by
  rw[Ax];exact Cu.2 ⟨(h p (by simp)).1,Cu.2 ⟨(h p (by simp)).2,Tc l λq hq=>h q (by simp[hq])⟩⟩
theorem Iv {ls:List Pr} (h:Co ls=0):Ah (Ax ls)=0/\ls.length<=40/\UI ((Ao (Ap [] (Ax ls))).map (·.name)) [] ls/\((Ao (Ap [] (Ax ls))).map (·.name)).length<=400000:=by
 have h1:=Vp h;have h2:=Ot h;have he:Ah (Ax ls)=0:=Tc ls λp hp=>⟨(LH (h1 p hp).1).1,(LH (h1 p hp).2).1⟩;have hs:∀p∈ls,Ab [p.l]<=2000/\Ab [p.r]<=2000:=λp hp=>⟨(LH (h1 p hp).1).2,(LH (h1 p hp).2).2⟩;refine⟨he,h2,UI.start he hs h2,?_⟩;rw[Ea,GH,Hn _ (by simp)];have:=Ta ls hs;omega
theorem fR {ls:List Pr} (hp:Co ls=0) (R:Int×List Bd) (g0:Nat) (aa:AU false g0 [] ls=some R) (u:Value) (w:World) (X:Nat->Prop) (hu:QV w X u ls):
  Calls prog 94 #[u] w λe w'=>LB R w e w':=by
 obtain⟨he,g,d,f⟩:=Iv hp;obtain⟨a,c,rfl,_,hc⟩:=hu.mono (Y:=λb=>b<w.heap.size) λ_ _ h=>h;rcases hc with rfl|⟨b,o,rfl,hb,ab⟩
 ·exact DW.1 (Sc (Aa S8) 6 (by omega) 0 0 a [] c (Ad rfl) (by simp) _ f d R g0 aa w (AG _) (Ad rfl) (λj u h=>by simp[CT] at h) (by simp))
 ·obtain⟨xs,i,k,l⟩:=Nw ls b o ab;subst i;have m:xs.length<=40:=by simpa using g
  have:=Sc (Aa S8) 6 (by omega) b o (some (zD b o)) xs c (Ae rfl) m _ f d R g0 aa w (Nat.le_of_lt hb) (Ae hb) k l;rw[Ea];exact DW.1 this
def fS (ls:List Pr) (R:Int×List Bd) (w:World) (e:Ending) (w':World):Prop:=
 (Co ls≠0/\Below w.heap.size w w'/\e=.returned (.tuple #[zB,zA (Co ls)]))∨(Co ls=0/\LB R w e w')
theorem fU {ls:List Pr} (hp:Co ls=0) (R:Int×List Bd) (g0:Nat) (aa:AU false g0 [] ls=some R) (u:Value) (w:World) (X:Nat->Prop) (hu:QV w X u ls):
  Calls prog 71 #[u] w λe w'=>LB R w e w':=by
 have d:=Aa hu;have f:=Aa aa;have g:=Aa hp;clear hu aa hp;go_enter func71,ntmps71;go_wp2_with fail;refine(fK ls (Iv g.o).1 u w X d.o).mono ?_;rintro e l ⟨code,rfl,h,i⟩;have ab:=Aa h;have m:=Aa i;clear h i;by_cases a:code=0
 ·subst a;go_wp2_with fail;refine(fR g.o R g0 f.o u l X (d.o.later ab.o)).mono ?_;rintro e w2 ⟨hb2,hc⟩;have c:=Aa (ab.o.trans (hb2.mono ab.o.size));have n:=Aa hc;clear hb2 hc;rcases n.o with ⟨h1,rfl⟩|⟨h1,h2,rfl⟩|⟨h1,h2,v,rfl,h3⟩
  ·go_wp2_with fail;refine An (v:=.tuple #[zB,zA 8]) (by simp[results,results71,go_sem]) rfl ?_;exact⟨c.o,Ad ⟨h1,rfl⟩⟩
  ·go_wp2_with fail;refine An (v:=.tuple #[zB,zA R.1]) (by simp[results,results71,go_sem]) rfl ?_;exact⟨c.o,Ae (Ad ⟨h1,h2,rfl⟩)⟩
  ·have q:=Aa h3;clear h3;go_wp2_with fail;refine An (v:=.tuple #[v,zA 0]) (by simp[results,results71,go_sem]) rfl ?_;exact⟨c.o,Ae (Ae ⟨h1,h2,v,rfl,q.o.mono λb hb _=>AY ab.o.size hb⟩)⟩
 ·obtain⟨n9,sf,j,k⟩:=m.o a;have r:=NF _ _ _ _ _ _ f.o j;subst r;have s:(code==0)=false:=DU.2 a;have aq:(code !=0)=true:=by simp[bne,s]
  have t:=Aa k;have x:=Aa a;clear j k a;go_wp2_with fail;refine An (v:=.tuple #[zB,zA code]) (by simp[results,results71,go_sem]) rfl ?_;exact⟨ab.o,Ae (Ad ⟨t.o,x.o,rfl⟩)⟩
theorem Td (ls:List Pr) (R:Int×List Bd) (g0:Nat) (ab:Co ls=0->AU false g0 [] ls=some R) (u:Value) (w:World) (X:Nat->Prop) (hu:QV w X u ls):
  Calls prog 48 #[u] w λe w'=>fS ls R w e w':=by
 have d:=Aa hu;have g:=Aa ab;clear hu ab;by_cases hp:Co ls=0
 ·have a:=Aa hp;go_enter func48,ntmps48;go_wp2_with (go_at_call 70; refine(PP ls u w X d.o).mono ?_; rintro e w1 ⟨rfl,c⟩; rw[a.o]; have aa:=Aa c; clear c);refine(fU a.o R g0 (g.o a.o) u w1 X (d.o.later aa.o)).mono ?_;rintro e w2 ⟨hb2,hc⟩;have f:=Aa (aa.o.trans (hb2.mono aa.o.size));have h:=Aa hc;clear hb2 hc;rcases h.o with ⟨h1,rfl⟩|⟨h1,h2,rfl⟩|⟨h1,h2,v,rfl,h3⟩
  ·go_wp2_with fail;refine An (v:=.tuple #[zB,zA 8]) (by simp[results,results48,go_sem]) rfl ?_;exact Ae ⟨a.o,f.o,Ad ⟨h1,rfl⟩⟩
  ·go_wp2_with fail;refine An (v:=.tuple #[zB,zA R.1]) (by simp[results,results48,go_sem]) rfl ?_;exact Ae ⟨a.o,f.o,Ae (Ad ⟨h1,h2,rfl⟩)⟩
  ·have i:=Aa h3;clear h3;go_wp2_with fail;refine An (v:=.tuple #[v,zA 0]) (by simp[results,results48,go_sem]) rfl ?_;exact Ae ⟨a.o,f.o,Ae (Ae ⟨h1,h2,v,rfl,i.o.mono λb hb _=>AY aa.o.size hb⟩)⟩
 ·have af:(Co ls==0)=false:=DU.2 hp;have a:=Aa hp;clear hp;go_enter func48,ntmps48;go_wp2_with (go_at_call 70; refine(PP ls u w X d.o).mono ?_; rintro e w1 ⟨rfl,c⟩; have aa:=Aa c; clear c);refine An (v:=.tuple #[zB,zA (Co ls)]) (by simp[results,results48,go_sem]) rfl ?_;exact Ad ⟨a.o,aa.o,rfl⟩
theorem fV {ls:List Pr} (hp:Co ls=0):∃(g:Nat) (R a:Int×List Bd),AU false g [] ls=some R/\AU true g [] ls=some a/\(AF R.2=true->a.1=8)/\(AF R.2=false->a=R):=by
 obtain⟨n,r,b⟩:=QZ ls (Iv hp).1;obtain⟨e,sf⟩:=r;obtain⟨e',aa,h1,h2,h3⟩:=OO n [] ls e sf b (by simp[AF]);refine⟨n,(e,sf),(e',aa),b,h1,h2,λc=>?_⟩;obtain⟨rfl,rfl⟩:=h3 c;rfl
theorem fW (s:ByteArray):∀f m i k,(rd s f m i k).err=0->k<=200->(rd s f m i k).k<=200:=by
 intro f;induction f with
 |zero=>intro m i k h; simp[rd,BP] at h
 |succ f b=>
  intro m i k h hk;match m with
  |none=>
   unfold rd at h ⊢;split at h
   ·exfalso; revert h; simp only[BP]; split<;>omega
   ·rename_i h1;rw[Aj h1];split at h
    ·exfalso; revert h; simp[BP]
    ·rename_i h2;rw[Aj h2];split at h
     ·exfalso; revert h; simp[BP]
     ·rename_i h3;rw[Aj h3];split at h
      ·rename_i a;rw[Ar a];split at h
       ·exfalso; revert h; simp[BP]
       ·rename_i c;rw[Aj c];exact b _ _ _ h (by omega)
      ·rename_i a;rw[Aj a];show k+1<=200;omega
  |some (nm,acc)=>
   unfold rd at h ⊢;split at h
   ·rename_i h1;exact absurd h h1
   ·rename_i h1;rw[Aj h1];simp only[ne_eq,Decidable.not_not] at h1;have h3:=b none (i+1) k h1 hk;split at h
    ·exfalso; revert h; simp[BP]
    ·rename_i h2;rw[Aj h2];split at h
     ·rename_i a;rw[Ar a];exact h3
     ·rename_i a;rw[Aj a];split at h
      ·rename_i c;rw[Ar c];exact b _ _ _ h h3
      ·exfalso; revert h; simp[BP]
theorem fX {w c:World} {T:Nat} {a:Option Addr} {l:List Tm} {v0 v1:Value} (hs:Sl c (λb=>T+1<=b) a l) (hT:w.heap.size<T):Sl ((c.setCell (zD w.heap.size 0) v0).setCell (zD w.heap.size 1) v1) (λb=>w.heap.size<=b) a l:=
 (hs.kept λb hb=>by rw[Aq _ _ _ _ (by simp; omega),Aq _ _ _ _ (by simp; omega)]).mono λb hb _=>by omega
def F5 (s:ByteArray):Rd:=
 if 4000<s.size then BP 3
 else if (rd s (2*s.size+1) none 0 0).err≠0 then BP (rd s (2*s.size+1) none 0 0).err
 else if (rd s (2*s.size+1) none 0 0).pos=s.size then rd s (2*s.size+1) none 0 0
 else BP 12
def Te (w:World) (r:Rd) (e:Ending) (w':World):Prop:=
 ∃v,e=.returned (.tuple #[v,zA r.err])/\(r.err=0->TV w' (λb=>w.heap.size<=b) v r.t)/\(r.err≠0->v=.agg #[.string ⟨#[]⟩,zB])/\Below w.heap.size w w'
theorem NG {w w':World} {r:Rd} {z:Int} (h:r=BP z) (hz:z≠0) (hb:Below w.heap.size w w'):Te w r (.returned (.tuple #[.agg #[.string ⟨#[]⟩,zB],zA z])) w':=by
 subst h;exact⟨_,rfl,λh=>absurd h hz,λ_=>rfl,hb⟩
theorem Ex.below {w a w':World} {B:Nat} (h:Ex B a w') (h0:Below w.heap.size w a) (hB:w.heap.size<=B):Below w.heap.size w w':=
 ⟨h.os.trans h0.os,h.tape.trans h0.tape,h.output.trans h0.output,AY h0.size h.size,λk hk=>(h.block k (Cn hk h0.size) (by omega)).trans (h0.block k hk)⟩
theorem Tf {w:World} {B T:Nat} {l r:Tm} {a1 a2:Option Addr} {c1 c2:Nat} (h:Ac w B #[.string l.name,.slice a1 l.args.length c1,.string r.name,.slice a2 r.args.length c2] T) (h1:Sl w (λ_=>True) a1 l.args) (h2:Sl w (λ_=>True) a2 r.args):QV w (λ_=>True) (.slice (some (zD B 0)) 1 1) [⟨l,r⟩]:=by
 refine⟨some (zD B 0),1,rfl,by simp,Ae ⟨B,0,rfl,trivial,λi hi=>?_⟩⟩;have e:i=0:=by simp at hi; omega
 subst e;exact⟨a1,c1,a2,c2,h.cell 0,h.cell 1,h.cell 2,h.cell 3,h1,h2⟩

import Derived.Test.YtacmmcnnhfmepaaGreatDoorZFLongMadeOwn
import Derived.Deep.LoopGhost
import Derived.Sort.KeysCollected
import Derived.Sort.Walk0
import Derived.Maps.Range
import Derived.Maps.Own
import Derived.StringKeys
import Derived.Test.YtacmmcnnhfmepaaGreatDoorIterL
import Derived.Test.YtacmmcnnhfmepaaGreatDoorLn6
import Derived.Test.YtacmmcnnhfmepaaGreatDoorLn9c
import Derived.ProofKit
namespace Go.Proofs.YtacmmcnnhfmepaaGreatDoor
set_option linter.all false
set_option maxRecDepth 9999
set_option maxHeartbeats 0
open Go.RowKit Go.Proofs.Tryz
variable {a b b' c t u:Tm} {s s' sf:List Bd} {n x:ByteArray} {l l':List Pr} {M e left:Int} {N S cap g i k o q:Nat} {w w':World} {Q Y:Nat->Prop} {v:Value} {H:Type} {held:Bool}
def Ef (t s:List Bd):Prop:=∀d∈s,Ag t ⟨d.nm,[]⟩=Ag t d.t
def Eg (t:List Bd) (l:List Pr):Prop:=∀p∈l,Ag t p.l=Ag t p.r
theorem kZ {t:List Bd} (ht:∀d∈t,Av d.nm=true) (c:∀d∈s,Av d.nm=true) (f:Ef t s):∀l:List Tm,As l=0->An t (An s l)=An t l:=by
 intro l;induction l using Tm.indL with
 |h0=>intro _; simp[An]
 |h n l r g i=>
  intro he;obtain⟨g1,g2,g3⟩:=GP he;rw[Bs,Bs,Bs,i g3];congr 1
  cases a:Av n with
  |false=>rw[EY c a,EY ht a,EY ht a,g g2]
  |true=>
   have e:=g1 a;subst e;cases b:AF s n with
   |none=>rw[FN s,b]; rfl
   |some x=>rw[IJ b];obtain⟨d,hd,e1,e2⟩:=Fv b;rw[<-e2,<-f d hd,e1]
theorem OM {t:List Bd} (ht:∀d∈t,Av d.nm=true) (a:∀d∈s,Av d.nm=true) (b:Ef t s) {x:Tm} (he:As [x]=0):Ag t (Ag s x)=Ag t x:=by
 have h:=kZ ht a b [x] he;rw[Bs,Bs,Bs]at h;simpa [An] using h
theorem lC {t:List Bd} (ht:∀d∈t,Av d.nm=true) (hx:Av x=true) (b:∀d∈s,As [d.t]=0):Ef t (CJ s x u)↔(Ef t s/\Ag t ⟨x,[]⟩=Ag t u):=by
 have one:∀ {v:Tm},Ag t ⟨x,[]⟩=Ag t u->As [v]=0->Ag t (Ag [⟨x,u⟩] v)=Ag t v:=λa c=>OM ht (by simpa using hx) (by simpa [Ef] using a) c;have hm:∀d,d∈CJ s x u↔d∈s.map (BJ x u)++[⟨x,u⟩]:=λd=>(EU _).mem_iff;constructor
 ·intro h;have a:Ag t ⟨x,[]⟩=Ag t u:=h ⟨x,u⟩ ((hm _).2 (by simp));refine⟨λd hd=>?_,a⟩;have h1:=h (BJ x u d) ((hm _).2 (List.mem_append_left _ (Cx.2 ⟨d,hd,rfl⟩)));simp only[BJ] at h1;rw[h1,one a (b d hd)]
 ·rintro⟨h,a⟩ d hd;rcases BN.1 ((hm d).1 hd) with hd|hd
  ·obtain⟨e,he,rfl⟩:=Cx.1 hd;simp only[BJ];rw[one a (b e he)];exact h e he
  ·have e:d=⟨x,u⟩:=(by simpa using hd);subst e;exact a
theorem ON {t:List Bd} (ht:∀d∈t,Av d.nm=true) (hx:Av x=true):∀l:List Tm,As l=0->Ay x l->Ah [Ag t ⟨x,[]⟩]<=Ah (An t l):=by
 intro l;induction l using Tm.indL with
 |h0=>intro _ ho; obtain⟨k,hk,_⟩:=ho; simp[Aw] at hk
 |h n l r b c=>
  intro he ho;obtain⟨g1,g2,g3⟩:=GP he;have f:=Fm (Ag t ⟨n,l⟩) (An t r);rw[Bs];rcases Dz.1 ho with rfl|ho|ho
  ·have e:=g1 hx;subst e;omega
  ·cases a:Av n with
   |false=>have:=b g2 ho;rw[EY ht a]at f ⊢;have e:Ah [(⟨n,An t l⟩:Tm)]=1+Ah (An t l):=(by simp[Ah]);omega
   |true=>have e:=g1 a;subst e;obtain⟨k,hk,_⟩:=ho;simp[Aw]at hk
  ·have:=c g3 ho;omega
theorem lD {t:List Bd} (ht:∀d∈t,Av d.nm=true) (hx:Av x=true) (he:As [u]=0) (c:x≠u.name) (ho:Ay x [u]):Ag t ⟨x,[]⟩≠Ag t u:=λf=>by
 obtain⟨n,k⟩:=u;obtain⟨g1,g2,_⟩:=GP he;have a:Ay x k:=by
  rcases Dz.1 ho with h|h|h
  ·exact absurd h.symm c
  ·exact h
  ·obtain⟨y,hy,_⟩:=h; simp[Aw] at hy
 cases b:Av n with
 |true=>have e:=g1 b;subst e;obtain⟨y,hy,_⟩:=a;simp[Aw]at hy
 |false=>
  have h1:=ON ht hx k g2 a;rw[f,EY ht b]at h1;have e:Ah [(⟨n,An t k⟩:Tm)]=1+Ah (An t k):=by simp[Ah]
  omega
theorem Uu {t:List Bd}:∀ {a b:List Tm},a.length=b.length->(Eg t (AD a b)↔An t a=An t b)
 | [],[],_=>by simp[Eg,AD]
 | [],_::_,h=>by simp at h
 |_::_,[],h=>by simp at h
 |x::a,y::b,h=>by
  have c:=Uu (t:=t) (a:=a) (b:=b) (by simpa using h);rw[AD,Bs,Bs,Gd,<-c];simp[Eg]
theorem JV (he:As [u]=0) (a:Av u.name=true):u=⟨u.name,[]⟩:=by
 obtain⟨n,k⟩:=u;have:=(GP he).1 a;subst this;rfl
theorem OO {t:List Bd} (ht:∀d∈t,Av d.nm=true) {V:List ByteArray} {h:List (ByteArray×Tm)} {p:Pr} (u:UI V h (p::l)):
  (∀e s',Br false (Aj h) l (Ag (Aj h) p.l) (Ag (Aj h) p.r)=.stop e s'->e=8∨¬(Ef t (Aj h)/\Ag t p.l=Ag t p.r))/\
  (∀s' l',Br false (Aj h) l (Ag (Aj h) p.l) (Ag (Aj h) p.r)=.go s' l'->∃h',s'=Aj h'/\UI V h' l'/\((Ef t (Aj h')/\Eg t l')↔(Ef t (Aj h)/\Eg t (p::l)))):=by
 have ok:=u.good.all;obtain⟨e1,e2⟩:=u.head;have F:=EZ ok e1;have v:=EZ ok e2;have i:Ef t (Aj h)->(Ag t p.l=Ag t p.r↔Ag t (Ag (Aj h) p.l)=Ag t (Ag (Aj h) p.r)):=λG=>by
  rw[OM ht ok.vars G e1,OM ht ok.vars G e2]
 have A:Eg t (p::l)↔(Ag t p.l=Ag t p.r/\Eg t l):=by simp[Eg]
 have L:=λx y=>u.bindV (x:=x) (t:=y);have M:=u.deep;have N:∀d∈Aj h,As [d.t]=0:=λd hd=>(ok.2.1 d hd).2;generalize Ag (Aj h) p.l=a at *;generalize Ag (Aj h) p.r=b at *;have H:∀(x:ByteArray) (y:Tm),Av x=true->x≠y.name->As [y]=0->((x=a.name/\y=b)∨(x=b.name/\y=a))->(Ef t (Aj h)->(Ag t p.l=Ag t p.r↔Ag t ⟨x,[]⟩=Ag t y))->
   (∀e s',Cu false (Aj h) l x y=.stop e s'->e=8∨¬(Ef t (Aj h)/\Ag t p.l=Ag t p.r))/\(∀s' l',Cu false (Aj h) l x y=.go s' l'->∃h',s'=Aj h'/\UI V h' l'/\((Ef t (Aj h')/\Eg t l')↔(Ef t (Aj h)/\Eg t (p::l)))):=λx y hx O ar P B=>by
  unfold Cu;by_cases ho:Ch x (AU [] (Aw [y]))=true
  ·rw[Aq ho];have hoc:Ay x [y]:=by
    apply Er;intro f;unfold Ch at ho;rw[Fc]at ho;obtain⟨z,hz,e⟩:=ho;have e2:z=x:=Gg (by simpa using e);subst e2;rcases Mi _ _ _ hz with h1|⟨k,h1,h2,_⟩
    ·cases h1
    ·exact f ⟨k,h1,h2⟩
   refine⟨λe s' c=>Ae λj=>lD ht hx ar O hoc ((B j.1).1 j.2),λs' l' c=>by cases c⟩
  ·rw[Am ho,Am (by simp)];refine⟨λe s' c=>(by cases c),λs' l' c=>?_⟩;cases c;refine⟨h++[(x,y)],by rw[Fo]; rfl,(L x y hx P ho).2,?_⟩;rw[Fo,lC ht hx N,A];constructor
   ·rintro⟨⟨h1,h2⟩,h3⟩;exact⟨h1,(B h1).2 h2,h3⟩
   ·rintro⟨h1,h2,h3⟩;exact⟨⟨h1,(B h1).1 h2⟩,h3⟩
 unfold Br;by_cases hz:2000<Ah [a]∨2000<Ah [b]
 ·rw[Aq hz];refine⟨λe s' c=>(by cases c; exact Ad rfl),λs' l' c=>by cases c⟩
 rw[Am hz];by_cases g:Av a.name=true
 ·rw[Aq g];have I:=JV F g;by_cases f:a.name=b.name
  ·rw[Aq f];refine⟨λe s' c=>(by cases c),λs' l' c=>?_⟩;cases c;have C:=JV v (by rw[<-f]; exact g);refine⟨h,rfl,u.drop,?_⟩;rw[A];constructor
   ·rintro⟨h1,h2⟩;exact⟨h1,(i h1).2 (by rw[I,C,f]),h2⟩
   ·rintro⟨h1,_,h2⟩;exact⟨h1,h2⟩
  ·rw[Am f];exact H a.name b g f v (Ad ⟨rfl,rfl⟩) (λj=>by rw[i j,<-I])
 rw[Am g];have R:Av a.name=false:=by simpa using g
 by_cases m:Av b.name=true
 ·rw[Aq m];have C:=JV v m;exact H b.name a m (λe=>g (by rw[<-e]; exact m)) F (Ae ⟨rfl,rfl⟩) (λj=>by rw[i j,<-C]; exact eq_comm)
 rw[Am m];have T:Av b.name=false:=by simpa using m
 have D:Ag t a=⟨a.name,An t a.args⟩:=(by obtain⟨n,k⟩:=a;exact EY ht R k);have E:Ag t b=⟨b.name,An t b.args⟩:=(by obtain⟨n,k⟩:=b;exact EY ht T k);by_cases o:a.name=b.name/\a.args.length=b.args.length
 ·rw[Aq o];refine⟨λe s' c=>(by cases c),λs' l' c=>?_⟩;cases c;refine⟨h,rfl,(M (by omega) (by omega) o.2).1,?_⟩;have U:Eg t (AD a.args b.args++l)↔(Eg t (AD a.args b.args)/\Eg t l):=by
   constructor
   ·intro c;exact⟨λq hq=>c q (List.mem_append_left _ hq),λq hq=>c q (List.mem_append_right _ hq)⟩
   ·rintro⟨h1,h2⟩ q hq;rcases BN.1 hq with hq|hq
    ·exact h1 q hq
    ·exact h2 q hq
  rw[U,A,Uu o.2];constructor
  ·rintro⟨h1,h2,h3⟩;exact⟨h1,(i h1).2 (by rw[D,E,h2,o.1]),h3⟩
  ·rintro⟨h1,h2,h3⟩;have s:=(i h1).1 h2;rw[D,E]at s;exact⟨h1,by injection s,h3⟩
 ·rw[Am o];refine⟨λe s' c=>Ae ?_,λs' l' c=>by cases c⟩;rintro⟨h1,h2⟩;have s:=(i h1).1 h2;rw[D,E]at s;injection s with h5 h6
  have J:=Dt List.length h6;rw[Jl,Jl]at J;exact o ⟨h5,J⟩
theorem Uv {V:List ByteArray}:∀(n:Nat) (h:List (ByteArray×Tm)) (l:List Pr) (R:Int×List Bd),UI V h l->A0 false n (Aj h) l=some R->
  ∃h',R.2=Aj h'/\Cn h'/\Gw h'/\(R.1=0->∀t,(∀d∈t,Av d.nm=true)->(Ef t R.2↔(Ef t (Aj h)/\Eg t l)))/\(R.1≠0->R.1≠8->∀t,(∀d∈t,Av d.nm=true)->¬(Ef t (Aj h)/\Eg t l))
 |0,h,l,R,u,a=>by cases a
 |n+1,h,[],R,u,a=>by
  simp[A0,Em]at a;subst a;exact⟨h,rfl,u.good,u.names,λ_ t _=>by simp[Eg],λh0=>absurd rfl h0⟩
 |n+1,h,p::l,R,u,a=>by
  rw[A0,EL]at a;cases hp:Br false (Aj h) l (Ag (Aj h) p.l) (Ag (Aj h) p.r) with
  |stop e s'=>
   rw[hp]at a;have e2:s'=Aj h:=NQ (lim:=false) (l:=p::l) (e:=e) (by rw[EL]; exact hp);simp at a;subst a;refine⟨h,e2,u.good,u.names,λh0=>?_,λ_ h8 t ht=>?_⟩
   ·exfalso;have h0:e=0:=h0;subst h0;unfold Br Cu at hp;repeat' split at hp
    all_goals first|(cases hp; done)|(injection hp with h1 h2; exact absurd h1 (by decide))
   ·rcases(OO ht u).1 e s' hp with h1|h1
    ·exact absurd h1 h8
    ·rintro⟨h2,h3⟩;exact h1 ⟨h2,h3 p (by simp)⟩
  |go s' l'=>
   rw[hp]at a;obtain⟨h',rfl,u',_⟩:=(OO (t:=[]) (by simp) u).2 s' l' hp;obtain⟨h2,b,c,f,g,i⟩:=Uv n h' l' R u' a;have key:∀t,(∀d∈t,Av d.nm=true)->((Ef t (Aj h')/\Eg t l')↔(Ef t (Aj h)/\Eg t (p::l))):=λt ht=>by
    obtain⟨h3,e3,_,j⟩:=(OO ht u).2 (Aj h') l' hp;rw[e3];exact j
   exact⟨h2,b,c,f,λh0 t ht=>(g h0 t ht).trans (key t ht),λh0 h8 t ht k=>i h0 h8 t ht ((key t ht).2 k)⟩
theorem lE {t:List Bd} {l:List Tm} {x:Tm} (h:x∈l):Ah [Ag t x]<=Ah (An t l):=by
 induction l with
 |nil=>cases h
 |cons a r b=>
  have hc:=Fm (Ag t a) (An t r);rw[Bs];rcases Ct.1 h with rfl|h
  ·omega
  ·have:=b h; omega
inductive FO where
 |go (s:List Bd) (l:List Pr)
 |stop (e:Int)
def FD (s:List Bd) (x:ByteArray) (t:Tm):FO:=if Ch x (AU [] (Aw [t]))=true then .stop 6 else .go (CJ s x t) []
def Eh (s:List Bd) (a b:Tm):FO:=
 if Av a.name=true then (if a.name=b.name then .go s [] else FD s a.name b)
 else if Av b.name=true then FD s b.name a
 else if a.name=b.name/\a.args.length=b.args.length then .go s (AD a.args b.args)
 else .stop 5
inductive FR:List Bd->List Pr->Int->List Bd->Prop
 |done (s:List Bd):FR s [] 0 s
 |step {s s' sf:List Bd} {p:Pr} {l' rest:List Pr} {e:Int}:Eh s (Ag s p.l) (Ag s p.r)=.go s' l'->FR s' (l'++rest) e sf->FR s (p::rest) e sf
 |stop {s:List Bd} {p:Pr} {rest:List Pr} {e:Int}:Eh s (Ag s p.l) (Ag s p.r)=.stop e->FR s (p::rest) e s
theorem Uw (h:FD s x t=.stop e):e=6:=by
 unfold FD at h;split at h
 ·cases h; rfl
 ·cases h
theorem lG (h:Eh s a b=.stop e):e≠0:=by
 unfold Eh at h;split at h
 ·split at h
  ·cases h
  ·rw[Uw h]; decide
 ·split at h
  ·rw[Uw h]; decide
  ·split at h
   ·cases h
   ·cases h; decide
theorem FR.append_ok {a:List Pr} {c:Int} (h:FR s a c s'):c=0->∀ {b:List Pr} {e:Int} {sf:List Bd},FR s' b e sf->FR s (a++b) e sf:=by
 induction h with
 |done s=>intro _ b e sf h; exact h
 |step h1 _ d=>intro h0 b e sf h; exact FR.step h1 (by have h2:=d h0 h; rw[Jh] at h2; exact h2)
 |stop h1=>intro h0; exact absurd h0 (lG h1)
theorem FR.append_err {a:List Pr} (h:FR s a e s'):e≠0->∀(b:List Pr),FR s (a++b) e s':=by
 induction h with
 |done s=>intro h; exact absurd rfl h
 |step h1 _ c=>intro h0 b; exact FR.step h1 (by have h2:=c h0 b; rw[Jh] at h2; exact h2)
 |stop h1=>intro h0 b; exact FR.stop h1
def FW (s s':List Bd):Prop:=∀L:List Tm,As L=0->An s' (An s L)=An s' L
theorem FW.T (h:FW s s') (he:As [t]=0):Ag s' (Ag s t)=Ag s' t:=by
 have h1:=h [t] he;rw[Bs,Bs,Bs]at h1;injection h1
theorem JW (h:Ci s):FW s s:=λL he=>h.idem he
theorem FW.trans {a:List Bd} (b:Ci s) (h:FW s s') (k:FW s' a):FW s a:=λL he=>by
 rw[<-k (An s L) (IR b L he),h L he,k L he]
theorem lH (a:Ci s) (hx:Av x=true) (b:∀d∈s,d.nm≠x) (he:As [t]=0) (ht:∀e∈s,¬Ay e.nm [t]) (h:FD s x t=.go s' l'):s'=CJ s x t/\l'=[]/\¬Ay x [t]/\Ci s'/\FW s s':=by
 unfold FD at h;split at h
 ·cases h
 ·rename_i ho;cases h;have h1:=KI hx ho;have h2:=a.add hx b he ht h1;refine⟨rfl,rfl,h1,h2,λL c=>?_⟩;rw[Jr a hx b h2 _ (IR a L c),Jr a hx b h2 L c,a.idem c]
def Ux (s s':List Bd) (a b:Tm) (l':List Pr):Prop:=
 Ci s'/\FW s s'/\As (AO l')=0/\(∀V:List ByteArray,(∀d∈s,d.nm∈V)->(∀y,Av y=true->(Ay y [a]∨Ay y [b])->y∈V)->(∀d∈s',d.nm∈V))/\
  (∀L,As L=0->∀y,Av y=true->Ay y (An s' L)->Ay y (An s L)∨Ay y [a]∨Ay y [b])/\
  (l'=[]∨(s'=s/\Av a.name=false/\Av b.name=false/\l'=AD a.args b.args))
theorem Uy (c:Ci s) (j:As [a]=0) (hb:As [b]=0) (k:∀e∈s,¬Ay e.nm [a]) (l:∀e∈s,¬Ay e.nm [b]) (h:Eh s a b=.go s' l'):Ux s s' a b l':=by
 have bind:∀x t,Av x=true->(∀d∈s,d.nm≠x)->As [t]=0->(∀e∈s,¬Ay e.nm [t])->(Ay x [a]∨Ay x [b])->(∀y,Ay y [t]->Ay y [a]∨Ay y [b])->FD s x t=.go s' l'->Ux s s' a b l':=λx t hx m he ht n o h=>by
  obtain⟨rfl,rfl,h3,q,h5⟩:=lH c hx m he ht h;refine⟨q,h5,by simp[AO,As],λV h6 r d hd=>?_,λL f y hy ho=>?_,Ad rfl⟩
  ·have h8:=(EU (s.map (BJ x t)++[⟨x,t⟩])).subset hd;rcases BN.1 h8 with h8|h8
   ·obtain⟨d',u,rfl⟩:=Cx.1 h8;exact h6 d' u
   ·have e:d=⟨x,t⟩:=(by simpa using h8);rw[e];exact r x hx n
  ·exact((Ot c hx m he ht h3 f).2.1 y hy ho).imp id (o y)
 unfold Eh at h;split at h
 ·rename_i g;split at h
  ·cases h;exact⟨c,JW c,by simp[AO,As],λV h6 _=>h6,λL f y hy ho=>Ad ho,Ad rfl⟩
  ·exact bind a.name b g (λd hd e=>k d hd (by rw[e]; exact Ir a)) hb l (Ad (Ir a)) (λy h=>Ae h) h
 ·rename_i g;split at h
  ·rename_i i;exact bind b.name a i (λd hd e=>l d hd (by rw[e]; exact Ir b)) j k (Ae (Ir b)) (λy h=>Ad h) h
  ·rename_i i;split at h
   ·cases h;exact⟨c,JW c,JL (FV j) (FV hb),λV h6 _=>h6,λL f y hy ho=>Ad ho,Ae ⟨rfl,by simpa using g,by simpa using i,rfl⟩⟩
   ·cases h
theorem OP {rest:List Pr} (ha:Ah [a]<=2000) (hb:Ah [b]<=2000):Br false s rest a b=match Eh s a b with
  | .go s' l'=>.go s' (l'++rest)
  | .stop e=>.stop e s:=by
 have bind:∀x t,Cu false s rest x t=match FD s x t with
   | .go s' l'=>.go s' (l'++rest)
   | .stop e=>.stop e s:=λx t=>by
  unfold Cu FD;by_cases h:Ch x (AU [] (Aw [t]))=true
  ·rw[Aq h,Aq h]
  ·rw[Am h,Am h,Am (by simp)]; rfl
 unfold Br Eh;rw[Am (by omega)];by_cases h1:Av a.name=true
 ·rw[Aq h1,Aq h1];by_cases h2:a.name=b.name
  ·rw[Aq h2,Aq h2]; rfl
  ·rw[Am h2,Am h2]; exact bind _ _
 ·rw[Am h1,Am h1];by_cases h2:Av b.name=true
  ·rw[Aq h2,Aq h2]; exact bind _ _
  ·rw[Am h2,Am h2];by_cases h3:a.name=b.name/\a.args.length=b.args.length
   ·rw[Aq h3,Aq h3]
   ·rw[Am h3,Am h3]
theorem lJ:∀ {a b:List Tm} {p:Pr},p∈AD a b->p.l∈a/\p.r∈b:=@MO
theorem Uz (a:Ci sf) {x:Tm} (b:Av u.name=false) (hx:x∈u.args):Ah [Ag sf x]<=Ah [Ag sf u]:=by
 obtain⟨n,l⟩:=u;rw[EY a.vars b];have h1:=lE (t:=sf) hx;have h2:=JP ⟨n,An sf l⟩;simp only at h1 h2;show Ah [Ag sf x]<=Ah [⟨n,An sf l⟩];omega
theorem FR.run (h:FR s l e sf):Ci s->As (AO l)=0->(Ci sf/\FW s sf)/\((∀p∈l,Ah [Ag sf p.l]<=2000/\Ah [Ag sf p.r]<=2000)->∃n,A0 false n s l=some (e,sf))/\
  (∀V:List ByteArray,(∀d∈s,d.nm∈V)->(∀y,Av y=true->Ay y (An s (AO l))->y∈V)->∀d∈sf,d.nm∈V):=by
 induction h with
 |done s=>intro a _; exact⟨⟨a,JW a⟩,λ_=>⟨1,rfl⟩,λV h _=>h⟩
 | @step s s' sf p l' rest e h1 h2 i=>
  intro a he;obtain⟨e1,e2⟩:=C9.1 he;obtain⟨e2,e3⟩:=C9.1 e2;have j:=EZ a e1;have k:=EZ a e2;obtain⟨g1,g2,g3,g4,g5,g6⟩:=Uy a j k (a.goneT e1) (a.goneT e2) h1;have m:As (AO (l'++rest))=0:=by rw[Hq]; exact JK.2 ⟨g3,e3⟩
  obtain⟨⟨c,i2⟩,i3,i4⟩:=i g1 m;have b:FW s sf:=g2.trans a i2;refine⟨⟨c,b⟩,λhz=>?_,λV h6 f=>i4 V (g4 V h6 λy hy ho=>f y hy ?_) λy hy ho=>?_⟩
  ·have za:=(hz p (by simp)).1;have zb:=(hz p (by simp)).2;have o:Ah [Ag s p.l]<=2000:=(by have:=NP sf (Ag s p.l);rw[b.T e1]at this;omega);have q:Ah [Ag s p.r]<=2000:=(by have:=NP sf (Ag s p.r);rw[b.T e2]at this;omega);obtain⟨n,t⟩:=i3 λu hp'=>by
    rcases BN.1 hp' with hp'|hp'
    ·rcases g6 with g6|⟨rfl,va,g,g6⟩
     ·rw[g6]at hp'; cases hp'
     ·rw[g6]at hp';obtain⟨m1,m2⟩:=lJ hp';have z1:=Uz c va m1;have z2:=Uz c g m2;rw[b.T e1]at z1;rw[b.T e2]at z2;omega
    ·exact hz u (by simp[hp'])
   refine⟨n+1,?_⟩;rw[A0,EL,OP o q,h1];exact t
  ·rw[AO,Bs,Bs];rcases ho with ho|ho
   ·exact Cm.2 (Ad ho)
   ·exact Cm.2 (Ae (Cm.2 (Ad ho)))
  ·refine f y hy ?_;rw[AO,Bs,Bs];rw[Hq,IG]at ho;have fin:Ay y (An s (AO rest))∨Ay y [Ag s p.l]∨Ay y [Ag s p.r]:=by
    rcases Mm.1 ho with ho|ho
    ·rcases g6 with g6|⟨gs,va,g,g6⟩
     ·rw[g6]at ho; simp only[AO,An] at ho; exact absurd ho FP
     ·rw[g6,gs]at ho;have v:An s (AO (AD (Ag s p.l).args (Ag s p.r).args))=AO (AD (Ag s p.l).args (Ag s p.r).args):=Qb _ λd hd hoc=>by
       rcases I6 hoc with hoc|hoc
       ·exact a.goneT e1 d hd (GU hoc)
       ·exact a.goneT e2 d hd (GU hoc)
      rw[v]at ho;rcases I6 ho with ho|ho
      ·exact Ae (Ad (GU ho))
      ·exact Ae (Ae (GU ho))
    ·exact g5 _ e3 y hy ho
   rcases fin with ho|ho|ho
   ·exact Cm.2 (Ae (Cm.2 (Ae ho)))
   ·exact Cm.2 (Ad ho)
   ·exact Cm.2 (Ae (Cm.2 (Ad ho)))
 | @stop s p rest e h1=>intro a he;obtain⟨e1,e2⟩:=C9.1 he;obtain⟨e2,e3⟩:=C9.1 e2;refine⟨⟨a,JW a⟩,λhz=>⟨1,?_⟩,λV h _=>h⟩;rw[A0,EL,OP (hz p (by simp)).1 (hz p (by simp)).2,h1]
theorem UA {y:ByteArray}:∀ {l:List Pr},Ay y (AO l)->∃p∈l,Ay y [p.l]∨Ay y [p.r]
 | [],h=>absurd h FP
 |p::r,h=>by
  rw[AO]at h;rcases Cm.1 h with h|h
  ·exact⟨p,by simp,Ad h⟩
  ·rcases Cm.1 h with h|h
   ·exact⟨p,by simp,Ae h⟩
   ·obtain⟨q,hq,h⟩:=UA h;exact⟨q,by simp[hq],h⟩
theorem MW:∀ {l:List Pr},As (AO l)=0->∀p∈l,As [p.l]=0/\As [p.r]=0
 | [],_,p,hp=>by cases hp
 |q::r,h,p,hp=>by
  rw[AO]at h;obtain⟨e1,e2⟩:=C9.1 h;obtain⟨e2,e3⟩:=C9.1 e2;rcases Ct.1 hp with rfl|hp
  ·exact⟨e1,e2⟩
  ·exact MW e3 p hp
theorem FR.ends (h:FR [] l e sf) (he:As (AO l)=0) (hz:∀p∈l,Ah [Ag sf p.l]<=2000/\Ah [Ag sf p.r]<=2000):(∃n,A0 false n [] l=some (e,sf))/\AV sf=false:=by
 obtain⟨⟨h1,h2⟩,h3,f⟩:=h.run Kw he;refine⟨h3 hz,?_⟩;have h5:=f ((Aw (AO l)).map (·.name)) (by simp) (λy hy ho=>by
  rw[Qb _ (by simp)]at ho;obtain⟨k,hk,rfl⟩:=ho;exact Cx.2 ⟨k,hk,rfl⟩)
 unfold AV;rw[Bool.eq_false_iff];intro a;rw[Fc]at a;obtain⟨d,hd,g⟩:=a;simp only[Lo] at g;obtain⟨k,hk,i⟩:=Cx.1 (h5 d hd);obtain⟨p,hp,ho⟩:=UA (y:=d.nm) ⟨k,hk,i⟩;have b:=h1.vars d hd;have c:Ag sf ⟨d.nm,[]⟩=d.t:=by rw[FN,Kv h1.1 hd]; rfl
 obtain⟨e1,e2⟩:=MW he p hp;have ab:=hz p hp;rcases ho with ho|ho
 ·have h6:=ON h1.vars b [p.l] e1 ho;rw[Bs,c]at h6;simp only[An] at h6;omega
 ·have h6:=ON h1.vars b [p.r] e2 ho;rw[Bs,c]at h6;simp only[An] at h6;omega
def Ei (s:List Bd) (l k:List Pr):Prop:=l.map (λp=>(Ag s p.l,Ag s p.r))=k.map (λp=>(Ag s p.l,Ag s p.r))
theorem Ei.later (a:FW s s'):∀ {l k:List Pr},As (AO l)=0->As (AO k)=0->Ei s l k->Ei s' l k
 | [],[],_,_,_=>rfl
 | [],_::_,_,_,h=>by simp[Ei] at h
 |_::_,[],_,_,h=>by simp[Ei] at h
 |p::l,q::k,b,hk,h=>by
  unfold Ei at h;rw[CB,CB]at h;injection h with h1 h2
  injection h1 with h3 c
  obtain⟨e1,e2⟩:=C9.1 b;obtain⟨e2,e3⟩:=C9.1 e2;obtain⟨f1,f2⟩:=C9.1 hk;obtain⟨f2,f3⟩:=C9.1 f2;have h5:Ei s' l k:=Ei.later a e3 f3 h2;unfold Ei;rw[CB,CB,h5,<-a.T e1,<-a.T e2,<-a.T f1,<-a.T f2,h3,c]
theorem FR.congr (h:FR s l e sf):∀ {k:List Pr},Ci s->As (AO l)=0->As (AO k)=0->Ei s l k->FR s k e sf:=by
 induction h with
 |done s=>
  intro k _ _ _ hk;cases k with
  |nil=>exact FR.done s
  |cons q k=>simp[Ei] at hk
 | @step s s' sf p l' rest e h1 h2 d=>
  intro k a he hk h;cases k with
  |nil=>simp[Ei] at h
  |cons q k=>
   unfold Ei at h;rw[CB,CB]at h;injection h with h3 b
   injection h3 with h5 h6
   obtain⟨e1,e2⟩:=C9.1 he;obtain⟨e2,e3⟩:=C9.1 e2;obtain⟨f1,f2⟩:=C9.1 hk;obtain⟨f2,f3⟩:=C9.1 f2;obtain⟨g1,g2,g3,_⟩:=Uy a (EZ a e1) (EZ a e2) (a.goneT e1) (a.goneT e2) h1;refine FR.step (by rw[<-h5,<-h6]; exact h1) (d g1 (by rw[Hq]; exact JK.2 ⟨g3,e3⟩) (by rw[Hq]; exact JK.2 ⟨g3,f3⟩) ?_);have c:Ei s' rest k:=Ei.later g2 e3 f3 b;unfold Ei at c ⊢;rw[Db,Db,c]
 | @stop s p rest e h1=>
  intro k a he hk h;cases k with
  |nil=>simp[Ei] at h
  |cons q k=>
   unfold Ei at h;rw[CB,CB]at h;injection h with h3 b
   injection h3 with h5 h6
   exact FR.stop (by rw[<-h5,<-h6]; exact h1)
structure Zp where
 nm:ByteArray
 t:Tm
 b:Nat
 o:Nat
def Da (Z:List Zp) (s:List Bd):Prop:=Ci s/\(∀z∈Z,Av z.nm=true/\As [z.t]=0/\Ag s ⟨z.nm,[]⟩=Ag s z.t)/\(∀d∈s,∃z∈Z,z.nm=d.nm)/\∀z∈Z,∃d∈s,d.nm=z.nm
theorem lK:Da [] []:=⟨Kw,by simp,by simp,by simp⟩
theorem Da.unbound {Z:List Zp} (h:Da Z s) (a:∀z∈Z,z.nm≠n):∀d∈s,d.nm≠n:=λd hd e=>by
 obtain⟨z,hz,e2⟩:=h.2.2.1 d hd;exact a z hz (e2.trans e)
theorem Da.fresh {Z:List Zp} (h:Da Z s) (a:∀d∈s,d.nm≠n):∀z∈Z,z.nm≠n:=λz hz e=>by
 obtain⟨d,hd,e2⟩:=h.2.2.2 z hz;exact a d hd (e2.trans e)
theorem Da.errs {Z:List Zp} (h:Da Z s):∀z∈Z,As [z.t]=0:=λz hz=>(h.2.1 z hz).2.1
theorem Da.stands {Z:List Zp} (h:Da Z s) (he:As [t]=0) (a:Av t.name=true) {z:Zp} (hz:z∈Z) (b:z.nm=t.name):Ag s z.t=Ag s t:=by
 rw[JV he a,<-b];exact(h.2.1 z hz).2.2.symm
def EE (s:List Bd) (t:Tm):Prop:=As [t]=0/\(Av t.name=true->∀d∈s,d.nm≠t.name)
theorem UB (h:∀d∈s,d.nm≠n):AF s n=none:=by
 induction s with
 |nil=>rfl
 |cons d r a=>rw[AF,Am (h d (by simp))]; exact a λe he=>h e (by simp[he])
theorem EE.var (h:EE s t) (a:Av t.name=true):Ag s t=⟨t.name,[]⟩:=by
 rw[JV h.1 a,FN,UB (h.2 a)];rfl
theorem JX (a:Ci s) (b:Av t.name=false):Ag s t=⟨t.name,An s t.args⟩:=by
 obtain⟨n,l⟩:=t;exact EY a.vars b l
theorem EE.name (b:Ci s) (h:EE s t):(Ag s t).name=t.name:=by
 cases a:Av t.name with
 |true=>rw[h.var a]
 |false=>rw[JX b a]
theorem OQ (s:List Bd):∀l:List Tm,(An s l).length=l.length
 | []=>by simp[An]
 |t::r=>by rw[Bs,Cl,OQ s r,Cl]
theorem Da.add {Z:List Zp} (h:Da Z s) (hx:Av x=true) (c:∀d∈s,d.nm≠x) (he:As [t]=0) (ho:¬Ay x [Ag s t]) (b o:Nat):Da (Z++[⟨x,t,b,o⟩]) (CJ s x (Ag s t)):=by
 have a:=h.1;have i:=EZ a he;have h1:=a.add hx c i (a.goneT he) ho;have f:∀y,As [y]=0->Ag (CJ s x (Ag s t)) y=Ag [⟨x,Ag s t⟩] (Ag s y):=λy hy=>by
  have h2:=Jr a hx c h1 [y] hy;rw[Bs,Bs,Bs]at h2;injection h2
 refine⟨h1,λz hz=>?_,λd hd=>?_,λz hz=>?_⟩
 ·rcases BN.1 hz with hz|hz
  ·obtain⟨g1,g2,g3⟩:=h.2.1 z hz;exact⟨g1,g2,by rw[Mn a.1 c,g3,f _ g2]⟩
  ·have e:z=⟨x,t,b,o⟩:=(by simpa using hz);subst e;refine⟨hx,he,?_⟩;show Ag (CJ s x (Ag s t)) ⟨x,[]⟩=Ag (CJ s x (Ag s t)) t;rw[Mn a.1 c,f t he,FN s x,UB c,JQ (s:=[⟨x,Ag s t⟩]) (t:=Ag s t) (λd hd=>by
    have e:d=⟨x,Ag s t⟩:=(by simpa using hd);rw[e]; exact ho)]
   simp[FN,AF]
 ·have h8:=(EU (s.map (BJ x (Ag s t))++[⟨x,Ag s t⟩])).subset hd;rcases BN.1 h8 with h8|h8
  ·obtain⟨d',j,rfl⟩:=Cx.1 h8;obtain⟨z,hz,e⟩:=h.2.2.1 d' j;exact⟨z,by simp[hz],e⟩
  ·have e:d=⟨x,Ag s t⟩:=(by simpa using h8);exact⟨⟨x,t,b,o⟩,by simp,by rw[e]⟩
 ·have g:∀d,d∈s.map (BJ x (Ag s t))++[⟨x,Ag s t⟩]->d∈CJ s x (Ag s t):=λd hd=>(EU _).symm.subset hd;rcases BN.1 hz with hz|hz
  ·obtain⟨d,hd,e⟩:=h.2.2.2 z hz;exact⟨BJ x (Ag s t) d,g _ (List.mem_append_left _ (Cx.2 ⟨d,hd,rfl⟩)),e⟩
  ·have e:z=⟨x,t,b,o⟩:=(by simpa using hz);exact⟨⟨x,Ag s t⟩,g _ (by simp),by rw[e]⟩
theorem UC (hx:Av x=true) (h:Ay x [t]):Ch x (AU [] (Aw [t]))=true:=by
 by_cases hi:Ch x (AU [] (Aw [t]))=true
 ·exact hi
 ·exact absurd h (KI hx hi)
theorem UD (h:¬Ay x [t]):¬Ch x (AU [] (Aw [t]))=true:=λhi=>by
 unfold Ch at hi;rw[Fc]at hi;obtain⟨n,a,e⟩:=hi;rcases Mi _ _ _ a with a|⟨k,hk,e2,_⟩
 ·cases a
 ·exact h ⟨k,hk,by rw[e2]; first|exact(Gg (by simpa using e)).symm|exact Gg (by simpa using e)⟩
theorem lL (d:Ci s) (e:Ag s c=Ag s a) (hb:Ag s b'=Ag s b) (f:EE s c) (g:EE s b') (h:Av c.name=true) (i:b'.name=c.name):FR s [⟨a,b⟩] 0 s:=by
 refine FR.step (s':=s) (l':=[]) ?_ (FR.done s);show Eh s (Ag s a) (Ag s b)=_;rw[<-e,<-hb];unfold Eh;rw[f.name d,g.name d,Aq h,Aq i.symm]
theorem UE (d:Ci s) (e:Ag s c=Ag s a) (hb:Ag s b'=Ag s b) (f:EE s c) (g:EE s b') (h:(Av c.name=true/\b'.name≠c.name/\Ay c.name [Ag s b'])∨(Av c.name=false/\Av b'.name=true/\Ay b'.name [Ag s c])):FR s [⟨a,b⟩] 6 s:=by
 refine FR.stop ?_;show Eh s (Ag s a) (Ag s b)=_;rw[<-e,<-hb];unfold Eh;rw[f.name d,g.name d];rcases h with ⟨h1,h2,h3⟩|⟨h1,h2,h3⟩
 ·rw[Aq h1,Am (Ne.symm h2)];unfold FD;rw[Aq (UC h1 h3)]
 ·rw[Am (by rw[h1]; simp),Aq h2];unfold FD;rw[Aq (UC h2 h3)]
theorem UG (d:Ci s) (e:Ag s c=Ag s a) (hb:Ag s b'=Ag s b) (f:EE s c) (g:EE s b') (h:(Av c.name=true/\b'.name≠c.name/\x=c.name/\u=b')∨(Av c.name=false/\Av b'.name=true/\x=b'.name/\u=c)) (ho:¬Ay x [Ag s u]):FR s [⟨a,b⟩] 0 (CJ s x (Ag s u)):=by
 refine FR.step (s':=CJ s x (Ag s u)) (l':=[]) ?_ (FR.done _);show Eh s (Ag s a) (Ag s b)=_;rw[<-e,<-hb];unfold Eh;rw[f.name d,g.name d];rcases h with ⟨h1,h2,rfl,rfl⟩|⟨h1,h2,rfl,rfl⟩
 ·rw[Aq h1,Am (Ne.symm h2)];unfold FD;rw[Am (UD ho)]
 ·rw[Am (by rw[h1]; simp),Aq h2];unfold FD;rw[Am (UD ho)]
theorem UH (d:Ci s) (f:Ag s c=Ag s a) (hb:Ag s b'=Ag s b) (va:Av c.name=false) (e:Av b'.name=false) (h:¬(c.name=b'.name/\c.args.length=b'.args.length)):FR s [⟨a,b⟩] 5 s:=by
 refine FR.stop ?_;show Eh s (Ag s a) (Ag s b)=_;rw[<-f,<-hb,JX d va,JX d e];unfold Eh;rw[Am (by rw[va]; simp),Am (by rw[e]; simp),Am (by simpa [OQ] using h)]
theorem UJ (s:List Bd):∀(a b:List Tm),(AD (An s a) (An s b))=(AD a b).map λp=>⟨Ag s p.l,Ag s p.r⟩
 | [],_=>by simp[An,AD]
 |_::_,[]=>by simp[An,Bs,AD]
 |x::a,y::b=>by rw[Bs,Bs,AD,AD,UJ s a b]; rfl
theorem UK (d:Ci s) (j:Ag s c=Ag s a) (hb:Ag s b'=Ag s b) (f:As [c]=0) (g:As [b']=0) (va:Av c.name=false) (i:Av b'.name=false) (k:c.name=b'.name) (m:c.args.length=b'.args.length) (h:FR s (AD c.args b'.args) e sf):FR s [⟨a,b⟩] e sf:=by
 refine FR.step (s':=s) (l':=AD (An s c.args) (An s b'.args)) ?_ ?_
 ·show Eh s (Ag s a) (Ag s b)=_;rw[<-j,<-hb,JX d va,JX d i];unfold Eh;rw[Am (by rw[va]; simp),Am (by rw[i]; simp),Aq (by simpa [OQ] using⟨k,m⟩)]
 ·rw[List.append_nil];have e1:=JL (FV f) (FV g);have e2:As (AO (AD (An s c.args) (An s b'.args)))=0:=JL (IR d _ (FV f)) (IR d _ (FV g));refine h.congr d e1 e2 ?_;unfold Ei;rw[UJ,List.map_map];refine List.map_congr_left λp hp=>?_;obtain⟨f1,f2⟩:=MW e1 p hp;show(Ag s p.l,Ag s p.r)=(Ag s (Ag s p.l),Ag s (Ag s p.r));rw[(JW d).T f1,(JW d).T f2]
theorem UL:∀ {a b:List Tm} {k:Nat} (h:k<a.length) (h2:k<b.length),AD (a.take (k+1)) (b.take (k+1))=AD (a.take k) (b.take k)++[⟨a[k],b[k]⟩]
 |x::a,y::b,0,_,_=>by simp[AD]
 |x::a,y::b,k+1,h,h2=>by
  rw[J5,J5,AD,UL (k:=k) (by simpa using h) (by simpa using h2)];rfl
theorem UM:∀(a b:List Tm) (k:Nat),AD a b=AD (a.take k) (b.take k)++AD (a.drop k) (b.drop k)
 |a,b,0=>by simp[AD]
 | [],b,k+1=>by simp[AD]
 |x::a,[],k+1=>by simp[AD]
 |x::a,y::b,k+1=>by
  rw[J5,J5,List.drop_succ_cons,List.drop_succ_cons,AD,AD,UM a b k];rfl
theorem UN {a b:List Tm} (h:k<a.length) (h2:k<b.length) (h0:FR s (AD (a.take k) (b.take k)) 0 s') (h1:FR s' [⟨a[k],b[k]⟩] e sf):FR s (AD (a.take (k+1)) (b.take (k+1))) e sf:=by
 rw[UL h h2];exact h0.append_ok rfl h1
theorem lM {a b:List Tm} (k:Nat) (he:e≠0) (h:FR s (AD (a.take k) (b.take k)) e sf):FR s (AD a b) e sf:=by
 rw[UM a b k];exact h.append_err he _
theorem UP (h:k<l.length) (h0:FR s (l.take k) 0 s') (h1:FR s' [⟨l[k].l,l[k].r⟩] e sf):FR s (l.take (k+1)) e sf:=by
 rw[CI h];exact h0.append_ok rfl h1
theorem lN (k:Nat) (he:e≠0) (h:FR s (l.take k) e sf):FR s l e sf:=by
 have h1:=h.append_err he (l.drop k);rwa [FH] at h1
def Ht (w:World) (X:Nat->Prop) (b o:Nat) (t:Tm):Prop:=∃a c,w.cell? (zD b o)=some (.string t.name)/\w.cell? ⟨b,o+1,none⟩=some (.slice a t.args.length c)/\Sl w X a t.args/\b<w.heap.size
theorem Ht.later {X:Nat->Prop} {b:Nat} (h:Ht w X b o t) (hb:Below w.heap.size w w'):Ht w' X b o t:=by
 obtain⟨a,c,h1,h2,h3,d⟩:=h;exact⟨a,c,(hb.cell (p:=(zD b o)) d).trans h1,(hb.cell (p:=⟨b,o+1,none⟩) d).trans h2,h3.later hb,Ce d hb.size⟩
theorem Ht.lt {X:Nat->Prop} {b:Nat} (h:Ht w X b o t):b<w.heap.size:=by
 obtain⟨a,c,h1,h2,h3,d⟩:=h;exact d
theorem Ht.sub {X:Nat->Prop} {b:Nat} (h:Ht w X b o t):∃a c,w.cell? ⟨b,o+1,none⟩=some (.slice a t.args.length c)/\∀k (hk:k<t.args.length),∃b' o',a=some (zD b' o')/\Ht w X b' (o'+k*2) t.args[k]:=by
 obtain⟨a,c,h1,h2,h3,h4⟩:=h;refine⟨a,c,h2,λk hk=>?_⟩;obtain⟨b',o',d,c',rfl,d0,d1,hx⟩:=h3.get (Ac _ _) (λ_ _ h=>h) k hk;obtain⟨a2,c2,e2,hx⟩:=hx;cases e2;exact⟨b',o',rfl,d,c',d0,d1,hx,Es d0⟩
def DP (w:World) (X:Nat->Prop) (b o:Nat) (t:Tm):Prop:=Ht w X b o t/\X b
theorem DP.exq {X:Nat->Prop} {b:Nat} (h:DP w X b o t) (he:Al Q w w') (d:∀b,X b->¬Q b):DP w' X b o t:=by
 obtain⟨⟨a,c,h1,h2,h3,f⟩,h5⟩:=h;have e:=he.block b f (d b h5);exact⟨⟨a,c,(DI e).trans h1,(DI e).trans h2,h3.exq he d,Ce f he.size⟩,h5⟩
theorem DP.sub {X:Nat->Prop} {b:Nat} (h:DP w X b o t):∃a c,w.cell? ⟨b,o+1,none⟩=some (.slice a t.args.length c)/\t.args.length<=9223372036854775807/\∀k (hk:k<t.args.length),∃b' o',a=some (zD b' o')/\DP w X b' (o'+k*2) t.args[k]:=by
 obtain⟨⟨a,c,h1,h2,h3,h4⟩,_⟩:=h;refine⟨a,c,h2,h3.1,λk hk=>?_⟩;obtain⟨b',o',d,c',rfl,d0,d1,hx⟩:=h3.get (Ac _ _) (λ_ _ h=>h) k hk;obtain⟨a2,c2,e2,hx⟩:=hx;cases e2;have e:X b':=by
  obtain⟨_,h1⟩:=h3;rcases h1 with h1|⟨b2,o2,e',h1⟩
  ·rw[h1]at hk; simp at hk
  ·cases e'; exact(Lu _ _ _ h1 k hk).1
 exact⟨b',o',rfl,⟨d,c',d0,d1,hx,Es d0⟩,e⟩
def Hu (z:Zp):ByteArray×Value:=(z.nm,.pointer (some ⟨z.b,z.o,none⟩))
def De (w:World) (S q:Nat) (X:Nat->Prop) (Z:List Zp) (left:Int):Prop:=
 Ab w S #[.map (some q),zA left] 155/\BI w q (Z.map Hu)/\(∀z∈Z,DP w X z.b z.o z.t)/\∀b,X b->b≠S/\b≠q
def CP (S q:Nat):Nat->Prop:=λb=>b=S∨b=q
theorem De.ne {X:Nat->Prop} {Z:List Zp} (h:De w S q X Z left):S≠q:=λe=>by
 obtain⟨es,aa,h1,_⟩:=h.2.1;have h2:=h.1;unfold Ab at h2;rw[e,h1]at h2; cases h2
theorem De.X {X:Nat->Prop} {Z:List Zp} (h:De w S q X Z left):∀b,X b->¬CP S q b:=λb hb hq=>by
 rcases hq with e|e
 ·exact(h.2.2.2 b hb).1 e
 ·exact(h.2.2.2 b hb).2 e
theorem De.later {X:Nat->Prop} {Z:List Zp} (h:De w S q X Z left) (hb:Below w.heap.size w w'):De w' S q X Z left:=
 ⟨h.1.below hb h.1.lt,h.2.1.below hb h.2.1.lt,λz hz=>(h.2.2.1 z hz).exq (Al.ofBelow (Q:=CP S q) hb) h.X,h.2.2.2⟩
theorem De.spend {X:Nat->Prop} {Z:List Zp} (h:De w S q X Z left) (n:Int):De (w.setCell (zD S 1) (zA n)) S q X Z n:=
 ⟨by have:=h.1.set 1 (zA n); simpa using this,h.2.1.kept (Ak _ _ _ _ (by simpa using h.ne.symm)),λz hz=>(h.2.2.1 z hz).exq ((Al.refl (CP S q) w).set (Ad rfl) 1 _) h.X,h.2.2.2⟩
theorem UQ {Z:List Zp}:(BK (Z.map Hu) n=none/\∀z∈Z,z.nm≠n)∨∃z∈Z,z.nm=n/\BK (Z.map Hu) n=some (.pointer (some ⟨z.b,z.o,none⟩)):=by
 induction Z with
 |nil=>exact Ad ⟨rfl,by simp⟩
 |cons y r c=>
  by_cases a:y.nm=n
  ·exact Ae ⟨y,by simp,a,by simp[BK,Hu,a]⟩
  ·rcases c with ⟨h1,h2⟩|⟨z,hz,h1,h2⟩
   ·refine Ad ⟨by rw[CB,BK,Am (by simpa [Hu] using a)]; exact h1,λz hz=>?_⟩;rcases Ct.1 hz with rfl|hz
    ·exact a
    ·exact h2 z hz
   ·exact Ae ⟨z,by simp[hz],h1,by rw[CB,BK,Am (by simpa [Hu] using a)]; exact h2⟩
def lO (w:World) (S q:Nat) (X:Nat->Prop) (Z:List Zp) (left:Int) (t:Tm) (e:Ending) (w':World):Prop:=
 ∃(b o:Nat) (t':Tm) (n:Int),e=.returned (.pointer (some (zD b o)))/\De w' S q X Z n/\DP w' X b o t'/\Al (CP S q) w w'/\n<=left/\(-1<=n∨n=left)/\As [t']=0/\∀s,Da Z s->Ag s t'=Ag s t/\(0<=n->EE s t')
def lP (w:World) (S q:Nat) (X:Nat->Prop) (Z:List Zp) (left:Int) (t:Tm) (g:Nat) (tv:Value) (wr:World):Prop:=
 ∃(b o:Nat) (t':Tm) (n:Int),g=(n+1).toNat/\tv=.pointer (some (zD b o))/\De wr S q X Z n/\DP wr X b o t'/\Al (CP S q) w wr/\n<=left/\(-1<=n∨n=left)/\As [t']=0/\∀s,Da Z s->Ag s t'=Ag s t
theorem MX (S q:Nat) (X:Nat->Prop) (Z:List Zp) (M:∀z∈Z,As [z.t]=0) (left:Int) (t:Tm) (b o:Nat) (w:World) (D:De w S q X Z left) (hl:-100<=left) (ay:left<=100000) (ht:DP w X b o t) (he:As [t]=0):
  Calls prog 131 #[zC S,.pointer (some (zD b o))] w λe w'=>lO w S q X Z left t e w':=by
 have N:=Aa D;have HT:=Aa ht;have O:=Aa he;clear D ht;go_in;go_wp2_with fail;go_loopg [1] (left+1).toNat (λg R wr=>lP w S q X Z left t g R wr)
 case atStart=>exact⟨b,o,t,left,rfl,rfl,N.o,HT.o,Al.refl _ _,Int.le_refl _,Ae rfl,O.o,λ_ _=>rfl⟩
 case round=>
  obtain⟨d,f,t1,n,rfl,rfl,m,E,F,x,y,i,G⟩:=hrel;have a:=Aa m;have A:=Aa E;have r:=Aa F;have u:=Aa G;have s1:wr.cell? (zD S 1)=some (zA n):=m.1.cell 1;have T:=m.1.c0;obtain⟨⟨a1,c1,U,p1,az,a6⟩,a7⟩:=E;clear m F G;by_cases a8:0<=n
  ·cases j:Av t1.name with
   |false=>have k:Hid (∀s,Da Z s->Ag s t1=Ag s t/\(0<=n->EE s t1)):=λs c=>⟨u.o s c,λ_=>⟨i,λh=>by rw[j] at h; cases h⟩⟩;go_wp2_with (go_at_call 109; refine(DU _ _).mono ?_; rintro e wr ⟨rfl,rfl⟩; rw[j]);refine Ao (v:=.pointer (some (zD d f))) (by simp[results,results131,go_sem]) rfl ?_;exact⟨d,f,t1,n,rfl,a.o,A.o,r.o,x,y,i,k.o⟩
   |true=>
    have hz:∀w',(zeroValue 157).run prog w'=.ok (.pointer none) w':=λw'=>zeroValue157 w';have H:=Aa (And.intro T U);rcases UQ (Z:=Z) (n:=t1.name) with ⟨l,I⟩|⟨z,B,ar,l⟩
    ·have k:Hid (∀s,Da Z s->Ag s t1=Ag s t/\(0<=n->EE s t1)):=λs c=>⟨u.o s c,λ_=>⟨i,λ_=>c.unbound I⟩⟩;have V:(Instr.lookup 153 (.map (some q)) (.string t1.name) true).run prog wr.drew=.ok (.tuple #[.pointer none,.bool false]) wr.drew:=(by rw[Ii (P:=prog) underlying153 underlying9 (hz _) (show BI wr.drew q (Z.map Hu) from a.o.2.1) t1.name,l]; rfl);clear l I;go_wp2_with (go_at_call 109; refine(DU _ _).mono ?_; rintro e wr ⟨rfl,rfl⟩; rw[j]);go_region_held3 (λw'=>w'.cell? (zD S 0)=some (.map (some q))/\w'.cell? (zD d f)=some (.string t1.name)) (first|exact H.o|go_keep) (fail);go_wp2_with fail;refine Ao (v:=.pointer (some (zD d f))) (by simp[results,results131,go_sem]) rfl ?_;have C:Below wr.heap.size wr wr.drew:=(Ac _ _).drew;exact⟨d,f,t1,n,rfl,a.o.later C,A.o.exq (Al.ofBelow (Q:=CP S q) C) a.o.X,r.o.drew,x,y,i,k.o⟩
    ·have k:Hid (∀s,Da Z s->Ag s z.t=Ag s t):=λs c=>(c.stands i j B ar).trans (u.o s c);have J:=Aa B;have V:(Instr.lookup 153 (.map (some q)) (.string t1.name) true).run prog wr.drew=.ok (.tuple #[.pointer (some ⟨z.b,z.o,none⟩),.bool true]) wr.drew:=(by rw[Ii (P:=prog) underlying153 underlying9 (hz _) (show BI wr.drew q (Z.map Hu) from a.o.2.1) t1.name,l]; rfl);have aA:wr.drew.cell? (zD S 1)=some (zA n):=s1;have aB:wr.drew.frozen? (zD S 1)=false:=a.o.1.frozen 1;clear l B ar;go_wp2_with (go_at_call 109; refine(DU _ _).mono ?_; rintro e wr ⟨rfl,rfl⟩; rw[j]);go_region_held3 (λw'=>w'.cell? (zD S 0)=some (.map (some q))/\w'.cell? (zD d f)=some (.string t1.name)) (first|exact H.o|go_keep) (fail);have av:IntKind.i64.wrap (n-1)=n-1:=by rw[Ck]; omega
     go_wp2_with fail;have C:Below wr.heap.size wr wr.drew:=(Ac _ _).drew;have L:Al (CP S q) wr (wr.setCell (zD S 1) (zA (n-1))).drew:=((Al.refl (CP S q) wr).set (Ad rfl) 1 _).drew;go_roundg ((n-1)+1).toNat
     case rel=>exact⟨z.b,z.o,z.t,n-1,rfl,rfl,(a.o.spend (n-1)).later ((Ac _ _).drew),(a.o.2.2.1 z J.o).exq L a.o.X,r.o.trans L,by omega,by omega,M z J.o,k.o⟩
     case measure=>omega
  ·go_wp2_with fail;refine Ao (v:=.pointer (some (zD d f))) (by simp[results,results131,go_sem]) rfl ?_;exact⟨d,f,t1,n,rfl,a.o,A.o,r.o,x,y,i,λs c=>⟨u.o s c,λh=>absurd h (by omega)⟩⟩
theorem EE.knot (b:Ci s) (h:EE s t):Ag s t=⟨t.name,An s t.args⟩:=by
 cases a:Av t.name with
 |false=>exact JX b a
 |true=>
  rw[h.var a];have e:t.args=[]:=by rw[JV h.1 a]
  rw[e];simp[An]
theorem UR {s:List Bd} {x:ByteArray}:∀ {l:List Tm},Ay x (An s l)↔∃k,∃h:k<l.length,Ay x [Ag s l[k]]
 | []=>by
  simp only[An];exact⟨λh=>absurd h FP,λ⟨k,h,_⟩=>absurd h (by simp)⟩
 |t::r=>by
  rw[Bs,Cm,UR (l:=r)];constructor
  ·rintro(h|⟨k,hk,h⟩)
   ·exact⟨0,by simp,h⟩
   ·exact⟨k+1,by simpa using hk,h⟩
  ·rintro⟨k,hk,h⟩;cases k with
   |zero=>exact Ad h
   |succ k=>exact Ae ⟨k,by simpa using hk,h⟩
theorem Lc:∀ {l:List Tm},As l=0->∀k (h:k<l.length),As [l[k]]=0
 |t::r,he,0,_=>(C9.1 he).1
 |t::r,he,k+1,h=>Lc (C9.1 he).2 k (by simpa using h)
def lQ (w:World) (S q:Nat) (X:Nat->Prop) (Z:List Zp) (left:Int) (t:Tm) (x:ByteArray) (e:Ending) (w':World):Prop:=
 ∃(r:Bool) (n:Int),e=.returned (.bool r)/\De w' S q X Z n/\Al (CP S q) w w'/\n<left/\-2<=n/\(n<0->r=true)/\(0<=n->∀s,Da Z s->(∀d∈s,d.nm≠x)->(r=true↔Ay x [Ag s t]))
def lR (w:World) (S q:Nat) (X:Nat->Prop) (Z:List Zp) (left:Int) (b1 o1:Nat) (t1:Tm) (x:ByteArray) (i:Value) (wr:World):Prop:=
 ∃(k:Nat) (n:Int),k<=t1.args.length/\i=zA k/\DP wr X b1 o1 t1/\De wr S q X Z n/\Al (CP S q) w wr/\n<left/\0<=n/\∀s,Da Z s->(∀d∈s,d.nm≠x)->∀j (h:j<t1.args.length),j<k->¬Ay x [Ag s t1.args[j]]
theorem lS (S q:Nat) (X:Nat->Prop) (Z:List Zp) (hZ:∀z∈Z,As [z.t]=0) (x:ByteArray) (m:Nat):∀(left:Int) (t:Tm) (b o:Nat) (w:World),left.toNat=m->0<=left->left<=100000->De w S q X Z left->DP w X b o t->As [t]=0->
  Calls prog 142 #[zC S,.pointer (some (zD b o)),.string x] w λe w'=>lQ w S q X Z left t x e w':=by
 induction m using Nat.strongRecOn with
 |_ m F=>
  intro left t b o w hm h0 h1 G hP he;have IH:=Aa F;have HS:=Aa G;have HP:=Aa hP;clear F G hP;go_in;go_wp2_with fail;refine(MX S q X Z hZ left t b o w HS.o (by omega) h1 HP.o he).mono ?_;rintro e w1 ⟨b1,o1,t1,n,rfl,c,f,g,aO,aP,aG,H⟩;have aQ:=Aa c;have aR:=Aa f;have aS:=Aa g;have I:=Aa H;have s1:w1.cell? (zD S 1)=some (zA n):=c.1.cell 1;have f1:w1.frozen? (zD S 1)=false:=c.1.frozen 1;have ar:IntKind.i64.wrap (n-1)=n-1:=by rw[Ck]; omega
  have l:Al (CP S q) w1 (w1.setCell (zD S 1) (zA (n-1))):=(Al.refl (CP S q) w1).set (Ad rfl) 1 _;have r:=Aa (g.trans l);have u:=Aa (c.spend (n-1));have J:=Aa (f.exq l c.X);have aH:=Aa c.X;obtain⟨⟨a1,c1,p0,p1,L,aT⟩,aU⟩:=J.o;have aV:=L.1;clear c g H f L l;by_cases hlt:n-1<0
  ·go_wp2_with fail;refine Ao (v:=.bool true) (by simp[results,results142,go_sem]) rfl ?_;exact⟨true,n-1,rfl,u.o,r.o,by omega,by omega,λ_=>rfl,λh=>absurd h (by omega)⟩
  ·have d:Hid (∀s,Da Z s->Ag s t1=Ag s t/\Ag s t1=⟨t1.name,An s t1.args⟩):=λs a=>⟨(I.o s a).1,((I.o s a).2 (by omega)).knot a.1⟩;cases y:(t1.name.toList==x.toList) with
   |true=>have hx:t1.name=x:=Gg (by simpa using y);go_wp2_with fail;refine Ao (v:=.bool true) (by simp[results,results142,go_sem]) rfl ?_;refine⟨true,n-1,rfl,u.o,r.o,by omega,by omega,λ_=>rfl,λ_ s a _=>⟨λ_=>?_,λ_=>rfl⟩⟩;rw[<- (d.o s a).1,(d.o s a).2,<-hx];exact Dz.2 (Ad rfl)
   |false=>
    have HX:Hid (t1.name≠x):=λe=>by rw[e] at y; simp at y
    have M:Hid (∀s,Da Z s->(Ay x [Ag s t]↔∃k,∃h:k<t1.args.length,Ay x [Ag s t1.args[k]])):=λs a=>by
     rw[<- (d.o s a).1,(d.o s a).2,Dz,UR];exact⟨λh=>h.elim (λe=>absurd e HX.o) (λh=>h.elim id λh=>absurd h FP),λh=>Ae (Ad h)⟩
    have aI:As t1.args=0:=FV aG;go_wp2_with fail;go_loopw [36] (λi wr=>lR w S q X Z left b1 o1 t1 x i wr) (λi wr=>t1.args.length-(intOf i).toNat);case atStart=>exact⟨0,n-1,Bp _,rfl,J.o,u.o,r.o,by omega,by omega,λ_ _ _ j _ h=>absurd h (by omega)⟩
    case round=>
     obtain⟨k,A,hk,rfl,B,N,O,aW,aJ,P⟩:=hrel;have aK:=Aa B;have R:=Aa N;have T:=Aa O;have U:=Aa P;obtain⟨a',c',q1,_,C⟩:=B.sub;clear B N O P p0 p1;by_cases D:k<t1.args.length
     ·obtain⟨b',o',rfl,hx⟩:=C k D;have aX:(k:Int)<(t1.args.length:Int):=(by omega);have aL:=Aa (IH.o A.toNat (by omega) A t1.args[k] b' (o'+k*2) wr rfl aJ (by omega) R.o hx (Lc aI k D));have aY:=Aa hx;clear C hx;go_wp2_with fail;refine aL.o.mono ?_;rintro e w5 ⟨r5,n5,rfl,V,E,aZ,ba,aM,W⟩;have Y:=Aa V;have aD:=Aa (T.o.trans E);have aN:=Aa (aK.o.exq E aH.o);have aE:=Aa W;clear V E W;cases r5 with
      |true=>go_wp2_with fail;refine Ao (v:=.bool true) (by simp[results,results142,go_sem]) rfl ?_;refine⟨true,n5,rfl,Y.o,aD.o,by omega,by omega,λ_=>rfl,λh5 s a hu=>⟨λ_=>?_,λ_=>rfl⟩⟩;exact(M.o s a).2 ⟨k,D,(aE.o h5 s a hu).1 (by simp)⟩
      |false=>
       have aF:0<=n5:=by
        by_cases h:n5<0
        ·have:=aM h; cases this
        ·omega
       go_wp2_with fail;go_roundw
       case rel => exact ⟨k + 1, n5, by omega, by go_num, aN.o, Y.o, aD.o, by omega, aF, λs a hu j h hj => by
        by_cases e:j=k
        ·subst e;intro hoc;have:=(aE.o aF s a hu).2 hoc;cases this
        ·exact U.o s a hu j h (by omega)⟩
       case measure=>simp[intOf]; omega
     ·clear C;go_wp2_with fail;refine Ao (v:=.bool false) (by simp[results,results142,go_sem]) rfl ?_;refine⟨false,A,rfl,R.o,T.o,by omega,by omega,λh=>absurd h (by omega),λ_ s a hu=>⟨(λh=>absurd h (by simp)),λh=>?_⟩⟩;obtain⟨j,hj,hoc⟩:=(M.o s a).1 h;exact absurd hoc (U.o s a hu j hj (by omega))
def lU (w:World) (S q:Nat) (X:Nat->Prop) (Z:List Zp) (s:List Bd) (left:Int) (x:ByteArray) (u:Tm) (b o:Nat) (e:Ending) (w':World):Prop:=
 ∃(code n:Int) (Z':List Zp),e=.returned (zA code)/\De w' S q X Z' n/\(∀z∈Z',As [z.t]=0)/\Al (CP S q) w w'/\n<=left/\-2<=n/\(n<0->code≠0)/\
  ((u.name=x/\code=0/\Z'=Z)∨(u.name≠x/\code=6/\Z'=Z/\(0<=n->Ay x [Ag s u]))∨(u.name≠x/\code=0/\Z'=Z++[⟨x,u,b,o⟩]/\¬Ay x [Ag s u]))
theorem US (S q:Nat) (X:Nat->Prop) (Z:List Zp) (s:List Bd) (j:Da Z s) (x:ByteArray) (hx:∀d∈s,d.nm≠x) (left:Int) (u:Tm) (b o:Nat) (w:World) (h0:0<=left) (h1:left<=100000) (D:De w S q X Z left) (hP:DP w X b o u) (he:As [u]=0):
  Calls prog 132 #[zC S,.string x,.pointer (some (zD b o))] w λe w'=>lU w S q X Z s left x u b o e w':=by
 have E:=Aa D;have F:=Aa hP;have l:=Aa j;have f:=Aa j.errs;have m:=Aa hx;obtain⟨⟨a1,c1,p0,p1,T,a7⟩,a8⟩:=hP;clear D j T hx;cases y:(u.name.toList==x.toList) with
 |true=>have A:u.name=x:=Gg (by simpa using y);go_in;go_wp2_with fail;refine Ao (v:=zA 0) (by simp[results,results132,go_sem]) rfl ?_;exact⟨0,left,Z,rfl,E.o,f.o,Al.refl _ _,Int.le_refl _,by omega,λh=>absurd h (by omega),Ad ⟨A,rfl,rfl⟩⟩
 |false=>
  have G:Hid (u.name≠x):=λe=>by rw[e] at y; simp at y
  go_in;go_wp2_with fail;refine(lS S q X Z f.o x left.toNat left u b o w rfl h0 h1 E.o F.o he).mono ?_;rintro e w1 ⟨r,n,rfl,a,c,aA,H,ar,B⟩;have U:=Aa a;have V:=Aa c;have I:=Aa B;cases r with
  |true=>clear a c B;go_wp2_with fail;refine Ao (v:=zA 6) (by simp[results,results132,go_sem]) rfl ?_;exact⟨6,n,Z,rfl,U.o,f.o,V.o,by omega,H,λ_=>by decide,Ae (Ad ⟨G.o,rfl,rfl,λh=>(I.o h s l.o m.o).1 (by simp)⟩)⟩
  |false=>
   have W:0<=n:=by
    by_cases h:n<0
    ·have:=ar h; cases this
    ·omega
   have Y:Hid (¬Ay x [Ag s u]):=λhoc=>by
    have:=(I.o W s l.o m.o).2 hoc;cases this
   have g:BK (Z.map Hu) x=none:=by
    rcases UQ (Z:=Z) (n:=x) with ⟨g,_⟩|⟨z,hz,e,_⟩
    ·exact g
    ·exact absurd e (l.o.fresh m.o z hz)
   have s0:w1.cell? (zD S 0)=some (.map (some q)):=a.1.cell 0;obtain⟨J,ax,L,M,N,O,R,C⟩:=LE (P:=prog) underlying153 underlying9 a.2.1 x (.pointer (some (zD b o))) g;have i:Al (CP S q) w1 J:=⟨N,O,R,by rw[M]; exact Af _,λk hk A=>C k (λe=>A (Ae e))⟩;have ay:=Aa (c.trans i);have az:Hid (De J S q X (Z++[⟨x,u,b,o⟩]) n):=by
    refine⟨?_,by rw[Db]; exact L,λz hz=>?_,a.2.2.2⟩
    ·have h2:=a.1;unfold Ab at h2 ⊢;rw[C S a.ne]; exact h2
    ·rcases BN.1 hz with hz|hz
     ·exact(a.2.2.1 z hz).exq i a.X
     ·have e:z=⟨x,u,b,o⟩:=(by simpa using hz);subst e;exact(F.o.exq c a.X).exq i a.X
   have a6:Hid (∀z∈Z++[(⟨x,u,b,o⟩:Zp)],As [z.t]=0):=λz hz=>by
    rcases BN.1 hz with hz|hz
    ·exact f.o z hz
    ·have e:z=⟨x,u,b,o⟩:=(by simpa using hz);subst e; exact he
   clear a c B L M N O R C i g;go_wp2_with fail;refine Ao (v:=zA 0) (by simp[results,results132,go_sem]) rfl ?_;exact⟨0,n,_,rfl,az.o,a6.o,ay.o,by omega,H,λh=>absurd h (by omega),Ae (Ae ⟨G.o,rfl,rfl,Y.o⟩)⟩
def lV (w:World) (S q:Nat) (X:Nat->Prop) (Z:List Zp) (left:Int) (t:Tm) (before:Nat) (e:Ending) (w':World):Prop:=
 ∃(c:Nat) (n:Int),e=.returned (zA c)/\De w' S q X Z n/\Al (CP S q) w w'/\n<=left/\(-1<=n∨n=left)/\before<c/\c<=2001/\(n<0->2000<c)/\∀s,Da Z s->c<=2000->c=before+Ah [Ag s t]
def lW (w:World) (S q:Nat) (X:Nat->Prop) (Z:List Zp) (left:Int) (b1 o1:Nat) (t1:Tm) (before:Nat) (cv i:Value) (wr:World):Prop:=
 ∃(k c:Nat) (n:Int),k<=t1.args.length/\i=zA k/\cv=zA c/\DP wr X b1 o1 t1/\De wr S q X Z n/\Al (CP S q) w wr/\n<=left/\(-1<=n∨n=left)/\before<c/\c<=2001/\(n<0->2000<c)/\∀s,Da Z s->c<=2000->c=before+1+Ah (An s (t1.args.take k))
theorem UT (S q:Nat) (X:Nat->Prop) (Z:List Zp) (Y:∀z∈Z,As [z.t]=0) (m:Nat):∀(before:Nat) (left:Int) (t:Tm) (b o:Nat) (w:World),2001-before=m->before<=2000→-100<=left->left<=100000->De w S q X Z left->DP w X b o t->As [t]=0->
  Calls prog 133 #[zC S,.pointer (some (zD b o)),zA before] w λe w'=>lV w S q X Z left t before e w':=by
 induction m using Nat.strongRecOn with
 |_ m y=>
  intro before left t b o w hm aS h0 h1 A hP he;have IH:=Aa y;have HS:=Aa A;have HP:=Aa hP;clear y A hP;go_in;go_wp2_with fail;refine(MX S q X Z Y left t b o w HS.o h0 h1 HP.o he).mono ?_;rintro e w1 ⟨b1,o1,t1,n,rfl,d,B,C,D,E,aF,F⟩;have G:=Aa d;have aG:=Aa B;have ar:=Aa C;have H:=Aa F;have aH:=Aa d.X;have s1:w1.cell? (zD S 1)=some (zA n):=d.1.cell 1;obtain⟨⟨a1,c1,p0,p1,I,aT⟩,aU⟩:=B;have aV:=I.1;clear d C F I;by_cases hlt:n<0
  ·go_wp2_with fail;refine Ao (v:=zA 2001) (by simp[results,results133,go_sem]) rfl ?_;exact⟨2001,n,rfl,G.o,ar.o,D,E,by omega,by omega,λ_=>by omega,λ_ _ h=>absurd h (by omega)⟩
  ·have aI:Hid (∀s,Da Z s->Ah [Ag s t]=1+Ah (An s t1.args)):=λs a=>by
    rw[<- (H.o s a).1,((H.o s a).2 (by omega)).knot a.1,JP]
   have aw:IntKind.i64.wrap ((before:Int)+1)=(before:Int)+1:=by rw[Ck]; omega
   have aJ:As t1.args=0:=FV aF;go_wp2_with fail;go_loopw [7,24] (λJ i wr=>lW w S q X Z left b1 o1 t1 before J i wr) (λJ i wr=>t1.args.length-(intOf i).toNat);case atStart=>exact⟨0,before+1,n,Bp _,rfl,by go_num,aG.o,G.o,ar.o,D,E,by omega,by omega,λh=>absurd h (by omega),λs _ _=>by simp[An,Ah]⟩
   case round=>
    obtain⟨k,c,g,hk,rfl,rfl,j,L,M,N,O,P,R,T,U⟩:=hrel;have aK:=Aa j;have l:=Aa L;have r:=Aa M;have V:=Aa U;obtain⟨a',c',q1,_,f⟩:=j.sub;clear j L M U p0 p1;by_cases u:k<t1.args.length
    ·have aW:(k:Int)<(t1.args.length:Int):=(by omega);by_cases aX:2000<c
     ·have ah:(2000:Int)<(c:Int):=(by omega);clear f;go_wp2_with fail;refine Ao (v:=zA c) (by simp[results,results133,go_sem]) rfl ?_;exact⟨c,g,rfl,l.o,r.o,N,O,P,R,T,λ_ _ h=>absurd h (by omega)⟩
     ·have ah:¬(2000:Int)<(c:Int):=(by omega);obtain⟨b',o',rfl,hx⟩:=f k u;have aL:=Aa (IH.o (2001-c) (by omega) c g t1.args[k] b' (o'+k*2) wr rfl (by omega) (by omega) (by omega) l.o hx (Lc aJ k u));clear f hx;go_wp2_with fail;refine aL.o.mono ?_;rintro e w5 ⟨c5,n5,rfl,aD,x,aY,aZ,ba,aM,aN,W⟩;have aO:=Aa aD;have aP:=Aa (r.o.trans x);have aQ:=Aa (aK.o.exq x aH.o);have aR:=Aa W;clear aD x W;go_wp2_with fail;go_roundw
      case rel => exact ⟨k + 1, c5, n5, by omega, by go_num, rfl, aQ.o, aO.o, aP.o, by omega, by omega, by omega, aM, aN, λs a h => by
       have h6:=V.o s a (by omega);have h7:=aR.o s a h;rw[CI u,IG,Gf,Bs];simp only[An];omega⟩
      case measure=>simp[intOf]; omega
    ·clear f;go_wp2_with fail;refine Ao (v:=zA c) (by simp[results,results133,go_sem]) rfl ?_;refine⟨c,g,rfl,l.o,r.o,N,O,P,R,T,λs a h=>?_⟩;have h6:=V.o s a h;rw[Bz (by omega)]at h6;rw[aI.o s a];omega
def lX (w:World) (S q:Nat) (X:Nat->Prop) (s:List Bd) (left:Int) (a b:Tm) (e:Ending) (w':World):Prop:=
 ∃(code n:Int) (Z':List Zp),e=.returned (zA code)/\De w' S q X Z' n/\(∀z∈Z',As [z.t]=0)/\Al (CP S q) w w'/\n<left/\-2<=n/\(n<0->code≠0)/\(0<=n->∃s',Da Z' s'/\FR s [⟨a,b⟩] code s')
def lZ (w:World) (S q:Nat) (X:Nat->Prop) (s:List Bd) (left:Int) (b1 o1 b2 o2:Nat) (a1 a2:Tm) (i:Value) (wr:World):Prop:=
 ∃(k:Nat) (n:Int) (Z':List Zp) (s':List Bd),k<=a1.args.length/\i=zA k/\DP wr X b1 o1 a1/\DP wr X b2 o2 a2/\De wr S q X Z' n/\Al (CP S q) w wr/\n<left/\0<=n/\Da Z' s'/\FR s (AD (a1.args.take k) (a2.args.take k)) 0 s'
theorem mA (S q:Nat) (X:Nat->Prop) (m:Nat):∀(left:Int) (Z:List Zp) (s:List Bd) (a b:Tm) (ba oa bb ob:Nat) (w:World),left.toNat=m->0<=left->left<=100000->Da Z s->De w S q X Z left->DP w X ba oa a->DP w X bb ob b->As [a]=0->As [b]=0->
  Calls prog 117 #[zC S,.pointer (some (zD ba oa)),.pointer (some (zD bb ob))] w λe w'=>lX w S q X s left a b e w':=by
 induction m using Nat.strongRecOn with
 |_ m ih=>
  intro left Z s a b ba oa bb ob w hm h0 h1 hC hS bk bl b8 b9;have IH:=Aa ih;have HS:=Aa hS;have l:=Aa hC;have U:=Aa hC.errs;have bA:=Aa bk;have bB:=Aa bl;clear ih hS bk bl hC;go_in;go_wp2_with fail;refine(MX S q X Z U.o left a ba oa w HS.o (by omega) h1 bA.o b8).mono ?_;rintro e w1 ⟨n,t,c,n1,rfl,aQ,bm,aR,bX,bY,V,bn⟩;have bC:=Aa aQ;have bD:=Aa bm;have bE:=Aa aR;have C:=Aa (bn s l.o);have aS:=Aa (bB.o.exq aR aQ.X);clear aQ bm aR bn;go_wp2_with fail;refine(MX S q X Z U.o n1 b bb ob w1 bC.o (by omega) (by omega) aS.o b9).mono ?_;rintro e w2 ⟨r,u,a2,g,rfl,G,bo,aT,bZ,ca,W,bp⟩;have D:=Aa (bp s l.o);have aM:Al (CP S q) w2 (w2.setCell (zD S 1) (zA (g-1))):=(Al.refl (CP S q) w2).set (Ad rfl) 1 _;have N:=Aa ((bE.o.trans aT).trans aM);have O:=Aa (G.spend (g-1));have ar:=Aa ((bD.o.exq aT G.X).exq aM G.X);have au:=Aa (bo.exq aM G.X);have E:=Aa G.X;have s1:w2.cell? (zD S 1)=some (zA g):=G.1.cell 1;have f1:w2.frozen? (zD S 1)=false:=G.1.frozen 1;have bq:IntKind.i64.wrap (g-1)=g-1:=by rw[Ck]; omega
  obtain⟨⟨x1,c1,p0,p1,aA,bF⟩,bG⟩:=ar.o;obtain⟨⟨x2,c2,r0,r1,aB,bH⟩,bI⟩:=au.o;have cb:=aA.1;have bJ:=aB.1;clear G bo aT bp aM aA aB;by_cases hlt:g-1<0
  ·go_wp2_with fail;refine Ao (v:=zA 8) (by simp[results,results117,go_sem]) rfl ?_;exact⟨8,g-1,Z,rfl,O.o,U.o,N.o,by omega,by omega,λ_=>by decide,λh=>absurd h (by omega)⟩
  ·have L:Hid (EE s c):=C.o.2 (by omega);have M:Hid (EE s a2):=D.o.2 (by omega);have hs:Ci s:=l.o.1;have F:=Aa hs;clear hs;cases f:Av c.name with
   |true=>
    go_wp2_with (go_at_call 109; refine(DU _ _).mono ?_; rintro e w9 ⟨rfl,rfl⟩; rw[f]);refine(US S q X Z s l.o c.name (L.o.2 f) (g-1) a2 r u _ (by omega) (by omega) O.o au.o W).mono ?_;rintro e H ⟨code,n5,P,rfl,I,J,x,br,Y,aD,hcs⟩;have R:=Aa I;have aE:=Aa J;have T:=Aa (N.o.trans x);clear I J x;go_wp2_with fail;refine Ao (v:=zA code) (by simp[results,results117,go_sem]) rfl ?_;refine⟨code,n5,P,rfl,R.o,aE.o,T.o,by omega,Y,aD,λh5=>?_⟩;rcases hcs with ⟨g1,rfl,rfl⟩|⟨g1,rfl,rfl,g2⟩|⟨g1,rfl,rfl,g2⟩
    ·exact⟨s,l.o,lL F.o C.o.1 D.o.1 L.o M.o f g1⟩
    ·exact⟨s,l.o,UE F.o C.o.1 D.o.1 L.o M.o (Ad ⟨f,g1,g2 h5⟩)⟩
    ·exact⟨_,l.o.add f (L.o.2 f) W g2 r u,UG F.o C.o.1 D.o.1 L.o M.o (Ad ⟨f,g1,rfl,rfl⟩) g2⟩
   |false=>
    cases j:Av a2.name with
    |true=>
     go_wp2_with (go_at_call 109; refine(DU _ _).mono ?_; rintro e w9 ⟨rfl,rfl⟩; first|rw[f]|rw[j]);refine(US S q X Z s l.o a2.name (M.o.2 j) (g-1) c n t _ (by omega) (by omega) O.o ar.o V).mono ?_;rintro e H ⟨code,n5,P,rfl,I,J,x,br,Y,aD,hcs⟩;have R:=Aa I;have aE:=Aa J;have T:=Aa (N.o.trans x);clear I J x;go_wp2_with fail;refine Ao (v:=zA code) (by simp[results,results117,go_sem]) rfl ?_;refine⟨code,n5,P,rfl,R.o,aE.o,T.o,by omega,Y,aD,λh5=>?_⟩;rcases hcs with ⟨g1,rfl,rfl⟩|⟨g1,rfl,rfl,g2⟩|⟨g1,rfl,rfl,g2⟩
     ·rw[g1,j]at f; cases f
     ·exact⟨s,l.o,UE F.o C.o.1 D.o.1 L.o M.o (Ae ⟨f,j,g2 h5⟩)⟩
     ·exact⟨_,l.o.add j (M.o.2 j) V g2 n t,UG F.o C.o.1 D.o.1 L.o M.o (Ae ⟨f,j,rfl,rfl⟩) g2⟩
    |false=>
     have aF:=Aa (And.intro p0 (And.intro p1 (And.intro r0 r1)));cases aU:(c.name.toList==a2.name.toList) with
     |false=>
      have hne:c.name≠a2.name:=λe=>by rw[e] at aU; simp at aU
      go_wp2_with (go_at_call 109; refine(DU _ _).mono ?_; rintro e w9 ⟨rfl,rfl⟩; first|rw[f]|rw[j]);generalize w2.setCell (zD S 1) (zA (g-1))=w3 at *;refine Co (S:=(λw'=>w'.cell? (zD n t)=some (.string c.name)/\w'.cell? ⟨n,t+1,none⟩=some (.slice x1 c.args.length c1)/\w'.cell? (zD r u)=some (.string a2.name)/\w'.cell? ⟨r,u+1,none⟩=some (.slice x2 a2.args.length c2))) (by kernel_rfl) aF.o λhHeld=>?_;refine tkz 0 ?_ (hy:=by intro w' d;obtain⟨y,z,A,B⟩:=d;go_simp<;>with_reducible rfl);refine tkz 1 ?_ (hy:=by intro w' d;obtain⟨y,z,A,B⟩:=d;go_simp<;>with_reducible rfl);refine tkz 2 ?_ (hy:=by intro w' d;obtain⟨y,z,A,B⟩:=d;go_simp<;>with_reducible rfl);refine tkz 3 ?_ (hy:=by intro w' d;obtain⟨y,z,A,B⟩:=d;go_simp<;>with_reducible rfl);refine tkz 4 ?_ (hy:=by intro w' d;obtain⟨y,z,A,B⟩:=d;go_simp<;>with_reducible rfl);refine tkz 5 ?_ (hy:=by intro w' d;obtain⟨y,z,A,B⟩:=d;go_simp<;>with_reducible rfl);refine tkz 6 ?_ (hy:=by intro w' d;obtain⟨y,z,A,B⟩:=d;go_simp<;>with_reducible rfl);refine tkz 7 ?_ (hy:=by intro w' d;obtain⟨y,z,A,B⟩:=d;go_simp<;>with_reducible rfl);refine tkz 8 ?_ (hy:=by intro w' d;obtain⟨y,z,A,B⟩:=d;go_simp<;>with_reducible rfl);refine tkz 9 ?_ (hy:=by intro w' d;obtain⟨y,z,A,B⟩:=d;go_simp<;>with_reducible rfl);refine tkv 10 ?_;refine tkv 11 ?_;refine tkv 12 ?_;refine tkv 13 ?_;refine tkv 14 ?_;refine tkv 15 ?_;refine tkv 16 ?_;refine tkv 17 ?_;refine tkv 18 ?_;refine tkv 19 ?_;refine tkv 20 ?_;refine tkz 21 ?_ (hy:=by intro w' d;obtain⟨y,z,A,B⟩:=d;go_simp<;>with_reducible rfl);refine tkz 22 ?_ (hy:=by intro w' d;obtain⟨y,z,A,B⟩:=d;go_simp<;>with_reducible rfl);refine dnq ?_;go_wp2_with fail;refine Ao (v:=zA 5) (by simp[results,results117,go_sem]) rfl ?_;exact⟨5,g-1,Z,rfl,O.o.later ((Ac _ _).drew),U.o,N.o.drew,by omega,by omega,λ_=>by decide,λ_=>⟨s,l.o,UH F.o C.o.1 D.o.1 f j (λh=>hne h.1)⟩⟩
     |true=>
      have hne:c.name=a2.name:=Gg (by simpa using aU);by_cases hm:c.args.length=a2.args.length;case neg=>
       have bK:((c.args.length:Int)==(a2.args.length:Int))=false:=Dx.2 (by omega);have cc:((c.args.length:Int) !=(a2.args.length:Int))=true:=(by simp[bne,bK]);have HM:=Aa hm;clear hm;go_wp2_with (go_at_call 109; refine(DU _ _).mono ?_; rintro e w9 ⟨rfl,rfl⟩; first|rw[f]|rw[j]);generalize w2.setCell (zD S 1) (zA (g-1))=w3 at *;go_region_held3 (λw'=>w'.cell? (zD n t)=some (.string c.name)/\w'.cell? ⟨n,t+1,none⟩=some (.slice x1 c.args.length c1)/\w'.cell? (zD r u)=some (.string a2.name)/\w'.cell? ⟨r,u+1,none⟩=some (.slice x2 a2.args.length c2)) (first|exact aF.o|go_keep) (fail);go_wp2_with fail;refine Ao (v:=zA 5) (by simp[results,results117,go_sem]) rfl ?_;exact⟨5,g-1,Z,rfl,O.o.later ((Ac _ _).drew),U.o,N.o.drew,by omega,by omega,λ_=>by decide,λ_=>⟨s,l.o,UH F.o C.o.1 D.o.1 f j (λh=>HM.o h.2)⟩⟩
      case pos=>
       have aG:=Aa hm;rw[<-hm]at r1 bJ aF;clear hm;go_wp2_with (go_at_call 109; refine(DU _ _).mono ?_; rintro e w9 ⟨rfl,rfl⟩; first|rw[f]|rw[j]);generalize w2.setCell (zD S 1) (zA (g-1))=w3 at *;go_region_held3 (λw'=>w'.cell? (zD n t)=some (.string c.name)/\w'.cell? ⟨n,t+1,none⟩=some (.slice x1 c.args.length c1)/\w'.cell? (zD r u)=some (.string a2.name)/\w'.cell? ⟨r,u+1,none⟩=some (.slice x2 c.args.length c2)) (first|exact aF.o|go_keep) (fail);have bL:=Aa (FV V);have bM:=Aa (FV W);go_wp2_with fail;go_loopw [82] (λi wr=>lZ w S q X s left n t r u c a2 i wr) (λi wr=>c.args.length-(intOf i).toNat);case atStart=>exact⟨0,g-1,Z,s,Bp _,rfl,ar.o.exq ((Al.refl (CP S q) _).drew) E.o,au.o.exq ((Al.refl (CP S q) _).drew) E.o,O.o.later ((Ac _ _).drew),N.o.drew,by omega,by omega,l.o,by simpa [AD] using FR.done s⟩
       case round=>
        obtain⟨k,n3,Z3,s3,hk,rfl,aH,aI,bs,bt,br,Y,bu,bw⟩:=hrel;have bN:=Aa aH;have bO:=Aa aI;have bx:=Aa bs;have bz:=Aa bt;have aV:=Aa bu;have aW:=Aa bw;obtain⟨y1,d1,q1,_,af⟩:=aH.sub;obtain⟨y2,d2,q2,_,ag⟩:=aI.sub;rw[<-aG.o]at q2;have aX:=aH.1.lt;have aY:=aI.1.lt;have aJ:=aH.2;have aK:=aI.2;clear aH aI bs bt bu bw p0 p1 r0 r1 aF;by_cases aN:k<c.args.length
        ·have al:k<a2.args.length:=by have:=aG.o; omega
         have cd:(k:Int)<(c.args.length:Int):=(by omega);obtain⟨aZ,bc,rfl,b0⟩:=af k aN;obtain⟨bd,bf,rfl,b3⟩:=ag k al;have bg:=Aa (And.intro q1 q2);have hD:Below wr.heap.size wr wr.drew:=(Ac _ _).drew;have bP:=Aa (IH.o n3.toNat (by omega) n3 Z3 s3 c.args[k] a2.args[k] aZ (bc+k*2) bd (bf+k*2) wr.drew rfl Y (by omega) aV.o (bx.o.later hD) (b0.exq (Al.ofBelow (Q:=CP S q) hD) E.o) (b3.exq (Al.ofBelow (Q:=CP S q) hD) E.o) (Lc bL.o k aN) (Lc bM.o k al));have bQ:Hid (∀H,Al (CP S q) wr.drew H->H.cell? ⟨n,t+1,none⟩=some (.slice (some (zD aZ bc)) c.args.length d1)/\H.cell? ⟨r,u+1,none⟩=some (.slice (some (zD bd bf)) c.args.length d2)):=λH h5=>⟨(DI (h5.block n aX (E.o _ aJ))).trans bg.o.1,(DI (h5.block r aY (E.o _ aK))).trans bg.o.2⟩;clear af ag b0 b3 hD;go_wp2_with fail;go_region_held3 (λw'=>w'.cell? ⟨n,t+1,none⟩=some (.slice (some (zD aZ bc)) c.args.length d1)/\w'.cell? ⟨r,u+1,none⟩=some (.slice (some (zD bd bf)) c.args.length d2)) (first|exact bg.o|exact aL|go_keep)
          ((go_at_call 117; refine bP.o.mono ?_; rintro e H ⟨code,n5,P,rfl,I,J,x,cf,bR,aD,b4⟩; have aL:=bQ.o H x))
         have R:=Aa I;have aE:=Aa J;have T:=Aa ((bz.o.drew).trans x);have bS:=Aa ((bN.o.exq ((Al.refl (CP S q) _).drew) E.o).exq x E.o);have bT:=Aa ((bO.o.exq ((Al.refl (CP S q) _).drew) E.o).exq x E.o);have b5:=Aa b4;clear I J x b4 aL;by_cases bh:code=0
         ·subst bh;have b6:0<=n5:=by
           by_cases h:n5<0
           ·exact absurd rfl (aD h)
           ·omega
          obtain⟨s5,aO,aP⟩:=b5.o b6;have bU:=Aa aO;have bV:=Aa (UN aN al aW.o aP);clear aO aP;go_wp2_with fail;go_roundw
          case rel=>exact⟨k+1,n5,P,s5,by omega,by go_num,bS.o,bT.o,R.o,T.o,by omega,b6,bU.o,bV.o⟩
          case measure=>simp[intOf]; omega
         ·have bj:(code==0)=false:=Dx.2 bh;have bW:(code !=0)=true:=(by simp[bne,bj]);have b7:=Aa bh;go_wp2_with fail;refine Ao (v:=zA code) (by simp[results,results117,go_sem]) rfl ?_;refine⟨code,n5,P,rfl,R.o,aE.o,T.o,by omega,bR,λ_=>b7.o,λh5=>?_⟩;obtain⟨s5,aO,aP⟩:=b5.o h5;exact⟨s5,aO,UK F.o C.o.1 D.o.1 V W f j hne aG.o (lM (k+1) b7.o (UN aN al aW.o aP))⟩
        ·clear af ag;go_wp2_with fail;refine Ao (v:=zA 0) (by simp[results,results117,go_sem]) rfl ?_;refine⟨0,n3,Z3,rfl,bx.o,aV.o.errs,bz.o,by omega,by omega,λh=>absurd h (by omega),λ_=>⟨s3,aV.o,UK F.o C.o.1 D.o.1 V W f j hne aG.o ?_⟩⟩;have h6:=aW.o;rwa [Bz (by omega),Bz (by have:=aG.o; omega)] at h6
theorem QV.at {w:World} {X:Nat->Prop} {a:Option Addr} {n c:Nat} {l:List Pr} (h:QV w X (.slice a n c) l) (i:Nat) (hi:i<l.length):∃b o,a=some (zD b o)/\DP w X b (o+i*4) l[i].l/\DP w X b (o+i*4+2) l[i].r:=by
 obtain⟨a2,c2,e,hl,h⟩:=h;simp at e;obtain⟨rfl,rfl,rfl⟩:=e;rcases h with h|⟨b,o,f,d,h⟩
 ·subst h; simp at hi
 ·obtain⟨g,c1,a2,c2,h1,h2,h3,j,h5,h6⟩:=h i hi;exact⟨b,o,f,⟨⟨g,c1,h1,h2,h5,Es h1⟩,d⟩,⟨⟨a2,c2,h3,j,h6,Es h3⟩,d⟩⟩
theorem QV.exq {X:Nat->Prop} (h:QV w X v l) (he:Al Q w w') (a:∀b,X b->¬Q b):QV w' X v l:=
 ((h.mono (Y:=λb=>X b/\b<w.heap.size) λb h1 h2=>⟨h1,h2⟩).kept λb hb=>he.block b hb.2 (a b hb.1)).mono λb hb _=>hb.1
def mB (w:World) (S q:Nat) (X:Nat->Prop) (Z:List Zp) (left:Int) (ls:List Pr) (e:Ending) (w':World):Prop:=
 ∃(r:Bool) (n:Int),e=.returned (.bool r)/\De w' S q X Z n/\Al (CP S q) w w'/\(left<0->ls≠[]->r=false)/\∀s,Da Z s->r=true->∀p∈ls,Ah [Ag s p.l]<=2000/\Ah [Ag s p.r]<=2000
def mC (w:World) (S q:Nat) (X:Nat->Prop) (Z:List Zp) (left:Int) (ls:List Pr) (i:Value) (wr:World):Prop:=
 ∃(k:Nat) (n:Int),k<=ls.length/\i=zA k/\De wr S q X Z n/\Al (CP S q) w wr/\n<=left/\-100<=n/\(0<k->0<=left)/\∀s,Da Z s->∀j (h:j<ls.length),j<k->Ah [Ag s ls[j].l]<=2000/\Ah [Ag s ls[j].r]<=2000
theorem mD (S q:Nat) (X:Nat->Prop) (Z:List Zp) (x:∀z∈Z,As [z.t]=0) (left:Int) (h0:-100<=left) (h1:left<=100000) (ls:List Pr) (y:∀p∈ls,As [p.l]=0/\As [p.r]=0) (v:Value) (w:World) (f:De w S q X Z left) (A:QV w X v ls):
  Calls prog 118 #[zC S,v] w λe w'=>mB w S q X Z left ls e w':=by
 have Y:=Aa f;have HV:=Aa A;have B:=Aa f.X;have a8:=Aa y;obtain⟨a,c,rfl,⟨aJ,aK⟩,_⟩:=A;clear f y;go_in;go_wp2_with fail;go_loopw [8] (λi wr=>mC w S q X Z left ls i wr) (λi wr=>ls.length-(intOf i).toNat);case atStart=>exact⟨0,left,Bp _,rfl,Y.o,Al.refl _ _,Int.le_refl _,h0,λh=>absurd h (by omega),λ_ _ j _ h=>absurd h (by omega)⟩
 case round=>
  obtain⟨k,n,hk,rfl,C,D,aL,aA,aB,E⟩:=hrel;have F:=Aa C;have g:=Aa D;have G:=Aa E;clear C D E;by_cases H:k<ls.length
  ·obtain⟨b,o,rfl,I,J⟩:=(HV.o.exq g.o B.o).at k H;have aM:(k:Int)<(ls.length:Int):=(by omega);have aC:=Aa I;have aD:=Aa J;have ar:=a8.o ls[k] (Bv H);clear I J;go_wp2_with fail;refine(UT S q X Z x 2001 0 n ls[k].l b (o+k*4) wr rfl (by omega) aA (by omega) F.o aC.o ar.1).mono ?_;rintro e w5 ⟨c5,n5,rfl,L,m,aN,aO,aP,aQ,aE,M⟩;have N:=Aa L;have O:=Aa (g.o.trans m);have aF:=Aa (aD.o.exq m B.o);have aG:=Aa M;clear L m M;by_cases aR:2000<c5
   ·have ad:(2000:Int)<(c5:Int):=(by omega);go_wp2_with fail;refine Ao (v:=.bool false) (by simp[results,results118,go_sem]) rfl ?_;exact⟨false,n5,rfl,N.o,O.o,λ_ _=>rfl,λ_ _ h=>absurd h (by simp)⟩
   ·have ad:¬(2000:Int)<(c5:Int):=(by omega);have aH:0<=n5:=by
     by_cases h:n5<0
     ·have:=aE h; omega
     ·omega
    go_wp2_with fail;refine(UT S q X Z x 2001 0 n5 ls[k].r b (o+k*4+2) w5 rfl (by omega) (by omega) (by omega) N.o aF.o ar.2).mono ?_;rintro e w6 ⟨u,n6,rfl,P,R,aS,aT,aU,aV,aW,T⟩;have U:=Aa P;have V:=Aa (O.o.trans R);have aI:=Aa T;clear P R T;by_cases aX:2000<u
    ·have ae:(2000:Int)<(u:Int):=(by omega);go_wp2_with fail;refine Ao (v:=.bool false) (by simp[results,results118,go_sem]) rfl ?_;exact⟨false,n6,rfl,U.o,V.o,λ_ _=>rfl,λ_ _ h=>absurd h (by simp)⟩
    ·have ae:¬(2000:Int)<(u:Int):=(by omega);go_wp2_with fail;go_roundw
     case rel => exact ⟨k + 1, n6, by omega, by go_num, U.o, V.o, by omega, by omega, λ_ => by omega, λs d j h W => by
      by_cases e:j=k
      ·subst e;have g1:=aG.o s d (by omega);have g2:=aI.o s d (by omega);omega
      ·exact G.o s d j h (by omega)⟩
     case measure=>simp[intOf]; omega
  ·go_wp2_with fail;refine Ao (v:=.bool true) (by simp[results,results118,go_sem]) rfl ?_;refine⟨true,n,rfl,F.o,g.o,λhl hne=>?_,λs d _ p hp=>?_⟩
   ·have:0<ls.length:=GY.2 hne;have:=aB (by omega);omega
   ·obtain⟨j,W,rfl⟩:=Jg hp;exact G.o s d j W (by omega)
def mE (w:World) (ls:List Pr) (e:Ending) (w':World):Prop:=
 ∃code:Int,e=.returned (zA code)/\Below w.heap.size w w'/\(code≠0->∃n sf,A0 false n [] ls=some (code,sf)/\AV sf=false)
def mF (w:World) (S q:Nat) (X:Nat->Prop) (ls:List Pr) (i:Value) (wr:World):Prop:=
 ∃(k:Nat) (n:Int) (Z:List Zp) (s:List Bd),k<=ls.length/\i=zA k/\De wr S q X Z n/\Al (CP S q) w wr/\n<=100000/\0<=n/\Da Z s/\FR [] (ls.take k) 0 s
theorem mG (ls:List Pr) (ar:As (AO ls)=0) (v:Value) (w:World) (X:Nat->Prop) (D:QV w X v ls):
  Calls prog 105 #[v] w λe w'=>mE w ls e w':=by
 have HV:=Aa (D.mono (Y:=λb=>X b/\b<w.heap.size) λb h1 h2=>⟨h1,h2⟩);have E:=Aa (MW ar);obtain⟨a,c,rfl,⟨bg,bh⟩,_⟩:=D;have bj:=@run_makeMap prog;go_in;go_wp2_with fail;have Dq:Below w.heap.size w ((w.alloc (.map #[] 0)).alloc (zp #[.map (some w.heap.size),zA 100000] 155)):=((Ac _ _).alloc (Af _) _).alloc (by simp) _;have F:Ab ((w.alloc (.map #[] 0)).alloc (zp #[.map (some w.heap.size),zA 100000] 155)) (w.heap.size+1) #[.map (some w.heap.size),zA 100000] 155:=(by have h1:=Ab.new (w.alloc (.map #[] 0)) #[.map (some w.heap.size),zA 100000] 155;rw[Ca]at h1;exact h1);have G:BI ((w.alloc (.map #[] 0)).alloc (zp #[.map (some w.heap.size),zA 100000] 155)) w.heap.size []:=(BI.new w).kept (BL _ _ _ (by simp));generalize (w.alloc (.map #[] 0)).alloc (zp #[.map (some w.heap.size),zA 100000] 155)=w2 at *;have A:De w2 (w.heap.size+1) w.heap.size (λb=>X b/\b<w.heap.size) [] 100000:=⟨F,G,by simp,λb hb=>⟨by omega,by omega⟩⟩;have aM:=Aa (HV.o.later Dq);have f:=Aa A.X;have aN:=Aa A;have aO:=Aa Dq;have H:w.heap.size<=w2.heap.size:=Dq.size;have B:Hid (∀w',Al (CP (w.heap.size+1) w.heap.size) w2 w'->Below w.heap.size w w'):=λw' h=>aO.o.trans (h.below H (λb hb=>by rcases hb with e|e<;>omega));clear A Dq F G;go_loopw [10] (λi wr=>mF w2 (w.heap.size+1) w.heap.size (λb=>X b/\b<w.heap.size) ls i wr) (λi wr=>ls.length-(intOf i).toNat);case atStart=>exact⟨0,100000,[],[],Bp _,rfl,aN.o,Al.refl _ _,by omega,by omega,lK,by simpa using FR.done []⟩
 case round=>
  obtain⟨k,n,Z,s,hk,rfl,I,J,aP,aQ,L,M⟩:=hrel;have aR:=Aa I;have q:=Aa J;have aS:=Aa L;have N:=Aa M;clear I J L M;by_cases d:k<ls.length
  ·have C:=aM.o.exq q.o f.o;have aT:=Aa C;obtain⟨b,o,rfl,O,P⟩:=C.at k d;have bk:(k:Int)<(ls.length:Int):=(by omega);have R:=E.o ls[k] (Bv d);have t:Below wr.heap.size wr wr.drew:=(Ac _ _).drew;have HW:=Aa (mA (w.heap.size+1) w.heap.size (λb=>X b/\b<w.heap.size) n.toNat n Z s ls[k].l ls[k].r b (o+k*4) b (o+k*4+2) wr.drew rfl aQ aP aS.o (aR.o.later t) (O.exq (Al.ofBelow (Q:=CP (w.heap.size+1) w.heap.size) t) f.o) (P.exq (Al.ofBelow (Q:=CP (w.heap.size+1) w.heap.size) t) f.o) R.1 R.2);have T:Hid (w.heap.size<=wr.heap.size):=AJ H q.o.size;clear O P t C;go_wp2_with fail;go_region_held3 (λw'=>w.heap.size<=w'.heap.size) (first|exact T.o|exact an|go_keep)
    ((go_at_call 117; refine HW.o.mono ?_; rintro e U ⟨code,n5,V,rfl,aD,W,u,bl,bm,aU,aF⟩; have an:w.heap.size<=U.heap.size:=AJ T.o u.size))
   have aG:=Aa aD;have aV:=Aa W;have aH:=Aa ((q.o.drew).trans u);have aW:=Aa ((aT.o.exq ((Al.refl (CP (w.heap.size+1) w.heap.size) _).drew) f.o).exq u f.o);have aI:=Aa aF;clear aD W u aF;by_cases x:code=0
   ·subst x;have y:0<=n5:=by
     by_cases h:n5<0
     ·exact absurd rfl (aU h)
     ·omega
    obtain⟨z,j,m⟩:=aI.o y;have aX:=Aa j;have aY:=Aa (UP d N.o m);clear j m;go_wp2_with fail;go_roundw
    case rel=>exact⟨k+1,n5,V,z,by omega,by go_num,aG.o,aH.o,by omega,y,aX.o,aY.o⟩
    case measure=>simp[intOf]; omega
   ·have ao:(code==0)=false:=Dx.2 x;have aZ:(code !=0)=true:=(by simp[bne,ao]);have ba:=Aa x;clear x;go_wp2_with fail;refine(mD (w.heap.size+1) w.heap.size (λb=>X b/\b<w.heap.size) V aV.o n5 (by omega) (by omega) ls E.o _ U aG.o aW.o).mono ?_;rintro e w6 ⟨r,n6,rfl,bb,aJ,aq,aK⟩;have aL:=Aa (aH.o.trans aJ);have bc:=Aa aK;clear bb aJ aK;cases r with
    |true=>
     have y:0<=n5:=by
      by_cases h:n5<0
      ·have:=aq h (λe=>by rw[e] at d; simp at d);cases this
      ·omega
     obtain⟨z,j,m⟩:=aI.o y;have bd:=Aa (FR.ends (lN (k+1) ba.o (UP d N.o m)) ar (bc.o z j rfl));clear j m;go_wp2_with fail;refine Ao (v:=zA code) (by simp[results,results105,go_sem]) rfl ?_;obtain⟨⟨g,hg⟩,bf⟩:=bd.o;exact⟨code,rfl,B.o _ aL.o,λ_=>⟨g,z,hg,bf⟩⟩
    |false=>go_wp2_with fail;refine Ao (v:=zA 0) (by simp[results,results105,go_sem]) rfl ?_;exact⟨0,rfl,B.o _ aL.o,λh=>absurd rfl h⟩
  ·go_wp2_with fail;refine Ao (v:=zA 0) (by simp[results,results105,go_sem]) rfl ?_;exact⟨0,rfl,B.o _ q.o,λh=>absurd rfl h⟩
theorem OR {lim:Bool}:∀(n m:Nat) (s:List Bd) (l:List Pr) (r a:Int×List Bd),A0 lim n s l=some r->A0 lim m s l=some a->r=a
 |0,_,_,_,_,_,h,_=>by cases h
 |_+1,0,_,_,_,_,_,h=>by cases h
 |n+1,m+1,s,l,r,a,h,h'=>by
  rw[A0]at h h';cases b:Em lim s l with
  |stop e s'=>rw[b]at h h';cases h; cases h'; rfl
  |go s' l'=>rw[b]at h h';exact OR n m s' l' r a h h'
def Hv:Value->Option (DataW Unit×List MemPlace):=λ_=>some (.nil,[])
theorem mH {L:List (ByteArray×Value)} (h:BI w q L) (f:(L.map (·.1)).Pairwise (·≠·)) (g:∀p∈L,p.1.size<=maxLen) (hl:L.length<=maxLen):
  ∃b:DataW Unit,w.ownsMap prog 9 Hv q L.length b/\(strKeys b).Perm (L.map (λp=>p.1.data.toList))/\Go.Maps.size b=L.length:=by
 obtain⟨es,c,hb,he,k⟩:=h;have hlen:es.toList.length=L.length:=by have:=Dt List.length he; simpa using this
 have a:∀i (h1:i<es.toList.length) (h2:i<L.length),es.toList[i].key=.string L[i].1:=λi h1 h2=>by
  have e1:(es.toList.map (λe=>(e.key,e.val)))[i]? = (L.map (λp=>(Value.string p.1,p.2)))[i]? := by rw[he]
  rw[List.getElem?_map,List.getElem?_map,GA h1,GA h2]at e1;simp only[Option.map_some,Jf,Fq] at e1;exact e1.1
 have m:∀x∈es.toList,∃p∈L,x.key=.string p.1:=λx hx=>by
  obtain⟨i,hi,rfl⟩:=Jg hx;have h2:i<L.length:=by omega
  exact⟨L[i],Bv h2,a i hi h2⟩
 have l:∀x∈es.toList,∀s:ByteArray,x.key=.string s->s.size<=maxLen->WideElems.rd prog 9 Hv x=some (.string s.data.toList,.nil):=λx hx s n hz=>by
  unfold WideElems.rd Hv;rw[n,Go.WideMaps.keyOf_string_mk underlying9 hz];rfl
 have F:WideElems.Fit prog 9 Hv es c:=by
  refine⟨by rw[<-Array.length_toList]; omega,(MapKept.stamped_iff es c).2 ⟨k.1,k.2,?_⟩,λx hx=>?_⟩
  ·rw[Lt];intro i j hi o r e;rw[a i hi (by omega),a j o (by omega)]at e;rw[Ib,Lt]at f;have:=f i j (by omega) (by omega) r;exact this (by simpa using e)
  ·obtain⟨p,hp,e⟩:=m x hx;exact⟨_,l x hx p.1 e (g p hp)⟩
 refine⟨.map ((es.toList.map (WideElems.rg prog 9 Hv)).foldr DataW.insert []),⟨es,c,hb,F,by rw[<-Array.length_toList]; omega,rfl⟩,?_,?_⟩
 ·have h1:(strKeys (DataW.map ((es.toList.map (WideElems.rg prog 9 Hv)).foldr DataW.insert []):DataW Unit)).Perm ((es.toList.map (WideElems.rg prog 9 Hv)).map λp=>strOf p.1):=(WideShapes.sorted_perm _).map _;refine h1.trans ?_;have h2:(es.toList.map (WideElems.rg prog 9 Hv)).map (λp=>strOf p.1)=L.map (λp=>p.1.data.toList):=(by refine List.ext_getElem (by simp; omega) λi h3 d=>?_;simp only[GH] at h3 d;simp only[List.getElem_map];unfold WideElems.rg;rw[l _ (Bv h3) L[i].1 (a i h3 d) (g _ (Bv d))];rfl);rw[h2]
 ·rw[Maps.size_eq,Go.length_sorted];simpa using hlen
open Go.RowKit Go.Maps Go.Sort Go.Shelf
theorem mI (m:Nat):AnyZ.SortsIn prog Tryz.sortedK_ren Fence.wide m:=
 ⟨λblk off cap a W hH b c=>FJ.2 (AnyM.slices_Sort_string Tryz.sortK blk off cap a W hH b c),
  λp cap W=>FJ.2 (AnyM.slices_Sort_string_none Tryz.sortK p cap W)⟩
theorem mJ (a:Option Nat) (W:World):CallsIn Fence.wide 5 prog 139 #[.map a] W λe w'=>e=.returned (.func (.func 146) #[] #[zC W.heap.size])/\w'=W.alloc (zp #[.map a] 159):=
 AnyZ.keys_in Tryz.keysK Fence.wide 5 trivial rfl a W
theorem mK (b d:Nat) (a:DataW H) (R:Value->Option (DataW H×List MemPlace)) (w:World) (f:w.ownsMap prog 9 R b d a) (g:Maps.size a<=maxLen) (h:Maps.size a*16<=140737488355328):
  CallsIn Fence.wide 5 prog 138 #[.func (.func 146) #[] #[zC w.heap.size]] (w.alloc (zp #[.map (some b)] 159)) λe w'=>∃(v:Value) (c:List (List UInt8)),e=.returned v/\c.Perm (strKeys a)/\
   w'.ownsRow (w.alloc (zp #[.map (some b)] 159)).heap.size 9 1 v c.length ((c.mergeSort (λx y=>decide (x<=y))).map encStr)/\(v=zB↔c=[])/\Below (w.alloc (zp #[.map (some b)] 159)).heap.size (w.alloc (zp #[.map (some b)] 159)) w':=by
 have i:=f.lt;have j:SeqGives Fence.wide 2 prog 146 #[zC w.heap.size] encStr (λc=>c.Perm (strKeys a)) (Maps.size a) (w.alloc (zp #[.map (some b)] 159)):=
  AnyZ.keys_gives (ρ:=Tryz.keysK_ren) { Tryz.keysK with} Fence.wide _ trivial rfl (by omega) w.heap.size b d a _ (by simp) (by simp) (by
   obtain⟨es,clock,hb,k,l,m⟩:=f;exact⟨es,clock,(BL _ _ b i).trans hb,k,l,m⟩)
 exact AnyZ.sorted_in Tryz.sortedK Fence.wide 5 trivial trivial trivial trivial rfl (by omega) (mI _) (enters_of func145 (by kernel_rfl) rfl) 146 #[zC w.heap.size] trivial (enters_of func146 (by kernel_rfl) rfl) _ _ g h _ j
theorem UV:OD:=by
 intro q L w k m n hlen;refine⟨FJ.1 (mJ (some q) w),?_⟩;obtain⟨o,r,s,g⟩:=mH k m (λp hp=>by have:=n p hp; unfold maxLen; omega) (by unfold maxLen; omega);refine(FJ.1 (mK q L.length o Hv w r (by rw[g]; unfold maxLen; omega) (by rw[g]; omega))).mono ?_;rintro e w' ⟨v,d,rfl,hp,i,_,hb⟩;have t:(w.alloc (zp #[.map (some q)] 159)).heap.size=w.heap.size+1:=by simp
 rw[t]at i hb;have j:=List.mergeSort_perm d (λx y=>decide (x<=y));have u:(d.mergeSort (λx y=>decide (x<=y))).Pairwise (λa b=>decide (a<=b)=true):=List.pairwise_mergeSort (λa b c h1 h2=>by simp at *; exact List.le_trans h1 h2) (λa b=>by simp; exact List.le_total a b) d;generalize d.mergeSort (λx y=>decide (x<=y))=ms at *;refine⟨v,ms.map (λl=>⟨l.toArray⟩),rfl,?_,?_,?_,hb⟩
 ·have h1:ms.Perm (L.map (λp=>p.1.data.toList)):=(j.trans hp).trans s;have h2:=h1.map (λl:List UInt8=>(⟨l.toArray⟩:ByteArray));simpa [Function.comp_def] using h2
 ·rw[Ib];refine u.imp fun {a b} h=>?_;unfold CC;have e1:(⟨b.toArray⟩:ByteArray).toList=b:=by rw[GW]
  have e2:(⟨a.toArray⟩:ByteArray).toList=a:=by rw[GW]
  rw[e1,e2,bytesLess_eq];have h2:a<=b:=by simpa using h
  simpa using h2
 ·have h1:=LV.of_own (f:=Value.string) (l:=ms.map (λl:List UInt8=>(⟨l.toArray⟩:ByteArray))) (w:=w') (N:=w.heap.size+1) (T:=9) (v:=v) (by
   have h2:ms.length=d.length:=j.length_eq;rw[GH,h2,List.map_map];exact i)
  exact h1
def mL (w:World) (X:Nat->Prop) (l:List Bd) (n:ByteArray) (e:Ending) (w':World):Prop:=
 Below w.heap.size w w'/\((∃t a c,AF l n=some t/\e=.returned (.tuple #[.agg (zG t a c),.bool true])/\Sl w' X a t.args)∨(AF l n=none/\e=.returned (.tuple #[.agg ze,.bool false])))
def mM (l:List Bd) (n:ByteArray) (w0:World) (v:Value) (wr:World):Prop:=∃k:Nat,k<=l.length/\v=zA k/\AF (l.take k) n=none/\wr=w0
theorem UW (l:List Bd) (n:ByteArray) (v:Value) (w:World) (g:Nat->Prop) (i:BV w g v l):
  Calls prog 65 #[v,.string n] w λe w'=>mL w (λb=>g b/\b<w.heap.size) l n e w':=by
 have A:=Aa (i.mono (Y:=λb=>g b/\b<w.heap.size) λb h1 h2=>⟨h1,h2⟩);obtain⟨a,c,rfl,hl,B⟩:=i;clear B;go_in;go_wp2_with fail;have h:=Aa (Ab.new w ze 61);have j:=Aa ((Ac w.heap.size w).alloc (Af _) zd);have C:=Aa (A.o.alloc zd);generalize w.alloc zd=D at *;go_loopw [6] (λv wr=>mM l n D v wr) (λv wr=>l.length-(intOf v).toNat);case atStart=>exact⟨0,Bp _,rfl,rfl,rfl⟩
 case round=>
  obtain⟨k,hk,rfl,m,rfl⟩:=hrel;have q:=Aa m;clear m;have r:=h.o.c0;have s:=h.o.c1;have rf:=h.o.frozen;by_cases u:k<l.length
  ·obtain⟨b,o,x,c',rfl,d0,d1,d2,y⟩:=C.o.get k u;have af:(k:Int)<(l.length:Int):=(by omega);have HT:=Aa (WP u q.o);have E:=Aa y;clear y;generalize l[k]=d at *;by_cases he:d.nm=n
   ·have heq:=IE he;have f:=Aa (HT.o.1 he);clear he;go_wp2_with fail;refine Ao (v:=.tuple #[.agg (zG d.t x c'),.bool true]) (by simp[results,results65,go_sem,AL,AE,r,s]) rfl ?_;refine⟨(j.o.setCell (by simp) _).setCell (by simp) _,Ad ⟨d.t,x,c',f.o,rfl,E.o.kept λb hb=>?_⟩⟩;rw[Ak _ _ _ _ (by simp; omega),Ak _ _ _ _ (by simp; omega)]
   ·have heq:=Kk he;have f:=Aa (HT.o.2 he);clear he;go_wp2_with fail;go_roundw
    case rel=>exact⟨k+1,by omega,by go_num,f.o,by trivial⟩
    case measure=>simp[intOf]; omega
  ·have z:l.take k=l:=Bz (by omega);have f:=Aa q.o;rw[z]at f;clear z;go_wp2_with fail;refine Ao (v:=.tuple #[.agg ze,.bool false]) (by simp[results,results65,go_sem,AL,AE,r,s]) rfl ?_;exact⟨(j.o.setCell (by simp) _).setCell (by simp) _,Ae ⟨f.o,rfl⟩⟩
def UX (w0:World) (M:Nat) (ls:List Bd) (l:List Tm) (most:Int) (n i:Value) (wr:World):Prop:=∃k:Nat,k<=l.length/\i=zA k/\n=zA (min (1+Ah (An ls (l.take k))) (most+1))/\Below M w0 wr
theorem mN (ls:List Bd) (t:Tm):∀(u v:Value) (most:Int) (w:World) (X:Nat->Prop),BV w X u ls->TV w X v t->0<=most->most<=1000000->
  Calls prog 49 #[u,v,zA most] w λe w'=>e=.returned (zA (min (Ah [Ag ls t]) (most+1)))/\Below w.heap.size w w':=by
 induction t using Tm.ind with
 |h s l N=>
  intro u v most w X hu R T U;obtain⟨a,c,rfl,E⟩:=R;have O:=Aa N;have F:=Aa hu;have P:=Aa E;have hl:=E.1;clear N hu E;go_in;go_wp2_with fail;refine(UW ls s u _ X (by exact F.o.alloc _)).mono ?_;rintro e w1 ⟨G,V⟩;have r:=Aa ((Ab.new w #[.string s,.slice a l.length c] 61).below G (by simp));have g:=Aa (((Ac w.heap.size w).alloc (Af _) (.cells #[.string s,.slice a l.length c] 61)).trans (G.mono (by simp)));have an:w.heap.size<w1.heap.size:=r.o.lt;clear G;have t0:∀o,(w1.alloc o).cell? (zD w.heap.size 0)=some (.string s):=λo=>(r.o.alloc o).cell 0;have t1:∀o,(w1.alloc o).cell? (zD w.heap.size 1)=some (.slice a l.length c):=λo=>(r.o.alloc o).cell 1;rcases V with ⟨x,C,D,q,rfl,H⟩|⟨q,rfl⟩
  ·by_cases I:l=[]
   ·subst I;have y:=Aa (IJ q);have W:=Aa H;clear q H;go_wp2_with fail;refine(Wd x _ most _ _ ⟨C,D,rfl,W.o.later ((Ac w1.heap.size w1).alloc (Af _) _)⟩ T U).mono ?_;rintro e w3 ⟨rfl,z⟩;go_wp2_with fail;go_ret;exact⟨AM (by rw[y.o]),(g.o.alloc g.o.size _).trans (z.mono (by have:=g.o.size; simp; omega))⟩
   ·have A:=Aa (Hc (l:=ls) (s:=s) (Ad I));have ar:((l.length:Int)==0)=false:=Dx.2 (by have:=GY.2 I; omega);clear q H;go_wp2_with fail;have d:=Aa (r.o.alloc (zh x C D));have B:=Aa (g.o.alloc g.o.size (zh x C D));generalize w1.alloc (zh x C D)=w2 at *;clear t0 t1;go_loopw [9,10] (λn i wr=>UX w2 w2.heap.size ls l most n i wr) (λn i wr=>l.length-(intOf i).toNat);case atStart=>exact⟨0,Bp _,rfl,by simp[An,Ah]; omega,Ac _ _⟩
    case round=>
     obtain⟨k,hk,rfl,rfl,hb⟩:=hrel;have c0:wr.cell? (zD w.heap.size 0)=some (.string s):=(d.o.below hb d.o.lt).cell 0;have c1:wr.cell? (zD w.heap.size 1)=some (.slice a l.length c):=(d.o.below hb d.o.lt).cell 1;have Y:0<=((1:Int)+Ah (An ls (l.take k))):=(by omega);have f:=Aa (B.o.trans (hb.mono B.o.size));have Z:=Aa hb;by_cases j:k<l.length
     ·obtain⟨b,o,a',c',rfl,d0,d1,hx⟩:=P.o.get f.o (λ_ _ h=>h) k j;by_cases hle:1+(Ah (An ls (l.take k)):Int)<=most
      ·have m:min (1+(Ah (An ls (l.take k)):Int)) (most+1)=1+(Ah (An ls (l.take k)):Int):=(by omega);rw[m];go_wp2_with fail;refine(O.o _ (Bv j) _ _ _ _ X (F.o.later f.o) hx (by omega) (by omega)).mono ?_;rintro e w3 ⟨rfl,z⟩;have J:=Aa (Qk ls l k j);have ao:0<=min ((Ah [Ag ls l[k]]:Int)) (most-(1+(Ah (An ls (l.take k)):Int))+1):=(by omega);have aq:min ((Ah [Ag ls l[k]]:Int)) (most-(1+(Ah (An ls (l.take k)):Int))+1)<=1000001:=(by omega);go_wp2_with fail;go_roundw
       case rel=>exact⟨k+1,by omega,by go_num,by rw[J.o]; congr 1; omega,hb.trans (z.mono hb.size)⟩
       case measure=>simp[intOf]; omega
      ·have m:min (1+(Ah (An ls (l.take k)):Int)) (most+1)=most+1:=(by omega);rw[m];have hz:(Ah [(⟨s,An ls l⟩:Tm)]:Int)=1+Ah (An ls l):=(by simp[Ah]);have ai:=Ql ls l k;have y:=Aa (show(most+1:Int)=min (Ah [(⟨s,An ls l⟩:Tm)]:Int) (most+1) by omega);clear hz;go_wp2_with fail;go_ret;exact⟨AM (by rw[A.o]; exact y.o),f.o⟩
     ·have L:l.take k=l:=Bz (by omega);rw[L];have hz:(Ah [(⟨s,An ls l⟩:Tm)]:Int)=1+Ah (An ls l):=(by simp[Ah]);have M:=Aa hz;clear hz;go_wp2_with fail;all_goals (go_ret; exact⟨AM (by rw[A.o]; have:=M.o; omega),f.o⟩)
  ·have A:Hid (Ag ls ⟨s,l⟩=⟨s,An ls l⟩):=Hc (Ae q);clear q;go_wp2_with fail;have d:=Aa (r.o.alloc zd);have B:=Aa (g.o.alloc g.o.size zd);generalize w1.alloc zd=w2 at *;clear t0 t1;go_loopw [9,10] (λn i wr=>UX w2 w2.heap.size ls l most n i wr) (λn i wr=>l.length-(intOf i).toNat);case atStart=>exact⟨0,Bp _,rfl,by simp[An,Ah]; omega,Ac _ _⟩
   case round=>
    obtain⟨k,hk,rfl,rfl,hb⟩:=hrel;have c0:wr.cell? (zD w.heap.size 0)=some (.string s):=(d.o.below hb d.o.lt).cell 0;have c1:wr.cell? (zD w.heap.size 1)=some (.slice a l.length c):=(d.o.below hb d.o.lt).cell 1;have Y:0<=((1:Int)+Ah (An ls (l.take k))):=(by omega);have f:=Aa (B.o.trans (hb.mono B.o.size));have Z:=Aa hb;by_cases j:k<l.length
    ·obtain⟨b,o,a',c',rfl,d0,d1,hx⟩:=P.o.get f.o (λ_ _ h=>h) k j;by_cases hle:1+(Ah (An ls (l.take k)):Int)<=most
     ·have m:min (1+(Ah (An ls (l.take k)):Int)) (most+1)=1+(Ah (An ls (l.take k)):Int):=(by omega);rw[m];go_wp2_with fail;refine(O.o _ (Bv j) _ _ _ _ X (F.o.later f.o) hx (by omega) (by omega)).mono ?_;rintro e w3 ⟨rfl,z⟩;have J:=Aa (Qk ls l k j);have ao:0<=min ((Ah [Ag ls l[k]]:Int)) (most-(1+(Ah (An ls (l.take k)):Int))+1):=(by omega);have aq:min ((Ah [Ag ls l[k]]:Int)) (most-(1+(Ah (An ls (l.take k)):Int))+1)<=1000001:=(by omega);go_wp2_with fail;go_roundw
      case rel=>exact⟨k+1,by omega,by go_num,by rw[J.o]; congr 1; omega,hb.trans (z.mono hb.size)⟩
      case measure=>simp[intOf]; omega
     ·have m:min (1+(Ah (An ls (l.take k)):Int)) (most+1)=most+1:=(by omega);rw[m];have hz:(Ah [(⟨s,An ls l⟩:Tm)]:Int)=1+Ah (An ls l):=(by simp[Ah]);have ai:=Ql ls l k;have y:=Aa (show(most+1:Int)=min (Ah [(⟨s,An ls l⟩:Tm)]:Int) (most+1) by omega);clear hz;go_wp2_with fail;go_ret;exact⟨AM (by rw[A.o]; exact y.o),f.o⟩
    ·have L:l.take k=l:=Bz (by omega);rw[L];have hz:(Ah [(⟨s,An ls l⟩:Tm)]:Int)=1+Ah (An ls l):=(by simp[Ah]);have M:=Aa hz;clear hz;go_wp2_with fail;all_goals (go_ret; exact⟨AM (by rw[A.o]; have:=M.o; omega),f.o⟩)
theorem UY (y:Bc):∀(cs:List Bc) (i:Nat),i<cs.length->DE (cs.set i y)=(((DE cs).set (i*3) (.string y.1.nm)).set (i*3+1) (.string y.1.t.name)).set (i*3+2) (.slice y.2.1 y.1.t.args.length y.2.2)
 | [],i,h=>by simp at h
 |x::r,0,h=>by simp[DE,D5]
 |x::r,i+1,h=>by
  have a:=UY y r i (by simpa using h);rw[Nt,DE,DE,a];rw[show(i+1)*3=i*3+3 by omega,show i*3+3+1=(i*3+1)+3 by omega,show i*3+3+2=(i*3+2)+3 by omega];simp[D5]
def put3 (w:World) (g i:Nat) (y:Bc):World:=(((w.setCell ⟨g,i*3,none⟩ (.string y.1.nm)).setCell ⟨g,i*3+1,none⟩ (.string y.1.t.name)).setCell ⟨g,i*3+2,none⟩ (.slice y.2.1 y.1.t.args.length y.2.2))
theorem mO {b:Nat} {y:Bc} (h:b≠g):(put3 w g i y).heap[b]? = w.heap[b]? := by
 unfold put3;rw[Ak _ _ _ _ (by simpa using h),Ak _ _ _ _ (by simpa using h),Ak _ _ _ _ (by simpa using h)]
theorem UZ {y:Bc}:(put3 w g i y).heap.size=w.heap.size:=by simp[put3,World.setCell]
theorem U0 {b:World} {B:Nat} {y:Bc} (h:Below B b w) (a:B<=g):Below B b (put3 w g i y):=((h.setCell (by exact a) _).setCell (by exact a) _).setCell (by exact a) _
theorem Sl.put3 {n:Nat} {a:Option Addr} {l:List Tm} {y:Bc} (h:Sl w (λb=>Y b∨(N<=b/\some b≠(Value.slice (some (zD g 0)) n cap).ownBlock)) a l) (c:∀b,Y b->b<N) (hg:N<=g):Sl (put3 w g i y) (λb=>Y b∨(N<=b/\some b≠(Value.slice (some (zD g 0)) n cap).ownBlock)) a l:=
 h.kept λb hb=>mO (by
  rcases hb with hb|hb
  ·have:=c b hb; omega
  ·intro e; exact hb.2 (by simp[Value.ownBlock,e]))
theorem Cs.put {cs:List Bc} {n:Nat} (h:Cs w N Y (.slice (some (zD g 0)) n cap) cs) (a:∀b,Y b->b<N) (i:Nat) (hi:i<cs.length) (y:Bc) (hy:Sl w (λb=>Y b∨(N<=b/\some b≠(Value.slice (some (zD g 0)) n cap).ownBlock)) y.2.1 y.1.t.args):Cs (put3 w g i y) N Y (.slice (some (zD g 0)) n cap) (cs.set i y):=by
 have c:N<=g:=(h.own.lt g rfl).1;refine⟨?_,λx hx=>?_⟩
 ·rcases h.own.2 with ⟨e,_⟩|⟨g',ad,cur,e,d,hb,h1,h2,h3,f⟩
  ·cases e
  ·simp at e;obtain⟨rfl,rfl,rfl⟩:=e;have j:Ab w g cur 93:=hb;have k:=((j.set (i*3) (.string y.1.nm)).set (i*3+1) (.string y.1.t.name)).set (i*3+2) (.slice y.2.1 y.1.t.args.length y.2.2);refine⟨Qn _,Ae ⟨g,cap,_,by simp,d,k,by simpa using h1,h2,by simpa using h3,?_⟩⟩;rw[UY y cs i hi,<-f];simp[List.take_set]
 ·rcases List.mem_or_eq_of_mem_set hx with h1|h1
  ·exact(h.row x h1).put3 a c
  ·rw[h1]; exact hy.put3 a c
theorem Cs.swap {A B:List Bc} {x y:Bc} {n:Nat} (h:Cs w N Y (.slice (some (zD g 0)) n cap) ((A++[y])++x::B)) (a:∀b,Y b->b<N):Cs (put3 (put3 w g (A.length+1) y) g A.length x) N Y (.slice (some (zD g 0)) n cap) (A++x::y::B):=by
 have c:N<=g:=(h.own.lt g rfl).1;have h1:=h.put a (A.length+1) (by simp) y (h.row y (by simp));have h2:=h1.put a A.length (by simp) x ((h.row x (by simp)).put3 a c);have e:(((A++[y])++x::B).set (A.length+1) y).set A.length x=A++x::y::B:=(by rw[List.set_append_right _ _ (by simp)];simp[List.set_append_right]);rw[e]at h2;exact h2
def Ld (l:List Bc):Prop:=l.Pairwise λa b=>CC b.1.nm a.1.nm=false
theorem U1 {A B:List Bc} {x:Bc} (hw:Ld (A++B)) (d:∀b∈B,CC x.1.nm b.1.nm=true) (e:∀a∈A,CC x.1.nm a.1.nm=false):Ld (A++x::B):=by
 obtain⟨h1,h2,h3⟩:=Ns.1 hw;refine Ns.2 ⟨h1,Lp.2 ⟨λb hb=>Qs (d b hb),h2⟩,λa c b hb=>?_⟩;rcases Ct.1 hb with rfl|hb
 ·exact e a c
 ·exact h3 a c b hb
theorem mP {A B:List Bc} {a x:Bc} (hw:Ld (A++[a]++B)) (h:CC x.1.nm a.1.nm=false):∀y∈A++[a],CC x.1.nm y.1.nm=false:=λy hy=>by
 rcases BN.1 hy with hy|hy
 ·obtain⟨h1,_⟩:=Ns.1 hw;exact WX h ((Ns.1 h1).2.2 y hy a (by simp))
 ·have e:y=a:=by simpa using hy
  rw[e]; exact h
theorem Cs.atk {P Q:List Bc} {z:Bc} {n:Nat} (h:Cs w N Y (.slice (some (zD g 0)) n cap) (P++z::Q)):
  w.cell? ⟨g,P.length*3,none⟩=some (.string z.1.nm)/\w.cell? ⟨g,P.length*3+1,none⟩=some (.string z.1.t.name)/\w.cell? ⟨g,P.length*3+2,none⟩=some (.slice z.2.1 z.1.t.args.length z.2.2)/\∀j,w.frozen? (zD g j)=false:=by
 obtain⟨b,c,e,_,_,hc⟩:=Fd h.own (by simp only[Ej,Cl]; omega);simp at e;obtain⟨rfl,_,rfl⟩:=e;have d:∀j,w.frozen? (zD g j)=false:=by
  rcases h.own.2 with ⟨e,_⟩|⟨b,c,cur,e,_,hb,_⟩
  ·cases e
  ·simp at e;obtain⟨rfl,_,rfl⟩:=e;intro j;simp[World.frozen?,hb]
 have a:∀j,j<3->(DE (P++z::Q))[P.length*3+j]? = (D5 z)[j]? := λj f=>by
  rw[Km _ P.length (by simp) j f];simp
 exact⟨hc _ _ (by have h0:=a 0 (by decide); rw[Ic] at h0; rw[h0]; rfl),hc _ _ (by rw[a 1 (by decide)]; rfl),hc _ _ (by rw[a 2 (by decide)]; rfl),d⟩
theorem U7 {A B cs:List Bc} {x:Bc} {l:List Bd} (h:A++B=cs) (hp:(cs.map (·.1)++[x.1]).Perm l):((A++x::B).map (·.1)).Perm l:=by
 refine List.Perm.trans ?_ hp;have h1:(A++x::B).Perm (cs++[x]):=by
  rw[<-h];exact List.perm_middle.trans (List.perm_append_singleton x (A++B)).symm
 simpa using h1.map (·.1)
def mQ (w:World) (Y:Nat->Prop) (ls:List Bd) (u v:Value) (wr:World):Prop:=
 ∃(k:Nat) (cs:List Bc),v=zA k/\k<=ls.length/\Cs wr w.heap.size Y u cs/\(cs.map (·.1)).Perm (ls.take k)/\Ld cs/\Below w.heap.size w wr
def mR (w:World) (Y:Nat->Prop) (cs:List Bc) (x:Bc) (g cap:Nat) (v:Value) (wr:World):Prop:=
 ∃(A B:List Bc),v=zA (A.length:Int)/\A++B=cs/\(∀b∈B,CC x.1.nm b.1.nm=true)/\Cs wr w.heap.size Y (.slice (some (zD g 0)) (cs.length+1) cap) (A++x::B)/\Below w.heap.size w wr
theorem U8 (ls:List Bd) (u:Value) (w:World) (X:Nat->Prop) (hu:BV w X u ls) (hn:ls.length<=1000000):
  Calls prog 48 #[u] w λe w'=>∃(v:Value) (cs:List Bc),e=.returned v/\Cs w' w.heap.size (λb=>X b/\b<w.heap.size) v cs/\(cs.map (·.1)).Perm ls/\Ld cs/\Below w.heap.size w w':=by
 have HU:=Aa (hu.mono (Y:=λb=>X b/\b<w.heap.size) λb h1 h2=>⟨h1,h2⟩);obtain⟨a,c,rfl,hl,aA⟩:=hu;clear aA;go_in;go_wp2_with fail;go_loopw [3,4] (λu v wr=>mQ w (λb=>X b/\b<w.heap.size) ls u v wr) (λu v wr=>ls.length-(intOf v).toNat);case atStart=>exact⟨0,[],rfl,Bp _,Cs.start _ _ _,by simp,List.Pairwise.nil,Ac _ _⟩
 case round=>
  obtain⟨k,cs,rfl,hk,l,M,N,hb⟩:=hrel;have x:=Aa l;have z:=Aa M;have s:=Aa N;have r:=Aa hb;clear l M N;by_cases O:k<ls.length
  ·obtain⟨b,o,f,c',rfl,d0,d1,d2,P⟩:=(HU.o.later hb).get k O;have aB:(k:Int)<(ls.length:Int):=(by omega);have HS:=Aa P;have R:Hid ((cs.map (·.1)++[ls[k]]).Perm (ls.take (k+1))):=by
    unfold Hid;rw[CI O];exact z.o.append_right _
   have aC:cs.length<=1000000:=by have:=z.o.length_eq; simp at this; omega
   clear hb P;generalize ls[k]=d at *;obtain⟨v2,w2,T,Dq,U⟩:=Oa x.o r.o.size (λb h=>h.2) (Ac wr.heap.size wr) (d,f,c') (HS.o.mono λb h _=>Ad h) aC wr.heap.size rfl;obtain⟨g,cap,rfl,aD,aH⟩:=Dq.own.form (by simp);have V:=Aa T;have W:=Aa Dq;have aE:Hid (Below w.heap.size w w2):=(r.o.alloc r.o.size _).grown U (by have:=r.o.size; simp; omega) (λj hj=>by have:=(x.o.own.lt j hj).1; omega);have ak:(cs++[(d,f,c')]).length=cs.length+1:=(by simp);rw[ak]at W V;clear T Dq U;have Z:w.heap.size<=g:=aD;go_wp2_with (at_builtin; refine IB rfl _ _ _ _ rfl rfl rfl V.o ?_);go_loopw [5] (λv wr=>mR w (λb=>X b/\b<w.heap.size) cs (d,f,c') g cap v wr) (λv wr=>(intOf v).toNat);case atStart=>
    exact⟨cs,[],by go_num,by simp,by simp,W.o,aE.o⟩
   case round=>
    obtain⟨A,B,rfl,C,ay,l,hb⟩:=hrel;have D:=Aa l;have E:=Aa hb;have F:=Aa ay;have q:=Aa C;have aF:Hid (A.length+B.length=cs.length):=Aa (by have:=Dt List.length C;simpa using this);clear ay C;rcases List.eq_nil_or_concat A with rfl|⟨n,y,az⟩
    ·clear l hb;go_wp2_with fail;go_quiet (fail)
     go_wp2_with fail;go_roundw
     case rel=>exact⟨k+1,[]++(d,f,c')::B,by go_num,by omega,D.o.below (below_drewN (Ac _ _) _),U7 q.o R.o,U1 (by rw[q.o]; exact s.o) F.o (by simp),below_drewN E.o _⟩
     case measure=>simp[intOf]; omega
    ·rw[List.concat_eq_append]at az;subst az;have hlen:(n++[y]).length=n.length+1:=(by simp);have aI:n.length+1<cs.length+1:=by have:=aF.o; simp at this; omega
     have e1:(n++[y])++(d,f,c')::B=n++y::(d,f,c')::B:=(by simp);obtain⟨G,H,I,xf⟩:=l.atk;rw[e1]at l;obtain⟨y0,y1,y2,_⟩:=l.atk;simp only[Ej,Cl,Ek,Ia] at G H I ⊢;clear l hb hlen e1;generalize a1:n.length=m at *;have a6:=Aa a1;clear a1;have aJ:(0:Int)<=(m:Int):=(by omega);have aK:IntKind.i64.wrap ((m:Int)+1-1)=(m:Int):=by rw[Ck]; omega
     have aL:IntKind.i64.wrap (m:Int)=(m:Int):=by rw[Ck]; omega
     cases J:Op.bytesLess d.nm.toList y.1.nm.toList with
     |true=>
      have ar:=Aa J;go_wp2_with fail;go_quiet (fail)
      have al:=Aa (D.o.below (below_drewN (Ac wr.heap.size wr) nq));have a7:=Aa (below_drewN E.o nq);have aG:(wr.drewN nq).cell? ⟨g,(m+1)*3,none⟩=some (.string d.nm):=G;have aM:(wr.drewN nq).cell? ⟨g,(m+1)*3+1,none⟩=some (.string d.t.name):=H;have aN:(wr.drewN nq).cell? ⟨g,(m+1)*3+2,none⟩=some (.slice f d.t.args.length c'):=I;have aO:(wr.drewN nq).cell? ⟨g,m*3,none⟩=some (.string y.1.nm):=y0;have aP:(wr.drewN nq).cell? ⟨g,m*3+1,none⟩=some (.string y.1.t.name):=y1;have aQ:(wr.drewN nq).cell? ⟨g,m*3+2,none⟩=some (.slice y.2.1 y.1.t.args.length y.2.2):=y2;have aR:∀j,(wr.drewN nq).frozen? (zD g j)=false:=xf;have aS:g<(wr.drewN nq).heap.size:=Es aG;clear G H I y0 y1 y2 xf J;generalize wr.drewN nq=w5 at *;go_wp2_with fail;go_roundw
      case rel=>
       have L:=(al.o.swap λb h=>h.2).below ((Ac _ _).alloc (Af _) (.cells #[.string d.nm,.string d.t.name,.slice f d.t.args.length c'] 93));rw[a6.o]at L;have a8:=(U0 (i:=m) (y:=(d,f,c')) (U0 (i:=m+1) (y:=y) a7.o Z) Z).alloc (by rw[UZ,UZ]; exact a7.o.size) (.cells #[.string d.nm,.string d.t.name,.slice f d.t.args.length c'] 93);simp only[put3] at L a8;refine⟨n,y::B,by rw[a6.o],by have:=q.o; simpa using this,λb hb=>?_,L,a8⟩;rcases Ct.1 hb with rfl|hb
       ·exact ar.o
       ·exact F.o b hb
      case measure=>simp[intOf]
     |false=>
      have ar:=Aa J;go_wp2_with fail;go_quiet (fail)
      go_wp2_with fail;go_roundw
      case rel=>exact⟨k+1,(n++[y])++(d,f,c')::B,by go_num,by omega,D.o.below (below_drewN (Ac _ _) _),U7 q.o R.o,U1 (by rw[q.o]; exact s.o) F.o (mP (by rw[q.o]; exact s.o) ar.o),below_drewN E.o _⟩
      case measure=>simp[intOf]; omega
  ·go_wp2_with fail;go_ret;exact⟨u3,cs,rfl,x.o,by have h:=z.o; rwa [Bz (by omega)] at h,s.o,r.o⟩
theorem mS (u:Int) (m:Nat) (t0:Lm) (v:Value) (w:World) (X:Nat->Prop) (hm:m<=400) (hu:0<=u/\u<=40) (he:Au u M [t0]=0) (hz:Ai [t0]<=2000) (hv:MV w X v t0) (hM:M<=40:=by omega):
  Calls prog 76 #[v,.func (.func 58) #[] #[],zA m] w λe w'=>MT false m t0 X w e w':=by
 obtain⟨a,c,rfl,z⟩:=hv;have HS:Hid (Ap w (Fb w X) a t0.subs):=z.mono λb h1 h2=>Ad ⟨h1,h2⟩;have HW:=Aa (EQ.start (inn:=false) (m:=m) hu he hz hM);have I0:Hid (JU false u w X m t0 (zA ((0:Nat):Int)) ((w.alloc (zm t0 a c)).alloc zi)):=by
  refine⟨0,t0,a,c,rfl,HW.o,Dk _ _,by simp,(Ab.new w _ _).alloc _,?_,HS.o.later (Dk _ _)⟩;have h:=Ab.new (w.alloc (zm t0 a c)) zJ 24;simpa using h
 clear z he hz HS HW;go_in;go_wp2_with fail;go_loopw [9] (λi wr=>JU false u w X m t0 i wr) (λi wr=>m-(intOf i).toNat);case atStart=>exact I0.o
 case round=>
  obtain⟨d,t,at',A,rfl,U,hb,aQ,hT,hR,z⟩:=hrel;have q:=Aa U;have V:=Aa hb;have HT:=Aa hT;have W:=Aa hR;have ay:=Aa z;have aR:=U.le;have aF:=hT.c0;have aG:=hT.c1;have aH:wr.cell? (zD w.heap.size 2)=some (.slice at' t.subs.length A):=hT.cell 2;clear U hb hT hR z I0;go_wp2_with fail;refine(kS _ t wr (Fb w X) ⟨at',A,rfl,ay.o⟩).mono ?_;rintro e w1 ⟨T,a1,c1,rfl,az,a7,a8⟩;have aI:=Aa az;have aJ:=Aa a7;have Y:=Aa a8;clear az a7 a8;go_wp2_with fail;refine(kO (kL 2001 t u (by have:=q.o.sz; omega) q.o.gd) T a1 c1 w1 (Fb w X) aI.o aJ.o).mono ?_;rintro e w2 ⟨ah,ai⟩;have n:=Aa (Y.o.trans (ah.mono Y.o.size));have aK:wr.heap.size<=w2.heap.size:=n.o.size;have aL:wr.heap.size<=w1.heap.size:=Y.o.size;clear ah aF aG aH;rcases ai with ⟨B,rfl⟩|⟨B,x,ok,a2,c2,rfl,aA,aB⟩
  ·have k:=Aa (q.o.fin B);have Z:=Aa ((W.o.below n.o (by omega)).alloc zi);have I:=Aa ((V.o.trans (n.o.mono (by omega))).alloc (by omega) zi);have s:=Aa ((HT.o.below n.o (by omega)).alloc zi);have J:=Aa ((ay.o.later n.o).later ((Ac _ _).alloc (Af _) zi));have q0:(w2.alloc zi).cell? (zD w.heap.size 0)=some (zA t.kind):=s.o.cell 0;have q1:(w2.alloc zi).cell? (zD w.heap.size 1)=some (zA t.idx):=s.o.cell 1;have q2:(w2.alloc zi).cell? (zD w.heap.size 2)=some (.slice at' t.subs.length A):=s.o.cell 2;have aC:(w2.alloc zi).heap.size=w2.heap.size+1:=(by simp);clear B s;go_wp2_with fail;generalize (w2.alloc zi)=wA at *;refine(kU t u q.o.gd _ _ (Fb w X) ⟨at',A,rfl,J.o⟩).mono ?_;rintro e w6 ⟨v6,rfl,⟨a6,c6,rfl,aD⟩,aq⟩;have B6:=Aa (I.o.trans (aq.mono I.o.size));have L:=Aa (Z.o.below aq (by omega));have S6:Hid (Ap w6 (Fb w X) a6 t.subs):=aD.mono λb h _=>Ae (by omega);have C:=L.o.c0;have D:=L.o.c1;have E:=L.o.c2;have rf:=L.o.frozen;clear aD aq q0 q1 q2;go_wp2_with fail;refine Ao (v:=.tuple #[.agg (zE t a6 c6),zA d,zA 0]) (by simp[results,results76,go_sem,AL,AE,C,D,E]) rfl ?_;refine⟨DO B6.o _ (by omega) _ _ _,Ad ⟨k.o.1,a6,c6,by rw[k.o.2.1,k.o.2.2],?_⟩⟩;rw[k.o.2.1];exact(MU S6.o _ (Ae rfl) _ _ _).mono λb hb _=>hb.imp id λh=>by omega
  ·have N:=Aa B;have aE:=Aa aA;have aM:Hid (Ap w2 (Fb w X) a2 x.subs):=aB.mono λb hb _=>hb.elim And.left λh=>Ae (by omega);have Z:=Aa ((W.o.below n.o (by omega)).alloc (zm x a2 c2));have s:=Aa ((HT.o.below n.o (by omega)).alloc (zm x a2 c2));have I:=Aa ((V.o.trans (n.o.mono (by omega))).alloc (by omega) (zm x a2 c2));have J:=Aa (aM.o.later ((Ac _ _).alloc (Af _) (zm x a2 c2)));have O:Hid (Ab (w2.alloc (zm x a2 c2)) w2.heap.size (zE x a2 c2) 24):=Ab.new _ _ _;have aC:(w2.alloc (zm x a2 c2)).heap.size=w2.heap.size+1:=(by simp);clear aB B aA;obtain⟨P2,aS⟩:∃P2,P2=w2.heap.size:=⟨_,rfl⟩;have l:=Aa (W.o.below n.o (by omega));have y:=Aa (V.o.trans (n.o.mono (by omega)));by_cases hd:d=m
   ·subst hd;have k:=Aa (q.o.fuel N.o);have C:∀o,(w2.alloc o).cell? (zD (w.heap.size+1) 0)=some (zA 0):=λo=>(l.o.alloc o).cell 0;have D:∀o,(w2.alloc o).cell? (zD (w.heap.size+1) 1)=some (zA 0):=λo=>(l.o.alloc o).cell 1;have E:∀o,(w2.alloc o).cell? (zD (w.heap.size+1) 2)=some (zB):=λo=>(l.o.alloc o).cell 2;have rf:∀o i,(w2.alloc o).frozen? (zD (w.heap.size+1) i)=false:=λo=>(l.o.alloc o).frozen;have ar:=l.o.c0;have au:=l.o.c1;have av:=l.o.c2;have aN:∀i,w2.frozen? (zD (w.heap.size+1) i)=false:=l.o.frozen;have aw:w.heap.size+1<w2.heap.size:=(by omega);have F:Hid (∀o f g j,Below w.heap.size w ((((w2.setCell (zD (w.heap.size+1) 0) f).setCell (zD (w.heap.size+1) 1) g).setCell (zD (w.heap.size+1) 2) j).alloc o)/\Below w.heap.size w ((((w2.alloc o).setCell (zD (w.heap.size+1) 0) f).setCell (zD (w.heap.size+1) 1) g).setCell (zD (w.heap.size+1) 2) j)):=λo f g j=>⟨(DO y.o _ (by omega) f g j).alloc (by have:=(DO y.o (w.heap.size+1) (by omega) f g j).size; omega) o,DO (y.o.alloc (by omega) o) _ (by omega) f g j⟩;go_wp2_with fail;refine Ao (v:=.tuple #[.agg zJ,zA 0,zA 9]) (by simp[results,results76,go_sem,AL,AE,C,D,E,ar,au,av,aw,EI]) rfl ?_;refine⟨by first|exact(F.o _ _ _ _).1|exact(F.o _ _ _ _).2,Ae ⟨by rw[k.o]; decide,by rw[k.o]⟩⟩
   ·have aT:((d:Int)==(m:Int))=false:=Dx.2 (by omega);have f:=O.o.cell 0;have g:=O.o.cell 1;have j:=O.o.cell 2;simp only[BP,BQ,BU] at f g j;cases ok with
    |false=>have k:=Aa (q.o.full hd N.o (aE.o.2 rfl));have C:∀o,(w2.alloc o).cell? (zD (w.heap.size+1) 0)=some (zA 0):=λo=>(l.o.alloc o).cell 0;have D:∀o,(w2.alloc o).cell? (zD (w.heap.size+1) 1)=some (zA 0):=λo=>(l.o.alloc o).cell 1;have E:∀o,(w2.alloc o).cell? (zD (w.heap.size+1) 2)=some (zB):=λo=>(l.o.alloc o).cell 2;have rf:∀o i,(w2.alloc o).frozen? (zD (w.heap.size+1) i)=false:=λo=>(l.o.alloc o).frozen;have ar:=l.o.c0;have au:=l.o.c1;have av:=l.o.c2;have aN:∀i,w2.frozen? (zD (w.heap.size+1) i)=false:=l.o.frozen;have aw:w.heap.size+1<w2.heap.size:=(by omega);have F:Hid (∀o f g j,Below w.heap.size w ((((w2.setCell (zD (w.heap.size+1) 0) f).setCell (zD (w.heap.size+1) 1) g).setCell (zD (w.heap.size+1) 2) j).alloc o)/\Below w.heap.size w ((((w2.alloc o).setCell (zD (w.heap.size+1) 0) f).setCell (zD (w.heap.size+1) 1) g).setCell (zD (w.heap.size+1) 2) j)):=λo f g j=>⟨(DO y.o _ (by omega) f g j).alloc (by have:=(DO y.o (w.heap.size+1) (by omega) f g j).size; omega) o,DO (y.o.alloc (by omega) o) _ (by omega) f g j⟩;clear f g j;go_wp2_with fail;refine Ao (v:=.tuple #[.agg zJ,zA 0,zA 8]) (by simp[results,results76,go_sem,AL,AE,C,D,E,ar,au,av,aw,EI]) rfl ?_;refine⟨by first|exact(F.o _ _ _ _).1|exact(F.o _ _ _ _).2,Ae ⟨by rw[k.o]; decide,by rw[k.o]⟩⟩
    |true=>
     have ax:=Aa (aE.o.1 rfl);go_wp2_with fail;refine(PD 2000 (by omega) (by omega) x _ _ (Fb w X) (by exact⟨a2,c2,rfl,J.o⟩)).mono ?_;rintro e P ⟨rfl,r⟩;have aO:=r.size;rw[aC]at aO;have aYY:=aC;dsimp only[zm,zE,zA]at aYY;have B5:=Aa (I.o.trans (r.mono (by omega)));have G:=Aa (s.o.below r (by omega));have H:=Aa (Z.o.below r (by omega));have S5:=Aa (J.o.later r);have X5:=Aa (O.o.below r (by omega));have y0:=H.o.c0;have y1:=H.o.c1;have y2:=H.o.c2;have yf:∀i,P.frozen? (zD (w.heap.size+1) i)=false:=H.o.frozen;have z0:=X5.o.c0;have z1:=X5.o.c1;have z2:=X5.o.c2;have u0:=G.o.c0;have u1:=G.o.c1;have u2:P.cell? (zD w.heap.size 2)=some (.slice at' t.subs.length A):=G.o.cell 2;have uf:∀i,P.frozen? (zD w.heap.size i)=false:=G.o.frozen;clear r f g j;by_cases R:2000<Ai [x]
     ·have e:min ((Ai [x]:Int)) (2000+1)=2001:=(by omega);have k:=Aa (q.o.full hd N.o (by rw[<-ax.o]; exact R));rw[e];clear e R;go_wp2_with fail;refine Ao (v:=.tuple #[.agg zJ,zA 0,zA 8]) (by simp[results,results76,go_sem,AL,AE,y0,y1,y2]) rfl ?_;exact⟨DO B5.o _ (by omega) _ _ _,Ae ⟨by rw[k.o]; decide,by rw[k.o]⟩⟩
     ·have e:min ((Ai [x]:Int)) (2000+1)=Ai [x]:=(by omega);have e3:decide ((Ai [x]:Int)>2000)=false:=G1 (by omega);have k:=Aa (q.o.on hd N.o (by rw[<-ax.o]; exact R));rw[<-ax.o]at k;rw[e];have aP:Hid (JU false u w X m t0 (zA ((d+1:Nat):Int)) (((P.setCell (zD w.heap.size 0) (zA x.kind)).setCell (zD w.heap.size 1) (zA x.idx)).setCell (zD w.heap.size 2) (.slice a2 x.subs.length c2))):=
       ⟨d+1,x,a2,c2,rfl,k.o,DO B5.o _ (by omega) _ _ _,by simp[World.setCell]; omega,Us G.o _ _ _,Ut H.o (by omega) _ _ _,MU S5.o _ (Ad rfl) _ _ _⟩
      clear e R;go_wp2_with fail;go_roundw
      case rel=>exact(by go_num:Value.int IntKind.i64 ((d:Int)+1)=zA ((d+1:Nat):Int))▸aP.o
      case measure=>simp[intOf]; omega
def DQ (t:Lm) (u z:Int):Int:=if BO u 0 t=0 then (if z<0∨400<z then 3 else 0) else BO u 0 t
theorem MY {u:Int} {t:Lm} (h:BO u 0 t=0):(0<=u/\u<=40)/\Au u 0 [t]=0/\Ai [t]<=200:=by
 unfold BO at h;split at h
 ·cases h
 ·split at h
  ·cases h
  ·exact⟨by omega,h,by omega⟩
theorem mT (t:Lm) (u z:Int) (hz:DQ t u z≠0) (v:Value) (w:World) (X:Nat->Prop) (r:MV w X v t):
  Calls prog 57 #[v,zA u,zA z,.func (.func 58) #[] #[]] w λe w'=>e=.returned (.tuple #[.agg zJ,zA 0,zA (DQ t u z)])/\Below w.heap.size w w':=by
 obtain⟨a,c,rfl,m⟩:=r;have n:Hid (Below w.heap.size w ((w.alloc (zm t a c)).alloc zi)):=Dk _ _;have s:Hid (MV ((w.alloc (zm t a c)).alloc zi) (λb=>X b/\b<w.heap.size) (.agg (zE t a c)) t):=⟨a,c,rfl,(m.mono (Y:=λb=>X b/\b<w.heap.size) λb h1 h2=>⟨h1,h2⟩).later n.o⟩;have HT:Hid (Ab ((w.alloc (zm t a c)).alloc zi) w.heap.size (zE t a c) 24):=(Ab.new w _ _).alloc _;have x:Hid (Ab ((w.alloc (zm t a c)).alloc zi) (w.heap.size+1) zJ 24):=by
  have h:=Ab.new (w.alloc (zm t a c)) zJ 24;unfold Hid;simpa using h
 have af:(((w.alloc (zm t a c)).alloc zi)).heap.size=w.heap.size+2:=by simp
 clear m;go_in;go_wp2_with fail;refine(NT t _ u _ _ s.o).mono ?_;rintro e w1 ⟨rfl,g⟩;have i:=Aa (n.o.trans (g.mono (by omega)));have d:=Aa (x.o.below g (by omega));have j:=d.o.c0;have k:=d.o.c1;have l:=d.o.c2;have rf:=d.o.frozen;clear g;by_cases h:BO u 0 t=0
 ·have y:z<0∨400<z:=(by unfold DQ at hz;rw[Aq h]at hz;apply Er;intro A;rw[Am A]at hz;exact hz rfl);have f:Hid (DQ t u z=3):=Aa (by unfold DQ;rw[Aq h,Aq y]);rw[h];clear h hz;by_cases q:z<0
  ·have g1:decide (z<0)=true:=J4 q;go_wp2_with fail;refine Ao (v:=.tuple #[.agg zJ,zA 0,zA 3]) (by simp[results,results57,go_sem,AL,AE,j,k,l]) rfl ?_;exact⟨by rw[f.o],DO i.o _ (by omega) _ _ _⟩
  ·have g1:decide (z<0)=false:=G1 q;have g2:decide (z>400)=true:=J4 (by omega);go_wp2_with fail;refine Ao (v:=.tuple #[.agg zJ,zA 0,zA 3]) (by simp[results,results57,go_sem,AL,AE,j,k,l]) rfl ?_;exact⟨by rw[f.o],DO i.o _ (by omega) _ _ _⟩
 ·have f:Hid (DQ t u z=BO u 0 t):=Aa (by unfold DQ;rw[Am h]);have hne:(BO u 0 t==0)=false:=Dx.2 h;clear h hz;go_wp2_with fail;refine Ao (v:=.tuple #[.agg zJ,zA 0,zA (BO u 0 t)]) (by simp[results,results57,go_sem,AL,AE,j,k,l]) rfl ?_;exact⟨by rw[f.o],DO i.o _ (by omega) _ _ _⟩
theorem mU (t:Lm) (u:Int) (m:Nat) (hm:m<=400) (n:BO u 0 t=0) (v:Value) (w:World) (X:Nat->Prop) (D:MV w X v t):
  Calls prog 57 #[v,zA u,zA m,.func (.func 58) #[] #[]] w λe w'=>MT false m t X w e w':=by
 obtain⟨a,c,rfl,q⟩:=D;have r:Hid (Below w.heap.size w ((w.alloc (zm t a c)).alloc zi)):=Dk _ _;have s:Hid (MV ((w.alloc (zm t a c)).alloc zi) (λb=>X b/\b<w.heap.size) (.agg (zE t a c)) t):=⟨a,c,rfl,(q.mono (Y:=λb=>X b/\b<w.heap.size) λb h1 h2=>⟨h1,h2⟩).later r.o⟩;have HT:Hid (Ab ((w.alloc (zm t a c)).alloc zi) w.heap.size (zE t a c) 24):=(Ab.new w _ _).alloc _;have E:Hid (Ab ((w.alloc (zm t a c)).alloc zi) (w.heap.size+1) zJ 24):=by
  have h:=Ab.new (w.alloc (zm t a c)) zJ 24;unfold Hid;simpa using h
 have F:(((w.alloc (zm t a c)).alloc zi)).heap.size=w.heap.size+2:=by simp
 clear q;have f:=Aa n;have gm:decide ((m:Int)<0)=false:=G1 (by omega);have ah:decide ((m:Int)>400)=false:=G1 (by omega);clear n;go_in;go_wp2_with fail;refine(NT t _ u _ _ s.o).mono ?_;rintro e w1 ⟨rfl,d⟩;rw[f.o];have G:=Aa (r.o.trans (d.mono (by omega)));have g:=HT.o.below d (by omega);have H:=Aa (E.o.below d (by omega));have ai:w.heap.size+2<=w1.heap.size:=by have:=d.size; omega
 have I:=Aa (s.o.later d);have c0:=g.c0;have c1:=g.c1;have c2:=g.c2;clear d g F;go_wp2_with fail;refine(mS u m t _ w1 _ hm (MY f.o).1 (MY f.o).2.1 (by have:=(MY f.o).2.2; omega) I.o).mono ?_;rintro e x ⟨i,J⟩;have y:=Aa (G.o.trans (i.mono (by omega)));have j:=Aa (H.o.below i (by omega));have aj:w1.heap.size<=x.heap.size:=i.size;have z:=j.o.c0;have A:=j.o.c1;have B:=j.o.c2;have rf:=j.o.frozen;clear i c0 c1 c2;rcases J with ⟨h0,a9,c9,rfl,C⟩|⟨h0,rfl⟩
 ·have L:Hid (Ap x (λb=>(X b/\b<w.heap.size)∨w.heap.size+2<=b) a9 (Bm false m t).2.1.subs):=C.mono λb hb _=>hb.imp (λh=>h.1) λh=>by omega
  have k:=Aa h0;clear C h0;go_wp2_with fail;refine Ao (v:=.tuple #[.agg #[zA (Bm false m t).2.1.kind,zA (Bm false m t).2.1.idx,.slice a9 (Bm false m t).2.1.subs.length c9],zA ((Bm false m t).2.2:Int),zA 0]) (by simp[results,results57,go_sem,AL,AE,z,A,B]) rfl ?_;refine⟨DO y.o _ (by omega) _ _ _,Ad ⟨k.o,a9,c9,rfl,(L.o.kept λb hb=>?_).mono λb hb _=>hb.imp id λh=>by omega⟩⟩;have l:b≠w.heap.size+1:=by rcases hb with hb|hb<;>omega
  rw[Ak _ _ _ _ (by simpa using l),Ak _ _ _ _ (by simpa using l),Ak _ _ _ _ (by simpa using l)]
 ·have k:=Aa h0;clear h0;go_wp2_with fail;refine Ao (v:=.tuple #[.agg zJ,zA 0,zA (Bm false m t).1]) (by simp[results,results57,go_sem,AL,AE,z,A,B]) rfl ?_;exact⟨DO y.o _ (by omega) _ _ _,Ae ⟨k.o,rfl⟩⟩
theorem mV (t:Lm) (u z:Int) (hz:DQ t u z≠0) (v:Value) (w:World) (X:Nat->Prop) (j:MV w X v t):
  Calls prog 38 #[v,zA u,zA z] w λe w'=>e=.returned (.tuple #[.agg zJ,zA 0,zA (DQ t u z)])/\Below w.heap.size w w':=by
 obtain⟨a,c,rfl,g⟩:=j;have i:Hid (Below w.heap.size w ((w.alloc (zm t a c)).alloc zi)):=Dk _ _;have k:Hid (MV ((w.alloc (zm t a c)).alloc zi) (λb=>X b/\b<w.heap.size) (.agg (zE t a c)) t):=⟨a,c,rfl,(g.mono (Y:=λb=>X b/\b<w.heap.size) λb h1 h2=>⟨h1,h2⟩).later i.o⟩;have HT:Hid (Ab ((w.alloc (zm t a c)).alloc zi) w.heap.size (zE t a c) 24):=(Ab.new w _ _).alloc _;have l:Hid (Ab ((w.alloc (zm t a c)).alloc zi) (w.heap.size+1) zJ 24):=by
  have h:=Ab.new (w.alloc (zm t a c)) zJ 24;unfold Hid;simpa using h
 have ad:(((w.alloc (zm t a c)).alloc zi)).heap.size=w.heap.size+2:=by simp
 clear g;go_in;go_wp2_with fail;refine(mT t u z hz _ _ _ k.o).mono ?_;rintro e w1 ⟨rfl,f⟩;have m:=Aa (i.o.trans (f.mono (by omega)));have d:=Aa (l.o.below f (by omega));have n:=d.o.c0;have q:=d.o.c1;have r:=d.o.c2;have rf:=d.o.frozen;clear f;go_wp2_with fail;refine Ao (v:=.tuple #[.agg zJ,zA 0,zA (DQ t u z)]) (by simp[results,results38,go_sem,AL,AE,n,q,r]) rfl ?_;exact⟨rfl,DO m.o _ (by omega) _ _ _⟩
theorem mW (t:Lm) (u:Int) (m:Nat) (hm:m<=400) (j:BO u 0 t=0) (v:Value) (w:World) (X:Nat->Prop) (B:MV w X v t):
  Calls prog 38 #[v,zA u,zA m] w λe w'=>MT false m t X w e w':=by
 obtain⟨a,c,rfl,k⟩:=B;have l:Hid (Below w.heap.size w ((w.alloc (zm t a c)).alloc zi)):=Dk _ _;have C:Hid (MV ((w.alloc (zm t a c)).alloc zi) (λb=>X b/\b<w.heap.size) (.agg (zE t a c)) t):=⟨a,c,rfl,(k.mono (Y:=λb=>X b/\b<w.heap.size) λb h1 h2=>⟨h1,h2⟩).later l.o⟩;have HT:Hid (Ab ((w.alloc (zm t a c)).alloc zi) w.heap.size (zE t a c) 24):=(Ab.new w _ _).alloc _;have D:Hid (Ab ((w.alloc (zm t a c)).alloc zi) (w.heap.size+1) zJ 24):=by
  have h:=Ab.new (w.alloc (zm t a c)) zJ 24;unfold Hid;simpa using h
 have n:(((w.alloc (zm t a c)).alloc zi)).heap.size=w.heap.size+2:=by simp
 clear k;have E:=Aa j;clear j;go_in;go_wp2_with fail;refine(mU t u m hm E.o _ _ _ C.o).mono ?_;rintro e q ⟨d,r⟩;have s:=Aa (l.o.trans (d.mono (by omega)));have f:=Aa (D.o.below d (by omega));have ag:w.heap.size+2<=q.heap.size:=by have:=d.size; omega
 have x:=f.o.c0;have y:=f.o.c1;have z:=f.o.c2;have rf:=f.o.frozen;clear d;rw[n]at r;clear n;rcases r with ⟨h0,a9,c9,rfl,A⟩|⟨h0,rfl⟩
 ·have F:Hid (Ap q (λb=>(X b/\b<w.heap.size)∨w.heap.size+2<=b) a9 (Bm false m t).2.1.subs):=A.mono λb hb _=>hb.imp (λh=>h.1) λh=>by omega
  have g:=Aa h0;clear A h0;go_wp2_with fail;refine Ao (v:=.tuple #[.agg #[zA (Bm false m t).2.1.kind,zA (Bm false m t).2.1.idx,.slice a9 (Bm false m t).2.1.subs.length c9],zA ((Bm false m t).2.2:Int),zA 0]) (by simp[results,results38,go_sem,AL,AE,x,y,z]) rfl ?_;refine⟨DO s.o _ (by omega) _ _ _,Ad ⟨g.o,a9,c9,rfl,(F.o.kept λb hb=>?_).mono λb hb _=>hb.imp id λh=>by omega⟩⟩;have i:b≠w.heap.size+1:=by rcases hb with hb|hb<;>omega
  rw[Ak _ _ _ _ (by simpa using i),Ak _ _ _ _ (by simpa using i),Ak _ _ _ _ (by simpa using i)]
 ·have g:=Aa h0;clear h0;go_wp2_with fail;refine Ao (v:=.tuple #[.agg zJ,zA 0,zA (Bm false m t).1]) (by simp[results,results38,go_sem,AL,AE,x,y,z]) rfl ?_;exact⟨DO s.o _ (by omega) _ _ _,Ae ⟨g.o,rfl⟩⟩
theorem mX (u:Int) (m:Nat) (t0:Lm) (v:Value) (w:World) (X:Nat->Prop) (hm:m<=400) (hu:0<=u/\u<=40) (he:Au u M [t0]=0) (hz:Ai [t0]<=2000) (hv:MV w X v t0) (hM:M<=40:=by omega):
  Calls prog 13 #[v,zA m,.bool false] w λe w'=>MT false m t0 X w e w':=by
 obtain⟨a,c,rfl,n⟩:=hv;have R:Hid (Ap w (Fb w X) a t0.subs):=n.mono λb h1 h2=>Ad ⟨h1,h2⟩;have T:=Aa (EQ.start (inn:=false) (m:=m) hu he hz hM);have U:Hid (JU false u w X m t0 (zA ((0:Nat):Int)) ((w.alloc (zm t0 a c)).alloc zi)):=by
  refine⟨0,t0,a,c,rfl,T.o,Dk _ _,by simp,(Ab.new w _ _).alloc _,?_,R.o.later (Dk _ _)⟩;have h:=Ab.new (w.alloc (zm t0 a c)) zJ 24;simpa using h
 clear n he hz R T;go_in;go_wp2_with fail;go_loopw [9] (λi wr=>JU false u w X m t0 i wr) (λi wr=>m-(intOf i).toNat);case atStart=>exact U.o
 case round=>
  obtain⟨d,t,at',z,rfl,F,hb,ax,hT,V,n⟩:=hrel;have g:=Aa F;have W:=Aa hb;have HT:=Aa hT;have Y:=Aa V;have G:=Aa n;have ay:=F.le;have an:=hT.c0;have ao:=hT.c1;have aq:=hT.c2;clear F hb hT V n U;go_wp2_with fail;refine(Sv t _ wr (Fb w X) ⟨at',z,rfl,G.o⟩ (Oe _ _ _ g.o.er.choose_spec.1)).mono ?_;rintro e w1 ⟨rfl,j⟩;have ar:wr.heap.size<=w1.heap.size:=j.size;have H:=Aa (W.o.trans (j.mono (by omega)));have A:=Aa (HT.o.below j (by omega));have q:=Aa (Y.o.below j (by omega));have Z:=Aa (G.o.later j);have q0:=A.o.c0;have q1:=A.o.c1;have q2:=A.o.c2;have I:=q.o.c0;have J:=q.o.c1;have L:=q.o.c2;have rf:=q.o.frozen;clear j an ao aq G HT Y W;cases C:AN [t] with
  |false=>have f:=Aa (g.o.fin C);clear C;go_wp2_with fail;refine Ao (v:=.tuple #[.agg (zE t at' z),zA d,zA 0]) (by simp[results,results13,go_sem,AL,AE,I,J,L]) rfl ?_;refine⟨DO H.o _ (by omega) _ _ _,Ad ⟨f.o.1,at',z,by rw[f.o.2.1,f.o.2.2],?_⟩⟩;rw[f.o.2.1];exact(MU Z.o _ (Ae rfl) _ _ _).mono λb hb _=>hb.imp id λh=>by omega
  |true=>
   have D:=Aa C;clear C;by_cases hd:d=m
   ·subst hd;have f:=Aa (g.o.fuel D.o);go_wp2_with fail;refine Ao (v:=.tuple #[.agg zJ,zA 0,zA 9]) (by simp[results,results13,go_sem,AL,AE,I,J,L]) rfl ?_;exact⟨DO H.o _ (by omega) _ _ _,Ae ⟨by rw[f.o]; decide,by rw[f.o]⟩⟩
   ·have az:((d:Int)==(m:Int))=false:=Dx.2 (by omega);clear I J L rf;go_wp2_with fail;refine(kY 2001 t u _ w1 (Fb w X) (by have:=g.o.sz; omega) g.o.gd D.o ⟨at',z,rfl,Z.o⟩).mono ?_;rintro e k ⟨a5,c5,rfl,N,r⟩;obtain⟨x,hx⟩:∃x,BG false 2001 t=x:=⟨_,rfl⟩;have O:=Aa hx;rw[hx]at N ⊢;have au:w1.heap.size<=k.heap.size:=r.size;have B5:=Aa (H.o.trans (r.mono (by omega)));have s:=Aa (A.o.below r (by omega));have R5:=Aa (q.o.below r (by omega));have S5:Hid (Ap k (Fb w X) a5 x.subs):=N.mono λb hb _=>hb.elim And.left λh=>Ae (by omega);have u0:=s.o.c0;have u1:=s.o.c1;have u2:=s.o.c2;have uf:∀i,k.frozen? (zD w.heap.size i)=false:=s.o.frozen;have BS:=Aa (DO B5.o w.heap.size (Af _) (zA x.kind) (zA x.idx) (.slice a5 x.subs.length c5));have TS:=Aa (Us s.o (zA x.kind) (zA x.idx) (.slice a5 x.subs.length c5));have RS:=Aa (Ut R5.o (B:=w.heap.size) (by omega) (zA x.kind) (zA x.idx) (.slice a5 x.subs.length c5));have SS:=Aa (MU S5.o w.heap.size (Ad rfl) (zA x.kind) (zA x.idx) (.slice a5 x.subs.length c5));have a1:(((k.setCell (zD w.heap.size 0) (zA x.kind)).setCell (zD w.heap.size 1) (zA x.idx)).setCell (zD w.heap.size 2) (.slice a5 x.subs.length c5)).heap.size=k.heap.size:=(by simp[World.setCell]);clear N r hx q0 q1 q2;go_wp2_with fail;clear u0 u1 u2 uf;generalize (((k.setCell (zD w.heap.size 0) (zA x.kind)).setCell (zD w.heap.size 1) (zA x.idx)).setCell (zD w.heap.size 2) (.slice a5 x.subs.length c5))=w6 at *;refine(Jk x _ 2000 _ (Fb w X) ⟨a5,c5,rfl,SS.o⟩ (by omega) (by omega)).mono ?_;rintro e P ⟨rfl,l⟩;have av:w6.heap.size<=P.heap.size:=l.size;have B7:=Aa (BS.o.trans (l.mono (by omega)));have T7:=Aa (TS.o.below l (by omega));have y:=Aa (RS.o.below l (by omega));have S7:=Aa (SS.o.later l);have y0:=y.o.c0;have y1:=y.o.c1;have y2:=y.o.c2;have yf:∀i,P.frozen? (zD (w.heap.size+1) i)=false:=y.o.frozen;clear l;by_cases E:2000<Ai [x]
    ·have e:min ((Ai [x]:Int)) (2000+1)=2001:=(by omega);have f:=Aa (g.o.full hd D.o (by rw[O.o]; exact E));rw[e];clear e E;go_wp2_with fail;refine Ao (v:=.tuple #[.agg zJ,zA 0,zA 8]) (by simp[results,results13,go_sem,AL,AE,y0,y1,y2]) rfl ?_;exact⟨DO B7.o _ (by omega) _ _ _,Ae ⟨by rw[f.o]; decide,by rw[f.o]⟩⟩
    ·have e:min ((Ai [x]:Int)) (2000+1)=Ai [x]:=(by omega);have e3:decide ((Ai [x]:Int)>2000)=false:=G1 (by omega);have f:=Aa (g.o.on hd D.o (by rw[O.o]; exact E));rw[O.o]at f;rw[e];have aw:Hid (JU false u w X m t0 (zA ((d+1:Nat):Int)) P):=⟨d+1,x,a5,c5,rfl,f.o,B7.o,by omega,T7.o,y.o,S7.o⟩;clear e E;go_wp2_with fail;go_roundw
     case rel=>exact(by go_num:Value.int IntKind.i64 ((d:Int)+1)=zA ((d+1:Nat):Int))▸aw.o
     case measure=>simp[intOf]; omega
open Go.ChangeShapes Go.WideShapes Go.ChangeAt Go.RowKit
theorem Tryz.cellsInt:prog.cellsOf 3=1:=by kernel_rfl
theorem mY {a:Addr} {cs:List Value} (h:w.cells? 0 a 1=some cs):∃c0,cs=[c0]/\w.cell? a=some c0:=by
 have e:(List.range 1)=[0]:=rfl;simp only[World.cells?,Bp,if_true,e] at h;simp only[List.mapM_cons,List.mapM_nil,Option.bind_eq_bind,Option.bind_eq_some_iff,Option.pure_def] at h;obtain⟨c0,h0,r,h1,h2⟩:=h;simp only[Jf] at h1 h2;subst h1; subst h2;exact⟨c0,rfl,by simpa [Addr.add] using h0⟩
theorem U9 {n:Int} (h:(Lit.int .i64 n).wf=true):EK n:=by
 have h1:IntKind.i64.min=-9223372036854775808:=by decide
 have h2:IntKind.i64.max=9223372036854775807:=by decide
 simp only[Lit.wf,h1,h2,Bool.and_eq_true,Lo] at h;exact h
theorem OS {enc:TypeId×Value->H} {sp:Nat->Bool} {r:Reach} {a:Nat} {d:DataW H} {p:List MemPlace} (b:Value.okWide prog w r a 3 v) (h:DataW.Trod enc prog w 0 sp held 3 v d p):∃z,v=zA z/\EK z:=by
 obtain⟨z,rfl⟩:=okWide_int underlying3 b;obtain⟨fuel,c⟩:=h;obtain⟨z',e3,_,e⟩:=DataW.trod_int underlying3 c;simp[Value.cells]at e3;subst e3;exact⟨_,rfl,U9 e⟩
theorem mZ {enc:TypeId×Value->H} {sp:Nat->Bool} {r:Reach} {d:DataW H} {p:List MemPlace} (l:Value.okWide prog w r k 47 v) (h:DataW.Trod enc prog w 0 sp held 47 v d p):∃f,PV w (λ_=>True) v f/\∀z∈f,EK z:=by
 obtain⟨a0,c,m,rfl⟩:=okWide_slice underlying47 l;obtain⟨fuel,n⟩:=h;rcases DataW.trod_slice underlying47 n with ⟨e1,_⟩|⟨a,len,cap,elems,rest,n2,aj,e1,_,hb,ak,q,al,g,_⟩
 ·simp[Value.cells]at e1;obtain⟨rfl,rfl,rfl⟩:=e1;exact⟨[],⟨none,0,rfl,by simp,Ad rfl⟩,by simp⟩
 ·simp[Value.cells]at e1;obtain⟨rfl,rfl,rfl⟩:=e1;unfold maxLen at q;rw[Tryz.cellsInt]at g;have key:∀i,∃z:Int,EK z/\(i<c->w.cell? (a.add i)=some (zA z)):=by
   intro i;by_cases hi:i<c
   ·have h1:=g i hi;have s:i<elems.length:=(by omega);rw[GA s,Option.bind_eq_some_iff,Nat.mul_one]at h1;obtain⟨an,h2,h3⟩:=h1;obtain⟨d0,rfl,g0⟩:=mY h2;obtain⟨z,e3,_,t⟩:=DataW.trod_int underlying3 h3;simp at e3;subst e3;exact⟨z,U9 t,λ_=>g0⟩
   ·exact⟨0,by unfold EK; omega,λh=>absurd h hi⟩
  obtain⟨Z,e⟩:=Classical.skolem.1 key;refine⟨(List.range c).map Z,⟨some a,m,by simp,by simp; omega,?_⟩,λz hz=>by obtain⟨i,_,rfl⟩:=Cx.1 hz; exact(e i).1⟩;by_cases h0:c=0
  ·subst h0; exact Ad rfl
  ·right;obtain⟨b,o,sp⟩:=a;have g0:=(e 0).2 (by omega);have u:sp=none:=(by simpa [Addr.add] using World.cell?_spot g0);subst u;refine⟨b,o,rfl,trivial,λi hi=>?_⟩;simp at hi;have g1:=(e i).2 hi;simp only[List.getElem_map,List.getElem_range];by_cases j:i=0
   ·subst j; simpa [Addr.add] using g1
   ·simpa [Addr.add,j] using g1

import Derived.Test.YthaililgaompeaaGreatDoorPu0
import Derived.Test.YthaililgaompeaaGreatDoorW29
import Derived.Laws.EntriesVeiled
namespace Go.Proofs.YthaililgaompeaaGreatDoor
set_option linter.all false
set_option maxRecDepth 20000
set_option maxHeartbeats 8000000
open Go.RowKit Go.Proofs.Tryz
variable {n nm s' x y:ByteArray} {s:List Bd} {l r:List Tm} {aa ab t:Tm} {WS a w w' w1 w3 wr:World} {L:List (ByteArray×Value)} {h:List (ByteArray×Tm)} {F O S c' cap g i j k l' q:Nat} {Mt Q Y Y' Z:Nat->Prop} {c f:Bool} {d u v v0 v1:Value} {a':Option Addr} {m:Int} {V:List ByteArray} {p:Pr}
def Ax (x:ByteArray) (l:List Tm):Prop:=∃k∈Ap l,k.name=x
theorem Dg {s:ByteArray}:Ax x (⟨s,l⟩::r)↔s=x∨Ax x l∨Ax x r:=by
 unfold Ax;rw[Ap];constructor
 ·rintro⟨k,hk,e⟩;rcases Bh.1 hk with rfl|hk
  ·exact Ae e
  ·rcases Ba.1 hk with hk|hk
   ·exact Ad (Ae ⟨k,hk,e⟩)
   ·exact Ad (Ad ⟨k,hk,e⟩)
 ·rintro(e|⟨k,hk,e⟩|⟨k,hk,e⟩)
  ·exact⟨⟨s,l⟩,by simp,e⟩
  ·exact⟨k,by simp[hk],e⟩
  ·exact⟨k,by simp[hk],e⟩
theorem Gh:¬Ax x []:=by
 rintro⟨k,hk,_⟩;simp[Ap]at hk
theorem BM:Ax x (t::r)↔Ax x [t]∨Ax x r:=by
 obtain⟨s,l⟩:=t;rw[Dg,Dg];have h0:¬Ax x []:=Gh;constructor
 ·rintro(h|h|h)
  ·exact Ae (Ae h)
  ·exact Ae (Ad (Ae h))
  ·exact Ad h
 ·rintro((h|h|h)|h)
  ·exact Ae h
  ·exact Ad (Ae h)
  ·exact absurd h h0
  ·exact Ad (Ad h)
theorem M6 {a b:List Tm}:Ax x (a++b)↔Ax x a∨Ax x b:=by
 induction a with
 |nil=>have h0:¬Ax x []:=Gh;simp[h0]
 |cons t r c=>rw[Bj,BM,BM (r:=r),c,or_assoc]
def Bz (s:List Bd):Prop:=Ey s/\(∀d∈s,Aj d.nm=true/\Af [d.t]=0)/\∀d∈s,∀e∈s,¬Ax e.nm [d.t]
theorem Ly:Bz []:=⟨by simp[Ey],by simp,by simp⟩
theorem Ff (h:∀d∈s,Aj d.nm=true) (a:Aj n=false) (l:List Tm):Ai s ⟨n,l⟩=⟨n,At s l⟩:=by
 refine Iu (Ad ?_);cases b:As s n with
 |none=>rfl
 |some x=>obtain⟨d,hd,e,_⟩:=FJ b;have h1:=h d hd;rw[e,a]at h1;cases h1
theorem I9:∀l:List Tm,(∀e∈s,¬Ax e.nm l)->At s l=l:=by
 intro l;induction l using Tm.indL with
 |h0=>intro _; simp[At]
 |h n l r aa ab=>
  intro h;rw[AY,ab λe he ho=>h e he (Dg.2 (Ad (Ad ho)))];congr 1
  rw[Iu (Ad ?_),aa λe he ho=>h e he (Dg.2 (Ad (Ae ho)))];cases a:As s n with
  |none=>rfl
  |some x=>obtain⟨d,hd,e,_⟩:=FJ a;exact absurd (Dg.2 (Ae e.symm)) (h d hd)
theorem Pl (hs:∀d∈s,Aj d.nm=true) (hy:Aj y=true):∀l:List Tm,Af l=0->Ax y (At s l)->(Ax y l/\As s y=none)∨∃d∈s,Ax d.nm l/\Ax y [d.t]:=by
 intro l;induction l using Tm.indL with
 |h0=>intro _ h; simp only[At] at h; exact absurd h Gh
 |h n l r aa ab=>
  intro he h;obtain⟨g1,g2,g3⟩:=Ha he;rw[AY,BM]at h;rcases h with h|h
  ·cases hv:Aj n with
   |false=>
    rw[Ff hs hv,Dg]at h;rcases h with h|h|h
    ·rw[h,hy]at hv; cases hv
    ·rcases aa g2 h with ⟨h1,h2⟩|⟨d,hd,h1,h2⟩
     ·exact Ae ⟨Dg.2 (Ad (Ae h1)),h2⟩
     ·exact Ad ⟨d,hd,Dg.2 (Ad (Ae h1)),h2⟩
    ·exact absurd h Gh
   |true=>
    have e:=g1 hv;subst e;rw[Gd]at h;cases a:As s n with
    |none=>
     rw[a]at h;rcases Dg.1 h with h|h|h
     ·subst h; exact Ae ⟨Dg.2 (Ae rfl),a⟩
     ·exact absurd h Gh
     ·exact absurd h Gh
    |some x=>rw[a]at h;obtain⟨d,hd,b,c⟩:=FJ a;refine Ad ⟨d,hd,Dg.2 (Ae b.symm),?_⟩;rw[c]; exact h
  ·rcases ab g3 h with ⟨h1,h2⟩|⟨d,hd,h1,h2⟩
   ·exact Ae ⟨Dg.2 (Ad (Ad h1)),h2⟩
   ·exact Ad ⟨d,hd,Dg.2 (Ad (Ad h1)),h2⟩
theorem Bz.vars (h:Bz s):∀d∈s,Aj d.nm=true:=λd hd=>(h.2.1 d hd).1
theorem Bz.gone (h:Bz s) (he:Af l=0):∀e∈s,¬Ax e.nm (At s l):=by
 intro e hm ho;rcases Pl h.vars (h.vars e hm) l he ho with ⟨_,h2⟩|⟨d,hd,_,h2⟩
 ·obtain⟨t,ht⟩:=Tu hm;rw[ht]at h2; cases h2
 ·exact h.2.2 d hd e hm h2
theorem Bz.idem (h:Bz s) (he:Af l=0):At s (At s l)=At s l:=I9 _ (h.gone he)
theorem Ja (h:Bz s):∀l:List Tm,Af l=0->Af (At s l)=0:=by
 intro l;induction l using Tm.indL with
 |h0=>intro _; simp[At,Af]
 |h n l r aa ab=>
  intro he;obtain⟨g1,g2,g3⟩:=Ha he;have a:=Lx he;rw[AY];have key:Af [Ai s ⟨n,l⟩]=0:=by
   cases hv:Aj n with
   |false=>rw[Ff h.vars hv]; exact Tv a hv (aa g2)
   |true=>
    have e:=g1 hv;subst e;rw[Gd];cases b:As s n with
    |none=>exact J8 a
    |some x=>obtain⟨d,hd,_,c⟩:=FJ b;have h3:=(h.2.1 d hd).2;rw[c]at h3;exact h3
  rw[FD,Ao key];exact ab g3
theorem TC {P:List Tm->List Tm->Prop} (h:P [t] (At s [t])):P [t] [Ai s t]:=by
 rw[AY]at h;simpa [At] using h
theorem DG (h:Bz s) (he:Af [t]=0):Af [Ai s t]=0:=TC (P:=λ_ b=>Af b=0) (Ja h [t] he)
theorem Bz.goneT (h:Bz s) (he:Af [t]=0):∀e∈s,¬Ax e.nm [Ai s t]:=TC (P:=λ_ b=>∀e∈s,¬Ax e.nm b) (h.gone he)
theorem fB {a b:List Bd} (hp:a.Perm b) (ha:Ey b) (n:ByteArray):As a n=As b n:=by
 have aa:Ey a:=ha.perm hp;cases h1:As b n with
 |some x=>obtain⟨d,hd,c,e⟩:=FJ h1;have h2:=MX aa (hp.symm.subset hd);rw[c,e]at h2;exact h2
 |none=>
  cases h2:As a n with
  |none=>rfl
  |some x=>obtain⟨d,hd,c,e⟩:=FJ h2;have h3:=MX ha (hp.subset hd);rw[c,h1]at h3;cases h3
theorem fC (x:ByteArray) (t:Tm) (s:List Bd) (n:ByteArray):As (s.map (Dr x t)) n=(As s n).map (Ai [⟨x,t⟩]):=by
 induction s with
 |nil=>rfl
 |cons d r a=>
  rw[Bo,As,As];by_cases e:d.nm=n
  ·rw[Ao e,Ao (show(Dr x t d).nm=n from e)]; rfl
  ·rw[Ah e,Ah (show ¬(Dr x t d).nm=n from e)]; exact a
def CU (s:List Bd) (x:ByteArray) (t:Tm):List Bd:=I7 (s.map (Dr x t)++[⟨x,t⟩])
theorem Pm (h:Ey s) (hx:∀d∈s,d.nm≠x):Ey (s.map (Dr x t)++[⟨x,t⟩]):=by
 refine List.pairwise_append.2 ⟨Jz.2 h,by simp,λa ha b hb=>?_⟩;obtain⟨d,hd,rfl⟩:=Bk.1 ha;have e:b=⟨x,t⟩:=by simpa using hb
 rw[e];exact hx d hd
theorem M8 (h:Ey s) (hx:∀d∈s,d.nm≠x) (n:ByteArray):Ai (CU s x t) ⟨n,[]⟩=Ai [⟨x,t⟩] (Ai s ⟨n,[]⟩):=by
 rw[Gd (CU s x t)];unfold CU;rw[fB (G8 _) (Pm h hx),eT,fC,Gd s];cases hf:As s n with
 |some u=>rfl
 |none=>show(As [⟨x,t⟩] n).getD _=Ai [⟨x,t⟩] ⟨n,[]⟩;rw[Gd]
theorem TD (hx:Aj x=true):∀d∈[(⟨x,t⟩:Bd)],Aj d.nm=true:=λd hd=>by
 have e:d=⟨x,t⟩:=by simpa using hd
 rw[e]; exact hx
theorem Bz.add (h:Bz s) (hx:Aj x=true) (g:∀d∈s,d.nm≠x) (he:Af [t]=0) (ht:∀e∈s,¬Ax e.nm [t]) (ho:¬Ax x [t]):Bz (CU s x t):=by
 have c:Bz [(⟨x,t⟩:Bd)]:=by
  refine⟨by simp[Ey],λd hd=>?_,λd hd e hm=>?_⟩
  ·have e:d=⟨x,t⟩:=(by simpa using hd);rw[e]; exact⟨hx,he⟩
  ·have b:d=⟨x,t⟩:=(by simpa using hd);have i:e=⟨x,t⟩:=(by simpa using hm);rw[b,i]; exact ho
 have hp:=G8 (s.map (Dr x t)++[⟨x,t⟩]);have aa:∀d∈CU s x t,(∃d0∈s,d=Dr x t d0)∨d=⟨x,t⟩:=λd hd=>by
  rcases Ba.1 (hp.subset hd) with hd|hd
  ·obtain⟨d0,h0,rfl⟩:=Bk.1 hd;exact Ae ⟨d0,h0,rfl⟩
  ·exact Ad (by simpa using hd)
 have ab:∀d0∈s,∀y,Aj y=true->(y=x∨∃e∈s,e.nm=y)->¬Ax y [Ai [⟨x,t⟩] d0.t]:=λd0 h0 y hy f hoc=>by
  have h1:Ax y (At [⟨x,t⟩] [d0.t]):=by rw[AY]; simpa [At] using hoc
  rcases Pl c.vars hy [d0.t] (h.2.1 d0 h0).2 h1 with ⟨h2,h3⟩|⟨d,hd,h2,h3⟩
  ·rcases f with rfl|⟨e,hm,rfl⟩
   ·simp[As]at h3
   ·exact h.2.2 d0 h0 e hm h2
  ·have b:d=⟨x,t⟩:=(by simpa using hd);subst b;rcases f with rfl|⟨e,hm,rfl⟩
   ·exact ho h3
   ·exact ht e hm h3
 refine⟨(Pm h.1 g).perm hp,λd hd=>?_,λd hd e hm=>?_⟩
 ·rcases aa d hd with ⟨d0,h0,rfl⟩|rfl
  ·exact⟨(h.2.1 d0 h0).1,DG c (h.2.1 d0 h0).2⟩
  ·exact⟨hx,he⟩
 ·have hy:e.nm=x∨∃a∈s,a.nm=e.nm:=by
   rcases aa e hm with ⟨a,h0,rfl⟩|rfl
   ·exact Ad ⟨a,h0,rfl⟩
   ·exact Ae rfl
  have j:Aj e.nm=true:=by
   rcases hy with h1|⟨a,h0,h1⟩
   ·rw[h1]; exact hx
   ·rw[<-h1]; exact(h.2.1 a h0).1
  rcases aa d hd with ⟨d0,h0,rfl⟩|rfl
  ·exact ab d0 h0 e.nm j hy
  ·rcases hy with h1|⟨a,h0,h1⟩
   ·rw[h1]; exact ho
   ·rw[<-h1]; exact ht a h0
theorem Kb (h:Bz s) (hx:Aj x=true) (a:∀d∈s,d.nm≠x) (hs:Bz (CU s x t)):∀l:List Tm,Af l=0->At (CU s x t) l=At [⟨x,t⟩] (At s l):=by
 intro l;induction l using Tm.indL with
 |h0=>intro _; simp[At]
 |h n l r aa ab=>
  intro he;obtain⟨g1,g2,g3⟩:=Ha he;rw[AY,AY,AY,ab g3];congr 1
  cases hv:Aj n with
  |false=>rw[Ff hs.vars hv,Ff h.vars hv,Ff (TD hx) hv,aa g2]
  |true=>have e:=g1 hv;subst e;exact M8 h.1 a n
def AB:List Pr->List Tm
 | []=>[]
 |p::l=>p.l::p.r::AB l
theorem HH:∀a b:List Pr,AB (a++b)=AB a++AB b
 | [],b=>rfl
 |p::a,b=>by rw[Bj,AB,AB,HH a b]; rfl
theorem Fw (t:Tm) (r:List Tm):Ab (t::r)=Ab [t]+Ab r:=by
 obtain⟨s,l⟩:=t;simp[Ab]
theorem CA:Af (t::r)=0↔Af [t]=0/\Af r=0:=by
 rw[FD];constructor
 ·intro h;by_cases e:Af [t]=0
  ·rw[Ao e]at h; exact⟨e,h⟩
  ·rw[Ah e]at h; exact absurd h e
 ·rintro⟨h1,h2⟩;rw[Ao h1]; exact h2
theorem Jb:∀ {a b:List Tm},Af (a++b)=0↔Af a=0/\Af b=0
 | [],b=>by simp[Af]
 |t::a,b=>by
  rw[Bj,CA,Jb,CA (r:=a),and_assoc]
theorem Jc {y:ByteArray}:∀ {a b:List Tm},Ax y (AB (AE a b))->Ax y a∨Ax y b
 | [],_,h=>by simp only[AE,AB] at h; exact absurd h Gh
 |_::_,[],h=>by simp only[AE,AB] at h; exact absurd h Gh
 |t::a,u::b,h=>by
  rw[AE,AB,BM,BM (t:=u)]at h;rw[BM,BM (t:=u)];rcases h with h|h|h
  ·exact Ae (Ae h)
  ·exact Ad (Ae h)
  ·rcases Jc h with h|h
   ·exact Ae (Ad h)
   ·exact Ad (Ad h)
theorem TE:∀ {a b:List Tm},Ab (AB (AE a b))<=Ab a+Ab b
 | [],_=>by simp[AE,AB,Ab]
 |_::_,[]=>by simp[AE,AB,Ab]
 |t::a,u::b=>by
  rw[AE,AB];have h0:=TE (a:=a) (b:=b);have h1:=Fw t (u::AB (AE a b));have h2:=Fw u (AB (AE a b));have h3:=Fw t a;have h4:=Fw u b;simp only at h1 h2 ⊢;omega
theorem Kc:∀ {a b:List Tm},Af a=0->Af b=0->Af (AB (AE a b))=0
 | [],_,_,_=>by simp[AE,AB,Af]
 |_::_,[],_,_=>by simp[AE,AB,Af]
 |t::a,u::b,h1,h2=>by
  rw[AE,AB];obtain⟨g1,g2⟩:=CA.1 h1;obtain⟨g3,g4⟩:=CA.1 h2;exact CA.2 ⟨g1,CA.2 ⟨g3,Kc g2 g4⟩⟩
def Bu (y:ByteArray) (l:List Tm):Bool:=(Ap l).any λk=>k.name.toList==y.toList
theorem Jd:Bu y l=true↔Ax y l:=by
 unfold Bu Ax;rw[D6];constructor
 ·rintro⟨k,hk,e⟩;exact⟨k,hk,Ew (by simpa using e)⟩
 ·rintro⟨k,hk,e⟩;exact⟨k,hk,KO e⟩
def TF (V:List ByteArray) (l:List Tm):Nat:=(V.filter λy=>Bu y l).length
theorem Pn {α:Type} {p q:α->Bool}:∀V:List α,(∀y∈V,q y=true->p y=true)->(V.filter q).length<=(V.filter p).length
 | [],_=>by simp
 |v::V,h=>by
  have a:=Pn V λy hy=>h y (by simp[hy]);cases hq:q v with
  |true=>rw[GV hq,GV (h v (by simp) hq)];simp only[Bg];omega
  |false=>
   rw[Hk (by rw[hq]; simp)];cases hp:p v with
   |true=>rw[GV hp]; simp only[Bg]; omega
   |false=>rw[Hk (by rw[hp]; simp)]; exact a
theorem Po {α:Type} {p q:α->Bool}:∀V:List α,(∀y∈V,q y=true->p y=true)->(∃x∈V,p x=true/\q x=false)->(V.filter q).length<(V.filter p).length
 | [],_,⟨x,hx,_⟩=>by cases hx
 |v::V,h,⟨x,hx,h1,h2⟩=>by
  have hle:=Pn V λy hy=>h y (by simp[hy]);rcases Bh.1 hx with rfl|hx
  ·rw[Hk (by rw[h2]; simp),GV h1];simp only[Bg];omega
  ·have a:=Po V (λy hy=>h y (by simp[hy])) ⟨x,hx,h1,h2⟩;cases hq:q v with
   |true=>rw[GV hq,GV (h v (by simp) hq)];simp only[Bg];omega
   |false=>
    rw[Hk (by rw[hq]; simp)];cases hp:p v with
    |true=>rw[GV hp]; simp only[Bg]; omega
    |false=>rw[Hk (by rw[hp]; simp)]; exact a
theorem Lz (hx:Aj x=true) (h:¬Bb x (AN [] (Ap [t]))=true):¬Ax x [t]:=by
 rintro⟨k,hk,e⟩;have h1:=(MY (Ap [t]) []).2 k hk (by rw[e]; exact hx);refine h ?_;unfold Bb;rw[D6];exact⟨k.name,h1,KO e⟩
theorem Pp {L:List Tm} (h:Bz s) (hx:Aj x=true) (a:∀d∈s,d.nm≠x) (he:Af [t]=0) (ht:∀e∈s,¬Ax e.nm [t]) (ho:¬Ax x [t]) (b:Af L=0):
  Bz (CU s x t)/\(∀y,Aj y=true->Ax y (At (CU s x t) L)->Ax y (At s L)∨Ax y [t])/\¬Ax x (At (CU s x t) L):=by
 have h1:=h.add hx a he ht ho;have h2:=Kb h hx a h1 L b;have key:∀y,Aj y=true->Ax y (At (CU s x t) L)->(Ax y (At s L)/\As [⟨x,t⟩] y=none)∨Ax y [t]:=λy hy hoc=>by
  rw[h2]at hoc;rcases Pl (TD hx) hy _ (Ja h L b) hoc with h3|⟨d,hd,_,c⟩
  ·exact Ae h3
  ·have e:d=⟨x,t⟩:=(by simpa using hd);rw[e]at c;exact Ad c
 refine⟨h1,λy hy hoc=>(key y hy hoc).imp (λh=>h.1) id,λhoc=>?_⟩;rcases key x hx hoc with ⟨_,h3⟩|h3
 ·simp[As]at h3
 ·exact ho h3
theorem fD (V:List ByteArray):∀(c z:Nat) (s:List Bd) (l:List Pr),Bz s->Af (AB l)=0->(∀y,Aj y=true->Ax y (At s (AB l))->y∈V)->TF (V.filter Aj) (At s (AB l))<=c->Ab (At s (AB l))<=z->∃n r,BG false n s l=some r:=by
 intro c;induction c using Nat.strongRecOn with
 |_ c J=>
  intro z;induction z using Nat.strongRecOn with
  |_ z M=>
   intro s l hs he f hc hz;have stop:∀e s',G9 false s l=.stop e s'->∃n r,BG false n s l=some r:=λe s' h=>⟨1,(e,s'),by rw[BG,h]⟩;have go:∀s' l',G9 false s l=.go s' l'->(∃n r,BG false n s' l'=some r)->∃n r,BG false n s l=some r:=λs' l' h ⟨n,r,h2⟩=>⟨n+1,r,by rw[BG,h]; exact h2⟩;cases l with
   |nil=>exact stop 0 s rfl
   |cons p l=>
    obtain⟨A,g⟩:=CA.1 he;obtain⟨g,i⟩:=CA.1 g;have B:=DG hs A;have C:=DG hs g;have j:=hs.goneT A;have m:=hs.goneT g;rw[AB,AY,AY]at f hc hz;rw[Hy]at stop go;generalize Ai s p.l=a at *;generalize Ai s p.r=b at *;have aa:∀u:Tm,Ax u.name [u]:=λu=>by obtain⟨n,k⟩:=u; exact Dg.2 (Ae rfl)
    have o:∀y,Ax y [a]->Ax y (a::b::At s (AB l)):=λy h=>BM.2 (Ae h);have ab:∀y,Ax y [b]->Ax y (a::b::At s (AB l)):=λy h=>BM.2 (Ad (BM.2 (Ae h)));have q:∀y,Ax y (At s (AB l))->Ax y (a::b::At s (AB l)):=λy h=>BM.2 (Ad (BM.2 (Ad h)));have N:Ab (a::b::At s (AB l))=Ab [a]+(Ab [b]+Ab (At s (AB l))):=(by rw[Fw,Fw b]);have pa:=MU a;have pb:=MU b;have same:∀l2,Af (AB l2)=0->(∀y,Ax y (At s (AB l2))->Ax y (a::b::At s (AB l)))->Ab (At s (AB l2))<Ab (a::b::At s (AB l))->∃n r,BG false n s l2=some r:=λl2 h1 h2 h3=>
     M _ (B7 h3 hz) s l2 hs h1 (λy hy ho=>f y hy (h2 y ho)) (Bf (Pn _ λy hy hq=>Jd.2 (h2 y (Jd.1 hq))) hc) (Al _)
    have bind:∀x t,Aj x=true->(∀d∈s,d.nm≠x)->Af [t]=0->(∀e∈s,¬Ax e.nm [t])->Ax x (a::b::At s (AB l))->(∀y,Ax y [t]->Ax y (a::b::At s (AB l)))->CZ false s l a b=EC false s l x t->∃n r,BG false n s (p::l)=some r:=λx t hx O het ht D P h=>by
     unfold EC at h;by_cases v:Bb x (AN [] (Ap [t]))=true
     ·rw[Ao v]at h;exact stop 6 s h
     ·rw[Ah v,Ah (by simp)]at h;have ho:=Lz hx v;obtain⟨f1,f2,f3⟩:=Pp (L:=AB l) hs hx O het ht ho i;have E:∀y,Aj y=true->Ax y (At (CU s x t) (AB l))->Ax y (a::b::At s (AB l)):=λy hy hoc=>(f2 y hy hoc).elim (q y) (P y);have R:TF (V.filter Aj) (At (CU s x t) (AB l))<c:=by
       refine B7 (Po _ (λy hy hq=>Jd.2 (E y (L9.1 hy).2 (Jd.1 hq))) ⟨x,L9.2 ⟨f x hx D,hx⟩,Jd.2 D,?_⟩) hc;cases hq:Bu x (At (CU s x t) (AB l)) with
       |false=>rfl
       |true=>exact absurd (Jd.1 hq) f3
      exact go _ l h (J _ R _ _ _ f1 i (λy hy hoc=>f y hy (E y hy hoc)) (Al _) (Al _))
    by_cases h1:2000<Ab [a]∨2000<Ab [b]
    ·exact stop 8 s (by unfold CZ; rw[Ao h1])
    ·by_cases h2:Aj a.name=true
     ·by_cases h3:a.name=b.name
      ·exact go s l (by unfold CZ; rw[Ah h1,Ao h2,Ao h3]) (same l i q (by omega))
      ·exact bind a.name b h2 (λd hd e=>j d hd (by rw[e]; exact aa a)) C m (o _ (aa a)) ab (by unfold CZ; rw[Ah h1,Ao h2,Ah h3])
     ·by_cases h3:Aj b.name=true
      ·exact bind b.name a h3 (λd hd e=>m d hd (by rw[e]; exact aa b)) B j (ab _ (aa b)) o (by unfold CZ; rw[Ah h1,Ah h2,Ao h3])
      ·by_cases F:a.name=b.name/\a.args.length=b.args.length
       ·refine go s (AE a.args b.args++l) (by unfold CZ; rw[Ah h1,Ah h2,Ah h3,Ao F]) ?_;have sub:∀(u:Tm) y,Ax y u.args->Ax y [u]:=λu y h=>by obtain⟨n,k⟩:=u; exact Dg.2 (Ad (Ae h))
        have G:∀u:Tm,Af [u]=0->Af u.args=0:=λu h=>by obtain⟨n,k⟩:=u; exact(Ha h).2.1
        have H:∀u:Tm,Ab [u]=1+Ab u.args:=λu=>by obtain⟨n,k⟩:=u; simp[Ab]
        have I:At s (AB (AE a.args b.args++l))=AB (AE a.args b.args)++At s (AB l):=by
         rw[HH,K0,I9];intro e hm hoc;rcases Jc hoc with hoc|hoc
         ·exact j e hm (sub a _ hoc)
         ·exact m e hm (sub b _ hoc)
        refine same _ ?_ ?_ ?_
        ·rw[HH];exact Jb.2 ⟨Kc (G a B) (G b C),i⟩
        ·intro y hoc;rw[I]at hoc;rcases M6.1 hoc with hoc|hoc
         ·rcases Jc hoc with hoc|hoc
          ·exact o y (sub a y hoc)
          ·exact ab y (sub b y hoc)
         ·exact q y hoc
        ·rw[I,Ej,N,H a,H b];have:=TE (a:=a.args) (b:=b.args);omega
       ·exact stop 5 s (by unfold CZ; rw[Ah h1,Ah h2,Ah h3,Ah F])
theorem fE (l:List Pr) (h:Af (AB l)=0):∃n r,BG false n [] l=some r:=by
 refine fD ((Ap (At [] (AB l))).map (·.name)) _ _ [] l Ly h (λy _ hoc=>?_) (Al _) (Al _);obtain⟨k,hk,e⟩:=hoc;exact Bk.2 ⟨k,hk,e⟩
def Ar (h:List (ByteArray×Tm)):List Bd:=h.foldl (λs p=>CU s p.1 p.2) []
theorem Je (h:List (ByteArray×Tm)) (p:ByteArray×Tm):Ar (h++[p])=CU (Ar h) p.1 p.2:=by simp[Ar]
theorem Pq (hj:j<h.length):Ar (h.take (j+1))=CU (Ar (h.take j)) h[j].1 h[j].2:=by
 rw[Ci hj,Je]
def Ia (s:List Bd) (x:ByteArray) (t:Tm):Prop:=Aj x=true/\(∀d∈s,d.nm≠x)/\Af [t]=0/\(∀e∈s,¬Ax e.nm [t])/\¬Ax x [t]
def BN (h:List (ByteArray×Tm)):Prop:=∀j (hj:j<h.length),Ia (Ar (h.take j)) h[j].1 h[j].2
theorem fF:BN []:=λj hj=>by simp at hj
theorem BN.snoc (g:BN h) (m:Ia (Ar h) x t):BN (h++[(x,t)]):=by
 intro j hj;by_cases e:j<h.length
 ·have h1:=g j e;rw[Hl (by omega)];rw[JB e];exact h1
 ·have a:j=h.length:=by simp at hj; omega
  subst a;rw[Hl (by omega),D8];simpa using m
theorem BN.ok (g:BN h):∀j,j<=h.length->Bz (Ar (h.take j))
 |0,_=>by simpa [Ar] using Ly
 |j+1,hj=>by
  rw[Pq (by omega)];obtain⟨m1,m2,m3,m4,m5⟩:=g j (by omega);exact(g.ok j (by omega)).add m1 m2 m3 m4 m5
theorem BN.all (g:BN h):Bz (Ar h):=by
 have:=g.ok h.length (Al _);rwa [D8] at this
theorem BN.absorb {h:List (ByteArray×Tm)} (g:BN h) {i:Nat}:∀j,i<=j->j<=h.length->∀L:List Tm,Af L=0->At (Ar (h.take j)) (At (Ar (h.take i)) L)=At (Ar (h.take j)) L
 |0,hi,_,L,he=>by
  have e:i=0:=by omega
  subst e;exact(g.ok 0 (Be _)).idem he
 |j+1,hi,hj,L,he=>by
  by_cases e:i=j+1
  ·subst e;exact(g.ok _ hj).idem he
  ·have c:=g.absorb (i:=i) j (by omega) (by omega) L he;have b:=g.ok j (by omega);have a:=g.ok (j+1) hj;have aa:j<h.length:=(by omega);obtain⟨m1,m2,_⟩:=g j aa;rw[Pq (h:=h) (j:=j) (by omega)]at a ⊢;rw[Kb b m1 m2 a _ (Ja (g.ok i (by omega)) L he),Kb b m1 m2 a L he,c]
theorem BN.bound (g:BN h):∀j,j<=h.length->∀y,(∃d∈Ar (h.take j),d.nm=y)↔∃i,∃hi:i<h.length,i<j/\h[i].1=y
 |0,_,y=>by simp[Ar]
 |j+1,hj,y=>by
  have a:=g.bound j (by omega) y;rw[Pq (by omega)];have hp:=G8 ((Ar (h.take j)).map (Dr h[j].1 h[j].2)++[⟨h[j].1,h[j].2⟩]);constructor
  ·rintro⟨d,hd,e⟩;rcases Ba.1 (hp.subset hd) with hd|hd
   ·obtain⟨d0,h0,rfl⟩:=Bk.1 hd;obtain⟨i,hi,h1,h2⟩:=a.1 ⟨d0,h0,e⟩;exact⟨i,hi,by omega,h2⟩
   ·have b:d=⟨h[j].1,h[j].2⟩:=(by simpa using hd);rw[b]at e;exact⟨j,by omega,by omega,e⟩
  ·rintro⟨i,hi,h1,h2⟩;by_cases e:i=j
   ·subst e;exact⟨⟨h[i].1,h[i].2⟩,hp.symm.subset (by simp),h2⟩
   ·obtain⟨d0,h0,c⟩:=a.2 ⟨i,hi,by omega,h2⟩;exact⟨Dr h[j].1 h[j].2 d0,hp.symm.subset (Ba.2 (Ae (Bk.2 ⟨d0,h0,rfl⟩))),c⟩
theorem BN.once (g:BN h) (hi:i<h.length) (hj:j<h.length) (e:h[i].1=h[j].1):i=j:=by
 have key:∀a b (ha:a<h.length) (hb:b<h.length),a<b->h[a].1≠h[b].1:=λa b ha hb aa e=>by
  obtain⟨d,hd,c⟩:=(g.bound b (by omega) h[a].1).2 ⟨a,ha,aa,rfl⟩;exact(g b hb).2.1 d hd (c.trans e)
 rcases Nat.lt_trichotomy i j with h1|h1|h1
 ·exact absurd e (key i j hi hj h1)
 ·exact h1
 ·exact absurd e.symm (key j i hj hi h1)
def stood (h:List (ByteArray×Tm)) (i j:Nat) (hi:i<h.length):Tm:=Ai (Ar (h.take j)) ⟨h[i].1,[]⟩
theorem fG (g:BN h) (aa:i<=j) (hj:j<=h.length) (he:Af [t]=0):Ai (Ar (h.take j)) (Ai (Ar (h.take i)) t)=Ai (Ar (h.take j)) t:=by
 have h1:=g.absorb j aa hj [t] he;rw[AY,AY,AY]at h1;simpa [At] using h1
theorem TG (g:BN h) (hi:i<h.length) (hj:j<=h.length) (a:AF h[i].1=true):Ai (Ar h) (stood h i j hi)=stood h i h.length hi:=by
 have h1:=fG g hj (Al _) (J8 a);unfold stood;rw[D8]at h1 ⊢;exact h1
theorem fH (g:BN h) (hi:i<h.length) (hj:j<=h.length) (a:AF h[i].1=true) (hk:k<h.length) (ho:Ax h[k].1 [stood h i j hi]):j<=k:=by
 rcases Nat.lt_or_ge k j with h1|h1
 ·obtain⟨d,hd,e⟩:=(g.bound j hj h[k].1).2 ⟨k,hk,h1,rfl⟩;have h2:=(g.ok j hj).goneT (J8 a) d hd;rw[e]at h2;exact absurd ho h2
 ·exact h1
def GF (lk:ByteArray->Option Tm) (s:ByteArray) (bs:List Tm):Tm:=if Aj s=true then (match lk s with|some x=>x|none=>⟨s,bs⟩) else ⟨s,bs⟩
def CV (lk:ByteArray->Option Tm):List Tm->List Tm
 | []=>[]
 | ⟨s,a⟩::r=>GF lk s (CV lk a)::CV lk r
def C6 (lk:ByteArray->Option Tm) (t:Tm):Tm:=GF lk t.name (CV lk t.args)
theorem M9 (b:ByteArray->Option Tm):∀l:List Tm,CV b l=l.map (C6 b)
 | []=>by simp[CV]
 | ⟨s,a⟩::r=>by rw[CV,M9 b r]; rfl
theorem TH (c:ByteArray->Option Tm) (a b:List Tm):CV c (a++b)=CV c a++CV c b:=by simp[M9]
abbrev Ev:=Bool->(Nat->Prop)->World->Prop
structure GG (E:Ev) (Mt:Nat->Prop):Prop where
 keep:∀f Y w w',E f Y w->(∀b,Y b->w'.heap[b]? = w.heap[b]?)->E f Y w'
 inY:∀f Y w,E f Y w->∀b,Y b->b<w.heap.size
 mt:∀f Y w,E f Y w->∀b,Mt b->Y b
theorem GG.below {E:Ev} (h:GG E Mt) (he:E f Y w) (hb:Below w.heap.size w w'):E f Y w':=h.keep f Y w w' he λb hy=>hb.block b (h.inY f Y w he b hy)
def sV (S:Nat):Value:=.func (.func 155) #[zC S] #[]
def TI (E:Ev) (Mt:Nat->Prop) (o:Option Tm) (f:Bool) (Y:Nat->Prop) (w:World) (e:Ending) (w':World):Prop:=
 ∃(s:ByteArray) (a:Option Addr) (n c:Nat) (ok:Bool) (f':Bool) (Y':Nat->Prop),e=.returned (.tuple #[.agg #[.string s,.slice a n c],.bool ok])/\E f' Y' w'/\(∀b,Y' b->Y b∨w.heap.size<=b)/\(f=true->f'=true)/\Ak Mt w w'/\
  ((ok=true/\∃x:Tm,s=x.name/\n=x.args.length/\Sl w' Y' a x.args/\(f'=false->o=some x))∨(ok=false/\(f'=false->o=none)))
def Hc (E:Ev) (Mt:Nat->Prop) (S:Nat) (o:Option Tm) (nm:ByteArray):Prop:=
 ∀(f:Bool) (Y:Nat->Prop) (w:World),E f Y w->Calls prog 155 #[zC S,.string nm] w λe w'=>TI E Mt o f Y w e w'
def Jf (w:World) (tgt:Tm) (n:Nat) (f':Bool) (s':ByteArray) (a':Option Addr) (l':Nat) (m:Int) (k:Nat) (w':World):Prop:=
 (∃y:Tm,s'=y.name/\l'=y.args.length/\m=(n:Int)-Ab [y]/\Ab [y]<=n/\Sl w' (λb=>w.heap.size+k<=b) a' y.args/\(f'=false->y=tgt))∨(m=-1/\(f'=false->n<Ab [tgt]))
def Ib (E:Ev) (Mt:Nat->Prop) (F:Nat) (sv:Value) (tgt:Tm) (n:Nat) (f:Bool) (Y:Nat->Prop) (w:World) (e:Ending) (w':World):Prop:=
 ∃(s':ByteArray) (a':Option Addr) (l' c':Nat) (m:Int) (f':Bool) (Y':Nat->Prop),e=.returned (.agg #[.string s',.slice a' l' c'])/\Ac w' F #[zA m,sv] 146/\Ak (λb=>b=F∨Mt b) w w'/\E f' Y' w'/\(∀b,Y' b->Y b∨w.heap.size<=b)/\(f=true->f'=true)/\Jf w tgt n f' s' a' l' m 0 w'
theorem Kd {E:Ev} (g:GG E Mt) {n:Nat} (hF:F<w.heap.size) (i:∀b,Y b->b<w.heap.size)
  (h1:Ac a F #[zA m,d] 146) (hx:Ak (λb=>b=F∨Mt b) w a) (j:E c Y' a) (aa:∀b,Y' b->Y b∨w.heap.size+2<=b) (k:f=true->c=true) (hc:Jf w ab n c s' a' l' m 2 a):
  Ib E Mt F d ab n f Y w (.returned (.agg #[.string s',.slice a' l' c'])) ((a.setCell (zD (w.heap.size+1) 0) v0).setCell (zD (w.heap.size+1) 1) v1):=by
 have hk:∀b,b≠w.heap.size+1->((a.setCell (zD (w.heap.size+1) 0) v0).setCell (zD (w.heap.size+1) 1) v1).heap[b]? = a.heap[b]? := λb hb=>by
  rw[An _ _ _ _ (by simpa using hb),An _ _ _ _ (by simpa using hb)]
 refine⟨s',a',l',c',m,c,Y',rfl,(h1.setOther _ _ (by omega)).setOther _ _ (by omega),(hx.setNew (by omega) _ _).setNew (by omega) _ _,g.keep _ _ _ _ j λb hb=>hk b λe=>?_,λb hb=>?_,k,?_⟩
 ·rcases aa b hb with h|h
  ·have:=i b h; omega
  ·omega
 ·rcases aa b hb with h|h
  ·exact Ae h
  ·exact Ad (by omega)
 ·rcases hc with ⟨y,l,o,q,r,s,t⟩|hc
  ·exact Ae ⟨y,l,o,q,r,(s.kept λb hb=>hk b (by omega)).mono λb hb _=>by omega,t⟩
  ·exact Ad hc
theorem fI (h:Ak Q a.drew w1):Ak Q a w1:=((Ak.refl Q a).drew).trans h
theorem fJ {o:Obj} (h:Ak Q (a.alloc o).drew w1):Ak Q a w1:=(((Ak.refl Q a).alloc o).drew).trans h
theorem fK {cs:Array Value} {T:Nat} (h:Ak Q (a.alloc (zh cs T)).drew w1) (b:¬Q a.heap.size):Ac w1 a.heap.size cs T:=((Ac.new a cs T).drewN 1).exq h b
theorem TJ {E:Ev} (j:GG E Mt) (F S:Nat) (l:ByteArray->Option Tm) (t:Tm) (n:Nat) (a:Option Addr) (c:Nat) (w:World) (X Y:Nat->Prop) (f:Bool) (hn:n<=1000000) (aW:∀b,X b->b≠F/\¬Mt b) (aL:¬Y F) (hs:Sl w X a t.args) (hF:Ac w F #[zA n,sV S] 146) (aM:E f Y w)
  (hL:Aj t.name=true->Hc E Mt S (l t.name) t.name)
  (h:∀(w':World) (B:Bool) (Y':Nat->Prop),Sl w' X a t.args->Ac w' F #[zA n,sV S] 146->E B Y' w'->¬Y' F->Calls prog 114 #[zC F,.agg (zF t a c),.func (.func 90) #[zC F] #[]] w' λe aO=>Ib E Mt F (sV S) ⟨t.name,CV l t.args⟩ n B Y' w' e aO):
  Calls prog 90 #[zC F,.agg (zF t a c)] w λe w'=>Ib E Mt F (sV S) (C6 l t) n f Y w e w':=by
 have bc:=@hmq prog;have H:=Aa h;have HS:=Aa hs;have HF:=Aa hF;have HE:=Aa aM;have HL:=Aa hL;have aX:=Aa aW;have bd:F<w.heap.size:=hF.lt;have C:Hid (∀b,Y b->b<w.heap.size):=j.inY _ _ _ aM;have aA:Hid (∀b,Mt b->Y b):=j.mt _ _ _ aM;have aP:¬Mt F:=λh=>aL (aA.o F h);clear h hs hF aM hL aW;have aN:=Aa (((Ag w.heap.size w).alloc (Al _) (ze t a c)).alloc (by simp) zc);have f1:∀o o',((w.alloc o).alloc o').cell? (zD F 1)=some (sV S):=λo o'=>((HF.o.alloc o).alloc o').cell 1;have RW:Hid (Ac ((w.alloc (ze t a c)).alloc zc) (w.heap.size+1) zd 31):=Aa (by have h:=Ac.new (w.alloc (ze t a c)) zd 31;simpa using h);have aC:=Aa (((Ak.refl (λb=>b=F∨Mt b) w).alloc (ze t a c)).alloc zc);have J:Hid (((w.alloc (ze t a c)).alloc zc).heap.size=w.heap.size+2):=Aa (by simp);have aD:¬(w.heap.size+1=F∨Mt (w.heap.size+1)):=λh=>by
  rcases h with h|h
  ·omega
  ·have:=C.o _ (aA.o _ h); omega
 cases hv:Aj t.name with
 |false=>
  have L:=Aa hv;have HT:Hid (C6 l t=⟨t.name,CV l t.args⟩):=Aa (by unfold C6 GF;rw[hv];rfl);clear hv;go_enter func90,ntmps90;go_wp2_with (go_at_call 65; refine(BR _ _).mono ?_; rintro e w' ⟨rfl,rfl⟩; rw[L.o]);refine(H.o _ f Y (HS.o.later aN.o) (by exact(HF.o.alloc _).alloc _) (j.below HE.o aN.o) aL).mono ?_;rintro e q ⟨s',a',l',c',m,B,Y',rfl,r,ab,D,aa,s,G⟩;have i:=Aa (RW.o.exq ab aD);have M:=Aa (aC.o.trans ab);have N:=Aa r;have O:=Aa D;have aQ:=Aa aa;have aY:=Aa s;have HC:=Aa G;clear r ab D aa s G;have P:=i.o.c0;have R:=i.o.c1;have rf:=i.o.frozen;go_wp2_with fail;refine Aq (v:=.agg #[.string s',.slice a' l' c']) (by simp[results,results90,go_sem,Az,Aw,P,R]) rfl ?_;rw[HT.o];refine Kd j (by omega) C.o N.o M.o O.o (λb hb=>(aQ.o b hb).imp id λh=>by rw[J.o] at h; exact h) aY.o ?_;rcases HC.o with ⟨y,u,z,T,U,e5,e6⟩|h
  ·exact Ae ⟨y,u,z,T,U,e5.mono λb hb _=>by have:=J.o; omega,e6⟩
  ·exact Ad h
 |true=>
  have L:=Aa hv;have aZ:=Aa (HL.o hv);clear hv HL;have E0:=Aa (j.below HE.o aN.o);have F0:=Aa ((HF.o.alloc (ze t a c)).alloc zc);have S0:=Aa (HS.o.later aN.o);have T0:=Aa ((Ac.new w (zF t a c) 31).alloc zc);have g1:=F0.o.cell 1;have g0:=T0.o.cell 0;simp only[D7,Et,Ei] at g1 g0;have ba:Hid (∀w',Below ((w.alloc (ze t a c)).alloc zc).heap.size ((w.alloc (ze t a c)).alloc zc) w'->Calls prog 155 #[zC S,.string t.name] w' λe aO=>TI E Mt (l t.name) f Y w' e aO):=λw' hb=>aZ.o f Y w' (j.below E0.o hb);have aR:Hid (∀w',Ak Mt ((w.alloc (ze t a c)).alloc zc) w'->w'.cell? (zD F 1)=some (sV S)/\w'.cell? (zD w.heap.size 0)=some (.string t.name)):=λw' hb=>⟨(F0.o.exq hb aP).cell 1,(T0.o.exq hb (λh=>by have:=C.o _ (aA.o _ h); omega)).cell 0⟩;have nF:((w.alloc (ze t a c)).alloc zc).heap.size≠F:=by have:=J.o; omega
  have nT:((w.alloc (ze t a c)).alloc zc).heap.size≠w.heap.size:=by have:=J.o; omega
  have nM:¬Mt ((w.alloc (ze t a c)).alloc zc).heap.size:=λh=>by have:=C.o _ (aA.o _ h); have:=J.o; omega
  clear f1;unfold sV at g1 aR;go_enter func90,ntmps90;go_wp2_with (go_at_call 65; refine(BR _ _).mono ?_; rintro e w' ⟨rfl,rfl⟩; rw[L.o]);generalize ((w.alloc (ze t a c)).alloc zc)=W at *;go_region_held3 (λw'=>w'.cell? (zD F 1)=some (.func (.func 155) #[zC S] #[])/\w'.cell? (zD w.heap.size 0)=some (.string t.name)) (first|exact hS|exact⟨g1,g0⟩|exact E9 hS nF nT|exact E9 (E9 hS nF nT) nF nT|go_keep)
   ((go_at_call 155; refine(ba.o _ (by first|exact(Ag _ _).drew|exact((Ag _ _).alloc (Al _) _).drew)).mono ?_; rintro e w1 ⟨s1,a1,n1,c1,bf,f1,k,rfl,D,aa,s,ab,G⟩; have aS:=Aa D; have al:=Aa aa; have av:=Aa s; have aB:=Aa G; clear D aa s G; (first|(have Z:=fI ab; have hS:=aR.o _ Z)|(have Z:=fJ ab; have xb:=Aa (fK ab nM); have x0:=xb.o.cell 0; have x1:=xb.o.cell 1; have xf:=xb.o.frozen; have hS:=aR.o _ Z)); have bg:=Aa ab; clear ab))
  ·generalize hz:(w1.alloc (Obj.cells #[Value.string s1,Value.slice a1 n1 c1] 31))=g at *;have bb:∀b,b<w1.heap.size->g.heap[b]? = w1.heap[b]? := λb hb=>by rw[<-hz]; exact Ay _ _ _ hb
   have A:Ak Mt W g:=by rw[<-hz]; exact Z.alloc _
   have aE:Hid (∀b,k b->g.heap[b]? = w1.heap[b]?):=λb hb=>bb b (j.inY _ _ _ aS.o b hb);have ay:Hid (∀b,k b->Y b∨w.heap.size+2<=b):=λb hb=>(al.o b hb).imp id λh=>by have h2:=J.o; have h3:W.heap.size<=b:=h; omega
   have q0:g.cell? (zD w1.heap.size 0)=some (.string s1):=by rw[<-hz]; exact(Ac.new w1 _ _).cell 0
   have q1:g.cell? (zD w1.heap.size 1)=some (.slice a1 n1 c1):=by rw[<-hz]; exact(Ac.new w1 _ _).cell 1
   have az:=Aa A;have a6:Hid (E f1 k g):=j.keep _ _ _ _ aS.o aE.o;have aF:=Aa (F0.o.exq A aP);have aG:=Aa (RW.o.exq A (λh=>aD (Ad h)));have aH:=Aa (T0.o.exq A (λh=>by have:=C.o _ (aA.o _ h); omega));have ae:Hid (¬k F):=λh=>by
    rcases ay.o F h with h1|h1
    ·exact aL h1
    ·omega
   have af:Hid (w.heap.size+2<=g.heap.size):=Aa (by have:=A.size;have:=J.o;omega);clear A hz hS Z;rcases aB.o with ⟨rfl,x,rfl,rfl,aI,I⟩|⟨rfl,I⟩
   ·have aT:Hid (Sl g k a1 x.args):=aI.kept aE.o;have V:=Aa I;clear aI I aB;go_wp2_with fail;refine(JS F _ x n _ g k ⟨a1,c1,rfl,aT.o⟩ (λb hb e=>ae.o (e▸hb)) hn aF.o).mono ?_;rintro e q ⟨s',a',l',c',m,rfl,r,ab,aJ,aK⟩;have i:=Aa (aG.o.ex ab (by omega));have M:Hid (Ak (λb=>b=F∨Mt b) w q):=(aC.o.trans (az.o.mono λb hb _=>Ad hb)).trans (Ak.ofEx ab (Ae rfl));have O:Hid (E f1 k q):=j.keep _ _ _ _ a6.o λb hb=>ab.block b (j.inY _ _ _ a6.o b hb) (λe=>ae.o (e▸hb));have N:=Aa r;have a7:Hid (Jf w (C6 l t) n f1 s' a' l' m 2 q):=by
     by_cases hle:Ab [x]<=n
     ·obtain⟨u,z,T,U⟩:=aJ hle;exact Ae ⟨x,z,T,u,hle,U.mono λb hb _=>by have:=af.o; omega,λd=>by unfold C6 GF; rw[L.o,V.o d]; rfl⟩
     ·exact Ad ⟨aK (by omega),λd=>by unfold C6 GF; rw[L.o,V.o d]; simpa using hle⟩
    clear r ab aJ aK;have P:=i.o.c0;have R:=i.o.c1;have rf:=i.o.frozen;go_wp2_with fail;refine Aq (v:=.agg #[.string s',.slice a' l' c']) (by simp[results,results90,go_sem,Az,Aw,P,R]) rfl ?_;exact Kd j (by omega) C.o N.o M.o O.o ay.o av.o a7.o
   ·have V:=Aa I;clear I aB;have t0:=aH.o.c0;have t1:=aH.o.c1;go_wp2_with fail;refine(H.o g f1 k (S0.o.exq az.o (λb hb=>(aX.o b hb).2)) aF.o a6.o ae.o).mono ?_;rintro e q ⟨s',a',l',c',m,B,Y',rfl,r,ab,D,aa,s,G⟩;have i:=Aa (aG.o.exq ab aD);have M:Hid (Ak (λb=>b=F∨Mt b) w q):=(aC.o.trans (az.o.mono λb hb _=>Ad hb)).trans ab;have O:=Aa D;have N:=Aa r;have aU:Hid (∀b,Y' b->Y b∨w.heap.size+2<=b):=λb hb=>by
     rcases aa b hb with h|h
     ·exact ay.o b h
     ·right; have:=af.o; omega
    have a8:Hid (f=true->B=true):=λh=>s (av.o h);have a7:Hid (Jf w (C6 l t) n B s' a' l' m 2 q):=by
     have hT:B=false->C6 l t=⟨t.name,CV l t.args⟩:=λd=>by
      have aV:f1=false:=by
       cases h:f1 with
       |false=>rfl
       |true=>have:=s h; rw[d] at this; cases this
      unfold C6 GF; rw[L.o,V.o aV]; rfl
     rcases G with ⟨y,u,z,T,U,e5,e6⟩|⟨u,z⟩
     ·exact Ae ⟨y,u,z,T,U,e5.mono λb hb _=>by have:=af.o; omega,λd=>by rw[hT d]; exact e6 d⟩
     ·exact Ad ⟨u,λd=>by rw[hT d]; exact z d⟩
    clear r ab D aa s G;have P:=i.o.c0;have R:=i.o.c1;have rf:=i.o.frozen;go_wp2_with fail;refine Aq (v:=.agg #[.string s',.slice a' l' c']) (by simp[results,results90,go_sem,Az,Aw,P,R]) rfl ?_;exact Kd j (by omega) C.o N.o M.o O.o aU.o a8.o a7.o
  ·generalize hz:((w1.setCell { block:=W.heap.size,off:=0} (Value.string s1)).setCell { block:=W.heap.size,off:=1} (Value.slice a1 n1 c1))=g at *;have A:Ak Mt W g:=by rw[<-hz]; exact(Z.setNew (Al _) _ _).setNew (Al _) _ _
   have ay:Hid (∀b,k b->Y b∨w.heap.size+2<=b):=λb hb=>(al.o b hb).imp id λh=>by have h2:=J.o; simp at h; omega
   have aE:Hid (∀b,k b->g.heap[b]? = w1.heap[b]?):=λb hb=>by
    have hne:b≠W.heap.size:=λe=>by
     rcases al.o b hb with h|h
     ·have:=C.o b h; have:=J.o; omega
     ·simp at h; omega
    rw[<-hz,An _ _ _ _ (by simpa using hne),An _ _ _ _ (by simpa using hne)]
   have q0:g.cell? (zD W.heap.size 0)=some (.string s1):=by rw[<-hz]; simp[Az,Aw,x0,x1]
   have q1:g.cell? (zD W.heap.size 1)=some (.slice a1 n1 c1):=by rw[<-hz]; simp[Az,Aw,x0,x1]
   have az:=Aa A;have a6:Hid (E f1 k g):=j.keep _ _ _ _ aS.o aE.o;have aF:=Aa (F0.o.exq A aP);have aG:=Aa (RW.o.exq A (λh=>aD (Ad h)));have aH:=Aa (T0.o.exq A (λh=>by have:=C.o _ (aA.o _ h); omega));have ae:Hid (¬k F):=λh=>by
    rcases ay.o F h with h1|h1
    ·exact aL h1
    ·omega
   have af:Hid (w.heap.size+2<=g.heap.size):=Aa (by have:=A.size;have:=J.o;omega);clear A hz hS Z;rcases aB.o with ⟨rfl,x,rfl,rfl,aI,I⟩|⟨rfl,I⟩
   ·have aT:Hid (Sl g k a1 x.args):=aI.kept aE.o;have V:=Aa I;clear aI I aB;go_wp2_with fail;refine(JS F _ x n _ g k ⟨a1,c1,rfl,aT.o⟩ (λb hb e=>ae.o (e▸hb)) hn aF.o).mono ?_;rintro e q ⟨s',a',l',c',m,rfl,r,ab,aJ,aK⟩;have i:=Aa (aG.o.ex ab (by omega));have M:Hid (Ak (λb=>b=F∨Mt b) w q):=(aC.o.trans (az.o.mono λb hb _=>Ad hb)).trans (Ak.ofEx ab (Ae rfl));have O:Hid (E f1 k q):=j.keep _ _ _ _ a6.o λb hb=>ab.block b (j.inY _ _ _ a6.o b hb) (λe=>ae.o (e▸hb));have N:=Aa r;have a7:Hid (Jf w (C6 l t) n f1 s' a' l' m 2 q):=by
     by_cases hle:Ab [x]<=n
     ·obtain⟨u,z,T,U⟩:=aJ hle;exact Ae ⟨x,z,T,u,hle,U.mono λb hb _=>by have:=af.o; omega,λd=>by unfold C6 GF; rw[L.o,V.o d]; rfl⟩
     ·exact Ad ⟨aK (by omega),λd=>by unfold C6 GF; rw[L.o,V.o d]; simpa using hle⟩
    clear r ab aJ aK;have P:=i.o.c0;have R:=i.o.c1;have rf:=i.o.frozen;go_wp2_with fail;refine Aq (v:=.agg #[.string s',.slice a' l' c']) (by simp[results,results90,go_sem,Az,Aw,P,R]) rfl ?_;exact Kd j (by omega) C.o N.o M.o O.o ay.o av.o a7.o
   ·have V:=Aa I;clear I aB;have t0:=aH.o.c0;have t1:=aH.o.c1;go_wp2_with fail;refine(H.o g f1 k (S0.o.exq az.o (λb hb=>(aX.o b hb).2)) aF.o a6.o ae.o).mono ?_;rintro e q ⟨s',a',l',c',m,B,Y',rfl,r,ab,D,aa,s,G⟩;have i:=Aa (aG.o.exq ab aD);have M:Hid (Ak (λb=>b=F∨Mt b) w q):=(aC.o.trans (az.o.mono λb hb _=>Ad hb)).trans ab;have O:=Aa D;have N:=Aa r;have aU:Hid (∀b,Y' b->Y b∨w.heap.size+2<=b):=λb hb=>by
     rcases aa b hb with h|h
     ·exact ay.o b h
     ·right; have:=af.o; omega
    have a8:Hid (f=true->B=true):=λh=>s (av.o h);have a7:Hid (Jf w (C6 l t) n B s' a' l' m 2 q):=by
     have hT:B=false->C6 l t=⟨t.name,CV l t.args⟩:=λd=>by
      have aV:f1=false:=by
       cases h:f1 with
       |false=>rfl
       |true=>have:=s h; rw[d] at this; cases this
      unfold C6 GF; rw[L.o,V.o aV]; rfl
     rcases G with ⟨y,u,z,T,U,e5,e6⟩|⟨u,z⟩
     ·exact Ae ⟨y,u,z,T,U,e5.mono λb hb _=>by have:=af.o; omega,λd=>by rw[hT d]; exact e6 d⟩
     ·exact Ad ⟨u,λd=>by rw[hT d]; exact z d⟩
    clear r ab D aa s G;have P:=i.o.c0;have R:=i.o.c1;have rf:=i.o.frozen;go_wp2_with fail;refine Aq (v:=.agg #[.string s',.slice a' l' c']) (by simp[results,results90,go_sem,Az,Aw,P,R]) rfl ?_;exact Kd j (by omega) C.o N.o M.o O.o aU.o a8.o a7.o
theorem fM (hs:∀d∈s,Aj d.nm=true):∀l:List Tm,Af l=0->CV (As s) l=At s l:=by
 intro l;induction l using Tm.indL with
 |h0=>intro _; simp[CV,At]
 |h n l r aa ab=>
  intro he;obtain⟨g1,g2,g3⟩:=Ha he;rw[CV,AY,ab g3,aa g2];congr 1
  cases hv:Aj n with
  |false=>rw[Ff hs hv,GF,hv]; rfl
  |true=>
   have e:=g1 hv;subst e;rw[Gd,GF,hv];cases As s n with
   |none=>simp[At]
   |some x=>rfl
theorem TK (hs:∀d∈s,Aj d.nm=true) (he:Af [t]=0):C6 (As s) t=Ai s t:=by
 have h:=fM hs [t] he;rw[M9,AY]at h;simpa [At] using h
def GH (h:List (ByteArray×Tm)):Prop:=∀i (hi:i<h.length),AF h[i].1=true
def Jg (w:World) (Y:Nat->Prop) (h:List (ByteArray×Tm)) (i:Nat) (hi:i<h.length) (v:Value):Prop:=
 ∃(j:Nat) (a:Option Addr) (c:Nat),j<=h.length/\v=.agg #[.string (stood h i (max j (i+1)) hi).name,.slice a (stood h i (max j (i+1)) hi).args.length c,zA j]/\Sl w Y a (stood h i (max j (i+1)) hi).args
def ED (w:World) (Y:Nat->Prop) (h:List (ByteArray×Tm)) (L:List (ByteArray×Value)):Prop:=
 L.length=h.length/\∀i (hi:i<h.length) (hl:i<L.length),L[i].1=h[i].1/\Jg w Y h i hi L[i].2
theorem Jg.imp {hi:i<h.length} (hs:∀a l,Sl w Y a l->Sl w' Z a l) (e:Jg w Y h i hi v):Jg w' Z h i hi v:=by
 obtain⟨j,a,c,h1,h2,h3⟩:=e;exact⟨j,a,c,h1,h2,hs _ _ h3⟩
theorem ED.imp (hs:∀a l,Sl w Y a l->Sl w' Z a l) (e:ED w Y h L):ED w' Z h L:=
 ⟨e.1,λi hi b=>⟨(e.2 i hi b).1,(e.2 i hi b).2.imp hs⟩⟩
theorem TL:∀(L:List (ByteArray×Value)) (i:Nat) (hi:i<L.length),(∀k (hk:k<L.length),k<i->L[k].1≠L[i].1)->AG L L[i].1=some L[i].2
 | [],i,hi,_=>by simp at hi
 |p::r,0,hi,_=>by simp[AG]
 |p::r,i+1,hi,h=>by
  have h0:=h 0 (by simp) (by omega);simp only[Gs,FX] at h0 ⊢;rw[AG,Ah h0];refine TL r i (by simpa using hi) λk hk aa=>?_;have:=h (k+1) (by simpa using hk) (by omega);simpa using this
theorem TN:∀(L:List (ByteArray×Value)) (n:ByteArray),(∀k (hk:k<L.length),L[k].1≠n)->AG L n=none
 | [],n,_=>rfl
 |p::r,n,h=>by
  have h0:=h 0 (by simp);simp only[Gs] at h0;rw[AG,Ah h0];exact TN r n λk hk=>by have:=h (k+1) (by simpa using hk); simpa using this
theorem TO:∀(L:List (ByteArray×Value)) (i:Nat) (hi:i<L.length) (v:Value),(∀k (hk:k<L.length),k<i->L[k].1≠L[i].1)->EO L L[i].1 v=L.set i (L[i].1,v)
 | [],i,hi,v,_=>by simp at hi
 |p::r,0,hi,v,_=>by simp[EO]
 |p::r,i+1,hi,v,h=>by
  have h0:=h 0 (by simp) (by omega);simp only[Gs,FX] at h0 ⊢;rw[EO,Ah h0,TO r i (by simpa using hi) v λk hk aa=>by have:=h (k+1) (by simpa using hk) (by omega); simpa using this];rfl
theorem ED.apart (e:ED w Y h L) (g:BN h) (i:Nat) (hi:i<L.length):∀k (hk:k<L.length),k<i->L[k].1≠L[i].1:=λk hk aa a=>by
 have hl:=e.1;rw[(e.2 k (by omega) hk).1,(e.2 i (by omega) hi).1]at a;have:=g.once (by omega) (by omega) a;omega
theorem ED.get (e:ED w Y h L) (g:BN h) (hi:i<h.length):∃v,AG L h[i].1=some v/\Jg w Y h i hi v:=by
 have a:i<L.length:=by rw[e.1]; exact hi
 have h1:=TL L i a (e.apart g i a);rw[(e.2 i hi a).1]at h1;exact⟨_,h1,(e.2 i hi a).2⟩
theorem ED.none (e:ED w Y h L) (a:∀i (hi:i<h.length),h[i].1≠n):AG L n=none:=
 TN L n λk hk=>by rw[(e.2 k (by rw[<-e.1]; exact hk) hk).1]; exact a k _
theorem ED.set (e:ED w Y h L) (g:BN h) (hi:i<h.length) (hv:Jg w Y h i hi v):ED w Y h (EO L h[i].1 v):=by
 have a:i<L.length:=by rw[e.1]; exact hi
 have h1:=TO L i a v (e.apart g i a);rw[(e.2 i hi a).1]at h1;rw[h1];refine⟨by simp[e.1],λk hk ab=>?_⟩;by_cases aa:i=k
 ·subst aa;simp only[List.getElem_set_self];exact⟨trivial,hv⟩
 ·rw[List.getElem_set_ne aa];exact e.2 k hk (by simpa using ab)
theorem Ke (g:BN h) (hi:i<h.length):As (Ar h) h[i].1=some (stood h i h.length hi):=by
 obtain⟨d,hd,e⟩:=(g.bound h.length (Al _) h[i].1).2 ⟨i,hi,hi,rfl⟩;rw[D8]at hd;obtain⟨t,ht⟩:=Tu hd;rw[e]at ht;rw[ht];unfold stood;rw[D8,JK ht]
theorem fO (g:BN h) (a:∀i (hi:i<h.length),h[i].1≠n):As (Ar h) n=none:=by
 cases b:As (Ar h) n with
 |none=>rfl
 |some x=>obtain⟨d,hd,e,_⟩:=FJ b;have h1:=(g.bound h.length (Al _) n).1 ⟨d,by rw[D8]; exact hd,e⟩;obtain⟨i,hi,_,h2⟩:=h1;exact absurd h2 (a i hi)
theorem TP (g:BN h) (a:GH h) (hi:i<h.length) (hj:j<=h.length):Af [stood h i j hi]=0:=DG (g.ok j hj) (J8 (a i hi))
theorem fP (g:BN h) (a:GH h) (hi:i<h.length) (hj:j<=h.length):C6 (As (Ar h)) (stood h i j hi)=stood h i h.length hi:=by
 rw[TK g.all.vars (TP g a hi hj),TG g hi hj (a i hi)]
theorem TQ (g:BN h) (hi:i<h.length) (hz:2000<Ab [stood h i h.length hi]):Bm (Ar h)=true:=by
 obtain⟨d,hd,e1,a⟩:=FJ (Ke g hi);unfold Bm;rw[D6];exact⟨d,hd,by rw[a]; simpa using hz⟩
def BX (S q:Nat) (td:Value) (h:List (ByteArray×Tm)):Ev:=λf Y w=>
 (∃L,Ac w S #[td,.map (some q),.bool f] 177/\AO w q L/\ED w (λb=>Y b/\b≠S/\b≠q) h L)/\Y S/\Y q/\(∀b,Y b->b<w.heap.size)/\(f=true->Bm (Ar h)=true)
def BZ (S q:Nat):Nat->Prop:=λb=>b=S∨b=q
theorem Dh (S q:Nat) (e:Value) (h:List (ByteArray×Tm)):GG (BX S q e h) (BZ S q):=by
 refine⟨λf Y w w' he hk=>?_,λf Y w he=>he.2.2.2.1,λf Y w he b hb=>?_⟩
 ·obtain⟨⟨L,h1,h2,h3⟩,c,d,h6,g⟩:=he;refine⟨⟨L,?_,h2.kept (hk q d),h3.imp λa l hs=>hs.kept λb hb=>hk b hb.1⟩,c,d,λb hb=>?_,g⟩
  ·unfold Ac at *; rw[hk S c]; exact h1
  ·have h8:=hk b hb;have i:=h6 b hb;apply EX;intro hn;rw[Jo (by omega),Array.getElem?_eq_getElem i]at h8;cases h8
 ·rcases hb with rfl|rfl
  ·exact he.2.1
  ·exact he.2.2.1
def Kf (Mt:Nat->Prop) (w:World) (F O:Nat) (s:ByteArray) (u:Value) (cF:Array Value) (wr:World):Prop:=
 Ak (λb=>b=F∨Mt b) w wr/\Ac wr (w.heap.size+1) zd 31/\Ac wr O #[.string s,u] 31/\Ac wr F cF 146/\O<wr.heap.size
theorem fQ {s:ByteArray} {g ab:Array Value} {a:Obj} (af:F<w.heap.size) (i:∀b,Mt b->b<w.heap.size) (hO:w.heap.size+2<=O) (h:Kf Mt w F O s u g wr) (hu:∀k,u.ownBlock=some k->O+1<=k)
  (aa:Ak (λb=>b=F∨Mt b) wr w1) (j:Ac w1 F ab 146) (c:(w1.alloc a).grownBy w3 u.ownBlock):Kf Mt w F O s v ab (w3.setCell (zD O 1) v):=by
 obtain⟨h1,h2,h3,h4,h5⟩:=h;have d:∀b,b<O+1->some b≠u.ownBlock:=λb hb e=>by have:=hu b e.symm; omega
 have f:∀b,w.heap.size<=b->¬(b=F∨Mt b):=λb hb h=>by
  rcases h with h|h
  ·omega
  ·have:=i b h; omega
 have ag:=aa.size;have l:=c.size;simp at l;refine⟨(((h1.trans aa).alloc a).grown c (λk hk=>Ae (by have:=hu k hk; omega))).setNew (by omega) _ _,?_,?_,?_,by simp[World.setCell]; omega⟩
 ·exact(((h2.exq aa (f _ (by omega))).alloc a).grown c (d _ (by omega))).setOther _ _ (by omega)
 ·exact(((h3.exq aa (f _ (by omega))).alloc a).grown c (d _ (by omega))).set 1 _
 ·exact((j.alloc a).grown c (d _ (by omega))).setOther _ _ (by omega)
theorem fR {L:List Tm} {xs:List Value} {a:Obj} {a1:Option Addr} {c c1:Nat} (d:∀b,Q b->b<O) (hOr:O<wr.heap.size) (aa:A1 wr (O+1) 31 (λ_=>False) u L xs)
  (e:Ak Q wr w1) (ht:TV w1 (λb=>wr.heap.size<=b) (.agg #[.string s',.slice a1 c c1]) t)
  (ab:w3.ownsRow (O+1) 31 2 (.slice (some (zD g 0)) (L.length+1) cap) (L.length+1) (xs++[.string s',.slice a1 c c1])) (f:(w1.alloc a).grownBy w3 u.ownBlock) (i:u.ownBlock=some g∨g=(w1.alloc a).heap.size):
  A1 (w3.setCell (zD O 1) (.slice (some (zD g 0)) (L.length+1) cap)) (O+1) 31 (λ_=>False) (.slice (some (zD g 0)) (L.length+1) cap) (L++[t]) (xs++[.string s',.slice a1 c c1]):=by
 obtain⟨wm,j,ai,k⟩:=e.mid;have l:=aa.exq k (λb hb=>by have:=d b hb; omega) (λ_ _ h=>h);exact(l.push (w1:=w1) (w2:=w1.alloc a) (w3:=w3) (by omega) (λ_ h=>h.elim) j (ht.mono λb h _=>Ad (by omega)) a rfl ab f i).setCell (by omega) (λh=>h) _
def LA (E:Ev) (O:Nat) (f:Bool) (Y:Nat->Prop) (u:Value) (f':Bool) (Y':Nat->Prop) (wr:World):Prop:=
 E f' Y' wr/\(∀b,Y' b->Y b∨O+1<=b)/\(∀b,Y' b->some b≠u.ownBlock)/\(f=true->f'=true)
def fS (E:Ev) (Mt:Nat->Prop) (lk:ByteArray->Option Tm) (w:World) (F O:Nat) (s:ByteArray) (sv:Value) (l:List Tm) (n:Nat) (f:Bool) (Y:Nat->Prop) (i:Value) (wr:World):Prop:=
 ∃(k:Nat) (u:Value) (f':Bool) (Y':Nat->Prop),k<=l.length/\i=zA k/\LA E O f Y u f' Y' wr/\
  ((∃(m:Nat) (xs:List Value) (Mk:List Tm),Mk.length=k/\(m:Int)=(n:Int)-1-Ab Mk/\Kf Mt w F O s u #[zA m,sv] wr/\A1 wr (O+1) 31 (λ_=>False) u Mk xs/\(f'=false->Mk=CV lk (l.take k)))∨
   (Kf Mt w F O s u #[zA (-1),sv] wr/\(∃a9 l9 c9,u=.slice a9 l9 c9)/\(f'=false->n<1+Ab (CV lk l))))
theorem fU {E:Ev} (c:GG E Mt) {d f1:Bool} {a:Nat->Prop} {i:Obj} {n9:Nat} {x:Value} (n:∀b,Y b->b<O) (h:LA E O f Y u d Y' wr) (hu:∀k,u.ownBlock=some k->k<wr.heap.size) (hOr:O<wr.heap.size) (al:wr.heap.size<=w1.heap.size)
  (ab:E f1 a w1) (aa:∀b,a b->Y' b∨wr.heap.size<=b) (o:d=true->f1=true) (q:(w1.alloc i).grownBy w3 u.ownBlock) (r:u.ownBlock=some g∨g=(w1.alloc i).heap.size):
  LA E O f Y (.slice (some (zD g 0)) n9 cap) f1 a (w3.setCell (zD O 1) x):=by
 obtain⟨h1,h2,h3,s⟩:=h;have j:=c.inY _ _ _ ab;have l:∀b,a b->some b≠u.ownBlock:=λb hb e=>by
  rcases aa b hb with h|h
  ·exact h3 b h e
  ·have:=hu b e.symm; omega
 have m:∀b,a b->Y b∨O+1<=b:=λb hb=>by
  rcases aa b hb with h|h
  ·exact h2 b h
  ·right; omega
 refine⟨c.keep _ _ _ _ ab λb hb=>?_,m,λb hb e=>?_,λh=>o (s h)⟩
 ·have t:b≠O:=λe=>by
   rcases m b hb with h|h
   ·have:=n b h; omega
   ·omega
  have v:=j b hb;rw[An _ _ _ _ (by simpa using t),q.block b (by simp; omega) (l b hb),Ay _ _ _ v]
 ·have y:b=g:=by simpa [Value.ownBlock] using e
  subst y;rcases r with h|h
  ·exact l b hb h.symm
  ·have:=j b hb; simp at h; omega
theorem Ps {E:Ev} (d:GG E Mt) {s:ByteArray} {a:Value} {n:Nat} (hF:F<w.heap.size) (e:∀b,Y b->b<w.heap.size) (hO:w.heap.size+2<=O)
  (h1:Kf Mt w F O s u #[zA m,a] wr) (h2:LA E O f Y u c Y' wr) (hc:Jf w aa n c s a' l' m 2 wr):
  Ib E Mt F a aa n f Y w (.returned (.agg #[.string s,.slice a' l' c'])) ((wr.setCell (zD (w.heap.size+1) 0) v0).setCell (zD (w.heap.size+1) 1) v1):=
 Kd d hF e h1.2.2.2.1 h1.1 h2.1 (λb hb=>(h2.2.1 b hb).imp id λh=>by omega) h2.2.2.2 hc
theorem fV {E:Ev} (b:GG E Mt) {a:Value} {n:Nat} {e:Ending} (h:Ib E Mt F a aa n f Y w e w') (o:Obj):Ib E Mt F a aa n f Y w e (w'.alloc o):=by
 obtain⟨s',a',l',c',m,c,Y',he,h1,h2,h3,d,g,h6⟩:=h;refine⟨s',a',l',c',m,c,Y',he,h1.alloc o,h2.alloc o,b.below h3 ((Ag _ _).alloc (Al _) o),d,g,?_⟩;rcases h6 with ⟨y,i,j,k,l,q,r⟩|h6
 ·exact Ae ⟨y,i,j,k,l,q.later ((Ag _ _).alloc (Al _) o),r⟩
 ·exact Ad h6
theorem TR (h:k<l.length) (ho:Ax nm [l[k]]):Ax nm l:=by
 have:l=l.take k++(l[k]::l.drop (k+1)):=by rw[List.getElem_cons_drop,DM]
 rw[this,M6,BM];exact Ad (Ae ho)
theorem fW {E:Ev} (A:GG E Mt) (F S:Nat) (r:ByteArray->Option Tm) (t:Tm):∀(n:Nat) (v:Value) (w:World) (X Y:Nat->Prop) (f:Bool),TV w X v t->(∀b,X b->b≠F/\¬Mt b)->n<=1000000->Ac w F #[zA n,sV S] 146->E f Y w->¬Y F->(∀nm,Ax nm t.args->Aj nm=true->Hc E Mt S (r nm) nm)->
  Calls prog 114 #[zC F,v,.func (.func 90) #[zC F] #[]] w λe w'=>Ib E Mt F (sV S) ⟨t.name,CV r t.args⟩ n f Y w e w':=by
 induction t using Tm.ind with
 |h s l ih=>
  intro n v w X Y f hv aD hn hF R aE hL;obtain⟨a,c,rfl,hs⟩:=hv;(try dsimp only[zF]);(try dsimp only[zG]);(try dsimp only[zE]);(try dsimp only);have G:Hid (∀b,Y b->b<w.heap.size):=A.inY _ _ _ R;have Z:Hid (∀b,Mt b->b<w.heap.size):=λb hb=>G.o b (A.mt _ _ _ R b hb);have HL:=Aa hL;have aU:=Aa R;clear hL R;generalize aV:sV S=T at *;have IH:=Aa ih;clear ih;obtain⟨i0,aW,aX,aY,aZ⟩:=DO Tryz.infoTerm;have f0:∀o,(w.alloc o).cell? (zD F 0)=some (zA n):=λo=>(hF.alloc o).cell 0;have ff:∀o,(w.alloc o).frozen? (zD F 0)=false:=λo=>(hF.alloc o).frozen 0;have U:F<w.heap.size:=hF.lt;go_enter func114,ntmps114;go_wp2_with fail;have E3:Hid (Kf Mt w F (w.heap.size+1+1) s zB #[zA ((n:Int)-1),T] ((((w.setCell (zD F 0) (zA ((n:Int)-1))).alloc (zh #[.string s,.slice a l.length c] 31)).alloc zc).alloc (zh #[.string s,zB] 31))):=by
   refine⟨((((Ak.refl _ w).set (Ae rfl) 0 _).alloc _).alloc _).alloc _,?_,?_,(((hF.set 0 _).alloc _).alloc _).alloc _,by simp[World.setCell]⟩
   ·have h:=(Ac.new ((w.setCell (zD F 0) (zA ((n:Int)-1))).alloc (zh #[.string s,.slice a l.length c] 31)) zd 31).alloc (zh #[.string s,zB] 31);simpa [World.setCell] using h
   ·have h:=Ac.new (((w.setCell (zD F 0) (zA ((n:Int)-1))).alloc (zh #[.string s,.slice a l.length c] 31)).alloc zc) #[.string s,zB] 31;simpa [World.setCell] using h
  have ba:Hid (LA E (w.heap.size+1+1) f Y zB f Y ((((w.setCell (zD F 0) (zA ((n:Int)-1))).alloc (zh #[.string s,.slice a l.length c] 31)).alloc zc).alloc (zh #[.string s,zB] 31))):=(by refine⟨A.keep _ _ _ _ aU.o λb hb=>?_,λb hb=>Ae hb,λb _ e=>by simp[Value.ownBlock] at e,λh=>h⟩;have h1:=G.o b hb;rw[Ay _ _ _ (by simp[World.setCell]; omega),Ay _ _ _ (by simp[World.setCell]; omega),Ay _ _ _ (by simpa [World.setCell] using h1),An _ _ _ _ (by simp; intro e; subst e; exact aE hb)]);generalize ((((w.setCell (zD F 0) (zA ((n:Int)-1))).alloc (zh #[.string s,.slice a l.length c] 31)).alloc zc).alloc (zh #[.string s,zB] 31))=w3 at *;generalize bb:w.heap.size+1+1=O at *;have V:w.heap.size+2<=O:=by omega
  clear bb;clear f0 ff;have HS:=Aa hs;have hl:=hs.1;have H:=Aa aD;clear hs aD;have HQ:Hid (∀b,w.heap.size<=b->¬(b=F∨Mt b)):=λb hb h=>by
   rcases h with h|h
   ·omega
   ·have:=Z.o b h; omega
  go_loopw [23] (λi wr=>fS E Mt r w F O s T l n f Y i wr) (λi wr=>l.length-(intOf i).toNat);case atStart=>
   refine⟨0,zB,f,Y,Be _,rfl,ba.o,?_⟩;by_cases bc:n=0
   ·subst bc;exact Ad ⟨E3.o,⟨none,0,0,rfl⟩,λ_=>by omega⟩
   ·refine Ae ⟨n-1,[],[],rfl,by simp[Ab]; omega,?_,A1.start _ _ _ _,λ_=>by simp[CV]⟩;rw[show((n-1:Nat):Int)=(n:Int)-1 by omega];exact E3.o
  case round=>
   obtain⟨k,u,J,Y',hk,rfl,aF,aj⟩:=hrel;have I:=Aa aF;clear aF;rcases aj with ⟨m,xs,q,L,hm,ab,al,aG⟩|⟨ab,⟨a9,l9,M,rfl⟩,an⟩
   ·have d:=Aa ab;have C:=Aa al;have az:=Aa hm;have W:=Aa aG;clear ab al aG;by_cases D:k<l.length
    ·obtain⟨b,o,a',c',rfl,d0,d1,hx⟩:=(HS.o.exq d.o.1 (λb hb h=>by rcases h with h|h; exact(H.o b hb).1 h; exact(H.o b hb).2 h)).get (Ag _ _) (λ_ _ h=>h) k D;obtain⟨av,cv,ev,bd⟩:=hx;simp at ev;obtain⟨rfl,rfl⟩:=ev;have aH:m<=1000000:=(by omega);have a6:¬(O=F∨Mt O):=HQ.o O (by omega);have aI:Hid (∀b,(b=F∨Mt b)->b<O):=λb h=>by
      rcases h with h|h
      ·omega
      ·have:=Z.o b h; omega
     have bz:k<=1000000:=by have h1:=E4 q; rw[L] at h1; omega
     have aJ:Hid (q.length+1<=maxLen/\(q.length+1)*40<=140737488355328):=Aa (by rw[L];exact⟨by unfold maxLen; omega,by omega⟩);have a7:¬Y' F:=λh=>by
      rcases I.o.2.1 F h with h1|h1
      ·exact aE h1
      ·omega
     have bf:Hid (Calls prog 90 #[zC F,.agg (zF l[k] a' c')] (wr.alloc (ze l[k] a' c')).drew λe bg=>Ib E Mt F T (C6 r l[k]) m J Y' (wr.alloc (ze l[k] a' c')).drew e bg):=by
      have aK:Below wr.heap.size wr (wr.alloc (ze l[k] a' c')).drew:=((Ag _ _).alloc (Al _) _).drew;have bh:E J Y' (wr.alloc (ze l[k] a' c')).drew:=A.below I.o.1 aK;have bj:Ac (wr.alloc (ze l[k] a' c')).drew F #[zA m,T] 146:=(d.o.2.2.2.1.alloc _).drewN 1;have bk:Sl (wr.alloc (ze l[k] a' c')).drew X a' l[k].args:=bd.later aK;have bl:=IH.o l[k] (AM D) m;clear az d C;subst aV;refine TJ A F S r l[k] m a' c' _ X Y' J aH H.o a7 bk bj bh (λhv=>HL.o _ (TR D ?_) hv) (λw' f2 Y2 h1 h2 h3 h4=>bl _ w' X Y2 f2 ⟨a',c',rfl,h1⟩ H.o aH h2 h3 h4 (λnm ho hv=>HL.o nm (TR D ?_) hv))
      ·generalize l[k]=y;obtain⟨n1,k1⟩:=y;exact Dg.2 (Ae rfl)
      ·generalize l[k]=y at ho ⊢;obtain⟨n1,k1⟩:=y;exact Dg.2 (Ad (Ae ho))
     have f0:∀o,(wr.alloc o).cell? (zD F 0)=some (zA m):=λo=>(d.o.2.2.2.1.alloc o).cell 0;have o1:∀o,(wr.alloc o).cell? (zD O 1)=some u:=λo=>(d.o.2.2.1.alloc o).cell 1;have b0:¬(m:Int)<0:=(by omega);go_wp2_with fail;go_region_law (first
      | (go_simp; go_at_call 90; refine bf.o.mono ?_; rintro e w1 ⟨s1,a1,l1,c1,m1,f1,Y1,rfl,aL,aM,aN,ae,ao,aO⟩; have B:=(((Ak.refl (λb=>b=F∨Mt b) wr).alloc (ze l[k] a' c')).drew).trans aM; have a8:=Aa ae; have aP:=Aa ao; have bm:=Aa aO; have bn:=Aa aN; clear aM ae ao aO aN; have bo:∀o,(w1.alloc o).cell? (zD O 1)=some u:=λo=>((Ac.exq d.o.2.2.1 B a6).alloc o).cell 1; have bp:w1.cell? (zD O 1)=some u:=(Ac.exq d.o.2.2.1 B a6).cell 1)
      | (refine step_append_lies _ rfl _ _ 29 rfl (O+1) 31 i0 _ 2 40 underlying29 aW aX aY aZ rfl (by decide) u q.length xs rfl (by exact(A1.exq C.o B (λb hb=>by have:=aI.o b hb; omega) (λ_ _ h=>h)).own.alloc _) (zD w1.heap.size 0) 1 1 [.string s1,.slice a1 l1 c1] rfl rfl (cell_two_new _ _ _ _) (λx hx=>by simp at hx; rcases hx with rfl|rfl<;>rfl) (by decide) aJ.o.1 aJ.o.2 (by have:=B.size; have:=d.o.2.2.2.2; simp; omega) _ rfl ?_; intro g cap w3 af aa ag aA; have aB:=Aa (((Ac.exq d.o.2.2.1 B a6).alloc _).grown aa (C.o.ne (F2 _))); have bq:w3.cell? (zD O 1)=some u:=aB.o.cell 1; have br:=aB.o.frozen 1))
     all_goals
      have HK:=Aa (fQ (v:=.slice (some (zD g 0)) (q.length+1) cap) U Z.o V d.o (λj hj=>(C.o.own.lt j hj).1) B aL aa);have aC:=Aa (fU (n9:=q.length+1) (cap:=cap) (x:=.slice (some (zD g 0)) (q.length+1) cap) A (λb hb=>by have:=G.o b hb; omega) I.o (λj hj=>(C.o.own.lt j hj).2) d.o.2.2.2.2 B.size bn.o (λb hb=>(a8.o b hb).imp id λh=>by simp at h; omega) aP.o aa ag);have bs:Hid (∀y:Tm,TV w1 (λb=>wr.heap.size<=b) (.agg #[.string s1,.slice a1 l1 c1]) y->A1 (w3.setCell (zD O 1) (.slice (some (zD g 0)) (q.length+1) cap)) (O+1) 31 (λ_=>False) (.slice (some (zD g 0)) (q.length+1) cap) (q++[y]) (xs++[.string s1,.slice a1 l1 c1])):=λy hy=>fR aI.o d.o.2.2.2.2 C.o B hy af aa ag;clear af aa ag bo bp bq br aB aL B aA;go_wp2_with fail;go_roundw
      case rel=>
       have h1:=HK.o;have h2:=bs.o;have h3:=aC.o;have bt:=az.o;simp only[L] at h1 h2 h3;refine⟨k+1,.slice (some (zD g 0)) (k+1) cap,f1,Y1,by omega,by go_num,h3,?_⟩;have aQ:CV r (l.take (k+1))=CV r (l.take k)++[C6 r l[k]]:=by rw[Ci D,TH]; simp[M9]
       have aR:f1=false->J=false:=λz=>by
        cases h:J with
        |false=>rfl
        |true=>have:=aP.o h; rw[z] at this; cases this
       rcases bm.o with ⟨y,rfl,rfl,rfl,e4,e5,e6⟩|⟨rfl,e2⟩
       ·refine Ae ⟨m-Ab [y],xs++[.string y.name,.slice a1 y.args.length c1],q++[y],by simp[L],by rw[Ej]; omega,?_,h2 y ⟨a1,c1,rfl,e5.mono λb hb _=>by simp at hb; omega⟩,λz=>by rw[aQ,W.o (aR z),e6 z]⟩;rw[show((m-Ab [y]:Nat):Int)=(m:Int)-Ab [y] by omega];exact h1
       ·refine Ad ⟨h1,⟨_,_,_,rfl⟩,λz=>?_⟩;have h4:=e2 z;have h5:=W.o (aR z);have h6:Ab (CV r (l.take (k+1)))=Ab q+Ab [C6 r l[k]]:=(by rw[aQ,Ej,h5]);have h7:CV r l=CV r (l.take (k+1))++CV r (l.drop (k+1)):=(by rw[<-TH,DM]);rw[h7,Ej];omega
      case measure=>simp[intOf]; omega
    ·have bu:l.take k=l:=BH (by omega);rw[bu]at W;obtain⟨a9,M,bw,aq⟩:=C.o.sl;subst bw;have S9:=Aa aq;clear aq;have N:=d.o.2.1.c0;have P:=d.o.2.1.c1;have rf:=d.o.2.1.frozen;have o0:=d.o.2.2.1.c0;have o1:=d.o.2.2.1.c1;go_wp2_with fail;refine Aq (v:=.agg #[.string s,.slice a9 q.length M]) (by simp[results,results114,go_sem,Az,Aw,N,P,L]) rfl ?_;have bt:=az.o;have aS:Ab [(⟨s,q⟩:Tm)]=1+Ab q:=(by simp[Ab]);refine Ps A U G.o V d.o I.o (Ae ⟨⟨s,q⟩,rfl,rfl,by rw[aS]; omega,by rw[aS]; omega,S9.o.mono λb hb _=>?_,λz=>by rw[W.o z]⟩);have b1:O+1<=b:=hb.elim False.elim id;omega
   ·have d:=Aa ab;have ar:=Aa an;clear ab an;have aT:Ab [(⟨s,CV r l⟩:Tm)]=1+Ab (CV r l):=(by simp[Ab]);have f0:∀o,(wr.alloc o).cell? (zD F 0)=some (zA (-1)):=λo=>(d.o.2.2.2.1.alloc o).cell 0;by_cases D:k<l.length
    ·obtain⟨b,o,a',c',rfl,d0,d1,hx⟩:=(HS.o.exq d.o.1 (λb hb h=>by rcases h with h|h; exact(H.o b hb).1 h; exact(H.o b hb).2 h)).get (Ag _ _) (λ_ _ h=>h) k D;clear hx;have o0:∀o,(wr.alloc o).cell? (zD O 0)=some (.string s):=λo=>(d.o.2.2.1.alloc o).cell 0;have o1:∀o,(wr.alloc o).cell? (zD O 1)=some (.slice a9 l9 M):=λo=>(d.o.2.2.1.alloc o).cell 1;have N:=d.o.2.1.c0;have P:=d.o.2.1.c1;have rf:=d.o.2.1.frozen;have bx:w.heap.size+1<wr.heap.size:=d.o.2.1.lt;go_wp2_with fail;refine Aq (v:=.agg #[.string s,.slice a9 l9 M]) (by simp[results,results114,go_sem,Az,Aw,N,P,bx,Cz]) rfl ?_;exact fV A (Ps A U G.o V d.o I.o (Ad ⟨rfl,λz=>by rw[aT]; exact ar.o z⟩)) _
    ·have N:=d.o.2.1.c0;have P:=d.o.2.1.c1;have rf:=d.o.2.1.frozen;have o0:=d.o.2.2.1.c0;have o1:=d.o.2.2.1.c1;go_wp2_with fail;refine Aq (v:=.agg #[.string s,.slice a9 l9 M]) (by simp[results,results114,go_sem,Az,Aw,N,P]) rfl ?_;exact Ps A U G.o V d.o I.o (Ad ⟨rfl,λz=>by rw[aT]; exact ar.o z⟩)
theorem fX {E:Ev} (g:GG E Mt) (F S:Nat) (d:ByteArray->Option Tm) (t:Tm) (n:Nat) (a:Option Addr) (c:Nat) (w:World) (X Y:Nat->Prop) (f:Bool) (h:n<=1000000) (aa:∀b,X b->b≠F/\¬Mt b) (ab:¬Y F) (hs:Sl w X a t.args) (hF:Ac w F #[zA n,sV S] 146) (j:E f Y w)
  (i:∀nm,Ax nm [t]->Aj nm=true->Hc E Mt S (d nm) nm):
  Calls prog 90 #[zC F,.agg (zF t a c)] w λe w'=>Ib E Mt F (sV S) (C6 d t) n f Y w e w':=
 TJ g F S d t n a c w X Y f h aa ab hs hF j (λhv=>i _ (by obtain⟨s,l⟩:=t; exact Dg.2 (Ae rfl)) hv)
  (λw' k Y' h1 h2 h3 m=>fW g F S d t n _ w' X Y' k ⟨a,c,rfl,h1⟩ aa h h2 h3 m (λnm ho hv=>i nm (by obtain⟨s,l⟩:=t; exact Dg.2 (Ad (Ae ho))) hv))
def TS (E:Ev) (Mt:Nat->Prop) (tgt:Tm) (n:Nat) (f:Bool) (Y:Nat->Prop) (w:World) (e:Ending) (w':World):Prop:=
 ∃(s':ByteArray) (a':Option Addr) (l' c':Nat) (ok:Bool) (f':Bool) (Y':Nat->Prop),e=.returned (.tuple #[.agg #[.string s',.slice a' l' c'],.bool ok])/\E f' Y' w'/\(∀b,Y' b->Y b∨w.heap.size<=b)/\(f=true->f'=true)/\Ak Mt w w'/\
  ((ok=true/\∃y:Tm,s'=y.name/\l'=y.args.length/\Ab [y]<=n/\Sl w' (λb=>w.heap.size<=b) a' y.args/\(f'=false->y=tgt))∨(ok=false/\s'=⟨#[]⟩/\a'=none/\l'=0/\c'=0/\(f'=false->n<Ab [tgt])))
theorem fY {E:Ev} (d:GG E Mt) (S:Nat) (r:ByteArray->Option Tm) (t:Tm) (n:Nat) (a:Option Addr) (c:Nat) (w:World) (X Y:Nat->Prop) (f:Bool) (W:n<=1000000) (A:∀b,X b->¬Mt b) (hs:Sl w X a t.args) (k:E f Y w)
  (B:∀nm,Ax nm [t]->Aj nm=true->Hc E Mt S (r nm) nm):
  Calls prog 62 #[.agg (zF t a c),zA n,sV S] w λe w'=>TS E Mt (C6 r t) n f Y w e w':=by
 have aA:=@hmq prog;have Z:=Aa (hs.mono (Y:=λb=>X b/\b<w.heap.size) λb h1 h2=>⟨h1,h2⟩);have HE:=Aa k;have HL:=Aa B;have a6:=Aa A;have s:Hid (∀b,Y b->b<w.heap.size):=d.inY _ _ _ k;have a7:Hid (∀b,Mt b->b<w.heap.size):=λb hb=>s.o b (d.mt _ _ _ k b hb);clear hs k B A;have C:Hid (sV S=.func (.func 155) #[zC S] #[]):=rfl;rw[C.o];go_enter func62,ntmps62;go_wp2_with fail;rw[<-C.o];have u:Hid (Below w.heap.size w (((w.alloc (ze t a c)).alloc zc).alloc (zh #[zA n,sV S] 146))):=((((Ag w.heap.size w).alloc (Al _) _).alloc (by simp) _).alloc (by simp; omega) _);have F3:Hid (Ac (((w.alloc (ze t a c)).alloc zc).alloc (zh #[zA n,sV S] 146)) (w.heap.size+1+1) #[zA n,sV S] 146):=Aa (by have h:=Ac.new ((w.alloc (ze t a c)).alloc zc) #[zA n,sV S] 146;simpa using h);have R3:Hid (Ac (((w.alloc (ze t a c)).alloc zc).alloc (zh #[zA n,sV S] 146)) (w.heap.size+1) zd 31):=Aa (by have h:=(Ac.new (w.alloc (ze t a c)) zd 31).alloc (zh #[zA n,sV S] 146);simpa using h);have z3:(((w.alloc (ze t a c)).alloc zc).alloc (zh #[zA n,sV S] 146)).heap.size=w.heap.size+3:=by simp
 generalize (((w.alloc (ze t a c)).alloc zc).alloc (zh #[zA n,sV S] 146))=w3 at *;refine(fX d (w.heap.size+1+1) S r t n a c w3 (λb=>X b/\b<w.heap.size) Y f W (λb hb=>⟨by have:=hb.2; omega,a6.o b hb.1⟩) (λh=>by have:=s.o _ h; omega) (Z.o.later u.o) F3.o (d.below HE.o u.o) HL.o).mono ?_;rintro e g ⟨s',a',l',c',m,x,Y',rfl,D,l,F,aa,G,H⟩;have I:=Aa D;have q:=Aa (R3.o.exq l (λh=>by rcases h with h|h; omega; have:=a7.o _ h; omega));have aB:=l.size;have J:Hid (Ak Mt w g):=(Ak.ofBelow u.o).transN l (λi hi L=>by rcases hi with h|h; omega; exact h);have M:=Aa F;have N:Hid (∀b,Y' b->Y b∨w.heap.size+3<=b):=λb hb=>(aa b hb).imp id λh=>by omega
 have O:=Aa G;have HC:=Aa H;clear D l F aa G H;have P:=q.o.c0;have R:=q.o.c1;have rf:=q.o.frozen;have T:w.heap.size+1<g.heap.size:=q.o.lt;have U:Hid (∀v0 v1 o,E x Y' (((g.setCell (zD (w.heap.size+1) 0) v0).setCell (zD (w.heap.size+1) 1) v1).alloc o)):=λv0 v1 o=>d.keep _ _ _ _ M.o λb hb=>by
  have V:b≠w.heap.size+1:=λe=>by
   rcases N.o b hb with h|h
   ·have:=s.o b h; omega
   ·omega
  have L:=d.inY _ _ _ M.o b hb;rw[Ay _ _ _ (by simpa [World.setCell] using L),An _ _ _ _ (by simpa using V),An _ _ _ _ (by simpa using V)]
 have ab:Hid (∀b,Y' b->Y b∨w.heap.size<=b):=λb hb=>(N.o b hb).imp id λh=>by omega
 rcases HC.o with ⟨y,rfl,rfl,rfl,hle,a1,j⟩|⟨rfl,j⟩
 ·have a8:=Aa a1;have z:=Aa j;clear a1 j;have f0:∀o,(g.alloc o).cell? (zD (w.heap.size+1+1) 0)=some (zA ((n:Int)-Ab [y])):=λo=>(I.o.alloc o).cell 0;have hlt:¬((n:Int)-Ab [y])<0:=by omega
  go_wp2_with fail;refine Aq (v:=.tuple #[.agg (zF y a' c'),.bool true]) (by simp[results,results62,go_sem,Az,Aw,P,R,T,Cz]) rfl ?_;refine⟨y.name,a',y.args.length,c',true,x,Y',rfl,U.o _ _ _,ab.o,O.o,((J.o.setNew (by omega) _ _).setNew (by omega) _ _).alloc _,Ae ⟨rfl,y,rfl,rfl,hle,((a8.o.kept λb hb=>?_).later ((Ag _ _).alloc (Al _) _)).mono λb hb _=>by omega,z.o⟩⟩;rw[An _ _ _ _ (by simp; omega),An _ _ _ _ (by simp; omega)]
 ·have z:=Aa j;clear j;have f0:∀o,(g.alloc o).cell? (zD (w.heap.size+1+1) 0)=some (zA (-1)):=λo=>(I.o.alloc o).cell 0;go_wp2_with fail;refine Aq (v:=.tuple #[.agg zd,.bool false]) (by simp[results,results62,go_sem,Az,Aw,P,R,T,Cz]) rfl ?_;exact⟨⟨#[]⟩,none,0,0,false,x,Y',rfl,U.o _ _ _,ab.o,O.o,((J.o.setNew (by omega) _ _).setNew (by omega) _ _).alloc _,Ad ⟨rfl,rfl,rfl,rfl,rfl,z.o⟩⟩
def Pt (S q:Nat) (td:Value) (h:List (ByteArray×Tm)) (tgt:Tm) (f:Bool) (Y:Nat->Prop) (w:World) (e:Ending) (w':World):Prop:=
 ∃(y:Tm) (a':Option Addr) (c':Nat) (ok:Bool) (f':Bool) (Y':Nat->Prop),e=.returned (.tuple #[.agg (zF y a' c'),.bool ok])/\BX S q td h f' Y' w'/\(∀b,Y' b->Y b∨w.heap.size<=b)/\(f=true->f'=true)/\Ak (BZ S q) w w'/\Sl w' (λb=>w.heap.size<=b) a' y.args/\
  (ok=true->f'=false/\y=tgt/\Ab [y]<=2000)/\(ok=false->f'=true∨2000<Ab [tgt])
theorem Pu {c:Value} {a:Bool} {o:Obj} {y:Tm} {ok:Bool} (d:BX S q c h a Y' w1) (i:∀b,Y b->b<w.heap.size) (aa:∀b,Y' b->Y b∨w.heap.size+2<=b) (j:f=true->a=true) (hx:Ak (BZ S q) w w1) (hs:Sl w1 (λb=>w.heap.size+2<=b) a' y.args)
  (h1:ok=true->a=false/\y=ab/\Ab [y]<=2000) (h2:ok=false->a=true∨2000<Ab [ab]):
  Pt S q c h ab f Y w (.returned (.tuple #[.agg (zF y a' c'),.bool ok])) (((w1.alloc o).setCell (zD (w.heap.size+1) 0) v0).setCell (zD (w.heap.size+1) 1) v1).drew:=by
 have hk:∀b,b<w1.heap.size->b≠w.heap.size+1->((((w1.alloc o).setCell (zD (w.heap.size+1) 0) v0).setCell (zD (w.heap.size+1) 1) v1).drew).heap[b]? = w1.heap[b]? := λb hb g=>by
  show(((w1.alloc o).setCell (zD (w.heap.size+1) 0) v0).setCell (zD (w.heap.size+1) 1) v1).heap[b]? = _;rw[An _ _ _ _ (by simpa using g),An _ _ _ _ (by simpa using g),Ay _ _ _ hb]
 refine⟨y,a',c',ok,a,Y',rfl,(Dh S q c h).keep _ _ _ _ d λb hb=>hk b (d.2.2.2.1 b hb) λe=>?_,λb hb=>(aa b hb).imp id λh=>by omega,j,(((hx.alloc o).setNew (by omega) _ _).setNew (by omega) _ _).drew,((hs.mono (Y:=λb=>w.heap.size+2<=b/\b<w1.heap.size) λb h1 h2=>⟨h1,h2⟩).kept λb hb=>hk b hb.2 (by omega)).mono λb hb _=>by omega,h1,h2⟩;rcases aa b hb with h|h
 ·have:=i b h; omega
 ·omega
theorem TT (S q:Nat) (d:Value) (h:List (ByteArray×Tm)) (t:Tm) (a:Option Addr) (c:Nat) (w:World) (X Y:Nat->Prop) (f:Bool) (A:∀b,X b->¬BZ S q b) (hs:Sl w X a t.args) (j:BX S q d h f Y w)
  (B:∀nm,Ax nm [t]->Aj nm=true->Hc (BX S q d h) (BZ S q) S (As (Ar h) nm) nm):
  Calls prog 141 #[zC S,.agg (zF t a c)] w λe w'=>Pt S q d h (C6 (As (Ar h)) t) f Y w e w':=by
 have ax:=@hmq prog;have J:=Aa hs;have m:=Aa j;have M:=Aa B;have N:=Aa A;have ay:S<w.heap.size:=j.2.2.2.1 S j.2.1;clear hs j B A;have k:Hid (∀b,Y b->b<w.heap.size):=m.o.2.2.2.1;have O:Hid (∀b,BZ S q b->b<w.heap.size):=λb hb=>k.o b ((Dh S q d h).mt _ _ _ m.o b hb);have C:Hid (∀w',Below w.heap.size w w'->Calls prog 62 #[.agg (zF t a c),zA 2000,.func (.func 155) #[zC S] #[]] w' λe P=>TS (BX S q d h) (BZ S q) (C6 (As (Ar h)) t) 2000 f Y w' e P):=λw' hb=>
  fY (Dh S q d h) S (As (Ar h)) t 2000 a c w' X Y f (by omega) N.o (J.o.later hb) ((Dh S q d h).below m.o hb) M.o
 have D:Hid (Below w.heap.size w ((w.alloc (ze t a c)).alloc zc)):=EJ _ _;have R:Hid (Ac ((w.alloc (ze t a c)).alloc zc) (w.heap.size+1) zd 31):=Aa (by have h:=Ac.new (w.alloc (ze t a c)) zd 31;simpa using h);have z2:((w.alloc (ze t a c)).alloc zc).heap.size=w.heap.size+2:=by simp
 go_enter func141,ntmps141;go_wp2_with fail;generalize ((w.alloc (ze t a c)).alloc zc)=w2 at *;refine(C.o _ D.o).mono ?_;rintro e w1 ⟨s',a',l',c',ok,n,Y',rfl,E,ab,F,hx,hc⟩;have r:=Aa E;have aa:Hid (∀b,Y' b->Y b∨w.heap.size+2<=b):=λb hb=>(ab b hb).imp id λh=>by omega
 have G:=Aa F;have s:Hid (Ak (BZ S q) w w1):=(Ak.ofBelow D.o).trans hx;have g:=Aa (R.o.exq hx (λh=>by have:=O.o _ h; omega));have az:Hid (w.heap.size+2<=w1.heap.size):=Aa (by have:=hx.size;omega);have T:=Aa hc;obtain⟨⟨L,H,_,_⟩,_⟩:=E;have b2:∀o,(w1.alloc o).cell? (zD S 2)=some (.bool n):=λo=>(H.alloc o).cell 2;have u:∀o,(w1.alloc o).cell? (zD (w.heap.size+1) 0)=some (.string ⟨#[]⟩):=λo=>(g.o.alloc o).cell 0;have x:∀o,(w1.alloc o).cell? (zD (w.heap.size+1) 1)=some (zB):=λo=>(g.o.alloc o).cell 1;have rf:=g.o.frozen;clear H ab F hx hc C;go_wp2_with fail;have p0:∀o,(w1.alloc o).frozen? (zD (w.heap.size+1) 0)=false:=λo=>(g.o.alloc o).frozen 0;have p1:∀o,(w1.alloc o).frozen? (zD (w.heap.size+1) 1)=false:=λo=>(g.o.alloc o).frozen 1;rcases T.o with ⟨rfl,y,rfl,rfl,hz,I,i⟩|⟨rfl,rfl,rfl,rfl,rfl,i⟩
 ·have l:Hid (Sl w1 (λb=>w.heap.size+2<=b) a' y.args):=I.mono λb hb _=>by omega
  have z:=Aa i;have U:=Aa hz;clear I i hz;cases n with
  |true=>
   go_region
   all_goals
    go_wp2_with fail;refine Aq (v:=.tuple #[.agg (zF y a' c'),.bool false]) (by simp[results,results141,go_sem,Az,Aw,u,x]) rfl ?_;exact Pu r.o k.o aa.o (λ_=>rfl) s.o l.o (λh=>by cases h) (λ_=>Ae rfl)
  |false=>
   go_region
   all_goals
    go_wp2_with fail;refine Aq (v:=.tuple #[.agg (zF y a' c'),.bool true]) (by simp[results,results141,go_sem,Az,Aw,u,x]) rfl ?_;exact Pu r.o k.o aa.o G.o s.o l.o (λ_=>⟨rfl,z.o trivial,U.o⟩) (λh=>by cases h)
 ·have z:=Aa i;clear i;have l:Hid (Sl w1 (λb=>w.heap.size+2<=b) none (⟨⟨#[]⟩,[]⟩:Tm).args):=⟨by simp,Ae rfl⟩;go_region
  all_goals
   go_wp2_with fail;refine Aq (v:=.tuple #[.agg #[.string (⟨⟨#[]⟩,[]⟩:Tm).name,.slice none (⟨⟨#[]⟩,[]⟩:Tm).args.length 0],.bool false]) (by simp[results,results141,go_sem,Az,Aw,u,x]) rfl ?_;exact Pu r.o k.o aa.o G.o s.o l.o (λh=>by cases h) (λ_=>by
    cases V:n with
    |true=>exact Ae rfl
    |false=>exact Ad (z.o V))
theorem TU {hi:i<h.length} (e:Jg w Y h i hi v):∃(T:Tm) (j:Nat) (a:Option Addr) (c:Nat),T=stood h i (max j (i+1)) hi/\j<=h.length/\v=.agg #[.string T.name,.slice a T.args.length c,zA j]/\Sl w Y a T.args:=by
 obtain⟨j,a,c,h1,h2,h3⟩:=e;exact⟨_,j,a,c,rfl,h1,h2,h3⟩
theorem LB {P:Program} {T a b:TypeId} {r:Nat} (hm:P.underlying T=some (.map a b)) (h:AO w r L) (ty:TypeId):(Builtin.len_ #[T] ty #[.map (some r)]).run P w=.ok (zA (L.length:Int)) w:=by
 obtain⟨es,aa,hb,he,_⟩:=h;have c:es.size=L.length:=by have:=Cb List.length he; simpa using this
 simp[Builtin.len_,Fl hm,F5 hb,goInt,Result.andThen,c]
theorem TW (S q:Nat) (d:Value) (h:List (ByteArray×Tm)) (g:BN h) (nm:ByteArray) (e:∀i (hi:i<h.length),h[i].1≠nm):Hc (BX S q d h) (BZ S q) S (As (Ar h) nm) nm:=by
 intro f Y w j;have k:=Aa j;obtain⟨⟨L,a,c,aa⟩,ad,ae,hY,l⟩:=j;have hz:∀w',(zeroValue 215).run prog w'=.ok (.agg #[.string ⟨#[]⟩,zB,zA 0]) w':=λw'=>zeroValue215 w';have ab:=c.lt;have af:=a.lt;have m:=Aa (fO g e);have b1:∀o,(w.alloc o).cell? (zD S 1)=some (.map (some q)):=λo=>(a.alloc o).cell 1;have ag:∀o,(Instr.lookup 174 (.map (some q)) (.string nm) true).run prog (w.alloc o)=.ok (.tuple #[.agg #[.string ⟨#[]⟩,zB,zA 0],.bool false]) (w.alloc o):=λo=>by
  rw[El (P:=prog) underlying174 underlying9 (hz _) (c.kept (Ay _ _ _ ab)) nm,aa.none e]; rfl
 have HB:=Aa a;clear a c aa l;go_enter func155,ntmps155;go_wp2_with fail;go_region
 all_goals go_wp2_with fail
 all_goals
  refine Aq (v:=.tuple #[.agg zd,.bool false]) (by simp[results,results155,go_sem]) rfl ?_;exact⟨⟨#[]⟩,none,0,0,false,f,Y,rfl,(Dh S q d h).below k.o (((Ag _ _).alloc (Al _) _).alloc (by simp) _).drew,λb hb=>Ae hb,λh=>h,(((Ak.refl _ _).alloc _).alloc _).drew,Ad ⟨rfl,λ_=>m.o⟩⟩
theorem fZ {f:Value} (g:BN h) (hi:i<h.length) {k:Bool} (s:BX S q f h k Y' w1) (hk:∀b,Y' b->WS.heap[b]? = w1.heap[b]?) {y:Tm} (hy:y=stood h i h.length hi) (m:∀b,Z b->b<WS.heap.size/\b≠S/\b≠q) (hs:Sl WS Z a' y.args) (ab:h[i].1=nm):
  ∃c,(Instr.mapUpdate 174 (.map (some q)) (.string nm) (.agg #[.string y.name,.slice a' y.args.length c',zA (h.length:Int)])).run prog WS=.ok () c/\BX S q f h k (λb=>Y' b∨Z b) c/\c.heap.size=WS.heap.size/\c.os=WS.os/\c.tape=WS.tape/\c.output=WS.output/\∀b,b≠q->c.heap[b]? = WS.heap[b]? := by
 have t:=(Dh S q f h).keep _ _ _ _ s hk;obtain⟨⟨L,d,n,o⟩,u,v,x,z⟩:=t;obtain⟨v0,A,_⟩:=o.get g hi;have B:S≠q:=λe=>by
  obtain⟨es,ag,h1,_⟩:=n;subst e;unfold Ac at d;rw[h1]at d; cases d
 obtain⟨c,h1,h2,h3,C,D,h6,j⟩:=RC (P:=prog) underlying174 underlying9 n h[i].1 (.agg #[.string y.name,.slice a' y.args.length c',zA (h.length:Int)]) v0 A;refine⟨c,by rw[<-ab]; exact h1,⟨⟨_,?_,h2,?_⟩,Ae u,Ae v,λb hb=>?_,z⟩,h3,C,D,h6,j⟩
 ·unfold Ac at *; rw[j S B]; exact d
 ·have kp:∀(X:Nat->Prop) a l,(∀b,X b->(Y' b∨Z b)/\b≠S/\b≠q)->Sl WS X a l->Sl c (λb=>(Y' b∨Z b)/\b≠S/\b≠q) a l:=λX a l r aa=>(aa.kept λb hb=>j b (r b hb).2.2).mono λb hb _=>r b hb;refine(o.imp λa l aa=>kp _ a l (λb hb=>⟨Ae hb.1,hb.2⟩) aa).set g hi ⟨h.length,a',c',Al _,?_,?_⟩
  ·rw[Nat.max_eq_left (by omega),<-hy]
  ·rw[Nat.max_eq_left (by omega),<-hy];exact kp _ _ _ (λb hb=>⟨Ad hb,(m b hb).2⟩) hs
 ·rw[h3];rcases hb with hb|hb
  ·exact x b hb
  ·exact(m b hb).1
theorem gA {g:Bool} (i:BX S q d h g Y' w1) (hk:∀b,Y' b->WS.heap[b]? = w1.heap[b]?) (j:Bm (Ar h)=true) (k:∀b,Z b->b<WS.heap.size/\b≠S/\b≠q):BX S q d h true (λb=>Y' b∨Z b) (WS.setCell (zD S 2) (.bool true)):=by
 have ab:=(Dh S q d h).keep _ _ _ _ i hk;obtain⟨⟨L,c,f,m⟩,n,o,r,e7⟩:=ab;have s:S≠q:=λe=>by
  obtain⟨es,af,h1,_⟩:=f;subst e;unfold Ac at c;rw[h1]at c; cases c
 have aa:∀b,b≠S->(WS.setCell (zD S 2) (.bool true)).heap[b]? = WS.heap[b]? := λb hb=>An _ _ _ _ (by simpa using hb);refine⟨⟨L,?_,f.kept (aa q (EI s)),m.imp λa l t=>(t.kept λb hb=>aa b hb.2.1).mono λb hb _=>⟨Ae hb.1,hb.2⟩⟩,Ae n,Ae o,λb hb=>?_,λ_=>j⟩
 ·have:=c.set 2 (.bool true);simpa using this
 ·have hz:(WS.setCell (zD S 2) (.bool true)).heap.size=WS.heap.size:=by simp[World.setCell]
  rw[hz];rcases hb with hb|hb
  ·exact r b hb
  ·exact(k b hb).1
theorem gB (S q:Nat) (d:Value) (h:List (ByteArray×Tm)) (g:BN h) (hN:GH h) (i:Nat) (hi:i<h.length)
  (aq:∀k (hk:k<h.length),i<k->Hc (BX S q d h) (BZ S q) S (As (Ar h) h[k].1) h[k].1):Hc (BX S q d h) (BZ S q) S (As (Ar h) h[i].1) h[i].1:=by
 intro f Y w hE;have G:=Aa hE;obtain⟨⟨L,l,u,C⟩,bg,bh,hY,hg⟩:=hE;obtain⟨v,D,aC⟩:=C.get g hi;obtain⟨T,j,a,c,hT,hj,rfl,aD⟩:=TU aC;have bj:=Aa C;have H:=Aa aD;have aR:=Aa D;have aS:=Aa u;have HG:=Aa hg;have HY:=Aa hY;have hz:∀w',(zeroValue 215).run prog w'=.ok (.agg #[.string ⟨#[]⟩,zB,zA 0]) w':=λw'=>zeroValue215 w';have I:=u.lt;have aT:=l.lt;have hF:=Ke g hi;obtain⟨nm,J⟩:∃nm,h[i].1=nm:=⟨_,rfl⟩;rw[J]at D hF aR ⊢;have HF:=Aa hF;clear hF;have aU:=Aa J;have M:=Aa hT;have bk:S≠q:=λe=>by
  obtain⟨es,bl,h1,_⟩:=u;subst e;unfold Ac at l;rw[h1]at l; cases l
 have HB:=Aa l;have b1:∀o o',((w.alloc o).alloc o').cell? (zD S 1)=some (.map (some q)):=λo o'=>((l.alloc o).alloc o').cell 1;have bm:∀o,(w.alloc o).cell? (zD S 1)=some (.map (some q)):=λo=>(l.alloc o).cell 1;have b2:∀o o',((w.alloc o).alloc o').cell? (zD S 2)=some (.bool f):=λo o'=>((l.alloc o).alloc o').cell 2;have bn:∀o,(Instr.lookup 174 (.map (some q)) (.string nm) true).run prog (w.alloc o)=.ok (.tuple #[.agg #[.string T.name,.slice a T.args.length c,zA j],.bool true]) (w.alloc o):=λo=>by
  rw[El (P:=prog) underlying174 underlying9 (hz _) (u.kept (Ay _ _ _ I)) nm,D]; rfl
 have aV:Hid (L.length=h.length):=C.1;have hlen:∀o o',Sem.run prog (Builtin.len_ #[174] 3 #[.map (some q)]) ((w.alloc o).alloc o').drew=.ok (zA (h.length:Int)) ((w.alloc o).alloc o').drew:=λo o'=>by
  have h1:AO ((w.alloc o).alloc o').drew q L:=aS.o.below ((((Ag w.heap.size w).alloc (Al _) o).alloc (by simp) o').drew) I;rw[LB underlying174 h1,aV.o]
 clear l C hg hY aD D aC J hT u;cases f with
 |true=>
  go_enter func155,ntmps155;go_wp2_with fail;go_region
  all_goals go_wp2_with fail
  all_goals
   refine Aq (v:=.tuple #[.agg (zF T a c),.bool true]) (by simp[results,results155,go_sem]) rfl ?_;exact⟨T.name,a,T.args.length,c,true,true,Y,rfl,(Dh S q d h).below G.o (((Ag _ _).alloc (Al _) _).alloc (by simp) _).drew,λb hb=>Ae hb,λh=>h,(((Ak.refl _ _).alloc _).alloc _).drew,Ae ⟨rfl,T,rfl,rfl,(H.o.later (((Ag _ _).alloc (Al _) _).alloc (by simp) _).drew).mono λb hb _=>hb.1,λh=>by cases h⟩⟩
 |false=>
  by_cases r:j=h.length
  ·have HJ:=Aa r;have aW:Hid (As (Ar h) nm=some T):=Aa (by rw[HF.o,M.o,r,Nat.max_eq_left (by omega)]);have aX:((j:Int)==(h.length:Int))=true:=by rw[r]; simp
   clear r;go_enter func155,ntmps155;go_wp2_with fail;go_region
   all_goals go_wp2_with fail
   all_goals
    refine Aq (v:=.tuple #[.agg (zF T a c),.bool true]) (by simp[results,results155,go_sem]) rfl ?_;exact⟨T.name,a,T.args.length,c,true,false,Y,rfl,(Dh S q d h).below G.o (((Ag _ _).alloc (Al _) _).alloc (by simp) _).drew,λb hb=>Ae hb,λh=>h,(((Ak.refl _ _).alloc _).alloc _).drew,Ae ⟨rfl,T,rfl,rfl,(H.o.later (((Ag _ _).alloc (Al _) _).alloc (by simp) _).drew).mono λb hb _=>hb.1,λ_=>aW.o⟩⟩
  ·have HJ:=Aa r;have aX:((j:Int)==(h.length:Int))=false:=FY.2 (by omega);clear r;go_enter func155,ntmps155;go_wp2_with fail;go_region
   go_wp2_with fail;have N:Hid (Below w.heap.size w ((w.alloc zc).alloc (zh #[.string T.name,.slice a T.args.length c,zA (h.length:Int)] 215)).drew):=(((Ag _ _).alloc (Al _) _).alloc (by simp) _).drew;have R0:Hid (Ac ((w.alloc zc).alloc (zh #[.string T.name,.slice a T.args.length c,zA (h.length:Int)] 215)).drew w.heap.size zd 31):=((Ac.new w _ _).alloc _).drewN 1;have X0:Hid (Ac ((w.alloc zc).alloc (zh #[.string T.name,.slice a T.args.length c,zA (h.length:Int)] 215)).drew (w.heap.size+1) #[.string T.name,.slice a T.args.length c,zA (h.length:Int)] 215):=by
    have h1:=Ac.new (w.alloc zc) #[.string T.name,.slice a T.args.length c,zA (h.length:Int)] 215;rw[Cp]at h1;exact h1
   have z0:((w.alloc zc).alloc (zh #[.string T.name,.slice a T.args.length c,zA (h.length:Int)] 215)).drew.heap.size=w.heap.size+2:=(by simp);generalize ((w.alloc zc).alloc (zh #[.string T.name,.slice a T.args.length c,zA (h.length:Int)] 215)).drew=w0 at *;have aY:Hid (C6 (As (Ar h)) T=stood h i h.length hi):=Aa (by rw[M.o];exact fP g hN hi (Nat.max_le.2 ⟨hj,hi⟩));have O:=TT S q d h T a c w0 (λb=>Y b/\b≠S/\b≠q) Y false (λb hb hm=>by rcases hm with h|h; exact hb.2.1 h; exact hb.2.2 h) (H.o.later N.o) ((Dh S q d h).below G.o N.o) (λn2 ho hv=>by
    by_cases aE:∃k,∃hk:k<h.length,h[k].1=n2
    ·obtain⟨k,hk,rfl⟩:=aE;rw[M.o]at ho;have h1:=fH g hi (Nat.max_le.2 ⟨hj,hi⟩) (hN i hi) hk ho;exact aq k hk (by omega)
    ·exact TW S q d h g n2 λk hk e=>aE ⟨k,hk,e⟩)
   rw[aY.o]at O;refine O.mono ?_;clear O;rintro e w1 ⟨y,a',c',ok,f',Y',rfl,aF,ag,aZ,hx,aG,aH,aI⟩;have aJ:Hid (Ak (BZ S q) w w1):=(Ak.ofBelow N.o).trans hx;have R:∀b,BZ S q b->b<w.heap.size:=λb hb=>by rcases hb with rfl|rfl; exact aT; exact I
   have U:=Aa (R0.o.exq hx (λh=>by have:=R _ h; omega));have m:=Aa (X0.o.exq hx (λh=>by have:=R _ h; omega));have bo:Hid (w.heap.size+2<=w1.heap.size):=Aa (by have:=hx.size;omega);have ab:Hid (∀b,Y' b->Y b∨w.heap.size+2<=b):=λb hb=>(ag b hb).imp id λh=>by omega
   have V:Hid (Sl w1 (λb=>w.heap.size+2<=b/\b<w1.heap.size) a' y.args):=aG.mono λb hb h2=>⟨by omega,h2⟩;have x:=Aa aF;have E:Hid (∀b,Y' b->b≠w.heap.size/\b≠w.heap.size+1):=λb hb=>by
    rcases ab.o b hb with h1|h1
    ·have:=HY.o b h1; omega
    ·omega
   have x0:=m.o.c0;have x1:=m.o.c1;have x2:=m.o.c2;have xf:=m.o.frozen;have aK:=Aa aH;have W:=Aa aI;clear ag hx aG aH aI aF aZ R;cases ok with
   |true=>
    obtain⟨rfl,aL,ba⟩:=aK.o rfl;have aM:=Aa aL;clear aL ba aK W;have aa:∀b,b≠w.heap.size+1->((w1.setCell (zD (w.heap.size+1) 0) (.string y.name)).setCell (zD (w.heap.size+1) 1) (.slice a' y.args.length c')).drew.heap[b]? = w1.heap[b]? := λb hb=>by
     show((w1.setCell (zD (w.heap.size+1) 0) (.string y.name)).setCell (zD (w.heap.size+1) 1) (.slice a' y.args.length c')).heap[b]? = _;rw[An _ _ _ _ (by simpa using hb),An _ _ _ _ (by simpa using hb)]
    have s:((w1.setCell (zD (w.heap.size+1) 0) (.string y.name)).setCell (zD (w.heap.size+1) 1) (.slice a' y.args.length c')).drew.heap.size=w1.heap.size:=(by simp[World.setCell]);obtain⟨n,bb,aN,a1,aO,aP,aQ,z⟩:=fZ (WS:=((w1.setCell (zD (w.heap.size+1) 0) (.string y.name)).setCell (zD (w.heap.size+1) 1) (.slice a' y.args.length c')).drew) (Z:=λb=>w.heap.size+2<=b/\b<w1.heap.size) (c':=c') g hi x.o (λb hb=>aa b (E.o b hb).2) aM.o (λb hb=>⟨by rw[s]; exact hb.2,by omega,by omega⟩) (V.o.kept λb hb=>aa b (by omega)) aU.o;have a6:=Aa aN;have A:Hid (Ac n (w.heap.size+1) #[.string y.name,.slice a' y.args.length c',zA (h.length:Int)] 215):=Aa (by have h1:=(m.o.set 0 (.string y.name)).set 1 (.slice a' y.args.length c');unfold Ac;rw[z _ (by omega)];show((w1.setCell (zD (w.heap.size+1) 0) (.string y.name)).setCell (zD (w.heap.size+1) 1) (.slice a' y.args.length c')).heap[w.heap.size+1]? = _;unfold Ac at h1;rw[h1];simp);have t:Hid (Ac n w.heap.size zd 31):=Aa (by unfold Ac;rw[z _ (by omega),aa _ (by omega)];exact U.o);have a7:Hid (Ak (BZ S q) w n):=(by have h1:=((aJ.o.setNew (b:=w.heap.size+1) (by omega) 0 (.string y.name)).setNew (b:=w.heap.size+1) (by omega) 1 (.slice a' y.args.length c')).drew;exact⟨aO.trans h1.os,aP.trans h1.tape,aQ.trans h1.output,by rw[a1]; exact h1.size,λb hb hn=>(z b (λe=>hn (Ad e))).trans (h1.block b hb hn)⟩);have s1:((w1.setCell (zD (w.heap.size+1) 0) (.string y.name)).setCell (zD (w.heap.size+1) 1) (.slice a' y.args.length c')).cell? (zD S 1)=some (.map (some q)):=(by obtain⟨⟨L1,F,_⟩,_⟩:=x.o;exact((F.setOther _ _ (by omega)).setOther _ _ (by omega)).cell 1);have y0:((w1.setCell (zD (w.heap.size+1) 0) (.string y.name)).setCell (zD (w.heap.size+1) 1) (.slice a' y.args.length c')).cell? (zD (w.heap.size+1) 0)=some (.string y.name):=(by have:=((m.o.set 0 (.string y.name)).set 1 (.slice a' y.args.length c')).cell 0;simpa using this);have y1:((w1.setCell (zD (w.heap.size+1) 0) (.string y.name)).setCell (zD (w.heap.size+1) 1) (.slice a' y.args.length c')).cell? (zD (w.heap.size+1) 1)=some (.slice a' y.args.length c'):=(by have:=((m.o.set 0 (.string y.name)).set 1 (.slice a' y.args.length c')).cell 1;simpa using this);have y2:((w1.setCell (zD (w.heap.size+1) 0) (.string y.name)).setCell (zD (w.heap.size+1) 1) (.slice a' y.args.length c')).cell? (zD (w.heap.size+1) 2)=some (zA (h.length:Int)):=(by have:=((m.o.set 0 (.string y.name)).set 1 (.slice a' y.args.length c')).cell 2;simpa using this);have q0:=A.o.c0;have q1:=A.o.c1;have r0:=t.o.c0;have r1:=t.o.c1;have rf:=t.o.frozen;have bp:Hid (n.heap.size=w1.heap.size):=Aa (by rw[a1,s]);have a8:Hid (Sl n (λb=>w.heap.size+2<=b/\b<w1.heap.size) a' y.args):=(V.o.kept λb hb=>aa b (by omega)).kept λb hb=>z b (by omega);clear aN a1 aO aP aQ z s aa;go_wp2_with fail;go_region
    all_goals go_wp2_with fail
    all_goals
     refine Aq (v:=.tuple #[.agg (zF y a' c'),.bool true]) (by simp[results,results155,go_sem,Az,Aw,r0,r1]) rfl ?_;have B:∀b,b≠w.heap.size->((n.setCell (zD w.heap.size 0) (.string y.name)).setCell (zD w.heap.size 1) (.slice a' y.args.length c')).heap[b]? = n.heap[b]? := λb hb=>by
      rw[An _ _ _ _ (by simpa using hb),An _ _ _ _ (by simpa using hb)]
     refine⟨y.name,a',y.args.length,c',true,false,_,rfl,(Dh S q d h).keep _ _ _ _ a6.o (λb hb=>B b ?_),λb hb=>?_,λh=>h,(a7.o.setNew (by omega) _ _).setNew (by omega) _ _,Ae ⟨rfl,y,rfl,rfl,(a8.o.kept λb hb=>B b (by omega)).mono λb hb _=>Ad hb,λ_=>by rw[HF.o,aM.o]⟩⟩
     ·rcases hb with hb|hb
      ·exact(E.o b hb).1
      ·omega
     ·rcases hb with hb|hb
      ·exact(ab.o b hb).imp id λh=>by omega
      ·right; omega
   |false=>
    have bc:Hid (Bm (Ar h)=true):=by
     rcases W.o rfl with h1|h1
     ·exact x.o.2.2.2.2 h1
     ·exact TQ g hi h1
    have aa:∀b,b≠w.heap.size+1->((w1.setCell (zD (w.heap.size+1) 0) (.string y.name)).setCell (zD (w.heap.size+1) 1) (.slice a' y.args.length c')).heap[b]? = w1.heap[b]? := λb hb=>by
     rw[An _ _ _ _ (by simpa using hb),An _ _ _ _ (by simpa using hb)]
    have s:((w1.setCell (zD (w.heap.size+1) 0) (.string y.name)).setCell (zD (w.heap.size+1) 1) (.slice a' y.args.length c')).heap.size=w1.heap.size:=(by simp[World.setCell]);have a6:=Aa (gA (WS:=((w1.setCell (zD (w.heap.size+1) 0) (.string y.name)).setCell (zD (w.heap.size+1) 1) (.slice a' y.args.length c'))) (Z:=λb=>w.heap.size+2<=b/\b<w1.heap.size) x.o (λb hb=>aa b (E.o b hb).2) bc.o (λb hb=>⟨by rw[s]; exact hb.2,by omega,by omega⟩));obtain⟨⟨L1,F,bd,aA⟩,aB,ad⟩:=x.o;have BS:=Aa ((F.setOther (b':=w.heap.size+1) 0 (.string y.name) (by omega)).setOther (b':=w.heap.size+1) 1 (.slice a' y.args.length c') (by omega));have A:=Aa ((m.o.set 0 (.string y.name)).set 1 (.slice a' y.args.length c'));have t:=Aa ((U.o.setOther (b':=w.heap.size+1) 0 (.string y.name) (by omega)).setOther (b':=w.heap.size+1) 1 (.slice a' y.args.length c') (by omega));have a7:=Aa ((aJ.o.setNew (b:=w.heap.size+1) (by omega) 0 (.string y.name)).setNew (b:=w.heap.size+1) (by omega) 1 (.slice a' y.args.length c'));have a8:Hid (Sl ((w1.setCell (zD (w.heap.size+1) 0) (.string y.name)).setCell (zD (w.heap.size+1) 1) (.slice a' y.args.length c')) (λb=>w.heap.size+2<=b/\b<w1.heap.size) a' y.args):=V.o.kept λb hb=>aa b (by omega);have s2:((w1.setCell (zD (w.heap.size+1) 0) (.string y.name)).setCell (zD (w.heap.size+1) 1) (.slice a' y.args.length c')).cell? (zD S 2)=some (.bool f'):=BS.o.cell 2;have sf:=BS.o.frozen 2;have y0:(((w1.setCell (zD (w.heap.size+1) 0) (.string y.name)).setCell (zD (w.heap.size+1) 1) (.slice a' y.args.length c')).setCell (zD S 2) (.bool true)).cell? (zD (w.heap.size+1) 0)=some (.string y.name):=(by have:=(A.o.setOther (b':=S) 2 (.bool true) (by omega)).cell 0;simpa using this);have y1:(((w1.setCell (zD (w.heap.size+1) 0) (.string y.name)).setCell (zD (w.heap.size+1) 1) (.slice a' y.args.length c')).setCell (zD S 2) (.bool true)).cell? (zD (w.heap.size+1) 1)=some (.slice a' y.args.length c'):=(by have:=(A.o.setOther (b':=S) 2 (.bool true) (by omega)).cell 1;simpa using this);have r0:(((w1.setCell (zD (w.heap.size+1) 0) (.string y.name)).setCell (zD (w.heap.size+1) 1) (.slice a' y.args.length c')).setCell (zD S 2) (.bool true)).cell? (zD w.heap.size 0)=some (.string ⟨#[]⟩):=(t.o.setOther (b':=S) 2 (.bool true) (by omega)).cell 0;have r1:(((w1.setCell (zD (w.heap.size+1) 0) (.string y.name)).setCell (zD (w.heap.size+1) 1) (.slice a' y.args.length c')).setCell (zD S 2) (.bool true)).cell? (zD w.heap.size 1)=some (zB):=(t.o.setOther (b':=S) 2 (.bool true) (by omega)).cell 1;have rf:=U.o.frozen;have bq:w.heap.size+1≠S:=(by omega);have bf:w.heap.size≠S:=(by omega);clear F bd aA aB ad W aa s;go_wp2_with fail;refine Aq (v:=.tuple #[.agg (zF y a' c'),.bool true]) (by simp[results,results155,go_sem,Az,Aw,r0,r1]) rfl ?_;have B:∀b,b≠w.heap.size->(((((w1.setCell (zD (w.heap.size+1) 0) (.string y.name)).setCell (zD (w.heap.size+1) 1) (.slice a' y.args.length c')).setCell (zD S 2) (.bool true)).setCell (zD w.heap.size 0) (.string y.name)).setCell (zD w.heap.size 1) (.slice a' y.args.length c')).heap[b]? = (((w1.setCell (zD (w.heap.size+1) 0) (.string y.name)).setCell (zD (w.heap.size+1) 1) (.slice a' y.args.length c')).setCell (zD S 2) (.bool true)).heap[b]? := λb hb=>by
     rw[An _ _ _ _ (by simpa using hb),An _ _ _ _ (by simpa using hb)]
    refine⟨y.name,a',y.args.length,c',true,true,_,rfl,(Dh S q d h).keep _ _ _ _ a6.o (λb hb=>B b ?_),λb hb=>?_,λh=>rfl,((a7.o.set (Ae rfl) _ _).setNew (by omega) _ _).setNew (by omega) _ _,Ae ⟨rfl,y,rfl,rfl,((a8.o.kept λb hb=>An _ _ _ _ (by simp; omega)).kept λb hb=>B b (by omega)).mono λb hb _=>Ad hb,λh=>by cases h⟩⟩
    ·rcases hb with hb|hb
     ·exact(E.o b hb).1
     ·omega
    ·rcases hb with hb|hb
     ·exact(ab.o b hb).imp id λh=>by omega
     ·right; omega
theorem TX (S q:Nat) (a:Value) (h:List (ByteArray×Tm)) (g:BN h) (b:GH h):∀(d i:Nat) (hi:i<h.length),h.length-i<=d->Hc (BX S q a h) (BZ S q) S (As (Ar h) h[i].1) h[i].1
 |0,i,hi,hd=>by omega
 |d+1,i,hi,hd=>gB S q a h g b i hi λk hk aa=>TX S q a h g b d k hk (by omega)
theorem gC (S q:Nat) (a:Value) (h:List (ByteArray×Tm)) (g:BN h) (b:GH h) (nm:ByteArray):Hc (BX S q a h) (BZ S q) S (As (Ar h) nm) nm:=by
 by_cases aa:∃k,∃hk:k<h.length,h[k].1=nm
 ·obtain⟨k,hk,rfl⟩:=aa;exact TX S q a h g b _ k hk (Al _)
 ·exact TW S q a h g nm λk hk e=>aa ⟨k,hk,e⟩
theorem Pv (S q:Nat) (d:Value) (h:List (ByteArray×Tm)) (g:BN h) (i:GH h) (t:Tm) (he:Af [t]=0) (a:Option Addr) (c:Nat) (w:World) (X Y:Nat->Prop) (f:Bool) (aa:∀b,X b->¬BZ S q b) (hs:Sl w X a t.args) (ab:BX S q d h f Y w):
  Calls prog 141 #[zC S,.agg (zF t a c)] w λe w'=>Pt S q d h (Ai (Ar h) t) f Y w e w':=by
 have h1:=TT S q d h t a c w X Y f aa hs ab λnm _ _=>gC S q d h g i nm;rw[TK g.all.vars he]at h1;exact h1
theorem TY {α:Type}:∀(l V:List α),l.Nodup->(∀x∈l,x∈V)->l.length<=V.length
 | [],V,_,_=>by simp
 |a::l,V,h,hs=>by
  classical
  obtain⟨h1,h2⟩:=List.nodup_cons.1 h;have ih:=TY l (V.filter λx=>decide (x≠a)) h2 λx hx=>L9.2 ⟨hs x (by simp[hx]),by simp; rintro rfl; exact h1 hx⟩;have b:=Po (p:=λ_=>true) (q:=λx=>decide (x≠a)) V (λ_ _ _=>rfl) ⟨a,hs a (by simp),rfl,by simp⟩;have e:V.filter (λ_=>true)=V:=List.filter_eq_self.2 (by simp);rw[e]at b;simp only[Bg];omega
structure UI (V:List ByteArray) (h:List (ByteArray×Tm)) (l:List Pr):Prop where
 good:BN h
 names:GH h
 inV:∀i (hi:i<h.length),h[i].1∈V
 err:Af (AB l)=0
 vars:∀y,Aj y=true->Ax y (At (Ar h) (AB l))->y∈V
 size:∀p∈l,Ab [p.l]<=2000/\Ab [p.r]<=2000
 len:∃l1 l2,l=l1++l2/\(∀p∈l1,Ai (Ar h) p.l=p.l/\Ai (Ar h) p.r=p.r)/\Ab (l1.map (·.l))<=2000/\l2.length<=40+2000*h.length
theorem UI.hlen {l:List Pr} (u:UI V h l):h.length<=V.length:=by
 have h1:=TY (h.map (·.1)) V ?_ ?_
 ·simpa using h1
 ·rw[QM,Jz,Md];intro i j hi hj aa e;have:=u.good.once hi hj e;omega
 ·intro x hx;obtain⟨p,hp,rfl⟩:=Bk.1 hx;obtain⟨i,hi,rfl⟩:=Hi hp;exact u.inV i hi
theorem Pw:∀l:List Pr,l.length<=Ab (l.map (·.l))
 | []=>by simp
 |p::l=>by
  have:=Pw l;rw[Bo,Fw];have:=MU p.l;simp only[Bg];omega
theorem UI.llen {l:List Pr} (u:UI V h l):l.length<=2040+2000*V.length:=by
 obtain⟨l1,l2,rfl,_,h2,h3⟩:=u.len;have h4:=Pw l1;have a:=u.hlen;rw[Cv];have:2000*h.length<=2000*V.length:=Nat.mul_le_mul_left _ a;omega
theorem UI.start {l:List Pr} (he:Af (AB l)=0) (hs:∀p∈l,Ab [p.l]<=2000/\Ab [p.r]<=2000) (a:l.length<=40):UI ((Ap (At [] (AB l))).map (·.name)) [] l:=
 ⟨fF,λi hi=>by simp at hi,λi hi=>by simp at hi,he,λy _ ho=>by obtain⟨k,hk,e⟩:=ho; exact Bk.2 ⟨k,hk,e⟩,hs,[],l,rfl,by simp,by simp[Ab],by simpa using a⟩
theorem UI.drop {l:List Pr} (u:UI V h (p::l)):UI V h l:=by
 obtain⟨g1,g2,g3,g4,g5,g6,l1,l2,e,g7,g8,g9⟩:=u;rw[AB]at g4 g5;refine⟨g1,g2,g3,(CA.1 (CA.1 g4).2).2,λy hy ho=>g5 y hy ?_,λq hq=>g6 q (by simp[hq]),?_⟩
 ·rw[AY,AY];exact BM.2 (Ad (BM.2 (Ad ho)))
 ·cases l1 with
  |nil=>
   cases l2 with
   |nil=>cases e
   |cons q l2=>simp only[CE,Hj] at e;obtain⟨rfl,rfl⟩:=e;simp only[Bg] at g9;exact⟨[],l,rfl,by simp,by simp[Ab],by omega⟩
  |cons q l1=>simp only[Bj,Hj] at e;obtain⟨rfl,rfl⟩:=e;rw[Bo,Fw]at g8;exact⟨l1,l2,rfl,λq hq=>g7 q (by simp[hq]),by omega,g9⟩
theorem UI.head {l:List Pr} (u:UI V h (p::l)):Af [p.l]=0/\Af [p.r]=0:=by
 have g:=u.err;rw[AB]at g;exact⟨(CA.1 g).1,(CA.1 (CA.1 g).2).1⟩
theorem ID (u:Tm):Ax u.name [u]:=by obtain⟨n,k⟩:=u; exact Dg.2 (Ae rfl)
theorem Hd {u:Tm} (h:Ax y u.args):Ax y [u]:=by obtain⟨n,k⟩:=u; exact Dg.2 (Ad (Ae h))
theorem Gi {u:Tm} (h:Af [u]=0):Af u.args=0:=by obtain⟨n,k⟩:=u; exact(Ha h).2.1
theorem LC (u:Tm):Ab [u]=1+Ab u.args:=by obtain⟨n,k⟩:=u; simp[Ab]
theorem TZ {u:Tm} (h:Af [u]=0):AF u.name=true:=by obtain⟨n,k⟩:=u; exact Lx h
theorem UI.bindV {l:List Pr} (u:UI V h (p::l)) (hx:Aj x=true) (aa:(x=(Ai (Ar h) p.l).name/\t=Ai (Ar h) p.r)∨(x=(Ai (Ar h) p.r).name/\t=Ai (Ar h) p.l)) (ho:¬Bb x (AN [] (Ap [t]))=true):
  Ia (Ar h) x t/\UI V (h++[(x,t)]) l:=by
 have ok:=u.good.all;obtain⟨b,c⟩:=u.head;have f:=DG ok b;have g:=DG ok c;have j:=ok.goneT b;have k:=ok.goneT c;have a:=u.vars;rw[AB,AY,AY]at a;have m:Af (AB l)=0:=u.drop.err;have both:(∀d∈Ar h,d.nm≠x)/\Af [t]=0/\(∀e∈Ar h,¬Ax e.nm [t])/\AF x=true/\x∈V/\(∀y,Ax y [t]->Ax y (Ai (Ar h) p.l::Ai (Ar h) p.r::At (Ar h) (AB l))):=by
  rcases aa with ⟨rfl,rfl⟩|⟨rfl,rfl⟩
  ·exact⟨λd hd e=>j d hd (by rw[e]; exact ID _),g,k,TZ f,a _ hx (BM.2 (Ae (ID _))),λy hy=>BM.2 (Ad (BM.2 (Ae hy)))⟩
  ·exact⟨λd hd e=>k d hd (by rw[e]; exact ID _),f,j,TZ g,a _ hx (BM.2 (Ad (BM.2 (Ae (ID _))))),λy hy=>BM.2 (Ae hy)⟩
 obtain⟨n,o,q,b4,b5,s⟩:=both;have hoc:=Lz hx ho;have may:Ia (Ar h) x t:=⟨hx,n,o,q,hoc⟩;obtain⟨f1,f2,f3⟩:=Pp (L:=AB l) ok hx n o q hoc m;refine⟨may,u.good.snoc may,λi hi=>?_,λi hi=>?_,m,λy hy hoc=>?_,u.drop.size,[],l,rfl,by simp,by simp[Ab],?_⟩
 ·by_cases e:i<h.length
  ·rw[JB e]; exact u.names i e
  ·have:i=h.length:=by simp at hi; omega
   subst this;simpa using b4
 ·by_cases e:i<h.length
  ·rw[JB e]; exact u.inV i e
  ·have:i=h.length:=by simp at hi; omega
   subst this;simpa using b5
 ·rw[Je]at hoc;rcases f2 y hy hoc with h1|h1
  ·exact a y hy (BM.2 (Ad (BM.2 (Ad h1))))
  ·exact a y hy (s y h1)
 ·obtain⟨l1,l2,e,g7,g8,g9⟩:=u.len;have h4:=Pw l1;have h5:l.length+1=l1.length+l2.length:=by rw[<-Cv,<-e]; simp
  simp only[Cv,Bg,DB];omega
theorem Na:∀ {a b:List Tm} {p:Pr},p∈AE a b->p.l∈a/\p.r∈b
 | [],_,p,h=>by simp[AE] at h
 |_::_,[],p,h=>by simp[AE] at h
 |t::a,u::b,p,h=>by
  rw[AE]at h;rcases Bh.1 h with rfl|h
  ·exact⟨by simp,by simp⟩
  ·have:=Na h;exact⟨by simp[this.1],by simp[this.2]⟩
theorem Px:∀ {a b:List Tm},a.length=b.length->(AE a b).map (·.l)=a
 | [],[],_=>rfl
 | [],_::_,h=>by simp at h
 |_::_,[],h=>by simp at h
 |t::a,u::b,h=>by rw[AE,Bo,Px (by simpa using h)]
theorem T6 (h:t∈l):Ab [t]<=Ab l:=by
 induction l with
 |nil=>cases h
 |cons a r b=>
  have hc:=Fw a r;rcases Bh.1 h with rfl|h
  ·omega
  ·have:=b h; omega
theorem LD (h:∀e∈s,¬Ax e.nm [t]):Ai s t=t:=by
 have h1:=I9 [t] h;rw[AY]at h1;simpa [At] using h1
theorem T7 (h:t∈l) (ho:Ax y [t]):Ax y l:=by
 induction l with
 |nil=>cases h
 |cons a r b=>
  rcases Bh.1 h with rfl|h
  ·exact BM.2 (Ae ho)
  ·exact BM.2 (Ad (b h))
theorem UI.deep {l:List Pr} (u:UI V h (p::l)) (ha:Ab [Ai (Ar h) p.l]<=2000) (hb:Ab [Ai (Ar h) p.r]<=2000) (b:(Ai (Ar h) p.l).args.length=(Ai (Ar h) p.r).args.length):
  UI V h (AE (Ai (Ar h) p.l).args (Ai (Ar h) p.r).args++l)/\∀q∈AE (Ai (Ar h) p.l).args (Ai (Ar h) p.r).args,Ai (Ar h) q.l=q.l/\Ai (Ar h) q.r=q.r:=by
 have ok:=u.good.all;obtain⟨c,d⟩:=u.head;have i:=DG ok c;have j:=DG ok d;have f:=ok.goneT c;have g:=ok.goneT d;have a:=u.vars;rw[AB,AY,AY]at a;have aa:∀q∈AE (Ai (Ar h) p.l).args (Ai (Ar h) p.r).args,Ai (Ar h) q.l=q.l/\Ai (Ar h) q.r=q.r:=λq hq=>by
  obtain⟨m1,m2⟩:=Na hq;exact⟨LD λe he ho=>f e he (Hd (T7 m1 ho)),LD λe he ho=>g e he (Hd (T7 m2 ho))⟩
 have k:=LC (Ai (Ar h) p.l);have sb:=LC (Ai (Ar h) p.r);refine⟨⟨u.good,u.names,u.inV,?_,λy hy ho=>?_,λq hq=>?_,?_⟩,aa⟩
 ·rw[HH];exact Jb.2 ⟨Kc (Gi i) (Gi j),u.drop.err⟩
 ·rw[HH,K0]at ho;rcases M6.1 ho with ho|ho
  ·rw[I9]at ho
   ·rcases Jc ho with ho|ho
    ·exact a y hy (BM.2 (Ae (Hd ho)))
    ·exact a y hy (BM.2 (Ad (BM.2 (Ae (Hd ho)))))
   ·intro e he hoc;rcases Jc hoc with hoc|hoc
    ·exact f e he (Hd hoc)
    ·exact g e he (Hd hoc)
  ·exact a y hy (BM.2 (Ad (BM.2 (Ad ho))))
 ·rcases Ba.1 hq with hq|hq
  ·obtain⟨m1,m2⟩:=Na hq;have:=T6 m1;have:=T6 m2;omega
  ·exact u.size q (by simp[hq])
 ·obtain⟨l1,l2,e,g7,g8,g9⟩:=u.len;cases l1 with
  |nil=>
   cases l2 with
   |nil=>cases e
   |cons q l2=>simp only[CE,Hj] at e;obtain⟨rfl,rfl⟩:=e;simp only[Bg] at g9;exact⟨_,l,rfl,aa,by rw[Px b]; omega,by omega⟩
  |cons q l1=>
   simp only[Bj,Hj] at e;obtain⟨rfl,rfl⟩:=e;rw[Bo,Fw]at g8;have hp:=(g7 p (by simp)).1;refine⟨AE (Ai (Ar h) p.l).args (Ai (Ar h) p.r).args++l1,l2,by rw[DN],λq hq=>?_,?_,g9⟩
   ·rcases Ba.1 hq with hq|hq
    ·exact aa q hq
    ·exact g7 q (by simp[hq])
   ·rw[CI,Ej,Px b];rw[hp]at k ⊢;omega
def Py:Prop:=∀(q:Nat) (L:List (ByteArray×Value)) (w:World),AO w q L->(L.map (·.1)).Pairwise (·≠·)->(∀p∈L,p.1.size<=8)->L.length<=1000000->
 (Calls prog 140 #[.map (some q)] w λe w'=>e=.returned (.func (.func 154) #[] #[zC w.heap.size])/\w'=w.alloc (zh #[.map (some q)] 174))/\
 (Calls prog 139 #[.func (.func 154) #[] #[zC w.heap.size]] (w.alloc (zh #[.map (some q)] 174)) λe w'=>∃(v:Value) (nl:List ByteArray),e=.returned v/\nl.Perm (L.map (·.1))/\(nl.Pairwise λa b=>B8 b a=false)/\LV Value.string w' (λb=>w.heap.size+1<=b) v nl/\Below (w.heap.size+1) (w.alloc (zh #[.map (some q)] 174)) w')
theorem gD (a b c:Value) (w:World):Sem.run prog (Instr.field 215 (.agg #[a,b,c]) 0) w=.ok (.agg #[a,b]) w:=by
 rfl
theorem gE {N:Nat} {cs:List Bc} (h:CQ w N Y v cs) (c:N<=w.heap.size) (d:∀b,Y b->b<N) (hb:Below w.heap.size w w1) (x:Bc) (ht:Sl w1 (λb=>Y b∨w.heap.size<=b) x.2.1 x.1.t.args) (hn:cs.length<=1000000) (A:Nat) (f:w1.heap.size=A):
  ∃v2 w3,(Builtin.append_ #[89,89] 89 #[v,.slice (some (zD A 0)) 1 1]).run prog (w1.alloc (zh #[.string x.1.nm,.string x.1.t.name,.slice x.2.1 x.1.t.args.length x.2.2] 155))=.ok v2 w3/\CQ w3 N Y v2 (cs++[x])/\
   (w1.alloc (zh #[.string x.1.nm,.string x.1.t.name,.slice x.2.1 x.1.t.args.length x.2.2] 155)).grownBy w3 v.ownBlock/\∀k,v2.ownBlock=some k->v.ownBlock=some k∨w1.heap.size<=k:=by
 subst f;obtain⟨i0,hi,ab,i,j⟩:=DO Tryz.infoBind;have hs:=hb.size;obtain⟨g,cap,w3,l,ho,a,aa,hlt⟩:=run_append_lies (P:=prog) (w:=w1.alloc (zh #[.string x.1.nm,.string x.1.t.name,.slice x.2.1 x.1.t.args.length x.2.2] 155)) 89 89 N 155 i0 _ 3 56 underlying89 hi ab i j rfl (by decide) v cs.length (DS cs) ((h.below hb).own.alloc _)
  (zD w1.heap.size 0) 1 1 (F6 x) rfl (YK _ _ _ _ _) (λy hy=>by simp[F6] at hy; rcases hy with rfl|rfl|rfl<;>rfl) (by decide) (by unfold maxLen; omega) (by omega) (by simp; omega) _ rfl
 refine⟨_,w3,l,h.push c d hb ht _ rfl ho a aa,a,λk hk=>?_⟩;have e:g=k:=by simpa [Value.ownBlock] using hk
 rcases aa with h1|h1
 ·exact Ae (by rw[h1,e])
 ·right; simp at h1; omega
def Ic (s:List Bd) (n:ByteArray):Bd:=⟨n,(As s n).getD ⟨n,[]⟩⟩
def gF (S q:Nat) (td:Value) (h:List (ByteArray×Tm)) (nl:List ByteArray) (Y:Nat->Prop) (w2:World) (u i:Value) (wr:World):Prop:=
 ∃(k:Nat) (f':Bool) (Y':Nat->Prop) (cs:List Bc),k<=nl.length/\i=zA k/\CQ wr w2.heap.size (λ_=>False) u cs/\cs.map (·.1)=(nl.take k).map (Ic (Ar h))/\(∀x∈cs,Ab [x.1.t]<=2000)/\BX S q td h f' Y' wr/\(∀b,Y' b->Y b∨w2.heap.size<=b)/\(∀b,Y' b->some b≠u.ownBlock)/\Ak (BZ S q) w2 wr
def gG (h:List (ByteArray×Tm)) (S q:Nat) (w:World) (e:Ending) (w':World):Prop:=
 Ak (BZ S q) w w'/\((Bm (Ar h)=true/\e=.returned (.tuple #[zB,.bool false]))∨(Bm (Ar h)=false/\∃v,e=.returned (.tuple #[v,.bool true])/\BV w' (λb=>w.heap.size<=b) v (Ar h)))
theorem gH:∀ {h:List (ByteArray×Tm)},BN h->FF (Ar h):=fun {h} g=>by
 rcases List.eq_nil_or_concat h with rfl|⟨k,p,rfl⟩
 ·simp[Ar,FF]
 ·rw[List.concat_eq_append]at g ⊢;rw[Je];have hk:k.length<(k++[p]).length:=by simp
  have m:=g k.length hk;rw[Hl (Al _),D8]at m;have gk:=g.ok k.length (by simp);rw[Hl (Al _),D8]at gk;have m2:∀d∈Ar k,d.nm≠p.1:=λd hd=>by
   have:=m.2.1 d hd;simpa using this
  exact Tp _ (Pm gk.1 m2)
theorem gI (g:BN h) {nl:List ByteArray} (hp:nl.Perm (h.map (·.1))) (ho:nl.Pairwise λa b=>B8 b a=false):nl.map (Ic (Ar h))=Ar h:=by
 have ok:=g.all;have c:(h.map (·.1)).Nodup:=(by rw[QM,Jz,Md];intro i j hi hj ag e;have:=g.once hi hj e;omega);have ah:nl.Nodup:=hp.symm.nodup c;have aa:(nl.map (Ic (Ar h))).Perm (Ar h):=by
  have h1:((h.map (·.1)).map (Ic (Ar h))).Perm (Ar h):=by
   refine(List.perm_ext_iff_of_nodup ?_ ?_).2 λd=>?_
   ·rw[QM,Jz];refine(QM.1 c).imp fun {a b} ab e=>ab ?_;have:=Cb Bd.nm e;exact this
   ·exact(List.Pairwise.imp (fun {a b} ab e=>ab (by rw[e])) ok.1:(Ar h).Pairwise (·≠·))
   ·constructor
    ·intro hd;obtain⟨n,f,rfl⟩:=Bk.1 hd;obtain⟨p,k,rfl⟩:=Bk.1 f;obtain⟨i,hi,rfl⟩:=Hi k;obtain⟨d,l,m,o⟩:=FJ (Ke g hi);have:Ic (Ar h) h[i].1=d:=by
      unfold Ic;rw[Ke g hi,Option.getD_some,<-o,<-m]
     rw[this]; exact l
    ·intro hd;have h2:=(g.bound h.length (Al _) d.nm).1 ⟨d,by rw[D8]; exact hd,rfl⟩;obtain⟨i,hi,_,e⟩:=h2;refine Bk.2 ⟨d.nm,Bk.2 ⟨h[i],AM hi,e⟩,?_⟩;unfold Ic;rw[MX ok.1 hd,Option.getD_some]
  exact(hp.map _).trans h1
 refine XI aa (XJ (ok.1.perm aa) ?_) (gH g);rw[Jz];exact ho
theorem T8 (bb:Hid Py) (S q:Nat) (a:Value) (h:List (ByteArray×Tm)) (g:BN h) (z:GH h) (hh:h.length<=1000000) (w:World) (Y:Nat->Prop) (f:Bool) (hE:BX S q a h f Y w):
  Calls prog 122 #[zC S] w λe w'=>gG h S q w e w':=by
 have HE:=Aa hE;obtain⟨⟨L,H,I,A⟩,b9,bA,hY,hg⟩:=hE;have bB:=H.lt;have bC:=I.lt;have bc:=A.1;have HY:=Aa hY;have aB:Hid (L.map (·.1)=h.map (·.1)):=(by refine List.ext_getElem (by simp[bc]) λi h1 h2=>?_;simp only[List.getElem_map];exact(A.2 i (by simpa using h2) (by simpa using h1)).1);have B:=bb.o q L w I (by
   rw[aB.o,Jz,Md];intro i j hi hj bD e;have:=g.once hi hj e;omega) (λp hp=>by
   obtain⟨i,hi,rfl⟩:=Hi hp;rw[(A.2 i (by omega) hi).1];have h1:=z i (by omega);simp[AF]at h1;omega) (by omega)
 rw[aB.o]at B;have s1:w.cell? (zD S 1)=some (.map (some q)):=H.cell 1;clear H I A hg hY;go_enter func122,ntmps122;go_wp2_with (first
  | (go_at_call 140; refine B.1.mono ?_; rintro e w1 ⟨rfl,rfl⟩)
  | (go_at_call 139; refine B.2.mono ?_; rintro e w2 ⟨v2,nl,rfl,J,aC,aD,hb2⟩; have bd:=Aa aD; obtain⟨na,nc,rfl,bf,bg⟩:=aD; clear bg))
 have HP:=Aa J;have HO:=Aa aC;have M:Hid (Below w.heap.size w w2):=((Ag _ _).alloc (Al _) _).trans (hb2.mono (by omega));have bE:w.heap.size+1<=w2.heap.size:=by have:=hb2.size; simp at this; omega
 have bh:=Aa ((Dh S q a h).below HE.o M.o);have aE:nl.length<=1000000:=by have:=J.length_eq; simp at this; omega
 obtain⟨bj,bk⟩:=bf;clear J aC hb2 B s1;go_wp2_with fail;go_loopw [4,16] (λu i wr=>gF S q a h nl Y w2 u i wr) (λu i wr=>nl.length-(intOf i).toNat);case atStart=>exact⟨0,f,Y,[],Be _,rfl,CQ.start _ _ _,by simp,by simp,bh.o,λb hb=>Ae hb,λb _ e=>by simp[Value.ownBlock] at e,Ak.refl _ _⟩
 case round=>
  obtain⟨k,f',Y',cs,hk,rfl,hR,hC,hZ,N,ad,ae,hx⟩:=hrel;have C:=Aa hR;have m:=Aa hC;have HZ:=Aa hZ;have bl:=Aa N;have ar:=Aa ad;have au:=Aa ae;have O:=Aa hx;have bF:=hx.size;clear hR hC hZ ad ae hx;by_cases n:k<nl.length
  ·have bm:(k:Int)<(nl.length:Int):=(by omega);have bo:LV Value.string wr (λb=>w.heap.size+1<=b/\b<w2.heap.size) (.slice na nl.length nc) nl:=(bd.o.mono (Y:=λb=>w.heap.size+1<=b/\b<w2.heap.size) λb h1 h2=>⟨h1,h2⟩).kept λb hb=>O.o.block b hb.2 (λhm=>by rcases hm with e|e<;>omega);obtain⟨bG,bH,e0,_,aa⟩:=bo;obtain⟨bn,on,rfl,bI,aa⟩:=aa.resolve_left (λe=>by rw[e] at n; simp at n);simp at e0;obtain⟨rfl,rfl⟩:=e0;have nk:=aa k n;obtain⟨i,hi,D⟩:∃i,∃hi:i<h.length,h[i].1=nl[k]:=(by have h1:=HP.o.subset (AM n);obtain⟨p,hp,e⟩:=Bk.1 h1;obtain⟨i,hi,rfl⟩:=Hi hp;exact⟨i,hi,e⟩);have r:nl.take (k+1)=nl.take k++[nl[k]]:=Ci n;have bp:=Aa r;obtain⟨⟨L',aF,aG,ag⟩,av,aw,aH,bq⟩:=N;obtain⟨v,R,aI⟩:=ag.get g hi;obtain⟨T,j,ta,E,hT,hj,rfl,aJ⟩:=TU aI;have br:=Aa aJ;have U:=Aa hT;have bJ:=Aa aH;have hz:∀w',(zeroValue 215).run prog w'=.ok (.agg #[.string ⟨#[]⟩,zB,zA 0]) w':=λw'=>zeroValue215 w';have bK:=Aa D;rw[D]at R;have bs:Hid (Ic (Ar h) nl[k]=⟨nl[k],stood h i h.length hi⟩):=Aa (by unfold Ic;rw[<-D,Ke g hi,Option.getD_some]);generalize nl[k]=nm at *;have bt:(Instr.lookup 174 (.map (some q)) (.string nm) false).run prog wr=.ok (.agg #[.string T.name,.slice ta T.args.length E,zA j]) wr:=(by rw[OG (P:=prog) underlying174 underlying9 (hz _) aG nm,R]; rfl);have bL:Sem.run prog (Instr.field 215 (.agg #[.string T.name,.slice ta T.args.length E,zA j]) 0) wr=.ok (.agg (zF T ta E)) wr:=gD _ _ _ _;have s1:wr.cell? (zD S 1)=some (.map (some q)):=aF.cell 1;have bu:Hid (Ai (Ar h) T=stood h i h.length hi):=Aa (by rw[U.o];exact TG g hi (Nat.max_le.2 ⟨hj,hi⟩) (z i hi));have bw:Hid (Af [T]=0):=Aa (by rw[U.o];exact TP g z hi (Nat.max_le.2 ⟨hj,hi⟩));have V:=Pv S q a h g z T bw.o ta E wr (λb=>Y' b/\b≠S/\b≠q) Y' f' (λb hb hm=>by rcases hm with e|e; exact hb.2.1 e; exact hb.2.2 e) br.o bl.o;rw[bu.o]at V;have bx:Hid (cs.length<=1000000):=Aa (by have h1:=Cb List.length m.o;simp at h1;omega);clear aF aG ag av aw aH bq R aI aJ hT r aa D U;go_wp2_with fail;refine V.mono ?_;clear V;rintro e c ⟨y,s,t,ok,f2,l,rfl,aK,ab,ay,F,ah,aL,aM⟩;have W:=Aa aK;have aN:Hid (Ak (BZ S q) w2 c):=O.o.trans F;have a1:=Aa F;have a6:=Aa ah;have aO:=Aa ab;have Z:=Aa aL;have a8:=Aa aM;have bM:=F.size;clear aK ab ay F ah aL aM bt s1 nk;cases ok with
   |false=>
    have bz:Hid (Bm (Ar h)=true):=by
     rcases a8.o rfl with h1|h1
     ·exact W.o.2.2.2.2 h1
     ·exact TQ g hi h1
    clear Z a8;go_wp2_with fail;refine Aq (v:=.tuple #[zB,.bool false]) (by simp[results,results122,go_sem]) rfl ?_;exact⟨((Ak.ofBelow M.o).trans aN.o).alloc _,Ae ⟨bz.o,rfl⟩⟩
   |true=>
    obtain⟨rfl,aP,aQ⟩:=Z.o rfl;have b0:=Aa aP;have b1:=Aa aQ;clear aP aQ Z a8;obtain⟨wm,aR,bN,aS⟩:=a1.o.mid;have aT:=C.o.exq aS (λb hb=>by rcases hb with rfl|rfl<;>omega) (λ_ _ h=>h);have b2:(c.alloc (ze y s t)).heap.size=c.heap.size+1:=(by simp);have aU:Below wm.heap.size wm (c.alloc (ze y s t)):=aR.alloc (by omega) _;obtain⟨v6,w6,hrun,aV,G,aW⟩:=gE aT (by omega) (λ_ h=>h.elim) aU (⟨nm,y⟩,s,t) ((a6.o.later ((Ag _ _).alloc (Al _) _)).mono λb hb _=>Ad (by omega)) bx.o (c.heap.size+1) b2;have aA:=Aa hrun;have b3:=Aa aV;have aX:=G.size;simp at aX;have b4:Hid (Ak (BZ S q) w2 w6):=((aN.o.alloc _).alloc _).grown G (λb hb=>Ae (C.o.own.lt b hb).1);have b5:Hid (∀b,l b->Y b∨w2.heap.size<=b):=λb hb=>by
     rcases aO.o b hb with h1|h1
     ·exact ar.o b h1
     ·right; omega
    have aY:Hid (∀b,l b->some b≠u4.ownBlock):=λb hb e=>by
     rcases aO.o b hb with h1|h1
     ·exact au.o b h1 e
     ·have:=(C.o.own.lt b e.symm).2; omega
    have aZ:Hid (∀b,l b->b<c.heap.size):=W.o.2.2.2.1;have b6:Hid (BX S q a h false l w6):=(Dh S q a h).keep _ _ _ _ W.o λb hb=>by
     have h1:=aZ.o b hb;rw[G.block b (by simp; omega) (aY.o b hb),Ay _ _ _ (by simp; omega),Ay _ _ _ h1]
    have b7:Hid (∀b,l b->some b≠v6.ownBlock):=λb hb e=>by
     rcases aW b e.symm with h1|h1
     ·exact aY.o b hb h1.symm
     ·have:=aZ.o b hb; omega
    clear aR aS aT aU hrun aV G aW aX;go_wp2_with (at_builtin; refine Gt rfl _ _ _ _ rfl rfl rfl aA.o ?_);go_roundw
    case rel=>
     refine⟨k+1,false,l,cs++[(⟨nm,y⟩,s,t)],by omega,by go_num,b3.o,?_,λx hx=>?_,b6.o,b5.o,b7.o,b4.o⟩
     ·rw[bp.o,CI,CI,m.o];simp only[Bo,Ky];rw[bs.o,b0.o]
     ·rcases Ba.1 hx with hx|hx
      ·exact HZ.o x hx
      ·have e:x=(⟨nm,y⟩,s,t):=(by simpa using hx);rw[e]; exact b1.o
    case measure=>simp[intOf]; omega
  ·have r:nl.take k=nl:=BH (by omega);rw[r]at m;have ba:=Aa (gI g HP.o HO.o);have b8:Hid (Bm (Ar h)=false):=Aa (by rw[<-ba.o,<-m.o];unfold Bm;rw[List.any_eq_false];intro d hd;obtain⟨x,hx,rfl⟩:=Bk.1 hd;have:=HZ.o x hx;simp;omega);clear N r;go_wp2_with fail;refine Aq (v:=.tuple #[u4,.bool true]) (by simp[results,results122,go_sem]) rfl ?_;refine⟨(Ak.ofBelow M.o).trans O.o,Ad ⟨b8.o,u4,rfl,?_⟩⟩;have h1:=C.o.bv;rw[m.o,ba.o]at h1;exact h1.mono λb hb _=>by rcases hb with hb|hb; exact hb.elim; omega

import Derived.Test.YtgbcafaibocebaaGreatDoorPu0
import Derived.Test.YtgbcafaibocebaaGreatDoorW29
namespace Go.Proofs.YtgbcafaibocebaaGreatDoor
set_option linter.all false
set_option maxRecDepth 20000
set_option maxHeartbeats 8000000
open Go.RowKit
def Au (x:ByteArray) (l:List Tm):Prop:=∃k∈Ao l,k.name=x
theorem Dm {x s:ByteArray} {l r:List Tm}:Au x (⟨s,l⟩::r)↔s=x∨Au x l∨Au x r:=by
 unfold Au;rw[Ao];constructor
 ·rintro⟨k,hk,e⟩;rcases Bq.1 hk with rfl|hk
  ·exact Ad e
  ·rcases Bg.1 hk with hk|hk
   ·exact Ae (Ad ⟨k,hk,e⟩)
   ·exact Ae (Ae ⟨k,hk,e⟩)
 ·rintro(e|⟨k,hk,e⟩|⟨k,hk,e⟩)
  ·exact⟨⟨s,l⟩,by simp,e⟩
  ·exact⟨k,by simp[hk],e⟩
  ·exact⟨k,by simp[hk],e⟩
theorem FD {x:ByteArray}:¬Au x []:=by
 rintro⟨k,hk,_⟩;simp[Ao]at hk
theorem BO {x:ByteArray} {t:Tm} {r:List Tm}:Au x (t::r)↔Au x [t]∨Au x r:=by
 obtain⟨s,l⟩:=t;rw[Dm,Dm];have h0:¬Au x []:=FD;constructor
 ·rintro(h|h|h)
  ·exact Ad (Ad h)
  ·exact Ad (Ae (Ad h))
  ·exact Ae h
 ·rintro((h|h|h)|h)
  ·exact Ad h
  ·exact Ae (Ad h)
  ·exact absurd h h0
  ·exact Ae (Ae h)
theorem Lq {x:ByteArray} {a b:List Tm}:Au x (a++b)↔Au x a∨Au x b:=by
 induction a with
 |nil=>have h0:¬Au x []:=FD;simp[h0]
 |cons t r c=>rw[Cj,BO,BO (r:=r),c,or_assoc]
def BG (s:List Bd):Prop:=Cx s/\(∀d∈s,Al d.nm=true/\Ah [d.t]=0)/\∀d∈s,∀e∈s,¬Au e.nm [d.t]
theorem Ja:BG []:=⟨by simp[Cx],by simp,by simp⟩
theorem GT {s:List Bd} (h:∀d∈s,Al d.nm=true) {n:ByteArray} (hn:Al n=false) (l:List Tm):Ag s ⟨n,l⟩=⟨n,Ap s l⟩:=by
 refine FN (Ae ?_);cases a:As s n with
 |none=>rfl
 |some x=>obtain⟨d,hd,e,_⟩:=FU a;have h1:=h d hd;rw[e,hn]at h1;cases h1
theorem Hn {s:List Bd}:∀l:List Tm,(∀e∈s,¬Au e.nm l)->Ap s l=l:=by
 intro l;induction l using Tm.indL with
 |h0=>intro _; simp[Ap]
 |h n l r aa ab=>
  intro h;rw[Bb,ab λe he ho=>h e he (Dm.2 (Ae (Ae ho)))];congr 1
  rw[FN (Ae ?_),aa λe he ho=>h e he (Dm.2 (Ae (Ad ho)))];cases a:As s n with
  |none=>rfl
  |some x=>obtain⟨d,hd,e,_⟩:=FU a;exact absurd (Dm.2 (Ad e.symm)) (h d hd)
theorem Nf {s:List Bd} (hs:∀d∈s,Al d.nm=true) {y:ByteArray} (hy:Al y=true):∀l:List Tm,Ah l=0->Au y (Ap s l)->(Au y l/\As s y=none)∨∃d∈s,Au d.nm l/\Au y [d.t]:=by
 intro l;induction l using Tm.indL with
 |h0=>intro _ h; simp only[Ap] at h; exact absurd h FD
 |h n l r aa ab=>
  intro he h;obtain⟨g1,g2,g3⟩:=GR he;rw[Bb,BO]at h;rcases h with h|h
  ·cases hv:Al n with
   |false=>
    rw[GT hs hv,Dm]at h;rcases h with h|h|h
    ·rw[h,hy]at hv; cases hv
    ·rcases aa g2 h with ⟨h1,h2⟩|⟨d,hd,h1,h2⟩
     ·exact Ad ⟨Dm.2 (Ae (Ad h1)),h2⟩
     ·exact Ae ⟨d,hd,Dm.2 (Ae (Ad h1)),h2⟩
    ·exact absurd h FD
   |true=>
    have e:=g1 hv;subst e;rw[FV]at h;cases a:As s n with
    |none=>
     rw[a]at h;rcases Dm.1 h with h|h|h
     ·subst h; exact Ad ⟨Dm.2 (Ad rfl),a⟩
     ·exact absurd h FD
     ·exact absurd h FD
    |some x=>rw[a]at h;obtain⟨d,hd,b,c⟩:=FU a;refine Ae ⟨d,hd,Dm.2 (Ad b.symm),?_⟩;rw[c]; exact h
  ·rcases ab g3 h with ⟨h1,h2⟩|⟨d,hd,h1,h2⟩
   ·exact Ad ⟨Dm.2 (Ae (Ae h1)),h2⟩
   ·exact Ae ⟨d,hd,Dm.2 (Ae (Ae h1)),h2⟩
theorem BG.vars {s:List Bd} (h:BG s):∀d∈s,Al d.nm=true:=λd hd=>(h.2.1 d hd).1
theorem BG.gone {s:List Bd} (h:BG s) {l:List Tm} (he:Ah l=0):∀e∈s,¬Au e.nm (Ap s l):=by
 intro e hm ho;rcases Nf h.vars (h.vars e hm) l he ho with ⟨_,h2⟩|⟨d,hd,_,h2⟩
 ·obtain⟨t,ht⟩:=QM hm;rw[ht]at h2; cases h2
 ·exact h.2.2 d hd e hm h2
theorem BG.idem {s:List Bd} (h:BG s) {l:List Tm} (he:Ah l=0):Ap s (Ap s l)=Ap s l:=Hn _ (h.gone he)
theorem Io {s:List Bd} (h:BG s):∀l:List Tm,Ah l=0->Ah (Ap s l)=0:=by
 intro l;induction l using Tm.indL with
 |h0=>intro _; simp[Ap,Ah]
 |h n l r aa ab=>
  intro he;obtain⟨g1,g2,g3⟩:=GR he;have hn:=JY he;rw[Bb];have key:Ah [Ag s ⟨n,l⟩]=0:=by
   cases hv:Al n with
   |false=>rw[GT h.vars hv]; exact QN hn hv (aa g2)
   |true=>
    have e:=g1 hv;subst e;rw[FV];cases a:As s n with
    |none=>exact I7 hn
    |some x=>obtain⟨d,hd,_,b⟩:=FU a;have h3:=(h.2.1 d hd).2;rw[b]at h3;exact h3
  rw[GG,Ar key];exact ab g3
theorem QT {P:List Tm->List Tm->Prop} {s:List Bd} {t:Tm} (h:P [t] (Ap s [t])):P [t] [Ag s t]:=by
 rw[Bb]at h;simpa [Ap] using h
theorem En {s:List Bd} (h:BG s) {t:Tm} (he:Ah [t]=0):Ah [Ag s t]=0:=QT (P:=λ_ b=>Ah b=0) (Io h [t] he)
theorem BG.goneT {s:List Bd} (h:BG s) {t:Tm} (he:Ah [t]=0):∀e∈s,¬Au e.nm [Ag s t]:=QT (P:=λ_ b=>∀e∈s,¬Au e.nm b) (h.gone he)
theorem QU {a b:List Bd} (hp:a.Perm b) (e:Cx b) (n:ByteArray):As a n=As b n:=by
 have aa:Cx a:=e.perm hp;cases h1:As b n with
 |some x=>obtain⟨d,hd,c,f⟩:=FU h1;have h2:=Lj aa (hp.symm.subset hd);rw[c,f]at h2;exact h2
 |none=>
  cases h2:As a n with
  |none=>rfl
  |some x=>obtain⟨d,hd,c,f⟩:=FU h2;have h3:=Lj e (hp.subset hd);rw[c,h1]at h3;cases h3
theorem Yw (x:ByteArray) (t:Tm) (s:List Bd) (n:ByteArray):As (s.map (Br x t)) n=(As s n).map (Ag [⟨x,t⟩]):=by
 induction s with
 |nil=>rfl
 |cons d r a=>
  rw[Cb,As,As];by_cases e:d.nm=n
  ·rw[Ar e,Ar (show(Br x t d).nm=n from e)]; rfl
  ·rw[Aj e,Aj (show ¬(Br x t d).nm=n from e)]; exact a
def Cz (s:List Bd) (x:ByteArray) (t:Tm):List Bd:=Ih (s.map (Br x t)++[⟨x,t⟩])
theorem J0 {s:List Bd} {x:ByteArray} {t:Tm} (h:Cx s) (hx:∀d∈s,d.nm≠x):Cx (s.map (Br x t)++[⟨x,t⟩]):=by
 refine Km.2 ⟨Gc.2 h,by simp,λa c b hb=>?_⟩;obtain⟨d,hd,rfl⟩:=Ce.1 c;have e:b=⟨x,t⟩:=by simpa using hb
 rw[e];exact hx d hd
theorem Lr {s:List Bd} {x:ByteArray} {t:Tm} (h:Cx s) (hx:∀d∈s,d.nm≠x) (n:ByteArray):Ag (Cz s x t) ⟨n,[]⟩=Ag [⟨x,t⟩] (Ag s ⟨n,[]⟩):=by
 rw[FV (Cz s x t)];unfold Cz;rw[QU (EO _) (J0 h hx),Yo,Yw,FV s];cases hf:As s n with
 |some u=>rfl
 |none=>show(As [⟨x,t⟩] n).getD _=Ag [⟨x,t⟩] ⟨n,[]⟩;rw[FV]
theorem QW {x:ByteArray} {t:Tm} (hx:Al x=true):∀d∈[(⟨x,t⟩:Bd)],Al d.nm=true:=λd hd=>by
 have e:d=⟨x,t⟩:=by simpa using hd
 rw[e]; exact hx
theorem BG.add {s:List Bd} (h:BG s) {x:ByteArray} {t:Tm} (hx:Al x=true) (hn:∀d∈s,d.nm≠x) (he:Ah [t]=0) (ht:∀e∈s,¬Au e.nm [t]) (ho:¬Au x [t]):BG (Cz s x t):=by
 have c:BG [(⟨x,t⟩:Bd)]:=by
  refine⟨by simp[Cx],λd hd=>?_,λd hd e hm=>?_⟩
  ·have e:d=⟨x,t⟩:=(by simpa using hd);rw[e]; exact⟨hx,he⟩
  ·have b:d=⟨x,t⟩:=(by simpa using hd);have g:e=⟨x,t⟩:=(by simpa using hm);rw[b,g]; exact ho
 have hp:=EO (s.map (Br x t)++[⟨x,t⟩]);have aa:∀d∈Cz s x t,(∃d0∈s,d=Br x t d0)∨d=⟨x,t⟩:=λd hd=>by
  rcases Bg.1 (hp.subset hd) with hd|hd
  ·obtain⟨d0,h0,rfl⟩:=Ce.1 hd;exact Ad ⟨d0,h0,rfl⟩
  ·exact Ae (by simpa using hd)
 have ab:∀d0∈s,∀y,Al y=true->(y=x∨∃e∈s,e.nm=y)->¬Au y [Ag [⟨x,t⟩] d0.t]:=λd0 h0 y hy f hoc=>by
  have h1:Au y (Ap [⟨x,t⟩] [d0.t]):=by rw[Bb]; simpa [Ap] using hoc
  rcases Nf c.vars hy [d0.t] (h.2.1 d0 h0).2 h1 with ⟨h2,h3⟩|⟨d,hd,h2,h3⟩
  ·rcases f with rfl|⟨e,hm,rfl⟩
   ·simp[As]at h3
   ·exact h.2.2 d0 h0 e hm h2
  ·have b:d=⟨x,t⟩:=(by simpa using hd);subst b;rcases f with rfl|⟨e,hm,rfl⟩
   ·exact ho h3
   ·exact ht e hm h3
 refine⟨(J0 h.1 hn).perm hp,λd hd=>?_,λd hd e hm=>?_⟩
 ·rcases aa d hd with ⟨d0,h0,rfl⟩|rfl
  ·exact⟨(h.2.1 d0 h0).1,En c (h.2.1 d0 h0).2⟩
  ·exact⟨hx,he⟩
 ·have hy:e.nm=x∨∃a∈s,a.nm=e.nm:=by
   rcases aa e hm with ⟨a,h0,rfl⟩|rfl
   ·exact Ae ⟨a,h0,rfl⟩
   ·exact Ad rfl
  have i:Al e.nm=true:=by
   rcases hy with h1|⟨a,h0,h1⟩
   ·rw[h1]; exact hx
   ·rw[<-h1]; exact(h.2.1 a h0).1
  rcases aa d hd with ⟨d0,h0,rfl⟩|rfl
  ·exact ab d0 h0 e.nm i hy
  ·rcases hy with h1|⟨a,h0,h1⟩
   ·rw[h1]; exact ho
   ·rw[<-h1]; exact ht a h0
theorem Jb {s:List Bd} (h:BG s) {x:ByteArray} {t:Tm} (hx:Al x=true) (hn:∀d∈s,d.nm≠x) (hs:BG (Cz s x t)):∀l:List Tm,Ah l=0->Ap (Cz s x t) l=Ap [⟨x,t⟩] (Ap s l):=by
 intro l;induction l using Tm.indL with
 |h0=>intro _; simp[Ap]
 |h n l r aa ab=>
  intro he;obtain⟨g1,g2,g3⟩:=GR he;rw[Bb,Bb,Bb,ab g3];congr 1
  cases hv:Al n with
  |false=>rw[GT hs.vars hv,GT h.vars hv,GT (QW hx) hv,aa g2]
  |true=>have e:=g1 hv;subst e;exact Lr h.1 hn n

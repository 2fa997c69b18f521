import Derived.Test.YtlkeafenklamjaaGreatDoorPu0
import Derived.Test.YtlkeafenklamjaaGreatDoorW29
namespace Go.Proofs.YtlkeafenklamjaaGreatDoor
set_option linter.all false
set_option maxRecDepth 20000
set_option maxHeartbeats 8000000
open Go.RowKit
def Au (x:ByteArray) (l:List Tm):Prop:=∃k∈Ao l,k.name=x
theorem Dc {x s:ByteArray} {l r:List Tm}:Au x (⟨s,l⟩::r)↔s=x∨Au x l∨Au x r:=by
 unfold Au
 rw[Ao]
 constructor
 ·rintro⟨k,hk,e⟩
  rcases BE.1 hk with rfl|hk
  ·exact Ad e
  ·rcases Bg.1 hk with hk|hk
   ·exact Ae (Ad ⟨k,hk,e⟩)
   ·exact Ae (Ae ⟨k,hk,e⟩)
 ·rintro(e|⟨k,hk,e⟩|⟨k,hk,e⟩)
  ·exact⟨⟨s,l⟩,by simp,e⟩
  ·exact⟨k,by simp[hk],e⟩
  ·exact⟨k,by simp[hk],e⟩
theorem Fk {x:ByteArray}:¬Au x []:=by
 rintro⟨k,hk,_⟩
 simp[Ao]at hk
theorem BM {x:ByteArray} {t:Tm} {r:List Tm}:Au x (t::r)↔Au x [t]∨Au x r:=by
 obtain⟨s,l⟩:=t
 rw[Dc,Dc]
 have h0:¬Au x []:=Fk
 constructor
 ·rintro(h|h|h)
  ·exact Ad (Ad h)
  ·exact Ad (Ae (Ad h))
  ·exact Ae h
 ·rintro((h|h|h)|h)
  ·exact Ad h
  ·exact Ae (Ad h)
  ·exact absurd h h0
  ·exact Ae (Ae h)
theorem Ku {x:ByteArray} {a b:List Tm}:Au x (a++b)↔Au x a∨Au x b:=by
 induction a with
 |nil=>
  have h0:¬Au x []:=Fk
  simp[h0]
 |cons t r ih=>rw[Cf,BM,BM (r:=r),ih,or_assoc]
def Bv (s:List Bd):Prop:=Ct s/\(∀d∈s,Ak d.nm=true/\Ah [d.t]=0)/\∀d∈s,∀e∈s,¬Au e.nm [d.t]
theorem IB:Bv []:=⟨by simp[Ct],by simp,by simp⟩
theorem Gu {s:List Bd} (h:∀d∈s,Ak d.nm=true) {n:ByteArray} (hn:Ak n=false) (l:List Tm):Ag s ⟨n,l⟩=⟨n,Am s l⟩:=by
 refine Fv (Ae ?_)
 cases hf:Ar s n with
 |none=>rfl
 |some x=>
  obtain⟨d,hd,e,_⟩:=Fy hf
  have h1:=h d hd
  rw[e,hn]at h1
  cases h1
theorem GX {s:List Bd}:∀l:List Tm,(∀e∈s,¬Au e.nm l)->Am s l=l:=by
 intro l
 induction l using Tm.indL with
 |h0=>intro _; simp[Am]
 |h n l r aa ae=>
  intro h
  rw[Ba,ae λe he ho=>h e he (Dc.2 (Ae (Ae ho)))]
  congr 1
  rw[Fv (Ae ?_),aa λe he ho=>h e he (Dc.2 (Ae (Ad ho)))]
  cases hf:Ar s n with
  |none=>rfl
  |some x=>
   obtain⟨d,hd,e,_⟩:=Fy hf
   exact absurd (Dc.2 (Ad e.symm)) (h d hd)
theorem MD {s:List Bd} (hs:∀d∈s,Ak d.nm=true) {y:ByteArray} (hy:Ak y=true):∀l:List Tm,Ah l=0->Au y (Am s l)->(Au y l/\Ar s y=none)∨∃d∈s,Au d.nm l/\Au y [d.t]:=by
 intro l
 induction l using Tm.indL with
 |h0=>intro _ h; simp only[Am] at h; exact absurd h Fk
 |h n l r aa ae=>
  intro he h
  obtain⟨g1,g2,g3⟩:=Gt he
  rw[Ba,BM]at h
  rcases h with h|h
  ·cases hv:Ak n with
   |false=>
    rw[Gu hs hv,Dc]at h
    rcases h with h|h|h
    ·rw[h,hy]at hv; cases hv
    ·rcases aa g2 h with ⟨h1,h2⟩|⟨d,hd,h1,h2⟩
     ·exact Ad ⟨Dc.2 (Ae (Ad h1)),h2⟩
     ·exact Ae ⟨d,hd,Dc.2 (Ae (Ad h1)),h2⟩
    ·exact absurd h Fk
   |true=>
    have e:=g1 hv
    subst e
    rw[Fz]at h
    cases hf:Ar s n with
    |none=>
     rw[hf]at h
     rcases Dc.1 h with h|h|h
     ·subst h; exact Ad ⟨Dc.2 (Ad rfl),hf⟩
     ·exact absurd h Fk
     ·exact absurd h Fk
    |some x=>
     rw[hf]at h
     obtain⟨d,hd,e1,e2⟩:=Fy hf
     refine Ae ⟨d,hd,Dc.2 (Ad e1.symm),?_⟩
     rw[e2]; exact h
  ·rcases ae g3 h with ⟨h1,h2⟩|⟨d,hd,h1,h2⟩
   ·exact Ad ⟨Dc.2 (Ae (Ae h1)),h2⟩
   ·exact Ae ⟨d,hd,Dc.2 (Ae (Ae h1)),h2⟩
theorem Bv.vars {s:List Bd} (h:Bv s):∀d∈s,Ak d.nm=true:=λd hd=>(h.2.1 d hd).1
theorem Bv.gone {s:List Bd} (h:Bv s) {l:List Tm} (he:Ah l=0):∀e∈s,¬Au e.nm (Am s l):=by
 intro e hm ho
 rcases MD h.vars (h.vars e hm) l he ho with ⟨_,h2⟩|⟨d,hd,_,h2⟩
 ·obtain⟨t,ht⟩:=PW hm
  rw[ht]at h2; cases h2
 ·exact h.2.2 d hd e hm h2
theorem Bv.idem {s:List Bd} (h:Bv s) {l:List Tm} (he:Ah l=0):Am s (Am s l)=Am s l:=GX _ (h.gone he)
theorem Ht {s:List Bd} (h:Bv s):∀l:List Tm,Ah l=0->Ah (Am s l)=0:=by
 intro l
 induction l using Tm.indL with
 |h0=>intro _; simp[Am,Ah]
 |h n l r aa ae=>
  intro he
  obtain⟨g1,g2,g3⟩:=Gt he
  have hn:=Jo he
  rw[Ba]
  have key:Ah [Ag s ⟨n,l⟩]=0:=by
   cases hv:Ak n with
   |false=>rw[Gu h.vars hv]; exact W8 hn hv (aa g2)
   |true=>
    have e:=g1 hv
    subst e
    rw[Fz]
    cases hf:Ar s n with
    |none=>exact Ks hn
    |some x=>
     obtain⟨d,hd,_,e2⟩:=Fy hf
     have h3:=(h.2.1 d hd).2
     rw[e2]at h3
     exact h3
  rw[GK,As key]
  exact ae g3
theorem PX {P:List Tm->List Tm->Prop} {s:List Bd} {t:Tm} (h:P [t] (Am s [t])):P [t] [Ag s t]:=by
 rw[Ba]at h
 simpa [Am] using h
theorem Ed {s:List Bd} (h:Bv s) {t:Tm} (he:Ah [t]=0):Ah [Ag s t]=0:=PX (P:=λ_ b=>Ah b=0) (Ht h [t] he)
theorem Bv.goneT {s:List Bd} (h:Bv s) {t:Tm} (he:Ah [t]=0):∀e∈s,¬Au e.nm [Ag s t]:=PX (P:=λ_ b=>∀e∈s,¬Au e.nm b) (h.gone he)
theorem PY {a b:List Bd} (hp:a.Perm b) (ha:Ct b) (n:ByteArray):Ar a n=Ar b n:=by
 have ha':Ct a:=ha.perm hp
 cases h1:Ar b n with
 |some x=>
  obtain⟨d,hd,e1,e2⟩:=Fy h1
  have h2:=Kq ha' (hp.symm.subset hd)
  rw[e1,e2]at h2
  exact h2
 |none=>
  cases h2:Ar a n with
  |none=>rfl
  |some x=>
   obtain⟨d,hd,e1,e2⟩:=Fy h2
   have h3:=Kq ha (hp.subset hd)
   rw[e1,h1]at h3
   cases h3
theorem W9 (x:ByteArray) (t:Tm) (s:List Bd) (n:ByteArray):Ar (s.map (Bo x t)) n=(Ar s n).map (Ag [⟨x,t⟩]):=by
 induction s with
 |nil=>rfl
 |cons d r ih=>
  rw[BP,Ar,Ar]
  by_cases e:d.nm=n
  ·rw[As e,As (show(Bo x t d).nm=n from e)]; rfl
  ·rw[An e,An (show ¬(Bo x t d).nm=n from e)]; exact ih
def Cv (s:List Bd) (x:ByteArray) (t:Tm):List Bd:=Ho (s.map (Bo x t)++[⟨x,t⟩])
theorem Jq {s:List Bd} {x:ByteArray} {t:Tm} (h:Ct s) (hx:∀d∈s,d.nm≠x):Ct (s.map (Bo x t)++[⟨x,t⟩]):=by
 refine JP.2 ⟨FP.2 h,by simp,λa ha b hb=>?_⟩
 obtain⟨d,hd,rfl⟩:=Cj.1 ha
 have e:b=⟨x,t⟩:=by simpa using hb
 rw[e]
 exact hx d hd
theorem Kv {s:List Bd} {x:ByteArray} {t:Tm} (h:Ct s) (hx:∀d∈s,d.nm≠x) (n:ByteArray):Ag (Cv s x t) ⟨n,[]⟩=Ag [⟨x,t⟩] (Ag s ⟨n,[]⟩):=by
 rw[Fz (Cv s x t)]
 unfold Cv
 rw[PY (EC _) (Jq h hx),W6,W9,Fz s]
 cases hf:Ar s n with
 |some u=>rfl
 |none=>
  show(Ar [⟨x,t⟩] n).getD _=Ag [⟨x,t⟩] ⟨n,[]⟩
  rw[Fz]
theorem PZ {x:ByteArray} {t:Tm} (hx:Ak x=true):∀d∈[(⟨x,t⟩:Bd)],Ak d.nm=true:=λd hd=>by
 have e:d=⟨x,t⟩:=by simpa using hd
 rw[e]; exact hx
theorem Bv.add {s:List Bd} (h:Bv s) {x:ByteArray} {t:Tm} (hx:Ak x=true) (hn:∀d∈s,d.nm≠x) (he:Ah [t]=0) (ht:∀e∈s,¬Au e.nm [t]) (ho:¬Au x [t]):Bv (Cv s x t):=by
 have O1:Bv [(⟨x,t⟩:Bd)]:=by
  refine⟨by simp[Ct],λd hd=>?_,λd hd e hm=>?_⟩
  ·have e:d=⟨x,t⟩:=by simpa using hd
   rw[e]; exact⟨hx,he⟩
  ·have e1:d=⟨x,t⟩:=by simpa using hd
   have e2:e=⟨x,t⟩:=by simpa using hm
   rw[e1,e2]; exact ho
 have hp:=EC (s.map (Bo x t)++[⟨x,t⟩])
 have aa:∀d∈Cv s x t,(∃d0∈s,d=Bo x t d0)∨d=⟨x,t⟩:=λd hd=>by
  rcases Bg.1 (hp.subset hd) with hd|hd
  ·obtain⟨d0,h0,rfl⟩:=Cj.1 hd
   exact Ad ⟨d0,h0,rfl⟩
  ·exact Ae (by simpa using hd)
 have ae:∀d0∈s,∀y,Ak y=true->(y=x∨∃e∈s,e.nm=y)->¬Au y [Ag [⟨x,t⟩] d0.t]:=λd0 h0 y hy af hoc=>by
  have h1:Au y (Am [⟨x,t⟩] [d0.t]):=by rw[Ba]; simpa [Am] using hoc
  rcases MD O1.vars hy [d0.t] (h.2.1 d0 h0).2 h1 with ⟨h2,h3⟩|⟨d,hd,h2,h3⟩
  ·rcases af with rfl|⟨e,hm,rfl⟩
   ·simp[Ar]at h3
   ·exact h.2.2 d0 h0 e hm h2
  ·have e1:d=⟨x,t⟩:=by simpa using hd
   subst e1
   rcases af with rfl|⟨e,hm,rfl⟩
   ·exact ho h3
   ·exact ht e hm h3
 refine⟨(Jq h.1 hn).perm hp,λd hd=>?_,λd hd e hm=>?_⟩
 ·rcases aa d hd with ⟨d0,h0,rfl⟩|rfl
  ·exact⟨(h.2.1 d0 h0).1,Ed O1 (h.2.1 d0 h0).2⟩
  ·exact⟨hx,he⟩
 ·have hy:e.nm=x∨∃e0∈s,e0.nm=e.nm:=by
   rcases aa e hm with ⟨e0,h0,rfl⟩|rfl
   ·exact Ae ⟨e0,h0,rfl⟩
   ·exact Ad rfl
  have ag:Ak e.nm=true:=by
   rcases hy with h1|⟨e0,h0,h1⟩
   ·rw[h1]; exact hx
   ·rw[<-h1]; exact(h.2.1 e0 h0).1
  rcases aa d hd with ⟨d0,h0,rfl⟩|rfl
  ·exact ae d0 h0 e.nm ag hy
  ·rcases hy with h1|⟨e0,h0,h1⟩
   ·rw[h1]; exact ho
   ·rw[<-h1]; exact ht e0 h0
theorem ID {s:List Bd} (h:Bv s) {x:ByteArray} {t:Tm} (hx:Ak x=true) (hn:∀d∈s,d.nm≠x) (hs:Bv (Cv s x t)):∀l:List Tm,Ah l=0->Am (Cv s x t) l=Am [⟨x,t⟩] (Am s l):=by
 intro l
 induction l using Tm.indL with
 |h0=>intro _; simp[Am]
 |h n l r aa ae=>
  intro he
  obtain⟨g1,g2,g3⟩:=Gt he
  rw[Ba,Ba,Ba,ae g3]
  congr 1
  cases hv:Ak n with
  |false=>rw[Gu hs.vars hv,Gu h.vars hv,Gu (PZ hx) hv,aa g2]
  |true=>
   have e:=g1 hv
   subst e
   exact Kv h.1 hn n
end Go.Proofs.YtlkeafenklamjaaGreatDoor

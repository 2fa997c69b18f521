import Derived.Test.YtlkeafenklamjaaGreatDoorPu0
import Derived.Test.YtlkeafenklamjaaGreatDoorW29
namespace Go.Proofs.YtlkeafenklamjaaGreatDoor
set_option linter.unusedSimpArgs false
set_option linter.unusedVariables false
set_option maxRecDepth 20000
set_option maxHeartbeats 8000000
open Go.RowKit
def Au (x:ByteArray) (l:List Tm):Prop:=∃k∈Ao l,k.name=x
theorem De {x s:ByteArray} {l r:List Tm}:Au x (⟨s,l⟩::r)↔s=x∨Au x l∨Au x r:=by
 unfold Au
 rw[Ao]
 constructor
 ·rintro⟨k,hk,e⟩
  rcases BE.1 hk with rfl|hk
  ·exact Ad e
  ·rcases Bh.1 hk with hk|hk
   ·exact Ae (Ad ⟨k,hk,e⟩)
   ·exact Ae (Ae ⟨k,hk,e⟩)
 ·rintro(e|⟨k,hk,e⟩|⟨k,hk,e⟩)
  ·exact⟨⟨s,l⟩,by simp,e⟩
  ·exact⟨k,by simp[hk],e⟩
  ·exact⟨k,by simp[hk],e⟩
theorem Fl {x:ByteArray}:¬Au x []:=by
 rintro⟨k,hk,_⟩
 simp[Ao]at hk
theorem BM {x:ByteArray} {t:Tm} {r:List Tm}:Au x (t::r)↔Au x [t]∨Au x r:=by
 obtain⟨s,l⟩:=t
 rw[De,De]
 have h0:¬Au x []:=Fl
 constructor
 ·rintro(h|h|h)
  ·exact Ad (Ad h)
  ·exact Ad (Ae (Ad h))
  ·exact Ae h
 ·rintro((h|h|h)|h)
  ·exact Ad h
  ·exact Ae (Ad h)
  ·exact absurd h h0
  ·exact Ae (Ae h)
theorem Kv {x:ByteArray} {a b:List Tm}:Au x (a++b)↔Au x a∨Au x b:=by
 induction a with
 |nil=>
  have h0:¬Au x []:=Fl
  simp[h0]
 |cons t r ih=>rw[Cg,BM,BM (r:=r),ih,or_assoc]
def Bv (s:List Bd):Prop:=Cu s/\(∀d∈s,Ak d.nm=true/\Ah [d.t]=0)/\∀d∈s,∀e∈s,¬Au e.nm [d.t]
theorem IB:Bv []:=⟨by simp[Cu],by simp,by simp⟩
theorem Gv {s:List Bd} (h:∀d∈s,Ak d.nm=true) {n:ByteArray} (hn:Ak n=false) (l:List Tm):Ag s ⟨n,l⟩=⟨n,Am s l⟩:=by
 refine Fw (Ae ?_)
 cases hf:Ar s n with
 |none=>rfl
 |some x=>
  obtain⟨d,hd,e,_⟩:=Fz hf
  have h1:=h d hd
  rw[e,hn]at h1
  cases h1
theorem GY {s:List Bd}:∀l:List Tm,(∀e∈s,¬Au e.nm l)->Am s l=l:=by
 intro l
 induction l using Tm.indL with
 |h0=>intro _; simp[Am]
 |h n l r aa ae=>
  intro h
  rw[Bb,ae λe he ho=>h e he (De.2 (Ae (Ae ho)))]
  CU 1
  rw[Fw (Ae ?_),aa λe he ho=>h e he (De.2 (Ae (Ad ho)))]
  cases hf:Ar s n with
  |none=>rfl
  |some x=>
   obtain⟨d,hd,e,_⟩:=Fz hf
   exact absurd (De.2 (Ad e.symm)) (h d hd)
theorem ME {s:List Bd} (hs:∀d∈s,Ak d.nm=true) {y:ByteArray} (hy:Ak y=true):∀l:List Tm,Ah l=0->Au y (Am s l)->(Au y l/\Ar s y=none)∨∃d∈s,Au d.nm l/\Au y [d.t]:=by
 intro l
 induction l using Tm.indL with
 |h0=>intro _ h; simp only[Am] at h; exact absurd h Fl
 |h n l r aa ae=>
  intro he h
  obtain⟨g1,g2,g3⟩:=Gu he
  rw[Bb,BM]at h
  rcases h with h|h
  ·cases hv:Ak n with
   |false=>
    rw[Gv hs hv,De]at h
    rcases h with h|h|h
    ·rw[h,hy]at hv; cases hv
    ·rcases aa g2 h with ⟨h1,h2⟩|⟨d,hd,h1,h2⟩
     ·exact Ad ⟨De.2 (Ae (Ad h1)),h2⟩
     ·exact Ae ⟨d,hd,De.2 (Ae (Ad h1)),h2⟩
    ·exact absurd h Fl
   |true=>
    have e:=g1 hv
    subst e
    rw[FC]at h
    cases hf:Ar s n with
    |none=>
     rw[hf]at h
     rcases De.1 h with h|h|h
     ·subst h; exact Ad ⟨De.2 (Ad rfl),hf⟩
     ·exact absurd h Fl
     ·exact absurd h Fl
    |some x=>
     rw[hf]at h
     obtain⟨d,hd,e1,e2⟩:=Fz hf
     refine Ae ⟨d,hd,De.2 (Ad e1.symm),?_⟩
     rw[e2]; exact h
  ·rcases ae g3 h with ⟨h1,h2⟩|⟨d,hd,h1,h2⟩
   ·exact Ad ⟨De.2 (Ae (Ae h1)),h2⟩
   ·exact Ae ⟨d,hd,De.2 (Ae (Ae h1)),h2⟩
theorem Bv.vars {s:List Bd} (h:Bv s):∀d∈s,Ak d.nm=true:=λd hd=>(h.2.1 d hd).1
theorem Bv.gone {s:List Bd} (h:Bv s) {l:List Tm} (he:Ah l=0):∀e∈s,¬Au e.nm (Am s l):=by
 intro e hm ho
 rcases ME h.vars (h.vars e hm) l he ho with ⟨_,h2⟩|⟨d,hd,_,h2⟩
 ·obtain⟨t,ht⟩:=PY hm
  rw[ht]at h2; cases h2
 ·exact h.2.2 d hd e hm h2
theorem Bv.idem {s:List Bd} (h:Bv s) {l:List Tm} (he:Ah l=0):Am s (Am s l)=Am s l:=GY _ (h.gone he)
theorem Hs {s:List Bd} (h:Bv s):∀l:List Tm,Ah l=0->Ah (Am s l)=0:=by
 intro l
 induction l using Tm.indL with
 |h0=>intro _; simp[Am,Ah]
 |h n l r aa ae=>
  intro he
  obtain⟨g1,g2,g3⟩:=Gu he
  have hn:=Jp he
  rw[Bb]
  have key:Ah [Ag s ⟨n,l⟩]=0:=by
   cases hv:Ak n with
   |false=>rw[Gv h.vars hv]; exact Xa hn hv (aa g2)
   |true=>
    have e:=g1 hv
    subst e
    rw[FC]
    cases hf:Ar s n with
    |none=>exact Kt hn
    |some x=>
     obtain⟨d,hd,_,e2⟩:=Fz hf
     have h3:=(h.2.1 d hd).2
     rw[e2]at h3
     exact h3
  rw[GL,As key]
  exact ae g3
theorem PZ {P:List Tm->List Tm->Prop} {s:List Bd} {t:Tm} (h:P [t] (Am s [t])):P [t] [Ag s t]:=by
 rw[Bb]at h
 simpa [Am] using h
theorem Ed {s:List Bd} (h:Bv s) {t:Tm} (he:Ah [t]=0):Ah [Ag s t]=0:=PZ (P:=λ_ b=>Ah b=0) (Hs h [t] he)
theorem Bv.goneT {s:List Bd} (h:Bv s) {t:Tm} (he:Ah [t]=0):∀e∈s,¬Au e.nm [Ag s t]:=PZ (P:=λ_ b=>∀e∈s,¬Au e.nm b) (h.gone he)
theorem P2 {a b:List Bd} (hp:a.Perm b) (ha:Cu b) (n:ByteArray):Ar a n=Ar b n:=by
 have ha':Cu a:=ha.perm hp
 cases h1:Ar b n with
 |some x=>
  obtain⟨d,hd,e1,e2⟩:=Fz h1
  have h2:=Kr ha' (hp.symm.subset hd)
  rw[e1,e2]at h2
  exact h2
 |none=>
  cases h2:Ar a n with
  |none=>rfl
  |some x=>
   obtain⟨d,hd,e1,e2⟩:=Fz h2
   have h3:=Kr ha (hp.subset hd)
   rw[e1,h1]at h3
   cases h3
theorem Xb (x:ByteArray) (t:Tm) (s:List Bd) (n:ByteArray):Ar (s.map (Bq x t)) n=(Ar s n).map (Ag [⟨x,t⟩]):=by
 induction s with
 |nil=>rfl
 |cons d r ih=>
  rw[BP,Ar,Ar]
  by_cases e:d.nm=n
  ·rw[As e,As (show(Bq x t d).nm=n from e)]; rfl
  ·rw[An e,An (show ¬(Bq x t d).nm=n from e)]; exact ih
def Cw (s:List Bd) (x:ByteArray) (t:Tm):List Bd:=Hn (s.map (Bq x t)++[⟨x,t⟩])
theorem Jr {s:List Bd} {x:ByteArray} {t:Tm} (h:Cu s) (hx:∀d∈s,d.nm≠x):Cu (s.map (Bq x t)++[⟨x,t⟩]):=by
 refine JQ.2 ⟨FQ.2 h,by simp,λa ha b hb=>?_⟩
 obtain⟨d,hd,rfl⟩:=Ck.1 ha
 have e:b=⟨x,t⟩:=by simpa using hb
 rw[e]
 exact hx d hd
theorem Kw {s:List Bd} {x:ByteArray} {t:Tm} (h:Cu s) (hx:∀d∈s,d.nm≠x) (n:ByteArray):Ag (Cw s x t) ⟨n,[]⟩=Ag [⟨x,t⟩] (Ag s ⟨n,[]⟩):=by
 rw[FC (Cw s x t)]
 unfold Cw
 rw[P2 (EC _) (Jr h hx),W8,Xb,FC s]
 cases hf:Ar s n with
 |some u=>rfl
 |none=>
  show(Ar [⟨x,t⟩] n).getD _=Ag [⟨x,t⟩] ⟨n,[]⟩
  rw[FC]
theorem P4 {x:ByteArray} {t:Tm} (hx:Ak x=true):∀d∈[(⟨x,t⟩:Bd)],Ak d.nm=true:=λd hd=>by
 have e:d=⟨x,t⟩:=by simpa using hd
 rw[e]; exact hx
theorem Bv.add {s:List Bd} (h:Bv s) {x:ByteArray} {t:Tm} (hx:Ak x=true) (hn:∀d∈s,d.nm≠x) (he:Ah [t]=0) (ht:∀e∈s,¬Au e.nm [t]) (ho:¬Au x [t]):Bv (Cw s x t):=by
 have O1:Bv [(⟨x,t⟩:Bd)]:=by
  refine⟨by simp[Cu],λd hd=>?_,λd hd e hm=>?_⟩
  ·have e:d=⟨x,t⟩:=by simpa using hd
   rw[e]; exact⟨hx,he⟩
  ·have e1:d=⟨x,t⟩:=by simpa using hd
   have e2:e=⟨x,t⟩:=by simpa using hm
   rw[e1,e2]; exact ho
 have hp:=EC (s.map (Bq x t)++[⟨x,t⟩])
 have aa:∀d∈Cw s x t,(∃d0∈s,d=Bq x t d0)∨d=⟨x,t⟩:=λd hd=>by
  rcases Bh.1 (hp.subset hd) with hd|hd
  ·obtain⟨d0,h0,rfl⟩:=Ck.1 hd
   exact Ad ⟨d0,h0,rfl⟩
  ·exact Ae (by simpa using hd)
 have ae:∀d0∈s,∀y,Ak y=true->(y=x∨∃e∈s,e.nm=y)->¬Au y [Ag [⟨x,t⟩] d0.t]:=λd0 h0 y hy af hoc=>by
  have h1:Au y (Am [⟨x,t⟩] [d0.t]):=by rw[Bb]; simpa [Am] using hoc
  rcases ME O1.vars hy [d0.t] (h.2.1 d0 h0).2 h1 with ⟨h2,h3⟩|⟨d,hd,h2,h3⟩
  ·rcases af with rfl|⟨e,hm,rfl⟩
   ·simp[Ar]at h3
   ·exact h.2.2 d0 h0 e hm h2
  ·have e1:d=⟨x,t⟩:=by simpa using hd
   subst e1
   rcases af with rfl|⟨e,hm,rfl⟩
   ·exact ho h3
   ·exact ht e hm h3
 refine⟨(Jr h.1 hn).perm hp,λd hd=>?_,λd hd e hm=>?_⟩
 ·rcases aa d hd with ⟨d0,h0,rfl⟩|rfl
  ·exact⟨(h.2.1 d0 h0).1,Ed O1 (h.2.1 d0 h0).2⟩
  ·exact⟨hx,he⟩
 ·have hy:e.nm=x∨∃e0∈s,e0.nm=e.nm:=by
   rcases aa e hm with ⟨e0,h0,rfl⟩|rfl
   ·exact Ae ⟨e0,h0,rfl⟩
   ·exact Ad rfl
  have ag:Ak e.nm=true:=by
   rcases hy with h1|⟨e0,h0,h1⟩
   ·rw[h1]; exact hx
   ·rw[<-h1]; exact(h.2.1 e0 h0).1
  rcases aa d hd with ⟨d0,h0,rfl⟩|rfl
  ·exact ae d0 h0 e.nm ag hy
  ·rcases hy with h1|⟨e0,h0,h1⟩
   ·rw[h1]; exact ho
   ·rw[<-h1]; exact ht e0 h0
theorem ID {s:List Bd} (h:Bv s) {x:ByteArray} {t:Tm} (hx:Ak x=true) (hn:∀d∈s,d.nm≠x) (hs:Bv (Cw s x t)):∀l:List Tm,Ah l=0->Am (Cw s x t) l=Am [⟨x,t⟩] (Am s l):=by
 intro l
 induction l using Tm.indL with
 |h0=>intro _; simp[Am]
 |h n l r aa ae=>
  intro he
  obtain⟨g1,g2,g3⟩:=Gu he
  rw[Bb,Bb,Bb,ae g3]
  CU 1
  cases hv:Ak n with
  |false=>rw[Gv hs.vars hv,Gv h.vars hv,Gv (P4 hx) hv,aa g2]
  |true=>
   have e:=g1 hv
   subst e
   exact Kw h.1 hn n
end Go.Proofs.YtlkeafenklamjaaGreatDoor

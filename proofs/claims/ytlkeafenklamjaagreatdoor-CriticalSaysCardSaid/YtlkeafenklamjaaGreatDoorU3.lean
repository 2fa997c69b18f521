import Derived.Test.YtlkeafenklamjaaGreatDoorU2
namespace Go.Proofs.YtlkeafenklamjaaGreatDoor
set_option linter.all false
set_option maxRecDepth 20000
set_option maxHeartbeats 8000000
open Go.RowKit
def Aw:List Pr->List Tm
 | []=>[]
 |p::l=>p.l::p.r::Aw l
theorem FX:∀a b:List Pr,Aw (a++b)=Aw a++Aw b
 | [],b=>rfl
 |p::a,b=>by rw[Cf,Aw,Aw,FX a b]; rfl
theorem EG (t:Tm) (r:List Tm):Ab (t::r)=Ab [t]+Ab r:=by
 obtain⟨s,l⟩:=t
 simp[Ab]
theorem Cp {t:Tm} {r:List Tm}:Ah (t::r)=0↔Ah [t]=0/\Ah r=0:=by
 rw[GK]
 constructor
 ·intro h
  by_cases e:Ah [t]=0
  ·rw[As e]at h; exact⟨e,h⟩
  ·rw[An e]at h; exact absurd h e
 ·rintro⟨h1,h2⟩
  rw[As h1]; exact h2
theorem GY:∀ {a b:List Tm},Ah (a++b)=0↔Ah a=0/\Ah b=0
 | [],b=>by simp[Ah]
 |t::a,b=>by
  rw[Cf,Cp,GY,Cp (r:=a),and_assoc]
theorem Hu {y:ByteArray}:∀ {a b:List Tm},Au y (Aw (Ax a b))->Au y a∨Au y b
 | [],_,h=>by simp only[Ax,Aw] at h; exact absurd h Fk
 |_::_,[],h=>by simp only[Ax,Aw] at h; exact absurd h Fk
 |t::a,u::b,h=>by
  rw[Ax,Aw,BM,BM (t:=u)]at h
  rw[BM,BM (t:=u)]
  rcases h with h|h|h
  ·exact Ad (Ad h)
  ·exact Ae (Ad h)
  ·rcases Hu h with h|h
   ·exact Ad (Ae h)
   ·exact Ae (Ae h)
theorem P2:∀ {a b:List Tm},Ab (Aw (Ax a b))<=Ab a+Ab b
 | [],_=>by simp[Ax,Aw,Ab]
 |_::_,[]=>by simp[Ax,Aw,Ab]
 |t::a,u::b=>by
  rw[Ax,Aw]
  have h0:=P2 (a:=a) (b:=b)
  have h1:=EG t (u::Aw (Ax a b))
  have h2:=EG u (Aw (Ax a b))
  have h3:=EG t a
  have h4:=EG u b
  simp only at h1 h2 ⊢
  omega
theorem Hv:∀ {a b:List Tm},Ah a=0->Ah b=0->Ah (Aw (Ax a b))=0
 | [],_,_,_=>by simp[Ax,Aw,Ah]
 |_::_,[],_,_=>by simp[Ax,Aw,Ah]
 |t::a,u::b,h1,h2=>by
  rw[Ax,Aw]
  obtain⟨g1,g2⟩:=Cp.1 h1
  obtain⟨g3,g4⟩:=Cp.1 h2
  exact Cp.2 ⟨g1,Cp.2 ⟨g3,Hv g2 g4⟩⟩
def Br (y:ByteArray) (l:List Tm):Bool:=(Ao l).any λk=>k.name.toList==y.toList
theorem Hw {y:ByteArray} {l:List Tm}:Br y l=true↔Au y l:=by
 unfold Br Au
 rw[D7]
 constructor
 ·rintro⟨k,hk,e⟩
  exact⟨k,hk,Ej (by simpa using e)⟩
 ·rintro⟨k,hk,e⟩
  exact⟨k,hk,Hi e⟩
def P4 (V:List ByteArray) (l:List Tm):Nat:=(V.filter λy=>Br y l).length
theorem ME {α:Type} {p q:α->Bool}:∀V:List α,(∀y∈V,q y=true->p y=true)->(V.filter q).length<=(V.filter p).length
 | [],_=>by simp
 |v::V,h=>by
  have ih:=ME V λy hy=>h y (by simp[hy])
  cases hq:q v with
  |true=>
   rw[FN hq,FN (h v (by simp) hq)]
   simp only[Bs]
   omega
  |false=>
   rw[Ge (by rw[hq]; simp)]
   cases hp:p v with
   |true=>rw[FN hp]; simp only[Bs]; omega
   |false=>rw[Ge (by rw[hp]; simp)]; exact ih
theorem MF {α:Type} {p q:α->Bool}:∀V:List α,(∀y∈V,q y=true->p y=true)->(∃x∈V,p x=true/\q x=false)->(V.filter q).length<(V.filter p).length
 | [],_,⟨x,hx,_⟩=>by cases hx
 |v::V,h,⟨x,hx,h1,h2⟩=>by
  have hle:=ME V λy hy=>h y (by simp[hy])
  rcases BE.1 hx with rfl|hx
  ·rw[Ge (by rw[h2]; simp),FN h1]
   simp only[Bs]
   omega
  ·have ih:=MF V (λy hy=>h y (by simp[hy])) ⟨x,hx,h1,h2⟩
   cases hq:q v with
   |true=>
    rw[FN hq,FN (h v (by simp) hq)]
    simp only[Bs]
    omega
   |false=>
    rw[Ge (by rw[hq]; simp)]
    cases hp:p v with
    |true=>rw[FN hp]; simp only[Bs]; omega
    |false=>rw[Ge (by rw[hp]; simp)]; exact ih
theorem IE {x:ByteArray} {t:Tm} (hx:Ak x=true) (h:¬AF x (At [] (Ao [t]))=true):¬Au x [t]:=by
 rintro⟨k,hk,e⟩
 have h1:=(Jp (Ao [t]) []).2 k hk (by rw[e]; exact hx)
 refine h ?_
 unfold AF
 rw[D7]
 exact⟨k.name,h1,Hi e⟩
theorem Kw {s:List Bd} {L:List Tm} {x:ByteArray} {t:Tm} (h:Bv s) (hx:Ak x=true) (hn:∀d∈s,d.nm≠x) (he:Ah [t]=0) (ht:∀e∈s,¬Au e.nm [t]) (ho:¬Au x [t]) (hL:Ah L=0):
  Bv (Cv s x t)/\(∀y,Ak y=true->Au y (Am (Cv s x t) L)->Au y (Am s L)∨Au y [t])/\¬Au x (Am (Cv s x t) L):=by
 have h1:=h.add hx hn he ht ho
 have h2:=ID h hx hn h1 L hL
 have key:∀y,Ak y=true->Au y (Am (Cv s x t) L)->(Au y (Am s L)/\Ar [⟨x,t⟩] y=none)∨Au y [t]:=λy hy hoc=>by
  rw[h2]at hoc
  rcases MD (PZ hx) hy _ (Ht h L hL) hoc with h3|⟨d,hd,_,h4⟩
  ·exact Ad h3
  ·have e:d=⟨x,t⟩:=by simpa using hd
   rw[e]at h4
   exact Ae h4
 refine⟨h1,λy hy hoc=>(key y hy hoc).imp (λh=>h.1) id,λhoc=>?_⟩
 rcases key x hx hoc with ⟨_,h3⟩|h3
 ·simp[Ar]at h3
 ·exact ho h3
theorem Xa (V:List ByteArray):∀(c z:Nat) (s:List Bd) (l:List Pr),Bv s->Ah (Aw l)=0->(∀y,Ak y=true->Au y (Am s (Aw l))->y∈V)->P4 (V.filter Ak) (Am s (Aw l))<=c->Ab (Am s (Aw l))<=z->∃n r,AQ false n s l=some r:=by
 intro c
 induction c using Nat.strongRecOn with
 |_ c ar=>
  intro z
  induction z using Nat.strongRecOn with
  |_ z au=>
   intro s l hs he hV hc hz
   have stop:∀e s',Em false s l=.stop e s'->∃n r,AQ false n s l=some r:=λe s' h=>⟨1,(e,s'),by rw[AQ,h]⟩
   have go:∀s' l',Em false s l=.go s' l'->(∃n r,AQ false n s' l'=some r)->∃n r,AQ false n s l=some r:=λs' l' h ⟨n,r,h2⟩=>⟨n+1,r,by rw[AQ,h]; exact h2⟩
   cases l with
   |nil=>exact stop 0 s rfl
   |cons p l=>
    obtain⟨e1,e2⟩:=Cp.1 he
    obtain⟨e2,e3⟩:=Cp.1 e2
    have ea:=Ed hs e1
    have eb:=Ed hs e2
    have ga:=hs.goneT e1
    have gb:=hs.goneT e2
    rw[Aw,Ba,Ba]at hV hc hz
    rw[ES]at stop go
    generalize Ag s p.l=a at *
    generalize Ag s p.r=b at *
    have aa:∀u:Tm,Au u.name [u]:=λu=>by obtain⟨n,k⟩:=u; exact Dc.2 (Ad rfl)
    have af:∀y,Au y [a]->Au y (a::b::Am s (Aw l)):=λy h=>BM.2 (Ad h)
    have ae:∀y,Au y [b]->Au y (a::b::Am s (Aw l)):=λy h=>BM.2 (Ae (BM.2 (Ad h)))
    have ag:∀y,Au y (Am s (Aw l))->Au y (a::b::Am s (Aw l)):=λy h=>BM.2 (Ae (BM.2 (Ae h)))
    have hsz:Ab (a::b::Am s (Aw l))=Ab [a]+(Ab [b]+Ab (Am s (Aw l))):=by rw[EG,EG b]
    have pa:=J5 a
    have pb:=J5 b
    have same:∀l2,Ah (Aw l2)=0->(∀y,Au y (Am s (Aw l2))->Au y (a::b::Am s (Aw l)))->Ab (Am s (Aw l2))<Ab (a::b::Am s (Aw l))->∃n r,AQ false n s l2=some r:=λl2 h1 h2 h3=>
     au _ (Do h3 hz) s l2 hs h1 (λy hy ho=>hV y hy (h2 y ho)) (AX (ME _ λy hy hq=>Hw.2 (h2 y (Hw.1 hq))) hc) (Aj _)
    have bind:∀x t,Ak x=true->(∀d∈s,d.nm≠x)->Ah [t]=0->(∀e∈s,¬Au e.nm [t])->Au x (a::b::Am s (Aw l))->(∀y,Au y [t]->Au y (a::b::Am s (Aw l)))->Bf false s l a b=CB false s l x t->∃n r,AQ false n s (p::l)=some r:=λx t hx hn het ht ai av h=>by
     unfold CB at h
     by_cases ah:AF x (At [] (Ao [t]))=true
     ·rw[As ah]at h
      exact stop 6 s h
     ·rw[An ah,An (by simp)]at h
      have ho:=IE hx ah
      obtain⟨f1,f2,f3⟩:=Kw (L:=Aw l) hs hx hn het ht ho e3
      have aj:∀y,Ak y=true->Au y (Am (Cv s x t) (Aw l))->Au y (a::b::Am s (Aw l)):=λy hy hoc=>(f2 y hy hoc).elim (ag y) (av y)
      have hlt:P4 (V.filter Ak) (Am (Cv s x t) (Aw l))<c:=by
       refine Do (MF _ (λy hy hq=>Hw.2 (aj y (List.mem_filter.1 hy).2 (Hw.1 hq))) ⟨x,List.mem_filter.2 ⟨hV x hx ai,hx⟩,Hw.2 ai,?_⟩) hc
       cases hq:Br x (Am (Cv s x t) (Aw l)) with
       |false=>rfl
       |true=>exact absurd (Hw.1 hq) f3
      exact go _ l h (ar _ hlt _ _ _ f1 e3 (λy hy hoc=>hV y hy (aj y hy hoc)) (Aj _) (Aj _))
    by_cases h1:2000<Ab [a]∨2000<Ab [b]
    ·exact stop 8 s (by unfold Bf; rw[As h1])
    ·by_cases h2:Ak a.name=true
     ·by_cases h3:a.name=b.name
      ·exact go s l (by unfold Bf; rw[An h1,As h2,As h3]) (same l e3 ag (by omega))
      ·exact bind a.name b h2 (λd hd e=>ga d hd (by rw[e]; exact aa a)) eb gb (af _ (aa a)) ae (by unfold Bf; rw[An h1,As h2,An h3])
     ·by_cases h3:Ak b.name=true
      ·exact bind b.name a h3 (λd hd e=>gb d hd (by rw[e]; exact aa b)) ea ga (ae _ (aa b)) af (by unfold Bf; rw[An h1,An h2,As h3])
      ·by_cases h4:a.name=b.name/\a.args.length=b.args.length
       ·refine go s (Ax a.args b.args++l) (by unfold Bf; rw[An h1,An h2,An h3,As h4]) ?_
        have sub:∀(u:Tm) y,Au y u.args->Au y [u]:=λu y h=>by obtain⟨n,k⟩:=u; exact Dc.2 (Ae (Ad h))
        have ak:∀u:Tm,Ah [u]=0->Ah u.args=0:=λu h=>by obtain⟨n,k⟩:=u; exact(Gt h).2.1
        have ao:∀u:Tm,Ab [u]=1+Ab u.args:=λu=>by obtain⟨n,k⟩:=u; simp[Ab]
        have aq:Am s (Aw (Ax a.args b.args++l))=Aw (Ax a.args b.args)++Am s (Aw l):=by
         rw[FX,Hk,GX]
         intro e hm hoc
         rcases Hu hoc with hoc|hoc
         ·exact ga e hm (sub a _ hoc)
         ·exact gb e hm (sub b _ hoc)
        refine same _ ?_ ?_ ?_
        ·rw[FX]
         exact GY.2 ⟨Hv (ak a ea) (ak b eb),e3⟩
        ·intro y hoc
         rw[aq]at hoc
         rcases Ku.1 hoc with hoc|hoc
         ·rcases Hu hoc with hoc|hoc
          ·exact af y (sub a y hoc)
          ·exact ae y (sub b y hoc)
         ·exact ag y hoc
        ·rw[aq,D8,hsz,ao a,ao b]
         have:=P2 (a:=a.args) (b:=b.args)
         omega
       ·exact stop 5 s (by unfold Bf; rw[An h1,An h2,An h3,An h4])
theorem P5 (l:List Pr) (h:Ah (Aw l)=0):∃n r,AQ false n [] l=some r:=by
 refine Xa ((Ao (Am [] (Aw l))).map (·.name)) _ _ [] l IB h (λy _ hoc=>?_) (Aj _) (Aj _)
 obtain⟨k,hk,e⟩:=hoc
 exact Cj.2 ⟨k,hk,e⟩
end Go.Proofs.YtlkeafenklamjaaGreatDoor

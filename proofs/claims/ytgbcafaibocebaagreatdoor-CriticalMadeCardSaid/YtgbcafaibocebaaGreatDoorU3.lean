import Derived.Test.YtgbcafaibocebaaGreatDoorU2
namespace Go.Proofs.YtgbcafaibocebaaGreatDoor
set_option linter.all false
set_option maxRecDepth 20000
set_option maxHeartbeats 8000000
open Go.RowKit
def Ax:List Pr->List Tm
 | []=>[]
 |p::l=>p.l::p.r::Ax l
theorem Gl:∀a b:List Pr,Ax (a++b)=Ax a++Ax b
 | [],b=>rfl
 |p::a,b=>by rw[Cj,Ax,Ax,Gl a b]; rfl
theorem ET (t:Tm) (r:List Tm):Ab (t::r)=Ab [t]+Ab r:=by
 obtain⟨s,l⟩:=t;simp[Ab]
theorem Cu {t:Tm} {r:List Tm}:Ah (t::r)=0↔Ah [t]=0/\Ah r=0:=by
 rw[GG];constructor
 ·intro h;by_cases e:Ah [t]=0
  ·rw[Ar e]at h; exact⟨e,h⟩
  ·rw[Aj e]at h; exact absurd h e
 ·rintro⟨h1,h2⟩;rw[Ar h1]; exact h2
theorem Ho:∀ {a b:List Tm},Ah (a++b)=0↔Ah a=0/\Ah b=0
 | [],b=>by simp[Ah]
 |t::a,b=>by
  rw[Cj,Cu,Ho,Cu (r:=a),and_assoc]
theorem Ip {y:ByteArray}:∀ {a b:List Tm},Au y (Ax (Az a b))->Au y a∨Au y b
 | [],_,h=>by simp only[Az,Ax] at h; exact absurd h FD
 |_::_,[],h=>by simp only[Az,Ax] at h; exact absurd h FD
 |t::a,u::b,h=>by
  rw[Az,Ax,BO,BO (t:=u)]at h;rw[BO,BO (t:=u)];rcases h with h|h|h
  ·exact Ad (Ad h)
  ·exact Ae (Ad h)
  ·rcases Ip h with h|h
   ·exact Ad (Ae h)
   ·exact Ae (Ae h)
theorem QX:∀ {a b:List Tm},Ab (Ax (Az a b))<=Ab a+Ab b
 | [],_=>by simp[Az,Ax,Ab]
 |_::_,[]=>by simp[Az,Ax,Ab]
 |t::a,u::b=>by
  rw[Az,Ax];have h0:=QX (a:=a) (b:=b);have h1:=ET t (u::Ax (Az a b));have h2:=ET u (Ax (Az a b));have h3:=ET t a;have h4:=ET u b;simp only at h1 h2 ⊢;omega
theorem Iq:∀ {a b:List Tm},Ah a=0->Ah b=0->Ah (Ax (Az a b))=0
 | [],_,_,_=>by simp[Az,Ax,Ah]
 |_::_,[],_,_=>by simp[Az,Ax,Ah]
 |t::a,u::b,h1,h2=>by
  rw[Az,Ax];obtain⟨g1,g2⟩:=Cu.1 h1;obtain⟨g3,g4⟩:=Cu.1 h2;exact Cu.2 ⟨g1,Cu.2 ⟨g3,Iq g2 g4⟩⟩
def Bt (y:ByteArray) (l:List Tm):Bool:=(Ao l).any λk=>k.name.toList==y.toList
theorem Ir {y:ByteArray} {l:List Tm}:Bt y l=true↔Au y l:=by
 unfold Bt Au;rw[Ei];constructor
 ·rintro⟨k,hk,e⟩;exact⟨k,hk,Eu (by simpa using e)⟩
 ·rintro⟨k,hk,e⟩;exact⟨k,hk,Ia e⟩
def QY (V:List ByteArray) (l:List Tm):Nat:=(V.filter λy=>Bt y l).length
theorem Ng {α:Type} {p q:α->Bool}:∀V:List α,(∀y∈V,q y=true->p y=true)->(V.filter q).length<=(V.filter p).length
 | [],_=>by simp
 |v::V,h=>by
  have a:=Ng V λy hy=>h y (by simp[hy]);cases hq:q v with
  |true=>rw[Gb hq,Gb (h v (by simp) hq)];simp only[Bu];omega
  |false=>
   rw[GD (by rw[hq]; simp)];cases hp:p v with
   |true=>rw[Gb hp]; simp only[Bu]; omega
   |false=>rw[GD (by rw[hp]; simp)]; exact a
theorem Nh {α:Type} {p q:α->Bool}:∀V:List α,(∀y∈V,q y=true->p y=true)->(∃x∈V,p x=true/\q x=false)->(V.filter q).length<(V.filter p).length
 | [],_,⟨x,hx,_⟩=>by cases hx
 |v::V,h,⟨x,hx,h1,h2⟩=>by
  have hle:=Ng V λy hy=>h y (by simp[hy]);rcases Bq.1 hx with rfl|hx
  ·rw[GD (by rw[h2]; simp),Gb h1];simp only[Bu];omega
  ·have a:=Nh V (λy hy=>h y (by simp[hy])) ⟨x,hx,h1,h2⟩;cases hq:q v with
   |true=>rw[Gb hq,Gb (h v (by simp) hq)];simp only[Bu];omega
   |false=>
    rw[GD (by rw[hq]; simp)];cases hp:p v with
    |true=>rw[Gb hp]; simp only[Bu]; omega
    |false=>rw[GD (by rw[hp]; simp)]; exact a
theorem Jc {x:ByteArray} {t:Tm} (hx:Al x=true) (h:¬AJ x (At [] (Ao [t]))=true):¬Au x [t]:=by
 rintro⟨k,hk,e⟩;have h1:=(JZ (Ao [t]) []).2 k hk (by rw[e]; exact hx);refine h ?_;unfold AJ;rw[Ei];exact⟨k.name,h1,Ia e⟩
theorem Ls {s:List Bd} {L:List Tm} {x:ByteArray} {t:Tm} (h:BG s) (hx:Al x=true) (hn:∀d∈s,d.nm≠x) (he:Ah [t]=0) (ht:∀e∈s,¬Au e.nm [t]) (ho:¬Au x [t]) (a:Ah L=0):
  BG (Cz s x t)/\(∀y,Al y=true->Au y (Ap (Cz s x t) L)->Au y (Ap s L)∨Au y [t])/\¬Au x (Ap (Cz s x t) L):=by
 have h1:=h.add hx hn he ht ho;have h2:=Jb h hx hn h1 L a;have key:∀y,Al y=true->Au y (Ap (Cz s x t) L)->(Au y (Ap s L)/\As [⟨x,t⟩] y=none)∨Au y [t]:=λy hy hoc=>by
  rw[h2]at hoc;rcases Nf (QW hx) hy _ (Io h L a) hoc with h3|⟨d,hd,_,b⟩
  ·exact Ad h3
  ·have e:d=⟨x,t⟩:=(by simpa using hd);rw[e]at b;exact Ae b
 refine⟨h1,λy hy hoc=>(key y hy hoc).imp (λh=>h.1) id,λhoc=>?_⟩;rcases key x hx hoc with ⟨_,h3⟩|h3
 ·simp[As]at h3
 ·exact ho h3
theorem Yy (V:List ByteArray):∀(c z:Nat) (s:List Bd) (l:List Pr),BG s->Ah (Ax l)=0->(∀y,Al y=true->Au y (Ap s (Ax l))->y∈V)->QY (V.filter Al) (Ap s (Ax l))<=c->Ab (Ap s (Ax l))<=z->∃n r,AU false n s l=some r:=by
 intro c;induction c using Nat.strongRecOn with
 |_ c J=>
  intro z;induction z using Nat.strongRecOn with
  |_ z M=>
   intro s l hs he f hc hz;have stop:∀e s',Ez false s l=.stop e s'->∃n r,AU false n s l=some r:=λe s' h=>⟨1,(e,s'),by rw[AU,h]⟩;have go:∀s' l',Ez false s l=.go s' l'->(∃n r,AU false n s' l'=some r)->∃n r,AU false n s l=some r:=λs' l' h ⟨n,r,h2⟩=>⟨n+1,r,by rw[AU,h]; exact h2⟩;cases l with
   |nil=>exact stop 0 s rfl
   |cons p l=>
    obtain⟨A,g⟩:=Cu.1 he;obtain⟨g,i⟩:=Cu.1 g;have B:=En hs A;have C:=En hs g;have j:=hs.goneT A;have m:=hs.goneT g;rw[Ax,Bb,Bb]at f hc hz;rw[E8]at stop go;generalize Ag s p.l=a at *;generalize Ag s p.r=b at *;have aa:∀u:Tm,Au u.name [u]:=λu=>by obtain⟨n,k⟩:=u; exact Dm.2 (Ad rfl)
    have o:∀y,Au y [a]->Au y (a::b::Ap s (Ax l)):=λy h=>BO.2 (Ad h);have ab:∀y,Au y [b]->Au y (a::b::Ap s (Ax l)):=λy h=>BO.2 (Ae (BO.2 (Ad h)));have q:∀y,Au y (Ap s (Ax l))->Au y (a::b::Ap s (Ax l)):=λy h=>BO.2 (Ae (BO.2 (Ae h)));have N:Ab (a::b::Ap s (Ax l))=Ab [a]+(Ab [b]+Ab (Ap s (Ax l))):=(by rw[ET,ET b]);have pa:=KE a;have pb:=KE b;have same:∀l2,Ah (Ax l2)=0->(∀y,Au y (Ap s (Ax l2))->Au y (a::b::Ap s (Ax l)))->Ab (Ap s (Ax l2))<Ab (a::b::Ap s (Ax l))->∃n r,AU false n s l2=some r:=λl2 h1 h2 h3=>
     M _ (Cn h3 hz) s l2 hs h1 (λy hy ho=>f y hy (h2 y ho)) (AY (Ng _ λy hy hq=>Ir.2 (h2 y (Ir.1 hq))) hc) (Ai _)
    have bind:∀x t,Al x=true->(∀d∈s,d.nm≠x)->Ah [t]=0->(∀e∈s,¬Au e.nm [t])->Au x (a::b::Ap s (Ax l))->(∀y,Au y [t]->Au y (a::b::Ap s (Ax l)))->Bh false s l a b=CI false s l x t->∃n r,AU false n s (p::l)=some r:=λx t hx hn het ht D O h=>by
     unfold CI at h;by_cases v:AJ x (At [] (Ao [t]))=true
     ·rw[Ar v]at h;exact stop 6 s h
     ·rw[Aj v,Aj (by simp)]at h;have ho:=Jc hx v;obtain⟨f1,f2,f3⟩:=Ls (L:=Ax l) hs hx hn het ht ho i;have E:∀y,Al y=true->Au y (Ap (Cz s x t) (Ax l))->Au y (a::b::Ap s (Ax l)):=λy hy hoc=>(f2 y hy hoc).elim (q y) (O y);have P:QY (V.filter Al) (Ap (Cz s x t) (Ax l))<c:=by
       refine Cn (Nh _ (λy hy hq=>Ir.2 (E y (List.mem_filter.1 hy).2 (Ir.1 hq))) ⟨x,List.mem_filter.2 ⟨f x hx D,hx⟩,Ir.2 D,?_⟩) hc;cases hq:Bt x (Ap (Cz s x t) (Ax l)) with
       |false=>rfl
       |true=>exact absurd (Ir.1 hq) f3
      exact go _ l h (J _ P _ _ _ f1 i (λy hy hoc=>f y hy (E y hy hoc)) (Ai _) (Ai _))
    by_cases h1:2000<Ab [a]∨2000<Ab [b]
    ·exact stop 8 s (by unfold Bh; rw[Ar h1])
    ·by_cases h2:Al a.name=true
     ·by_cases h3:a.name=b.name
      ·exact go s l (by unfold Bh; rw[Aj h1,Ar h2,Ar h3]) (same l i q (by omega))
      ·exact bind a.name b h2 (λd hd e=>j d hd (by rw[e]; exact aa a)) C m (o _ (aa a)) ab (by unfold Bh; rw[Aj h1,Ar h2,Aj h3])
     ·by_cases h3:Al b.name=true
      ·exact bind b.name a h3 (λd hd e=>m d hd (by rw[e]; exact aa b)) B j (ab _ (aa b)) o (by unfold Bh; rw[Aj h1,Aj h2,Ar h3])
      ·by_cases F:a.name=b.name/\a.args.length=b.args.length
       ·refine go s (Az a.args b.args++l) (by unfold Bh; rw[Aj h1,Aj h2,Aj h3,Ar F]) ?_;have sub:∀(u:Tm) y,Au y u.args->Au y [u]:=λu y h=>by obtain⟨n,k⟩:=u; exact Dm.2 (Ae (Ad h))
        have G:∀u:Tm,Ah [u]=0->Ah u.args=0:=λu h=>by obtain⟨n,k⟩:=u; exact(GR h).2.1
        have H:∀u:Tm,Ab [u]=1+Ab u.args:=λu=>by obtain⟨n,k⟩:=u; simp[Ab]
        have I:Ap s (Ax (Az a.args b.args++l))=Ax (Az a.args b.args)++Ap s (Ax l):=by
         rw[Gl,Ic,Hn];intro e hm hoc;rcases Ip hoc with hoc|hoc
         ·exact j e hm (sub a _ hoc)
         ·exact m e hm (sub b _ hoc)
        refine same _ ?_ ?_ ?_
        ·rw[Gl];exact Ho.2 ⟨Iq (G a B) (G b C),i⟩
        ·intro y hoc;rw[I]at hoc;rcases Lq.1 hoc with hoc|hoc
         ·rcases Ip hoc with hoc|hoc
          ·exact o y (sub a y hoc)
          ·exact ab y (sub b y hoc)
         ·exact q y hoc
        ·rw[I,Eb,N,H a,H b];have:=QX (a:=a.args) (b:=b.args);omega
       ·exact stop 5 s (by unfold Bh; rw[Aj h1,Aj h2,Aj h3,Aj F])
theorem QZ (l:List Pr) (h:Ah (Ax l)=0):∃n r,AU false n [] l=some r:=by
 refine Yy ((Ao (Ap [] (Ax l))).map (·.name)) _ _ [] l Ja h (λy _ hoc=>?_) (Ai _) (Ai _);obtain⟨k,hk,e⟩:=hoc;exact Ce.2 ⟨k,hk,e⟩

import Derived.Test.YthaililgaompeaaGreatDoorOv1
namespace Go.Proofs.YthaililgaompeaaGreatDoor
set_option linter.all false
set_option maxRecDepth 20000
set_option maxHeartbeats 8000000
open Go.RowKit Go.Proofs.Tryz
variable {n s v:ByteArray} {F b l r:List Tm} {p:Pr} {a t u x y:Tm} {M V aa acc ns row:List ByteArray} {q:Value} {α:Type} {out rs:List Pr} {B i k:Nat} {ls:List Bd} {W W' w:World} {X Z:Nat->Prop} {args:Array Value}
def Da (f:ByteArray->Tm):List Tm->List Tm
 | []=>[]
 | ⟨s,l⟩::r=>(if Aj s=true then f s else ⟨s,Da f l⟩)::Da f r
def Au (f:ByteArray->Tm) (t:Tm):Tm:=if Aj t.name=true then f t.name else ⟨t.name,Da f t.args⟩
theorem Fy (f:ByteArray->Tm) (h:Aj s=true):Au f ⟨s,l⟩=f s:=by unfold Au; rw[Ao h]
theorem DJ (f:ByteArray->Tm) (h:Aj s=false):Au f ⟨s,l⟩=⟨s,Da f l⟩:=by unfold Au; rw[Ah (by rw[h]; simp)]
theorem CX (f:ByteArray->Tm) (t:Tm) (r:List Tm):Da f (t::r)=Au f t::Da f r:=by
 obtain⟨s,l⟩:=t;rw[Da];rfl
theorem Ds (f:ByteArray->Tm):Da f []=[]:=by rw[Da]
theorem PN (f:ByteArray->Tm):∀l:List Tm,(Da f l).length=l.length
 | []=>by simp[Ds]
 |t::r=>by rw[CX]; simp[PN f r]
theorem kP (f g:ByteArray->Tm) (l:List Tm):Da f (Da g l)=Da (λn=>Au f (g n)) l:=by
 induction l using Tm.indL with
 |h0=>simp[Ds]
 |h s l r aa ab=>
  rw[CX g,CX f,CX (λn=>Au f (g n)),ab];congr 1
  cases h:Aj s with
  |true=>rw[Fy g h,Fy (λn=>Au f (g n)) h]
  |false=>rw[DJ g h,DJ (λn=>Au f (g n)) h,DJ f h,aa]
theorem PO (f g:ByteArray->Tm) (t:Tm):Au f (Au g t)=Au (λn=>Au f (g n)) t:=by
 have:=kP f g [t];rw[CX g,Ds,CX f,Ds,CX (λn=>Au f (g n)),Ds]at this;simpa using this
theorem kQ (s:ByteArray):(s.toList==s.toList)=true:=by simp
theorem Ji (h:Af (⟨s,l⟩::r)=0):(Aj s=true->l=[])/\Af l=0/\Af r=0:=by
 obtain⟨h1,h2⟩:=Yy h;refine⟨λhv=>?_,MA h1,h2⟩;simp only[Af] at h1;repeat' split at h1
 all_goals first|(cases h1; done)|skip
 all_goals
  rename_i h3 _;simp[hv]at h3;exact h3
def LM (f:ByteArray->Tm) (h:List Bd):Prop:=∀d∈h,d.t=f d.nm
theorem kR (f:ByteArray->Tm) (l:List Tm):∀h:List Bd,Af l=0->LM f h->∃h',Bx l (Da f l) h=some h'/\LM f h':=by
 induction l using Tm.indL with
 |h0=>intro h _ hc; exact⟨h,by simp[Bx,Ds],hc⟩
 |h s l r ab i=>
  intro h he hc;obtain⟨h1,h2,h3⟩:=Ji he;have key:∃g,AX ⟨s,l⟩ (Au f ⟨s,l⟩) h=some g/\LM f g:=by
   cases hv:Aj s with
   |true=>
    have j:=h1 hv;subst j;have e:Au f ⟨s,[]⟩=f s:=(by simp[Au,hv]);rw[e];cases a:As h s with
    |some x=>obtain⟨d,hd,k,ht⟩:=FJ a;have hx:x=f s:=(by rw[<-ht,hc d hd,k]);exact⟨h,by rw[Oq hv a,hx,Ao (Cr.2 rfl)],hc⟩
    |none=>
     refine⟨h++[⟨s,f s⟩],Oo hv a,λd hd=>?_⟩;rcases Ba.1 hd with hd|hd
     ·exact hc d hd
     ·have b:d=⟨s,f s⟩:=(by simpa using hd);rw[b]
   |false=>obtain⟨g,c,aa⟩:=ab h h2 hc;have e:Au f ⟨s,l⟩=⟨s,Da f l⟩:=(by simp[Au,hv]);rw[e];exact⟨g,by rw[Mu hv (kQ s) (PN f l).symm]; exact c,aa⟩
  obtain⟨g,c,aa⟩:=key;obtain⟨h',m,b⟩:=i g h3 aa;refine⟨h',?_,b⟩;rw[CX,F7,c];exact m
theorem kT (f:ByteArray->Tm) {p:Tm} (he:Af [p]=0):∃h',AX p (Au f p) []=some h'/\LM f h':=by
 obtain⟨h',e,hc⟩:=kR f [p] [] he (by unfold LM; simp);rw[CX,Ds,F7]at e;cases hm:AX p (Au f p) [] with
 |none=>rw[hm] at e; cases e
 |some g=>
  rw[hm]at e;have:g=h':=by simpa [Bx] using e
  exact⟨g,rfl,this▸hc⟩
def Np (h g:List Bd):Prop:=∀n x,As h n=some x->As g n=some x
theorem Vi {n:ByteArray} {x:Tm} (q:Bd):∀ {h:List Bd},As h n=some x->As (h++[q]) n=some x
 | [],h=>by simp[As] at h
 |d::r,h=>by
  simp only[As,Bj] at h ⊢;split
  ·rename_i e; rw[Ao e] at h; exact h
  ·rename_i e; rw[Ah e] at h; exact Vi q h
theorem Vj {n:ByteArray} {x:Tm}:∀ {h:List Bd},As h n=none->As (h++[⟨n,x⟩]) n=some x
 | [],_=>by simp[As]
 |d::r,h=>by
  simp only[As,Bj] at h ⊢;split
  ·rename_i e; rw[Ao e] at h; cases h
  ·rename_i e; rw[Ah e] at h; exact Vj h
def EF (k:List Bd) (n:ByteArray):Tm:=(As k n).getD ⟨n,[]⟩
theorem kW (l:List Tm):∀(c:List Tm) (h h':List Bd),Af l=0->l.length=c.length->Bx l c h=some h'->Np h h'/\∀k,Np h' k->Da (EF k) l=c:=by
 induction l using Tm.indL with
 |h0=>
  intro c h h' _ d he;simp[Bx]at he;subst he;have e:c=[]:=by cases c with|nil=>rfl|cons a b=>simp at d
  subst e;exact⟨λ_ _ h=>h,λ_ _=>Ds _⟩
 |h s l r ab o=>
  intro c h h' q d he;obtain⟨u,v,y⟩:=Ji q;cases c with
  |nil=>simp at d
  |cons t c=>
   rw[F7]at he;cases h1:AX ⟨s,l⟩ t h with
   |none=>rw[h1] at he; cases he
   |some g=>
    rw[h1]at he;obtain⟨i,z⟩:=o c g h' y (by simpa using d) he;have key:Np h g/\∀k,Np g k->Au (EF k) ⟨s,l⟩=t:=by
     cases hv:Aj s with
     |true=>
      have A:=u hv;subst A;have es:∀k,Au (EF k) ⟨s,[]⟩=EF k s:=λk=>by simp[Au,hv]
      cases f:As h s with
      |some x=>
       rw[Oq hv f]at h1;split at h1
       ·rename_i h2;cases h1;have e:x=t:=Cr.1 h2;subst e;exact⟨λ_ _ h=>h,λk hk=>by rw[es,EF,hk _ _ f]; rfl⟩
       ·cases h1
      |none=>rw[Oo hv f]at h1;cases h1;exact⟨λ_ _ h=>Vi _ h,λk hk=>by rw[es,EF,hk _ _ (Vj f)]; rfl⟩
     |false=>
      obtain⟨s2,m⟩:=t;by_cases hc:((s.toList==s2.toList)&&(l.length==m.length))=true
      ·simp only[FZ] at hc;have aa:l.length=m.length:=(by simpa using hc.2);rw[Mu hv hc.1 aa]at h1;obtain⟨a1,a2⟩:=ab m h g v aa h1;refine⟨a1,λk hk=>?_⟩;have e:Au (EF k) ⟨s,l⟩=⟨s,Da (EF k) l⟩:=(by simp[Au,hv]);rw[e,a2 k hk];have B:s=s2:=by
        have j:=hc.1;rw[Jp,Jp]at j;exact ByteArray.ext (Array.ext' (by simpa using j))
       rw[B]
      ·rw[Rc hv (by simpa using hc)]at h1;cases h1
    refine⟨λn x hx=>i n x (key.1 n x hx),λk hk=>?_⟩;rw[CX,z k hk,key.2 k (λn x hx=>hk n x (i n x hx))]
theorem kY {p:Tm} {g:List Bd} (he:Af [p]=0) (hm:AX p t []=some g):Au (EF g) p=t:=by
 have e:Bx [p] [t] []=some g:=by rw[F7,hm]; simp[Bx]
 obtain⟨_,h2⟩:=kW [p] [t] [] g he rfl e;have h3:=h2 g (λ_ _ h=>h);rw[CX,Ds]at h3;simpa using h3
def Gl (F:List Tm) (t:Tm):Prop:=∀k∈Ap [t],∃f∈F,k.name=f.name/\k.args.length=f.args.length
theorem kZ (h:Gl F t):∃f∈F,t.name=f.name/\t.args.length=f.args.length:=h t (by obtain⟨s,l⟩:=t; simp[Ap])
theorem Vk (h:Gl F t) (hx:x∈t.args):Gl F x:=λk hk=>h k (YG hx k hk)
def Ii (row:List ByteArray) (F:List Tm) (b a:Tm):Prop:=AC row a b=true/\Gl F b
def Km (row:List ByteArray) (F:List Tm) (a:Tm):Nat:=(F.filter λf=>Bq row a f).length
theorem Vl {α:Type} {p q:α->Bool}:∀ {l:List α},(∀x∈l,p x=true->q x=true)->(∃x∈l,q x=true/\p x=false)->(l.filter p).length<(l.filter q).length
 | [],_,h=>by obtain⟨x,hx,_⟩:=h; cases hx
 |a::l,h1,h2=>by
  have hle:∀ {l:List α},(∀x∈l,p x=true->q x=true)->(l.filter p).length<=(l.filter q).length:=by
   intro l;induction l with
   |nil=>intro _; simp
   |cons b r d=>intro h;have:=d λx hx=>h x (by simp[hx]);have hb:=h b (by simp);cases hp:p b<;>cases hq:q b<;>simp_all<;>omega
  have ha:=h1 a (by simp);have c:∀x∈l,p x=true->q x=true:=λx hx=>h1 x (by simp[hx]);obtain⟨x,hx,hq,hp⟩:=h2;rcases Bh.1 hx with rfl|hx
  ·have:=hle c;simp[hq,hp];omega
  ·have:=Vl c ⟨x,hx,hq,hp⟩;cases hp':p a<;>cases aa:q a<;>simp_all<;>omega
theorem lC {b f:Tm} (c:Bq row a b=true) (d:f∈F) (h1:b.name=f.name) (h2:b.args.length=f.args.length):Km row F b<Km row F a:=by
 apply Vl
 ·intro x _ hx;exact RM c hx
 ·refine⟨f,d,?_,?_⟩
  ·rw[<-Ix (row:=row) (a:=a) (b:=b) rfl rfl h1 h2]; exact c
  ·exact JT h1 h2
def Jj (row:List ByteArray) (F:List Tm) (l:List Tm):Prop:=∀x∈l,Acc (Ii row F) x
def PP (row:List ByteArray) (F:List Tm) (m l:List Tm):Prop:=m.length=l.length/\Jj row F m/\(∀y∈m,Gl F y)/\∃x y,AV l m=some (x,y)/\AC row x y=true
theorem PQ {q:List Tm}:AV (a::r) (a::q)=AV r q:=by
 rw[AV,Ao (by rw[Cr])]
theorem PR {b:Tm} {q:List Tm} (h:a≠b):AV (a::r) (b::q)=some (a,b):=by
 rw[AV,Ah (by rw[Cr]; exact h)]
theorem Vm {row:List ByteArray} {F:List Tm}:∀(n:Nat) (l:List Tm),l.length=n->Jj row F l->Acc (PP row F) l
 |0,l,c,h=>by
  obtain rfl:=Fj.1 c;refine⟨_,λm hm=>?_⟩;obtain⟨-,-,-,x,y,hu,-⟩:=hm;simp[AV]at hu
 |n+1,[],c,h=>by simp at c
 |n+1,a::r,c,h=>by
  have ha:Acc (Ii row F) a:=h a (by simp);have key:∀a,Acc (Ii row F) a->∀r,r.length=n->Jj row F r->Acc (PP row F) (a::r):=by
   intro a ha;induction ha with
   |intro a ae i=>
    intro r d j;have k:=Vm n r d j;induction k with
    |intro r ab o=>
     refine⟨_,λm hm=>?_⟩;obtain⟨hlen,s,f,x,y,hu,hp⟩:=hm;cases m with
     |nil=>simp at hlen
     |cons b q=>
      have hq:q.length=r.length:=(by simpa using hlen);have aa:Jj row F q:=λx hx=>s x (by simp[hx]);by_cases g:a=b
      ·subst g;rw[PQ]at hu;exact o q ⟨hq,aa,λy hy=>f y (by simp[hy]),x,y,hu,hp⟩ (hq.trans d) aa
      ·rw[PR g]at hu;have e:a=x/\b=y:=(by simpa using hu);rw[<-e.1,<-e.2]at hp;exact i b ⟨hp,f b (by simp)⟩ q (hq.trans d) aa
  exact key a ha r (by simpa using c) λx hx=>h x (by simp[hx])
theorem lD:∀(c:Nat) (a:Tm),Km row F a=c->Jj row F a.args->Acc (Ii row F) a:=by
 intro c;induction c using Nat.strongRecOn with
 |_ c k=>
  intro a hc d
  -- all ag of the same symbol, by ah rows
  have key:∀l,Acc (PP row F) l->∀a:Tm,Km row F a=c->a.args=l->Jj row F l->Acc (Ii row F) a:=by
   intro l m;induction m with
   |intro l ai o=>
    intro a hc aa d;have q:∀(n:Nat) (b:Tm),Ab [b]<=n->Ii row F b a->Acc (Ii row F) b:=by
     intro n;induction n with
     |zero=>intro b hb _; have:=I1 b; omega
     |succ n r=>
      intro b hb hd;obtain⟨hp,e⟩:=hd;rcases(Em row a b).1 hp with ⟨-,h|h⟩
      ·obtain⟨x,hx,h⟩:=h;have j:Acc (Ii row F) x:=d x (aa▸hx);rcases h with rfl|h
       ·exact j
       ·exact j.inv ⟨h,e⟩
      ·obtain⟨hv,s,ab,h⟩:=h;have g:Jj row F b.args:=by
        intro y hy;have:=Cw hy;exact r y (by omega) ⟨ab y hy,Vk e hy⟩
       by_cases i:Bq row a b=true
       ·obtain⟨f,t,h1,h2⟩:=kZ e;have:=lC i t h1 h2;exact k _ (hc▸this) b rfl g
       ·have u:Bq row a b=false:=(by simpa using i);obtain⟨h1,h2⟩:=OM u s;rcases h with h|⟨x,y,hu,v⟩
        ·exact absurd h i
        ·have z:Km row F b=c:=by
          rw[<-hc];unfold Km;congr 2
          funext f
          exact Ix h1.symm h2.symm rfl rfl
         exact o b.args ⟨by rw[<-aa,h2],g,λy hy=>Vk e hy,x,y,by rw[<-aa]; exact hu,v⟩ b z rfl g
    exact⟨_,λb hd=>q _ b (Al _) hd⟩
  exact key a.args (Vm _ _ rfl d) a hc rfl d
theorem Vn (row:List ByteArray) (F:List Tm):∀(n:Nat) (a:Tm),Ab [a]<=n->Acc (Ii row F) a
 |0,a,h=>by have:=I1 a; omega
 |n+1,a,h=>lD _ a rfl λx hx=>Vn row F n x (by have:=Cw hx; omega)
inductive Cc {α:Type} (R:α->α->Prop):α->α->Prop
 |refl (a:α):Cc R a a
 |head {a b c:α}:R a b->Cc R b c->Cc R a c
theorem Cc.trans {R:α->α->Prop} {a b c:α} (h:Cc R a b) (h2:Cc R b c):Cc R a c:=by
 induction h with
 |refl=>exact h2
 |head r _ d=>exact .head r (d h2)
theorem Cc.one {R:α->α->Prop} {a b:α} (h:R a b):Cc R a b:=.head h (.refl b)
def DX {α:Type} (R:α->α->Prop) (a b:α):Prop:=∃c,Cc R a c/\Cc R b c
theorem DX.symm {R:α->α->Prop} {a b:α} (h:DX R a b):DX R b a:=by obtain⟨c,h1,h2⟩:=h; exact⟨c,h2,h1⟩
theorem DX.rfl {R:α->α->Prop} {a:α}:DX R a a:=⟨a,.refl a,.refl a⟩
theorem lE {R:α->α->Prop} (l:∀a b c,R a b->R a c->DX R b c):∀a,Acc (λb a=>R a b) a->∀b c,Cc R a b->Cc R a c->DX R b c:=by
 intro a h;induction h with
 |intro a _ i=>
  intro b c hb hc;cases hb with
  |refl=>exact⟨c,hc,.refl c⟩
  | @head _ j _ g t1=>
   cases hc with
   |refl=>exact⟨b,.refl b,.head g t1⟩
   | @head _ c1 _ k t2=>obtain⟨d,aa,ab⟩:=l a j c1 g k;obtain⟨e,m,n⟩:=i j g b d t1 aa;obtain⟨f,o,q⟩:=i c1 k e c (ab.trans n) t2;exact⟨f,m.trans o,q⟩
theorem Cc.stuck {R:α->α->Prop} {a b:α} (d:∀c,¬R a c) (h:Cc R a b):b=a:=by
 cases h with
 |refl=>rfl
 |head r _=>exact absurd r (d _)
theorem GK (f:ByteArray->Tm):∀l:List Tm,Da f l=l.map (Au f)
 | []=>by simp[Ds]
 |t::r=>by rw[CX,GK f r]; rfl
inductive AR (rs:List Pr):Tm->Tm->Prop
 |top {p:Pr} (f:ByteArray->Tm):p∈rs->AR rs (Au f p.l) (Au f p.r)
 |arg {s:ByteArray} {a b:List Tm} {x y:Tm}:Aj s=false->AR rs x y->AR rs ⟨s,a++x::b⟩ ⟨s,a++y::b⟩
theorem Nq {a:List Tm} (hs:Aj s=false) (h:Cc (AR rs) x y):Cc (AR rs) ⟨s,a++x::b⟩ ⟨s,a++y::b⟩:=by
 induction h with
 |refl=>exact .refl _
 |head r _ c=>exact .head (.arg hs r) c
theorem Vo {a:List Tm} (hs:Aj s=false) (h:DX (AR rs) x y):DX (AR rs) ⟨s,a++x::b⟩ ⟨s,a++y::b⟩:=by
 obtain⟨c,h1,h2⟩:=h;exact⟨_,Nq hs h1,Nq hs h2⟩
theorem lF (f:ByteArray->Tm) (h:AR rs x y):AR rs (Au f x) (Au f y):=by
 induction h with
 |top g hp=>rw[PO,PO]; exact .top _ hp
 | @arg s a b x y hs _ c=>rw[DJ f hs,DJ f hs,GK,GK,CI,CI,Bo,Bo];exact .arg hs c
theorem Vp (f:ByteArray->Tm) (h:Cc (AR rs) x y):Cc (AR rs) (Au f x) (Au f y):=by
 induction h with
 |refl=>exact .refl _
 |head r _ a=>exact .head (lF f r) a
theorem PX {rs:List Pr} {s:ByteArray} (hs:Aj s=false):∀(l m pre:List Tm),l.length=m.length->(∀i (h:i<l.length) (h2:i<m.length),Cc (AR rs) l[i] m[i])->Cc (AR rs) ⟨s,pre++l⟩ ⟨s,pre++m⟩
 | [],[],pre,_,_=>.refl _
 | [],_::_,_,h,_=>by simp at h
 |_::_,[],_,h,_=>by simp at h
 |x::l,y::m,pre,a,h=>by
  have h0:=h 0 (by simp) (by simp);have h1:=PX hs l m (pre++[y]) (by simpa using a) λi hi h2=>by
   have:=h (i+1) (by simpa using hi) (by simpa using h2);simpa using this
  have h2:Cc (AR rs) ⟨s,pre++x::l⟩ ⟨s,pre++y::l⟩:=Nq hs h0;rw[DN,DN]at h1;exact h2.trans h1
theorem lG {f g:ByteArray->Tm} (h:∀n,Cc (AR rs) (f n) (g n)) (l:List Tm):∀i (hi:i<l.length),Cc (AR rs) (Au f l[i]) (Au g l[i]):=by
 induction l using Tm.indL with
 |h0=>intro i hi; simp at hi
 |h s l r aa ab=>
  intro i hi;cases i with
  |succ i=>simpa using ab i (by simpa using hi)
  |zero=>
   show Cc (AR rs) (Au f ⟨s,l⟩) (Au g ⟨s,l⟩);cases hv:Aj s with
   |true=>rw[Fy f hv,Fy g hv]; exact h s
   |false=>
    rw[DJ f hv,DJ g hv,GK,GK];have:=PX (rs:=rs) hv (l.map (Au f)) (l.map (Au g)) [] (by simp) λi h1 h2=>by simpa using aa i (by simpa using h1)
    simpa using this
theorem PY {f g:ByteArray->Tm} (h:∀n,Cc (AR rs) (f n) (g n)) (t:Tm):Cc (AR rs) (Au f t) (Au g t):=by
 simpa using lG h [t] 0 (by simp)
def Hf (f:ByteArray->Tm) (v:ByteArray) (z:Tm) (n:ByteArray):Tm:=if n=v then z else f n
theorem Vq {f:ByteArray->Tm} {z:Tm} (h:AR rs (f v) z) (n:ByteArray):Cc (AR rs) (f n) (Hf f v z n):=by
 unfold Hf;split
 ·rename_i e; subst e; exact .one h
 ·exact .refl _
def PZ (rs:List Pr) (f:ByteArray->Tm) (l y:Tm):Prop:=∃(π:List Int) (u:Tm) (q:Pr) (g:ByteArray->Tm),AA l π=some u/\Aj u.name=false/\q∈rs/\Au f u=Au g q.l/\y=AJ (Au g q.r) π (Au f l)
def P2 (rs:List Pr) (f:ByteArray->Tm) (l y:Tm):Prop:=∃v z,AR rs (f v) z/\Cc (AR rs) y (Au (Hf f v z) l)
theorem Vr (f:Tm->Tm) (i:Int):∀(l:List Tm) (j:Nat),i<(j:Int)->Dp f i j l=l
 | [],_,_=>by rw[Dp]
 |a::r,j,h=>by rw[Dp,Ah (by omega),Vr f i r (j+1) (by omega)]
theorem Vs (f:Tm->Tm) (t:Tm) (b:List Tm):∀(a:List Tm) (j:Nat),Dp f ((j+a.length:Nat):Int) j (a++t::b)=a++f t::b
 | [],j=>by
  rw[CE,Dp,Ao (by simp),Vr _ _ _ _ (by simp only[DB]; omega)]; rfl
 |c::a,j=>by
  rw[Bj,Dp,Ah (by simp only[Bg]; omega)];have:=Vs f t b a (j+1);rw[show j+1+a.length=j+(c::a).length by simp only[Bg]; omega]at this;rw[this]; rfl
theorem Nr {r:List Int} {a:List Tm}:AJ x ((a.length:Int)::r) ⟨s,a++t::b⟩=⟨s,a++AJ x r t::b⟩:=by
 rw[AJ];have e:=Vs (AJ x r) t b a 0;rw[DA]at e;simp only;rw[e]
theorem lH {r:List Int} {a:List Tm}:AA ⟨s,a++t::b⟩ ((a.length:Int)::r)=AA t r:=by
 rw[AA];have hc:0<=(a.length:Int)/\(a.length:Int).toNat<(a++t::b).length:=by simp
 rw[EY hc];simp
theorem Vt (h:AR rs t y):(∃p f,p∈rs/\t=Au f p.l/\y=Au f p.r)∨∃s a b x z,Aj s=false/\AR rs x z/\t=⟨s,a++x::b⟩/\y=⟨s,a++z::b⟩:=by
 cases h with
 |top f hp=>exact Ae ⟨_,f,hp,rfl,rfl⟩
 |arg hs h=>exact Ad ⟨_,_,_,_,_,hs,h,rfl,rfl⟩
theorem lI {f:ByteArray->Tm} (l:List Tm):∀i (hi:i<l.length) (y:Tm),AR rs (Au f l[i]) y->PZ rs f l[i] y∨P2 rs f l[i] y:=by
 induction l using Tm.indL with
 |h0=>intro i hi; simp at hi
 |h s l r aa ab=>
  intro i hi y hy;cases i with
  |succ i=>exact ab i (by simpa using hi) y (by simpa using hy)
  |zero=>
   replace hy:AR rs (Au f ⟨s,l⟩) y:=hy;show PZ rs f ⟨s,l⟩ y∨P2 rs f ⟨s,l⟩ y;cases hv:Aj s with
   |true=>rw[Fy f hv]at hy;refine Ad ⟨s,y,hy,?_⟩;rw[Fy _ hv];unfold Hf;rw[Ao rfl];exact .refl y
   |false=>
    rcases Vt hy with ⟨p,g,hp,d,e⟩|⟨s',a,b,x,z,hs,m,d,e⟩
    ·exact Ae ⟨[],⟨s,l⟩,p,g,by rw[AA],hv,hp,d,by rw[AJ]; exact e⟩
    ·rw[DJ f hv,GK]at d;have n:s=s'/\l.map (Au f)=a++x::b:=(by simpa using d);obtain⟨rfl,o⟩:=n;obtain⟨l1,l2,rfl,rfl,A⟩:=List.map_eq_append_iff.1 o;obtain⟨t,c,rfl,rfl,rfl⟩:=List.map_eq_cons_iff.1 A;have B:l1.length<(l1++t::c).length:=(by simp);have h6:=aa l1.length B z (by simpa using m);rw[show(l1++t::c)[l1.length]=t by simp]at h6;rcases h6 with ⟨π,u,q,g,h1,h2,h3,C,D⟩|⟨v,w,h1,h2⟩
     ·refine Ae ⟨(l1.length:Int)::π,u,q,g,by rw[lH]; exact h1,h2,h3,C,?_⟩;rw[e,D,DJ f hv,GK,CI,Bo];have:=Nr (x:=Au g q.r) (r:=π) (s:=s) (a:=l1.map (Au f)) (b:=c.map (Au f)) (t:=Au f t);rw[EZ]at this;exact this.symm
     ·refine Ad ⟨v,w,h1,?_⟩;rw[e,DJ _ hv,GK,CI,Bo];have hu:=Vq (rs:=rs) h1;have k1:Cc (AR rs) ⟨s,l1.map (Au f)++z::c.map (Au f)⟩ ⟨s,l1.map (Au f)++Au (Hf f v w) t::c.map (Au f)⟩:=Nq hv h2;refine k1.trans ?_;have k2:=PX (rs:=rs) hv (l1.map (Au f)++Au (Hf f v w) t::c.map (Au f)) (l1.map (Au (Hf f v w))++Au (Hf f v w) t::c.map (Au (Hf f v w))) [] (by simp) λi hi h2=>by
       by_cases j:i<l1.length
       ·rw[JB (by simpa using j),JB (by simpa using j)];simpa using PY hu l1[i]
       ·rw[List.getElem_append_right (by simpa using j),List.getElem_append_right (by simpa using j)];simp only[EZ];obtain⟨k,hk⟩:∃k,i-l1.length=k:=⟨_,rfl⟩;simp only[hk];cases k with
        |zero=>exact .refl _
        |succ k=>
         have af:k<c.length:=by simp at hi; omega
         simpa using PY hu c[k]
      simpa using k2
theorem lJ {f:ByteArray->Tm} {l:Tm} (h:AR rs (Au f l) y):PZ rs f l y∨P2 rs f l y:=by
 simpa using lI (rs:=rs) (f:=f) [l] 0 (by simp) y (by simpa using h)
def Kn (rs:List Pr):Prop:=∀p∈rs,∀q∈rs,∀(π:List Int) (u:Tm) (f g:ByteArray->Tm),AA p.l π=some u->Aj u.name=false->Au f u=Au g q.l->DX (AR rs) (Au f p.r) (AJ (Au g q.r) π (Au f p.l))
theorem Vu (h:Kn rs) (hp:p∈rs) {f:ByteArray->Tm} (hy:AR rs (Au f p.l) y):DX (AR rs) (Au f p.r) y:=by
 rcases lJ hy with ⟨π,u,q,g,h1,h2,h3,a,b⟩|⟨v,z,h1,h2⟩
 ·rw[b]; exact h p hp q h3 π u f g h1 h2 a
 ·exact⟨Au (Hf f v z) p.r,PY (Vq h1) p.r,h2.trans (.one (.top _ hp))⟩
theorem lK (h:Kn rs) (hx:AR rs t x):∀y,AR rs t y->DX (AR rs) x y:=by
 induction hx with
 |top f hp=>intro y hy; exact Vu h hp hy
 | @arg s a b i m hs h0 r=>
  intro y hy;rcases Vt hy with ⟨p,f,hp,n,o⟩|⟨s',a',b',j,g,ab,aa,n,o⟩
  ·rw[o];refine(Vu h hp ?_).symm;rw[<-n]; exact .arg hs h0
  ·rw[o];have u:s=s'/\a++i::b=a'++j::b':=(by simpa using n);obtain⟨rfl,v⟩:=u;rcases List.append_eq_append_iff.1 v with ⟨c,k,l⟩|⟨c,k,l⟩
   ·cases c with
    |nil=>have q:a=a':=(by simpa using k.symm);have e:i=j/\b=b':=(by simpa using l);obtain⟨rfl,rfl⟩:=e;subst q;exact Vo hs (r g aa)
    |cons d c=>
     have e:i=d/\b=c++j::b':=(by simpa using l);obtain⟨rfl,rfl⟩:=e;subst k;refine⟨⟨s,a++m::(c++g::b')⟩,.one ?_,.one ?_⟩
     ·have:=AR.arg (rs:=rs) (a:=a++m::c) (b:=b') hs aa;simpa using this
     ·have:=AR.arg (rs:=rs) (a:=a) (b:=c++g::b') hs h0;simpa using this
   ·cases c with
    |nil=>have q:a=a':=(by simpa using k);have e:j=i/\b'=b:=(by simpa using l);obtain⟨rfl,rfl⟩:=e;subst q;exact Vo hs (r g aa)
    |cons d c=>
     have e:j=d/\b'=c++i::b:=(by simpa using l);obtain⟨rfl,rfl⟩:=e;subst k;refine⟨⟨s,a'++g::(c++m::b)⟩,.one ?_,.one ?_⟩
     ·have:=AR.arg (rs:=rs) (a:=a') (b:=c++m::b) hs aa;simpa using this
     ·have:=AR.arg (rs:=rs) (a:=a'++g::c) (b:=b) hs h0;simpa using this
theorem Vv {f:Tm->Tm}:∀ {a b:List Tm} {x y:Tm},AV a b=some (x,y)->f x≠f y->AV (a.map f) (b.map f)=some (f x,f y)
 | [],_,x,y,h,_=>by simp[AV] at h
 |_::_,[],x,y,h,_=>by simp[AV] at h
 |t::a,u::b,x,y,h,c=>by
  by_cases e:t=u
  ·subst e;rw[PQ]at h;rw[Bo,Bo,PQ];exact Vv h c
  ·rw[PR e]at h;have d:t=x/\u=y:=(by simpa using h);obtain⟨rfl,rfl⟩:=d;rw[Bo,Bo,PR c]
theorem IF (f:ByteArray->Tm) (h:Aj t.name=false):Au f t=⟨t.name,t.args.map (Au f)⟩:=by
 obtain⟨s,l⟩:=t;rw[DJ f h,GK]
theorem Ns {row:List ByteArray} (f:ByteArray->Tm):∀(n:Nat) (a b:Tm),Ab [a]+Ab [b]<=n->AC row a b=true->AC row (Au f a) (Au f b)=true
 |0,a,b,h,_=>by have:=I1 a; omega
 |n+1,a,b,hn,h=>by
  obtain⟨c,h⟩:=(Em row a b).1 h;rw[IF f c];rcases h with ⟨x,hx,h⟩|⟨d,i,all,h⟩
  ·refine(Em row _ _).2 ⟨c,Ae ⟨Au f x,Bk.2 ⟨x,hx,rfl⟩,?_⟩⟩;have:=Cw hx;rcases h with rfl|h
   ·exact Ae rfl
   ·exact Ad (Ns f n x b (by omega) h)
  ·rw[IF f d];refine(Em row _ _).2 ⟨c,Ad ⟨d,?_,λy hy=>?_,?_⟩⟩
   ·rw[<-i];exact Ix rfl (by simp) rfl (by simp)
   ·obtain⟨g,aa,rfl⟩:=Bk.1 (show y∈b.args.map (Au f) from hy);have:=Cw aa;have h1:=Ns f n a g (by omega) (all g aa);rw[IF f c]at h1;exact h1
   ·rcases h with h|⟨x,y,hu,h⟩
    ·refine Ae ?_;rw[<-h];exact Ix rfl (by simp) rfl (by simp)
    ·obtain⟨j,k⟩:=JI hu;have:=Cw j;have:=Cw k;have h1:=Ns f n x y (by omega) h;have l:Au f x≠Au f y:=λe=>by rw[e,OO] at h1; cases h1
     exact Ad ⟨_,_,Vv hu l,h1⟩
theorem lL (h:∀p∈rs,AC row p.l p.r=true) (hx:AR rs x y):AC row x y=true:=by
 induction hx with
 |top f hp=>exact Ns f _ _ _ (Al _) (h _ hp)
 | @arg s a b x y hs _ c=>exact RR hs a b c
def Nt (F:List Tm) (k:Tm):Prop:=∃f∈F,k.name=f.name/\k.args.length=f.args.length
theorem Nu (s:ByteArray) (l:List Tm):Ap [(⟨s,l⟩:Tm)]=⟨s,l⟩::Ap l:=by simp[Ap]
theorem P4 (t:Tm) (r:List Tm):Ap (t::r)=Ap [t]++Ap r:=Mh [t] r
theorem P7 {k:Tm}:k∈Ap l↔∃t∈l,k∈Ap [t]:=by
 induction l with
 |nil=>simp[Ap]
 |cons t r a=>rw[P4,Ba,a]; simp
theorem lM (f:ByteArray->Tm) (l:List Tm):(∀k∈Ap l,Aj k.name=false->Nt F k)->(∀k∈Ap l,Aj k.name=true->Gl F (f k.name))->∀k∈Ap (Da f l),Nt F k:=by
 induction l using Tm.indL with
 |h0=>intro _ _ k hk; rw[Ds] at hk; simp[Ap] at hk
 |h s l r aa ab=>
  intro h1 h2 k hk;rw[CX,P4,Ba]at hk;have m1:∀k∈Ap l,k∈Ap (⟨s,l⟩::r):=λk hk=>by simp[Ap,hk]
  have m2:∀k∈Ap r,k∈Ap (⟨s,l⟩::r):=λk hk=>by simp[Ap,hk]
  have m0:(⟨s,l⟩:Tm)∈Ap (⟨s,l⟩::r):=by simp[Ap]
  rcases hk with hk|hk
  ·cases hv:Aj s with
   |true=>rw[Fy f hv] at hk; exact h2 _ m0 hv k hk
   |false=>
    rw[DJ f hv,Nu]at hk;rcases Bh.1 hk with rfl|hk
    ·obtain⟨g,a,b,c⟩:=h1 _ m0 hv;exact⟨g,a,b,by rw[<-c]; exact PN f l⟩
    ·exact aa (λk hk=>h1 k (m1 k hk)) (λk hk=>h2 k (m1 k hk)) k hk
  ·exact ab (λk hk=>h1 k (m2 k hk)) (λk hk=>h2 k (m2 k hk)) k hk
theorem lN (f:ByteArray->Tm) (l:List Tm):∀k∈Ap l,Aj k.name=true->∀z∈Ap [f k.name],z∈Ap (Da f l)∨∃c∈Ap l,Aj c.name=true/\c.args≠[]:=by
 induction l using Tm.indL with
 |h0=>intro k hk; simp[Ap] at hk
 |h s l r aa ab=>
  intro k hk hv z hz;rw[CX,P4 (Au f ⟨s,l⟩),Ba];have a:k=⟨s,l⟩∨k∈Ap l∨k∈Ap r:=by simpa [Ap] using hk
  have m0:(⟨s,l⟩:Tm)∈Ap (⟨s,l⟩::r):=by simp[Ap]
  rcases a with rfl|hk|hk
  ·rw[Fy f hv]; exact Ae (Ae hz)
  ·cases hs:Aj s with
   |true=>exact Ad ⟨_,m0,hs,λe=>by simp only at e; rw[e] at hk; simp[Ap] at hk⟩
   |false=>
    rcases aa k hk hv z hz with h|⟨c,h1,h2⟩
    ·rw[DJ f hs,Nu]; exact Ae (Ae (by simp[h]))
    ·exact Ad ⟨c,by simp[Ap,h1],h2⟩
  ·rcases ab k hk hv z hz with h|⟨c,h1,h2⟩
   ·exact Ae (Ad h)
   ·exact Ad ⟨c,by simp[Ap,h1],h2⟩
structure Vw (F:List Tm) (p:Pr):Prop where
 vs:∀k∈Ap [p.r],Aj k.name=true->∃c∈Ap [p.l],c.name=k.name
 lf:∀c∈Ap [p.l],Aj c.name=true->c.args=[]
 sy:∀k∈Ap [p.r],Nt F k
theorem Vx:Gl F ⟨s,l⟩↔Nt F ⟨s,l⟩/\∀t∈l,Gl F t:=by
 unfold Gl;rw[Nu];constructor
 ·intro h;exact⟨h _ (by simp),λt ht k hk=>h k (by simp only[Bh]; exact Ad (P7.2 ⟨t,ht,hk⟩))⟩
 ·rintro⟨h1,h2⟩ k hk;rcases Bh.1 hk with rfl|hk
  ·exact h1
  ·obtain⟨t,ht,hk⟩:=P7.1 hk;exact h2 t ht k hk
theorem Vy (h:∀p∈rs,Vw F p) (hx:AR rs x y):Gl F x->Gl F y:=by
 induction hx with
 | @top p f hp=>
  intro hs;have ho:=h p hp;have key:=lM (F:=F) f [p.r] (λk hk _=>ho.sy k hk) λk hk hv=>by
   obtain⟨c,hc,e⟩:=ho.vs k hk hv;intro z hz;rw[<-e]at hz hv;rcases lN f [p.l] c hc hv z hz with h1|⟨d,h1,h2,h3⟩
   ·rw[CX,Ds]at h1;exact hs z h1
   ·exact absurd (ho.lf d h1 h2) h3
  rw[CX,Ds]at key;exact key
 | @arg s a b x y hs _ i=>
  intro aa;obtain⟨h1,h2⟩:=Vx.1 aa;refine Vx.2 ⟨?_,λt ht=>?_⟩
  ·obtain⟨g,j,m,n⟩:=h1;exact⟨g,j,m,by rw[<-n]; simp⟩
  ·rcases Ba.1 ht with ht|ht
   ·exact h2 t (by simp[ht])
   ·rcases Bh.1 ht with rfl|ht
    ·exact i (h2 x (by simp))
    ·exact h2 t (by simp[ht])
theorem lO (hd:∀p∈rs,AC row p.l p.r=true) (hv:∀p∈rs,(∀k∈Ap [p.r],Aj k.name=true->∃c∈Ap [p.l],c.name=k.name)/\∀c∈Ap [p.l],Aj c.name=true->c.args=[]) (t:Tm):Acc (λb a=>AR rs a b) t:=by
 have hF:∀p∈rs,Vw (Ap [t]++rs.flatMap λp=>Ap [p.r]) p:=λp hp=>
  ⟨(hv p hp).1,(hv p hp).2,λk hk=>⟨k,N5 _ (IM.2 ⟨p,hp,hk⟩),rfl,rfl⟩⟩
 have hs:Gl (Ap [t]++rs.flatMap λp=>Ap [p.r]) t:=λk hk=>⟨k,GX _ hk,rfl,rfl⟩;generalize Ap [t]++(rs.flatMap λp=>Ap [p.r])=F at hF hs;have ha:=Vn row F _ t (Al _);induction ha with
 |intro t _ d=>refine⟨_,λb hb=>?_⟩;exact d b ⟨lL hd hb,Vy hF hb hs⟩ (Vy hF hb hs)
theorem lP (ho:Kn rs) (ha:Acc (λb a=>AR rs a b) t) (hx:Cc (AR rs) t x) (hy:Cc (AR rs) t y) (d:∀c,¬AR rs x c) (e:∀c,¬AR rs y c):x=y:=by
 obtain⟨c,h1,h2⟩:=lE (λa b c h1 h2=>lK ho h1 c h2) t ha x y hx hy;rw[<-h1.stuck d,h2.stuck e]
theorem lQ (b:Gw ls) (l:List Tm):Af l=0->At ls l=Da (EF ls) l:=by
 induction l using Tm.indL with
 |h0=>intro _; simp[At,Ds]
 |h s l r aa ab=>
  intro he;obtain⟨h1,h2,h3⟩:=Ji he;rw[AY,CX,ab h3];congr 1
  cases hv:Aj s with
  |true=>
   have c:=h1 hv;subst c;have e:Au (EF ls) ⟨s,[]⟩=EF ls s:=(by simp[Au,hv]);rw[e];cases a:As ls s with
   |some x=>simp[Ai,Hr,a,EF]
   |none=>rw[Iu (Ad a),EF,a]; simp[At]
  |false=>
   have a:As ls s=none:=by
    cases a:As ls s with
    |none=>rfl
    |some x=>have:=b s x a; rw[hv] at this; cases this
   rw[DJ _ hv,Iu (Ad a),aa h2]
theorem Nv (a:Gw ls) (he:Af [t]=0):Ai ls t=Au (EF ls) t:=by
 have:=lQ a [t] he;rw[AY,CX,Ds]at this;simpa [At] using this
theorem Vz {rs:List Pr} {y:Tm}:∀(p:List Int) (t x:Tm),Af [t]=0->AA t p=some x->AR rs x y->AR rs t (AJ y p t)
 | [],t,x,ht,h,hp=>by simp[AA] at h; subst h; simpa [AJ] using hp
 |i::r,t,x,ht,h,hp=>by
  obtain⟨k,hk,rfl,h2⟩:=Gu h;have h3:=Vz r _ x (Hx ht _ (AM hk)) h2 hp;obtain⟨s,l⟩:=t;simp only at hk h3;have hs:Aj s=false:=by
   cases hv:Aj s with
   |false=>rfl
   |true=>have:=(Gz ht).1 hv; subst this; simp at hk
  have e:l=l.take k++l[k]::l.drop (k+1):=by rw[<-Jx hk,DM]
  have aa:(l.take k).length=k:=by simp; omega
  have c:=AR.arg (rs:=rs) (a:=l.take k) (b:=l.drop (k+1)) hs h3;have d:=Nr (x:=y) (r:=r) (s:=s) (a:=l.take k) (b:=l.drop (k+1)) (t:=l[k]);rw[aa]at d;rw[<-d,<-e]at c;exact c
theorem VA (b:∀p∈rs,Br p=0) (ht:Af [t]=0) (hx:x∈Cl rs t):AR rs t x:=by
 unfold Cl at hx;obtain⟨p,hp,h1⟩:=IM.1 hx;unfold JM at h1;cases ha:AA t p with
 |none=>rw[ha] at h1; simp at h1
 |some z=>
  rw[ha]at h1;simp only at h1;obtain⟨r,aa,h2⟩:=Mc.1 h1;unfold FG at h2;cases hm:AX r.l z [] with
  |none=>rw[hm] at h2; simp at h2
  |some g=>rw[hm]at h2;simp only[Option.map_some,Gr] at h2;subst h2;obtain⟨a,c,q3,_⟩:=Gv (b r aa);have v1:=(SW (BU a) hm).1;have v2:=kY (BU a) hm;refine Vz p t z ht ha ?_;rw[Nv v1 (BU c),<-v2];exact .top _ aa
theorem VB (a:∀p∈rs,Br p=0) (ht:Af [t]=0) (hx:x∈Cl rs t):Af [x]=0:=(Pf a ht hx).1
theorem VC (d:∀p∈rs,Br p=0) (h:Cx rs [x]):∀y,¬AR rs x y:=by
 intro y hy;have key:∀ {x y:Tm},AR rs x y->∃k∈Ap [x],DE rs k=true:=by
  intro x y hy;induction hy with
  | @top p f hp=>
   refine⟨Au f p.l,?_,?_⟩
   ·obtain⟨s,l⟩:=Au f p.l; simp[Ap]
   ·unfold DE;rw[D6];refine⟨p,hp,?_⟩;obtain⟨g,e,_⟩:=kT f (BU (Gv (d p hp)).1);unfold I4;rw[e]; rfl
  | @arg s a b x y hs _ i=>obtain⟨k,hk,c⟩:=i;refine⟨k,?_,c⟩;rw[Nu];exact N7 _ (P7.2 ⟨x,by simp,hk⟩)
 obtain⟨k,hk,c⟩:=key hy;rw[h k hk]at c;cases c
theorem Nw {inner:Bool} (b:∀p∈rs,Br p=0):∀(m:Nat) (t x:Tm) (n:Nat),Af [t]=0->AL rs inner m t=(0,x,n)->Cc (AR rs) t x:=by
 intro m;induction m with
 |zero=>
  intro t x n ht h;cases a:Cu rs inner t with
  |none=>rw[I5 a] at h; cases h; exact .refl _
  |some t'=>rw[Lk a] at h; cases h
 |succ m c=>
  intro t x n ht h;cases a:Cu rs inner t with
  |none=>rw[I5 a] at h; cases h; exact .refl _
  |some t'=>
   by_cases hz:2000<Ab [t']
   ·rw[Ll a hz]at h; cases h
   ·rw[Ln a (by omega)]at h;have hm:=Tc a;have aa:=VB b ht hm;unfold DW at h;split at h
    ·rename_i h0;cases h;exact .head (VA b ht hm) (c t' (AL rs inner m t').2.1 (AL rs inner m t').2.2 aa (Prod.ext h0 rfl))
    ·rename_i h0;simp only[IK] at h;exact absurd h.1 h0
theorem lR (c:∀p∈rs,Br p=0) {i j:Bool} {m:Nat} {b:Tm} (ha:Af [a]=0) (hb:Af [b]=0) (h1:(AL rs i m a).1=0) (h2:(AL rs j k b).1=0) (h3:(AL rs i m a).2.1=(AL rs j k b).2.1):DX (AR rs) a b:=by
 have k1:=Nw c m a (AL rs i m a).2.1 (AL rs i m a).2.2 ha (Prod.ext h1 rfl);have k2:=Nw c k b (AL rs j k b).2.1 (AL rs j k b).2.2 hb (Prod.ext h2 rfl);exact⟨_,k1,h3▸k2⟩
theorem VD (h:Br p=0):(∀k∈Ap [p.r],Aj k.name=true->∃c∈Ap [p.l],c.name=k.name)/\∀c∈Ap [p.l],Aj c.name=true->c.args=[]:=by
 obtain⟨a,q2,q3,b⟩:=Gv h;refine⟨λk hk hv=>?_,λc hc hv=>?_⟩
 ·have h1:=b _ ((MY (Ap [p.r]) []).2 k hk hv);rcases J6 _ _ _ h1 with h2|⟨c,h2,h3,_⟩
  ·cases h2
  ·exact⟨c,h2,h3⟩
 ·have key:∀l:List Tm,Af l=0->∀c∈Ap l,Aj c.name=true->c.args=[]:=by
   intro l;induction l using Tm.indL with
   |h0=>intro _ c hc; simp[Ap] at hc
   |h s l r aa ab=>
    intro he c hc hv;obtain⟨h1,h2,h3⟩:=Ji he;have d:c=⟨s,l⟩∨c∈Ap l∨c∈Ap r:=(by simpa [Ap] using hc);rcases d with rfl|hk|hk
    ·exact h1 hv
    ·exact aa h2 c hk hv
    ·exact ab h3 c hk hv
  exact key [p.l] (BU a) c hc hv
theorem lS (a:∀p∈rs,Br p=0) (hd:∀p∈rs,AC row p.l p.r=true) (ho:Kn rs) (hx:Cc (AR rs) t x) (hy:Cc (AR rs) t y) (b:Cx rs [x]) (c:Cx rs [y]):x=y:=
 lP ho (lO hd (λp hp=>VD (a p hp)) t) hx hy (VC a b) (VC a c)
theorem lT {f g:ByteArray->Tm} (l:List Tm):(∀k∈Ap l,Aj k.name=true->f k.name=g k.name)->Da f l=Da g l:=by
 induction l using Tm.indL with
 |h0=>intro _; rw[Ds,Ds]
 |h s l r aa ab=>
  intro h;rw[CX,CX,ab λk hk=>h k (by simp[Ap,hk])];congr 1
  cases hv:Aj s with
  |true=>rw[Fy f hv,Fy g hv]; exact h ⟨s,l⟩ (by simp[Ap]) hv
  |false=>rw[DJ f hv,DJ g hv,aa λk hk=>h k (by simp[Ap,hk])]
theorem P8 {f g:ByteArray->Tm} (h:∀k∈Ap [t],Aj k.name=true->f k.name=g k.name):Au f t=Au g t:=by
 have:=lT [t] h;rw[CX,Ds,CX,Ds]at this;simpa using this
theorem lU {f g:ByteArray->Tm} (l:List Tm):Af l=0->Da f l=Da g l->∀k∈Ap l,Aj k.name=true->f k.name=g k.name:=by
 induction l using Tm.indL with
 |h0=>intro _ _ k hk; simp[Ap] at hk
 |h s l r aa ab=>
  intro he e k hk hv;obtain⟨h1,h2,h3⟩:=Ji he;rw[CX,CX]at e;have a:=(List.cons.inj e).1;have b:=(List.cons.inj e).2;have c:k=⟨s,l⟩∨k∈Ap l∨k∈Ap r:=by simpa [Ap] using hk
  rcases c with rfl|hk|hk
  ·rw[Fy f hv,Fy g hv]at a; exact a
  ·cases hs:Aj s with
   |true=>have:=h1 hs; subst this; simp[Ap] at hk
   |false=>rw[DJ f hs,DJ g hs]at a;exact aa h2 (by simpa using a) k hk hv
  ·exact ab h3 b k hk hv
theorem lV {f g:ByteArray->Tm} (he:Af [t]=0) (h:Au f t=Au g t):∀k∈Ap [t],Aj k.name=true->f k.name=g k.name:=
 lU [t] he (by rw[CX,Ds,CX,Ds,h])
theorem VE (he:Af [t]=0) (hv:Aj t.name=true):t.args=[]:=by
 obtain⟨s,l⟩:=t;exact(Ji he).1 hv
theorem Nx (f:ByteArray->Tm):∀(p:List Int) (t u:Tm),Af [t]=0->AA t p=some u->AA (Au f t) p=some (Au f u)
 | [],t,u,_,h=>by simp only[AA,Gr] at h ⊢; rw[h]
 |i::r,t,u,he,h=>by
  obtain⟨k,hk,rfl,h2⟩:=Gu h;have hv:Aj t.name=false:=by
   cases hv:Aj t.name with
   |false=>rfl
   |true=>rw[VE he hv] at hk; simp at hk
  have h3:=Nx f r _ u (Hx he _ (AM hk)) h2;rw[IF f hv,AA];have hc:0<=(k:Int)/\(k:Int).toNat<(t.args.map (Au f)).length:=by simpa using hk
  rw[EY hc];simpa using h3
theorem VF (f:ByteArray->Tm) (y:Tm):∀(p:List Int) (t u:Tm),Af [t]=0->AA t p=some u->Au f (AJ y p t)=AJ (Au f y) p (Au f t)
 | [],t,u,_,h=>by simp only[AJ]
 |i::r,t,u,he,h=>by
  obtain⟨k,hk,rfl,h2⟩:=Gu h;have hv:Aj t.name=false:=by
   cases hv:Aj t.name with
   |false=>rfl
   |true=>rw[VE he hv] at hk; simp at hk
  have h3:=VF f y r _ u (Hx he _ (AM hk)) h2;obtain⟨s,l⟩:=t;simp only at hk h3 hv;have c:l=l.take k++l[k]::l.drop (k+1):=by rw[<-Jx hk,DM]
  have aa:(l.take k).length=k:=by simp; omega
  have d:=Nr (x:=y) (r:=r) (s:=s) (a:=l.take k) (b:=l.drop (k+1)) (t:=l[k]);rw[aa,<-c]at d;have h6:=Nr (x:=Au f y) (r:=r) (s:=s) (a:=(l.take k).map (Au f)) (b:=(l.drop (k+1)).map (Au f)) (t:=Au f l[k]);rw[EZ,aa]at h6;have e:l.map (Au f)=(l.take k).map (Au f)++Au f l[k]::(l.drop (k+1)).map (Au f):=by
   conv=>lhs; rw[c]
   rw[CI,Bo]
  rw[d,DJ f hv,GK,DJ f hv,GK,e,h6,CI,Bo,h3]
theorem VG:∀(p:List Int) (t u:Tm),Af [t]=0->AA t p=some u->Af [u]=0
 | [],t,u,he,h=>by simp only[AA,Gr] at h; rw[<-h]; exact he
 |i::r,t,u,he,h=>by
  obtain⟨k,hk,rfl,h2⟩:=Gu h;exact VG r _ u (Hx he _ (AM hk)) h2
theorem VH:∀(p:List Int) (t u:Tm),AA t p=some u->p∈Ez t
 | [],t,u,h=>by unfold Ez; simp
 |i::r,t,u,h=>by
  obtain⟨k,hk,rfl,h2⟩:=Gu h;have h3:=VH r _ u h2;unfold Ez;refine N7 _ ?_;have a:t.args=t.args.take k++t.args[k]::t.args.drop (k+1):=by rw[<-Jx hk,DM]
  rw[a,XY,KZ];have aa:0+(t.args.take k).length=k:=by simp; omega
  rw[aa];exact N5 _ (GX _ (Bk.2 ⟨r,h3,rfl⟩))
theorem lW {p:List Int} (h:AA t p=some u):(p,u)∈BB [] [] t:=by
 have e:=K9 (λp x=>[(p,x)]) t (λp=>match AA t p with|some x=>[(p,x)]|none=>[]) (λp x hx=>by rw[hx]);have h1:(p,u)∈(Ez t).flatMap (λp=>match AA t p with|some x=>[(p,x)]|none=>[]):=
  IM.2 ⟨p,VH p t u h,by rw[h]; simp⟩
 rw[<-e]at h1;obtain⟨d,hd,h2⟩:=IM.1 h1;have h3:(p,u)=(d.1,d.2):=by simpa using h2
 rw[h3]; exact hd
theorem Qa {s:ByteArray}:∀ {l:List ByteArray},s∈l->A0 s l<l.length
 |n::r,h=>by
  by_cases e:n=s
  ·simp[A0,e]
  ·have h2:s∈r:=by
    rcases Bh.1 h with h|h
    ·exact absurd h.symm e
    ·exact h
   have:=Qa h2;simp[A0,e]; omega
theorem VI {s:ByteArray} {b:List ByteArray}:∀ {a:List ByteArray},s∈a->A0 s (a++b)=A0 s a
 |n::r,h=>by
  by_cases e:n=s
  ·simp[A0,e]
  ·have h2:s∈r:=by
    rcases Bh.1 h with h|h
    ·exact absurd h.symm e
    ·exact h
   have:=VI (b:=b) h2;simp[A0,e,this]
theorem VJ (ns:List ByteArray) (s:ByteArray):s∈CY ns s:=by
 unfold CY;split
 ·rename_i h; have:=ME s ns h; rw[<-this]; exact AM h
 ·simp
theorem lX (ns:List ByteArray) (s:ByteArray):ns <+: CY ns s:=by
 unfold CY;split
 ·exact Me _
 ·exact List.prefix_append _ _
theorem lY {a b:List ByteArray} (h:a <+: b) (hs:s∈a):A0 s b=A0 s a:=by
 obtain⟨c,rfl⟩:=h;exact VI hs
theorem LN (K:ByteArray->ByteArray) (l:List Tm):∀ns,ns <+: (AQ K ns l).2:=by
 induction l using Tm.indL with
 |h0=>intro ns; rw[Fu]; exact Me _
 |h s l r ab aa=>
  intro ns;rw[AQ];split
  ·exact(lX ns (K s)).trans (aa _)
  ·exact(ab ns).trans (aa _)
theorem lZ (K:ByteArray->ByteArray) (l:List Tm):∀ns,Af l=0->∀k∈Ap l,Aj k.name=true->K k.name∈(AQ K ns l).2:=by
 induction l using Tm.indL with
 |h0=>intro ns _ k hk; simp[Ap] at hk
 |h s l r ab aa=>
  intro ns he k hk hv;obtain⟨h1,h2,h3⟩:=Ji he;have a:k=⟨s,l⟩∨k∈Ap l∨k∈Ap r:=by simpa [Ap] using hk
  rw[AQ];rcases a with rfl|hk|hk
  ·rw[Ao hv]; exact(LN K r _).subset (VJ ns (K s))
  ·cases hs:Aj s with
   |true=>have:=h1 hs; subst this; simp[Ap] at hk
   |false=>simp only[Bool.false_eq_true,if_false];exact(LN K r _).subset (ab ns h2 k hk hv)
  ·split
   ·exact aa _ h3 k hk hv
   ·exact aa _ h3 k hk hv
def Ij (K:ByteArray->ByteArray) (M:List ByteArray) (s:ByteArray):Tm:=⟨Dl (A0 (K s) M+1),[]⟩
theorem mA (K:ByteArray->ByteArray) (l:List Tm):∀ns,(AQ K ns l).2 <+: M->(AQ K ns l).1=Da (Ij K M) l:=by
 induction l using Tm.indL with
 |h0=>intro ns _; rw[Fu,Ds]
 |h s l r ab aa=>
  intro ns a;rw[CX];rw[AQ]at a ⊢;cases hv:Aj s with
  |true=>simp only[hv,F4] at a ⊢;rw[Fy _ hv,aa _ a];have h1:CY ns (K s) <+: M:=(LN K r _).trans a;have h2:=lY h1 (VJ ns (K s));rw[Yv]at h2;unfold Ij;rw[h2]
  |false=>simp only[hv,Bool.false_eq_true,if_false] at a ⊢;rw[DJ _ hv,aa _ a,ab ns ((LN K r _).trans a)]
theorem Ny (K:ByteArray->ByteArray) (ns:List ByteArray) (t:Tm):AQ K ns [t]=([(AW K ns t).1],(AW K ns t).2):=by rw[G7,Fu]
theorem Qb (K:ByteArray->ByteArray) (h:(AW K ns t).2 <+: M):(AW K ns t).1=Au (Ij K M) t:=by
 have:=mA K (M:=M) [t] ns (by rw[Ny]; exact h);rw[Ny,CX,Ds]at this;simpa using this
theorem LO (K:ByteArray->ByteArray) (ns:List ByteArray) (t:Tm):ns <+: (AW K ns t).2:=by
 have:=LN K [t] ns;rw[Ny]at this; exact this
theorem mB (K:ByteArray->ByteArray) (ns:List ByteArray) (he:Af [t]=0):∀k∈Ap [t],Aj k.name=true->K k.name∈(AW K ns t).2:=by
 have:=lZ K [t] ns he;rw[Ny]at this; exact this
open Classical in
noncomputable def Ko (M:List ByteArray) (F:ByteArray->Tm) (n:ByteArray):Tm:=if h:∃k,k∈M/\n=Dl (A0 k M+1) then F (Classical.choose h) else ⟨n,[]⟩
theorem mC {a b:ByteArray} (ha:a∈M) (hb:b∈M) (h:A0 a M=A0 b M):a=b:=by
 have h1:=ME a M (Qa ha);have h2:=ME b M (Qa hb);rw[<-h1,<-h2];congr 1
theorem mD (F:ByteArray->Tm) {k:ByteArray} (h:k∈M):Ko M F (Dl (A0 k M+1))=F k:=by
 unfold Ko;have hx:∃k',k'∈M/\Dl (A0 k M+1)=Dl (A0 k' M+1):=⟨k,h,rfl⟩;rw[EY hx];obtain⟨h1,h2⟩:=Classical.choose_spec hx;have h3:=eG h2;have e:Classical.choose hx=k:=(mC h h1 (by omega)).symm;rw[e]
theorem mE (k:Nat):Aj (Dl k)=true:=by
 unfold Aj Dl Cq;have h0:0<(⟨(90::Lib.decDigits k).toArray⟩:ByteArray).size:=by show 0<(90::Lib.decDigits k).toArray.size; simp
 rw[EY h0];rfl
theorem Kq {K:ByteArray->ByteArray} {F g:ByteArray->Tm} (he:Af [t]=0) (h:(AW K ns t).2 <+: M) (hF:∀s,F (K s)=g s):Au (Ko M F) (AW K ns t).1=Au g t:=by
 rw[Qb K h,PO];refine P8 λk hk hv=>?_;show Au (Ko M F) (Ij K M k.name)=g k.name;unfold Ij;rw[Fy _ (mE _),mD F (h.subset (mB K ns he k hk hv)),hF]
theorem VK (i:Nat) (s:ByteArray):(AD i s).data.toList=Lib.decDigits i++s.data.toList:=by
 unfold AD;rw[ByteArray.data_append];simp
theorem VL {t:ByteArray} (h:AD i s=AD i t):s=t:=by
 have h1:=Cb (λb:ByteArray=>b.data.toList) h;simp only[VK] at h1;have h2:=List.append_cancel_left h1;exact ByteArray.ext (Array.ext' h2)
theorem mF {t:ByteArray} (h:AD 0 s=AD 1 t):False:=by
 have h1:=Cb (λb:ByteArray=>b.data.toList) h;simp only[VK] at h1;rw[show Lib.decDigits 0=[48] by decide +kernel,show Lib.decDigits 1=[49] by decide +kernel]at h1;simp at h1
open Classical in
noncomputable def LP (f g:ByteArray->Tm) (k:ByteArray):Tm:=if h:∃s,k=AD 0 s then f (Classical.choose h) else if h:∃s,k=AD 1 s then g (Classical.choose h) else ⟨k,[]⟩
theorem VM (f g:ByteArray->Tm) (s:ByteArray):LP f g (AD 0 s)=f s:=by
 unfold LP;have hx:∃t,AD 0 s=AD 0 t:=⟨s,rfl⟩;rw[EY hx];have e:Classical.choose hx=s:=(VL (Classical.choose_spec hx)).symm;rw[e]
theorem VN (f g:ByteArray->Tm) (s:ByteArray):LP f g (AD 1 s)=g s:=by
 unfold LP;have a:¬ ∃t,AD 1 s=AD 0 t:=by rintro⟨t,ht⟩; exact mF ht.symm
 have hx:∃t,AD 1 s=AD 1 t:=⟨s,rfl⟩;rw[dif_neg a,EY hx];have e:Classical.choose hx=s:=(VL (Classical.choose_spec hx)).symm;rw[e]
theorem mG (K:ByteArray->ByteArray) (ns:List ByteArray) (p:Pr):ns <+: (BW K ns p).2:=(LO K ns p.l).trans (LO K _ p.r)
theorem mH {q:Pr} (hp:Af [p.l]=0/\Af [p.r]=0) (hq:Af [q.l]=0/\Af [q.r]=0) (f g:ByteArray->Tm):
  ∃h,(Au h (AZ p q).1.l=Au f p.l/\Au h (AZ p q).1.r=Au f p.r)/\Au h (AZ p q).2.l=Au g q.l/\Au h (AZ p q).2.r=Au g q.r:=by
 have a:(BW (AD 0) [] p).2 <+: (BW (AD 1) (BW (AD 0) [] p).2 q).2:=mG _ _ _;refine⟨Ko (BW (AD 1) (BW (AD 0) [] p).2 q).2 (LP f g),⟨?_,?_⟩,?_,?_⟩
 ·exact Kq hp.1 ((LO _ _ _).trans a) (VM f g)
 ·exact Kq hp.2 a (VM f g)
 ·exact Kq hq.1 (LO _ _ _) (VN f g)
 ·exact Kq hq.2 (Me _) (VN f g)
theorem mI {q:Pr}:(AZ p q).1.l=Au (Ij (AD 0) (AW (AD 0) [] p.l).2) p.l/\∃M,(AZ p q).2.l=Au (Ij (AD 1) M) q.l:=
 ⟨Qb _ (Me _),_,Qb _ (Me _)⟩
theorem mJ {w:Pr} (hw:Af [w.l]=0/\Af [w.r]=0) (f:ByteArray->Tm):∃h,Au h (Df w).l=Au f w.l/\Au h (Df w).r=Au f w.r:=by
 refine⟨Ko (BW id [] w).2 f,?_,?_⟩
 ·exact Kq hw.1 (LO _ _ _) (λ_=>rfl)
 ·exact Kq hw.2 (Me _) (λ_=>rfl)
theorem mK {w:Pr} (hw:Af [w.l]=0/\Af [w.r]=0) (h:DX (AR rs) (Df w).l (Df w).r) (f:ByteArray->Tm):DX (AR rs) (Au f w.l) (Au f w.r):=by
 obtain⟨k,h1,h2⟩:=mJ hw f;obtain⟨c,h3,a⟩:=h;rw[<-h1,<-h2];exact⟨_,Vp k h3,Vp k a⟩
def Kr (V:List ByteArray) (h:ByteArray->Tm):List Bd:=V.map λv=>⟨v,h v⟩
theorem mL {h:ByteArray->Tm} (hv:v∈V):As (Kr V h) v=some (h v):=by
 induction V with
 |nil=>cases hv
 |cons a r b=>
  show(if a=v then some (h a) else As (Kr r h) v)=some (h v);by_cases e:a=v
  ·rw[Ao e,e]
  ·rw[Ah e];rcases Bh.1 hv with hv|hv
   ·exact absurd hv.symm e
   ·exact b hv
theorem mM (h:As ls n=some x):∃d∈ls,d.nm=n:=by
 obtain⟨d,hd,h1,_⟩:=Lt h;exact⟨d,hd,h1⟩
theorem Qc (h:∀d∈ls,Aj d.nm=true):Gw ls:=λn x hx=>by
 obtain⟨d,hd,rfl⟩:=mM hx;exact h d hd
theorem Nz {h:ByteArray->Tm} (a:∀v∈V,Aj v=true) (he:Af [x]=0) (hx:∀k∈Ap [x],Aj k.name=true->k.name∈V):Ai (Kr V h) x=Au h x:=by
 have hb:Gw (Kr V h):=Qc λd hd=>by
  obtain⟨v,hv,rfl⟩:=Bk.1 hd;exact a v hv
 rw[Nv hb he];refine P8 λk hk hv=>?_;unfold EF;rw[mL (hx k hk hv)];rfl
abbrev Rn:=Pr×Nat
def GL (U:List Pr->Int×List Bd) (q:Rn×Rn):Prop:=∃d∈BB [] [] (AZ q.1.1 q.2.1).1.l,FL U (AZ q.1.1 q.2.1) (decide (q.1.2=q.2.2)) d
def FQ (U:List Pr->Int×List Bd) (q:Rn×Rn):List Pr:=Id U q.1.1 q.2.1 (decide (q.1.2=q.2.2))
open Classical in
noncomputable def C2 (U:List Pr->Int×List Bd):List (Rn×Rn)->List Pr->Int×List Pr
 | [],out=>(0,out)
 |q::r,out=>if GL U q then (8,[]) else if 400<(out++FQ U q).length then (3,[]) else C2 U r (out++FQ U q)
theorem NA (U:List Pr->Int×List Bd) (out:List Pr):C2 U [] out=(0,out):=by rw[C2]
theorem Qd {U:List Pr->Int×List Bd} {q:Rn×Rn} {r:List (Rn×Rn)} (h:GL U q):C2 U (q::r) out=(8,[]):=by rw[C2,Ao h]
theorem Qe {U:List Pr->Int×List Bd} {q:Rn×Rn} {r:List (Rn×Rn)} (h:¬GL U q) (hm:400<(out++FQ U q).length):C2 U (q::r) out=(3,[]):=by rw[C2,Ah h,Ao hm]
theorem NC {U:List Pr->Int×List Bd} {q:Rn×Rn} {r:List (Rn×Rn)} (h:¬GL U q) (hm:¬400<(out++FQ U q).length):C2 U (q::r) out=C2 U r (out++FQ U q):=by rw[C2,Ah h,Ah hm]
def DK {α:Type} (Z:List α) (i j:Nat):List (α×α):=(match Z[i]? with|some o=>(Z.drop j).map λn=>(o,n)|none=>[])++(Z.drop (i+1)).flatMap λo=>Z.map λn=>(o,n)
theorem mN (Z:List α) (i j:Nat) (hi:i<Z.length) (hj:j<Z.length):DK Z i j=(Z[i],Z[j])::DK Z i (j+1):=by
 unfold DK;rw[F1 hi];simp only;rw[Jx hj,Bo,Bj]
theorem mO (Z:List α) (i:Nat) (hi:i<Z.length):DK Z i Z.length=DK Z (i+1) 0:=by
 unfold DK;rw[F1 hi];by_cases h:i+1<Z.length
 ·rw[F1 h];simp only[List.drop_length,Ky,CE,Jy];rw[Jx h,Hm]
 ·rw[List.getElem?_eq_none (by omega),N4 (by omega:Z.length<=i+1),N4 (by omega:Z.length<=i+1+1)];simp
theorem mP (Z:List α):DK Z Z.length 0=[]:=by
 unfold DK;rw[List.getElem?_eq_none (Al _),N4 (by omega:Z.length<=Z.length+1)];rfl
noncomputable def CD (U:List Pr->Int×List Bd) (rs:List Pr):Int×List Pr:=C2 U (DK rs.zipIdx 0 0) []
theorem VO (rs:List Pr):rs.zipIdx.length=rs.length:=by simp
theorem Qf (rs:List Pr) (i:Nat) (h:i<rs.length):rs.zipIdx[i]'(by simpa using h)=(rs[i],i):=by simp
theorem VP (h:ER ls) (ht:Af [t]=0):fT ls t=Ai ls t:=by
 have h1:=Lr h [t] ht;rw[AY]at h1;obtain⟨s,l⟩:=t;rw[fL]at h1;exact(List.cons.inj h1).1
def Ks (U:List Pr->Int×List Bd):Prop:=∀x l:Tm,Af [x]=0->Ab [x]<=200->Av l=0->∃g,BG false g [] [⟨x,l⟩]=some (U [⟨x,l⟩])
theorem mQ {U:List Pr->Int×List Bd} (g:Ks U) {l:Tm} (hx:Af [x]=0) (hz:Ab [x]<=200) (a:Av l=0) {t:List Bd} (ht:∀d∈t,Aj d.nm=true) (he:Ai t x=Ai t l):
  (CB (U [⟨x,l⟩])=0∨CB (U [⟨x,l⟩])=8)/\(CB (U [⟨x,l⟩])=0->Bz (U [⟨x,l⟩]).2/\Dz t (U [⟨x,l⟩]).2):=by
 obtain⟨n,i⟩:=g x l hx hz a;have j:=BU a;have ag:=En a;have k:Af (AB [⟨x,l⟩])=0:=by
  have e:AB [(⟨x,l⟩:Pr)]=[x]++[l]:=by simp[AB]
  rw[e]; exact Jb.2 ⟨hx,j⟩
 have m:=UI.start k (λp hp=>by
  have e:p=⟨x,l⟩:=by simpa using hp
  rw[e]; exact⟨by show Ab [x]<=2000; omega,by show Ab [l]<=2000; omega⟩) (by simp)
 obtain⟨h',o,q,_,h0,h1⟩:=Us n [] [⟨x,l⟩] (U [⟨x,l⟩]) m i;have aa:Ee t [⟨x,l⟩]:=λp hp=>by
  have e:p=⟨x,l⟩:=by simpa using hp
  rw[e]; exact he
 have ab:Dz t (Ar []):=iF t;unfold CB;by_cases b:Bm (U [⟨x,l⟩]).2=true
 ·rw[Ao b];exact⟨Ad rfl,λh=>by cases h⟩
 ·rw[Ah b];refine⟨?_,λh=>?_⟩
  ·by_cases c:(U [⟨x,l⟩]).1=0
   ·exact Ae c
   ·by_cases f:(U [⟨x,l⟩]).1=8
    ·exact Ad f
    ·exact absurd ⟨ab,aa⟩ (h1 c f t ht)
  ·refine⟨?_,(h0 h t ht).2 ⟨ab,aa⟩⟩;rw[o]; exact q.all
theorem mR {l:Tm} {h:ByteArray->Tm} (hx:Aj x.name=false) (a:Aj l.name=false) (he:Au h x=Au h l):Gj x l=true:=by
 rw[IF h hx,IF h a]at he;have e:x.name=l.name/\x.args.map (Au h)=l.args.map (Au h):=by simpa using he
 have b:x.args.length=l.args.length:=by have:=Cb List.length e.2; simpa using this
 unfold Gj;rw[e.1,b];simp
theorem mS {U:List Pr->Int×List Bd} (G:Ks U) {q:Pr} (hp:Br p=0) (hq:Br q=0) {same:Bool} (hs:same=true->p=q)
  (H:¬ ∃d∈BB [] [] (AZ p q).1.l,FL U (AZ p q) same d) (hj:∀w∈Id U p q same,DX (AR rs) w.l w.r)
  {π:List Int} {f g:ByteArray->Tm} (h1:AA p.l π=some u) (h2:Aj u.name=false) (h3:Au f u=Au g q.l):DX (AR rs) (Au f p.r) (AJ (Au g q.r) π (Au f p.l)):=by
 obtain⟨pl,y,pv,_⟩:=Gv hp;obtain⟨z,qr,qv,_⟩:=Gv hq;by_cases aa:π=[]/\same=true
 ·obtain⟨rfl,t⟩:=aa;obtain rfl:=hs t;have e:p.l=u:=by simpa [AA] using h1
  subst e;have I:=lV (BU pl) h3;have J:Au f p.r=Au g p.r:=P8 λk hk hv=>by
   obtain⟨c,hc,L⟩:=(VD hp).1 k hk hv;rw[<-L]at hv ⊢;exact I c hc hv
  rw[AJ,J];exact DX.rfl
 ·obtain⟨h,⟨a1,a2⟩,N,O⟩:=mH ⟨BU pl,BU y⟩ ⟨BU z,BU qr⟩ f g;obtain⟨fa,M,P⟩:=mI (p:=p) (q:=q);obtain⟨⟨m,n⟩,bl,R⟩:=Nk ⟨pl,y⟩ ⟨z,qr⟩;generalize W:AZ p q=ab at *;obtain⟨a,b⟩:=ab;simp only at *;have j:AA a.l π=some (Au (Ij (AD 0) (AW (AD 0) [] p.l).2) u):=by rw[fa]; exact Nx _ π p.l u (BU pl) h1
  generalize hx:Au (Ij (AD 0) (AW (AD 0) [] p.l).2) u=x at j;have Y:Aj x.name=false:=by rw[<-hx,IF _ h2]; exact h2
  have Z:Aj b.l.name=false:=by rw[P,IF _ qv]; exact qv
  have A:=VG π a.l x (BU m) j;have ay:Ab [x]<=200:=by have:=Lh π a.l x j; have:=En m; omega
  have B:Au h x=Au h b.l:=(by have k1:=Nx h π a.l x (BU m) j;have k2:=Nx f π p.l u (BU pl) h1;rw[a1,k2]at k1;rw[N,<-h3];exact(IP k1).symm);have az:=mR Y Z B;have o:Af [AJ b.r π a.l]=0:=(Lu (BU R) π a.l x (BU m) j).1
  -- all ae that ai
  let V:=((Ap [x]++Ap [b.l]++Ap [a.r]++Ap [AJ b.r π a.l]).map (·.name)).filter Aj
  have s:∀v∈V,Aj v=true:=λv hv=>(L9.1 hv).2;have inV:∀k∈Ap [x]++Ap [b.l]++Ap [a.r]++Ap [AJ b.r π a.l],Aj k.name=true->k.name∈V:=λk hk hv=>L9.2 ⟨Bk.2 ⟨k,hk,rfl⟩,hv⟩;have ex:=Nz (h:=h) s A λk hk hv=>inV k (by simp[hk]) hv;have eb:=Nz (h:=h) s (BU bl) λk hk hv=>inV k (by simp[hk]) hv;have ea:=Nz (h:=h) s (BU n) λk hk hv=>inV k (by simp[hk]) hv;have ep:=Nz (h:=h) s o λk hk hv=>inV k (by simp[hk]) hv;have ht:∀d∈Kr V h,Aj d.nm=true:=λd hd=>by
   obtain⟨v,hv,rfl⟩:=Bk.1 hd;exact s v hv
  generalize hT:Kr V h=T at *;obtain⟨C,a6⟩:=mQ G A ay bl ht (by rw[ex,eb,B]);have hd:=lW j;have D:DH U (a,b) same (π,x)=false:=by
   unfold DH;simp only[az,Bool.not_true,Bool.or_false];have e1:(decide (π=[])&&same)=false:=by
    cases t:same with
    |false=>simp
    |true=>simpa using λe=>aa ⟨e,t⟩
   rw[e1];rcases C with e|e<;>simp[e]
  have a7:¬FL U (a,b) same (π,x):=λhF=>H ⟨(π,x),hd,hF⟩;have h0:CB (U [⟨x,b.l⟩])=0:=by
   rcases C with e|e
   ·exact e
   ·exact absurd ⟨D,Ae e⟩ a7
  obtain⟨i,E⟩:=a6 h0;have aj:Df (Dm U (a,b) (π,x))∈Id U p q same:=by
   unfold Id;rw[W];refine Mc.2 ⟨(π,x),hd,?_⟩;unfold He;rw[D]; rfl
  have a8:=hj _ aj;have F:Dm U (a,b) (π,x)=⟨Ai (U [⟨x,b.l⟩]).2 a.r,Ai (U [⟨x,b.l⟩]).2 (AJ b.r π a.l)⟩:=(by unfold Dm;simp only;rw[VP i.vars (BU n),VP i.vars o]);have aA:Af [(Dm U (a,b) (π,x)).l]=0/\Af [(Dm U (a,b) (π,x)).r]=0:=(by rw[F]; exact⟨DG i (BU n),DG i o⟩);have hm:=mK aA a8 (EF T);rw[F]at hm;simp only at hm;rw[<-Nv (Qc ht) (DG i (BU n)),<-Nv (Qc ht) (DG i o),LI ht i.vars E (BU n),LI ht i.vars E o,ea,ep,a2,VF h b.r π a.l x (BU m) j,O,a1]at hm;exact hm
open Go.RowKit Go.Shelf
attribute [local go_sem] Ho
theorem VQ (w:World) (a:Addr) (v:Value):(w.setCell a v).os=w.os:=rfl
theorem VR (w:World) (a:Addr) (v:Value):(w.setCell a v).tape=w.tape:=rfl
theorem VT (w:World) (a:Addr) (v:Value):(w.setCell a v).output=w.output:=rfl
def GM (W:World) (b:Nat):Prop:=(∀r,W.heap[b]? ≠ some (.loop r))/\∀d,W.heap[b]? ≠ some (.deferred d)
theorem VU {b:Nat} {v:Value} (h:W.cell? (zD b i)=some v):GM W b:=
 ⟨(λr e=>by simp[World.cell?,e] at h),(λd e=>by simp[World.cell?,e] at h)⟩
theorem mT (l:List Tm):∀b o,C4 w X b o l->C4 w (λb=>X b/\GM w b) b o l:=by
 induction l using Tm.indL with
 |h0=>intro b o _; simp[C4]
 |h s l r aa ab=>
  intro b o d;simp only[C4] at d ⊢;obtain⟨hx,h1,⟨a,c,h2,e,h3⟩,f⟩:=d;refine⟨⟨hx,VU h1⟩,h1,⟨a,c,h2,e,?_⟩,ab _ _ f⟩;rcases h3 with h3|⟨b',o',h3,g⟩
  ·exact Ae h3
  ·exact Ad ⟨b',o',h3,aa _ _ g⟩
theorem Sl.solid {a:Option Addr} (h:Sl w X a l):Sl w (λb=>X b/\GM w b) a l:=by
 obtain⟨c,h⟩:=h;refine⟨c,?_⟩;rcases h with h|⟨b,o,e,h⟩
 ·exact Ae h
 ·exact Ad ⟨b,o,e,mT _ _ _ h⟩
theorem PV.solid {v:Value} {d:List Int} (h:PV w X v d):PV w (λb=>X b/\GM w b) v d:=by
 obtain⟨a,c,e,f,h⟩:=h;refine⟨a,c,e,f,?_⟩;rcases h with h|⟨b,o,e,hx,h⟩
 ·exact Ae h
 ·by_cases hz:d=[]
  ·exact Ae hz
  ·exact Ad ⟨b,o,e,⟨hx,VU (h 0 (Gq.2 hz))⟩,h⟩
theorem VV {x:Ch} (h:FH x args W Z):FH x args W (λb=>Z b/\GM W b):=by
 obtain⟨ua,uc,c,f,ra,rc,q,Lm,rfl,ab,g,i,hq,aa⟩:=h;refine⟨ua,uc,c,f,ra,rc,q,Lm,rfl,ab.solid,g.solid,i.solid,⟨hq,?_⟩,aa.1,aa.2.imp λa l hs=>hs.solid⟩;obtain⟨es,af,h1,_⟩:=aa.1;exact⟨(λr e=>by rw[h1] at e; cases e),(λd e=>by rw[h1] at e; cases e)⟩
theorem VW {x:Ch} (h:FH x args W Z) (c:∀b,Z b->W'.heap[b]? = W.heap[b]?):FH x args W' Z:=by
 obtain⟨ua,uc,d,e,ra,rc,q,Lm,rfl,ab,f,g,hq,aa⟩:=h;exact⟨ua,uc,d,e,ra,rc,q,Lm,rfl,ab.kept c,f.kept c,g.kept c,hq,aa.1.kept (c q hq),aa.2.imp λa l hs=>hs.kept c⟩
theorem mU {x:Ft} (h:Gx x args W Z):Gx x args W (λb=>Z b/\GM W b):=by
 obtain⟨ra,rc,q,Lm,rfl,ab,hq,aa⟩:=h;refine⟨ra,rc,q,Lm,rfl,ab.solid,⟨hq,?_⟩,aa.1,aa.2.imp λa l hs=>hs.solid⟩;obtain⟨es,ad,h1,_⟩:=aa.1;exact⟨(λr e=>by rw[h1] at e; cases e),(λd e=>by rw[h1] at e; cases e)⟩
theorem mV {x:Ft} (h:Gx x args W Z) (c:∀b,Z b->W'.heap[b]? = W.heap[b]?):Gx x args W' Z:=by
 obtain⟨ra,rc,q,Lm,rfl,ab,hq,aa⟩:=h;exact⟨ra,rc,q,Lm,rfl,ab.kept c,hq,aa.1.kept (c q hq),aa.2.imp λa l hs=>hs.kept c⟩
def Qg {α:Type} (Lp:α->Array Value->World->(Nat->Prop)->Prop) (A B TA:Nat) (G:Nat->Prop) (all:List α) (W:World):Prop:=
 ∃(y:α) (cs:Array Value) (Z:Nat->Prop),[y] <+: all/\Ac W A cs TA/\Ac W B #[.bool true] 4/\Lp y #[.agg cs] W Z/\∀b,Z b->b<W.heap.size/\¬G b
def JF {α:Type} (A B L TA:Nat) (zs:Array Value) (G:Nat->Prop) (r rd:Loop) (W0:World):Tk α:=λpre s f W=>
 (∀b,f b↔b=L∨b=A∨b=B∨G b)/\(∀b,G b->b<W0.heap.size)/\W0.heap.size<=W.heap.size/\(∀b,G b->W.heap[b]? = W0.heap[b]?)/\W.heap[L]? = some (.loop (if s=true then r else rd))/\A<W.heap.size/\B<W.heap.size/\(s=true->pre=[]/\Ac W A zs TA/\Ac W B #[.bool false] 4)
theorem JF.ok {A L j:Nat} {k:Array Value} {G:Nat->Prop} {r rd:Loop} {W0:World}:EQ (JF (α:=α) A B L j k G r rd W0) (λ_=>False) where
 inside:=by
  rintro pre s f W ⟨a,c,hz,e,d,g,i,hs⟩ b hb;rcases hb with hb|hb
  ·rcases(a b).1 hb with h|h|h|h
   ·subst h; exact(CO.1 d).1
   ·subst h; exact g
   ·subst h; exact i
   ·have:=c b h; omega
  ·exact hb.elim
 apart:=by
  rintro pre s f W hj b hb;exact hb.elim
 abide:=by
  rintro pre s f W W' ⟨a,c,hz,e,d,g,i,hs⟩ aa hk;refine⟨a,c,by omega,λb hb=>(hk b (Ae ((a b).2 (Ad (Ad (Ad hb)))))).trans (e b hb),(hk L (Ae ((a L).2 (Ae rfl)))).trans d,by omega,by omega,λh=>⟨(hs h).1,(hk A (Ae ((a A).2 (Ad (Ae rfl))))).trans (hs h).2.1,(hk B (Ae ((a B).2 (Ad (Ad (Ae rfl)))))).trans (hs h).2.2⟩⟩
def VX {α:Type} (Lp:α->Array Value->World->(Nat->Prop)->Prop) (zs:Array Value) (G:Nat->Prop) (all:List α) (w:World) (e:Ending) (w':World):Prop:=
 Below w.heap.size w w'/\((all=[]/\e=.returned (.tuple #[.agg zs,.bool false]))∨∃(y:α) (cs:Array Value) (Z:Nat->Prop),[y] <+: all/\e=.returned (.tuple #[.agg cs,.bool true])/\Lp y #[.agg cs] w' Z/\∀b,Z b->b<w'.heap.size/\¬G b)
theorem mW (rs:List Pr) (B:Tm) (R T:Nat) (uv:Value) (aa:Option Addr) (ca:Nat) (w:World) (X G:Nat->Prop) (hR:Ac w R #[uv] 23) (hu:QV w X uv rs) (hT:Ac w T (zF B aa ca) 31) (hs:Sl w X aa B.args) (hX:∀b,X b->b<w.heap.size/\¬G b) (hG:∀b,G b->b<w.heap.size/\b≠R/\b≠T):
  Calls prog 85 #[.func (.func 87) #[] #[zC R,zC T]] w λe w'=>VX Gx #[.string ⟨#[]⟩,zB,.map none] G (Bs rs B) w e w':=by
 have HX:=Aa hX;have H:=Aa hG;have HU:=Aa hu;have HS:=Aa hs;have HR:=Aa hR;have HT:=Aa hT;clear hX hG hu hs hR hT;refine(CP (n:=3)).1 ?_;refine callsIn_of_wp_marks func85 rfl trivial ?_ rfl;simp only[ntmps85,Js,Bg,DB,Nat.reduceAdd,Nat.reduceSub,Jt,Ju,Jv,Jw,CE,Bj];gi_wp2
 refine La (gf:=87) (lb:=#[zC R,zC T]) rfl (enters_of func87 (by kernel_rfl) rfl) ?_;intro r au av aw ax ay az;have a6:((w.alloc (zh #[.string ⟨#[]⟩,zB,.map none] 71)).alloc (zh #[.bool false] 4)).heap.size=w.heap.size+2:=by simp
 rw[a6];have aL:w.heap.size+2+1=w.heap.size+3:=rfl;rw[aL];clear aL;have aM:((((w.alloc (zh #[.string ⟨#[]⟩,zB,.map none] 71)).alloc (zh #[.bool false] 4)).alloc (.deferred (some []))).alloc (.loop r))=G5 w [(.cells #[.string ⟨#[]⟩,zB,.map none] 71:Obj),(.cells #[.bool false] 4:Obj),(.deferred (some []):Obj),(.loop r:Obj)]:=rfl;have u:=Aa (Fe [(.cells #[.string ⟨#[]⟩,zB,.map none] 71:Obj),(.cells #[.bool false] 4:Obj),(.deferred (some []):Obj),(.loop r:Obj)] w);rw[<-aM]at u;clear aM;generalize ((((w.alloc (zh #[.string ⟨#[]⟩,zB,.map none] 71)).alloc (zh #[.bool false] 4)).alloc (.deferred (some []))).alloc (.loop r))=j at *;have bA:j.heap.size=w.heap.size+4:=u.o.2.1;have k:Hid (Below w.heap.size w j):=u.o.1;have H0:Hid (Ac j w.heap.size #[.string ⟨#[]⟩,zB,.map none] 71):=u.o.2.2 0 _ rfl;have H1:Hid (Ac j (w.heap.size+1) #[.bool false] 4):=u.o.2.2 1 _ rfl;have H2:Hid (j.heap[w.heap.size+2]? = some (.deferred (some []))):=u.o.2.2 2 _ rfl;have H3:Hid (j.heap[w.heap.size+3]? = some (.loop r)):=u.o.2.2 3 _ rfl;clear u;obtain⟨rd,a7⟩:∃rd:Loop,rd={ r with state:=.done,pending:=some .ret}:=⟨_,rfl⟩;obtain⟨rb,aN⟩:∃rb:Loop,rb={ r with state:=.busy}:=⟨_,rfl⟩;have RH:Hu (w.heap.size+3) Gx (JF (α:=Ft) w.heap.size (w.heap.size+1) (w.heap.size+3) 71 #[.string ⟨#[]⟩,zB,.map none] G r rd j) (Bs rs B) (Qg Gx w.heap.size (w.heap.size+1) 71 G (Bs rs B)):=by
  have bc:=Aa au;have bd:=Aa av;have bg:=Aa aw;have bh:=Aa ax;have bj:=Aa ay;have bk:=Aa az;clear au av aw ax ay az a6;intro n pre x args Z f W ah hj O I;obtain⟨hf,aO,bB,hC,P,z,A,aP⟩:=hj;obtain⟨rfl,aQ,aR⟩:=aP rfl;rw[CE]at ah;simp only[F4] at P;obtain⟨ra,rc,q,Lm,rfl,aS,hq,a8⟩:=O;have J:Hid (∀W',(∀b,Z b->W'.heap[b]? = W.heap[b]?)->Gx x #[.agg #[.string x.1.r.name,.slice ra x.1.r.args.length rc,.map (some q)]] W' Z):=λW' k9=>⟨ra,rc,q,Lm,rfl,aS.kept k9,hq,a8.1.kept (k9 q hq),a8.2.imp λa l hs=>hs.kept k9⟩;have aA:=Aa ah;have v:=Aa hf;have bl:=Aa aO;have HC:=Aa hC;have U:=Aa I;have HA:=Aa aQ;have HB:=Aa aR;have bm:w.heap.size+3<W.heap.size:=(CO.1 P).1;clear ah hf aO hC I aQ aR aS a8 hq aP;refine JU aN a7 bj.o bk.o bh.o bg.o P bc.o bd.o rfl ?_;have aT:(W.alloc (zh #[.string x.1.r.name,.slice ra x.1.r.args.length rc,.map (some q)] 71)).heap[w.heap.size+3]? = some (.loop r):=(Ay _ _ _ bm).trans P;have Y:∀b,b<W.heap.size->b≠w.heap.size+3->((W.alloc (zh #[.string x.1.r.name,.slice ra x.1.r.args.length rc,.map (some q)] 71)).putObj (w.heap.size+3) (.loop rb)).heap[b]? = W.heap[b]? := λb hb hne=>(World.putObj_heap_other hne).trans (Ay _ _ _ hb);have bC:((W.alloc (zh #[.string x.1.r.name,.slice ra x.1.r.args.length rc,.map (some q)] 71)).putObj (w.heap.size+3) (.loop rb)).heap.size=W.heap.size+1:=by simp
  have L:Ac ((W.alloc (zh #[.string x.1.r.name,.slice ra x.1.r.args.length rc,.map (some q)] 71)).putObj (w.heap.size+3) (.loop rb)) W.heap.size #[.string x.1.r.name,.slice ra x.1.r.args.length rc,.map (some q)] 71:=(World.putObj_heap_other (by omega)).trans (Ac.new W _ _);have aU:((W.alloc (zh #[.string x.1.r.name,.slice ra x.1.r.args.length rc,.map (some q)] 71)).putObj (w.heap.size+3) (.loop rb)).heap[w.heap.size+3]? = some (.loop rb):=World.putObj_heap_same (by simp; omega);have C:Ac ((W.alloc (zh #[.string x.1.r.name,.slice ra x.1.r.args.length rc,.map (some q)] 71)).putObj (w.heap.size+3) (.loop rb)) w.heap.size #[.string ⟨#[]⟩,zB,.map none] 71:=(Y _ z (by omega)).trans HA.o;have aq:Ac ((W.alloc (zh #[.string x.1.r.name,.slice ra x.1.r.args.length rc,.map (some q)] 71)).putObj (w.heap.size+3) (.loop rb)) (w.heap.size+1) #[.bool false] 4:=(Y _ A (by omega)).trans HB.o;have c0:((W.alloc (zh #[.string x.1.r.name,.slice ra x.1.r.args.length rc,.map (some q)] 71)).putObj (w.heap.size+3) (.loop rb)).cell? (zD W.heap.size 0)=some (.string x.1.r.name):=L.cell 0;have c1:((W.alloc (zh #[.string x.1.r.name,.slice ra x.1.r.args.length rc,.map (some q)] 71)).putObj (w.heap.size+3) (.loop rb)).cell? (zD W.heap.size 1)=some (.slice ra x.1.r.args.length rc):=L.cell 1;have c2:((W.alloc (zh #[.string x.1.r.name,.slice ra x.1.r.args.length rc,.map (some q)] 71)).putObj (w.heap.size+3) (.loop rb)).cell? (zD W.heap.size 2)=some (.map (some q)):=L.cell 2;have a0:((W.alloc (zh #[.string x.1.r.name,.slice ra x.1.r.args.length rc,.map (some q)] 71)).putObj (w.heap.size+3) (.loop rb)).cell? (zD w.heap.size 0)=some (.string ⟨#[]⟩):=C.cell 0;have a1:((W.alloc (zh #[.string x.1.r.name,.slice ra x.1.r.args.length rc,.map (some q)] 71)).putObj (w.heap.size+3) (.loop rb)).cell? (zD w.heap.size 1)=some (zB):=C.cell 1;have a2:((W.alloc (zh #[.string x.1.r.name,.slice ra x.1.r.args.length rc,.map (some q)] 71)).putObj (w.heap.size+3) (.loop rb)).cell? (zD w.heap.size 2)=some (.map none):=C.cell 2;have af:=C.frozen;have bf:=aq.frozen;have b0:((W.alloc (zh #[.string x.1.r.name,.slice ra x.1.r.args.length rc,.map (some q)] 71)).putObj (w.heap.size+3) (.loop rb)).cell? (zD (w.heap.size+1) 0)=some (.bool false):=aq.cell 0;have aB:Hid (((W.alloc (zh #[.string x.1.r.name,.slice ra x.1.r.args.length rc,.map (some q)] 71)).putObj (w.heap.size+3) (.loop rb)).os=W.os/\((W.alloc (zh #[.string x.1.r.name,.slice ra x.1.r.args.length rc,.map (some q)] 71)).putObj (w.heap.size+3) (.loop rb)).tape=W.tape/\((W.alloc (zh #[.string x.1.r.name,.slice ra x.1.r.args.length rc,.map (some q)] 71)).putObj (w.heap.size+3) (.loop rb)).output=W.output):=⟨rfl,rfl,rfl⟩;have bn:=Aa aU;have bo:=Aa Y;have bp:=Aa C;have bq:=Aa aq;have bD:=Aa L;clear aN a7 L aU Y C aq;gi_wp2
  refine⟨(CO.1 aT).2,?_⟩;clear aT;generalize ((W.alloc (zh #[.string x.1.r.name,.slice ra x.1.r.args.length rc,.map (some q)] 71)).putObj (w.heap.size+3) (.loop rb))=V at *;have br:w.heap.size<V.heap.size:=by omega
  have bs:w.heap.size+1<V.heap.size:=by omega
  gi_wp2
  clear c0 c1 c2 a0 a1 a2 af bf b0;have aV:Hid (∀b,Z b->b<W.heap.size/\b≠w.heap.size+3/\b≠w.heap.size/\b≠w.heap.size+1/\¬G b):=λb hb=>by
   have h:=U.o b hb;exact⟨h.1,λe=>h.2 ((v.o b).2 (Ae e)),λe=>h.2 ((v.o b).2 (Ad (Ae e))),λe=>h.2 ((v.o b).2 (Ad (Ad (Ae e)))),λe=>h.2 ((v.o b).2 (Ad (Ad (Ad e))))⟩
  have k3:∀b,b≠w.heap.size->b≠w.heap.size+1->((((V.setCell (zD w.heap.size 0) (.string x.1.r.name)).setCell (zD w.heap.size 1) (.slice ra x.1.r.args.length rc)).setCell (zD w.heap.size 2) (.map (some q))).setCell (zD (w.heap.size+1) 0) (.bool true)).heap[b]? = V.heap[b]? := λb h0 h1=>by
   rw[An _ _ _ _ (by simpa using h1)];rw[An _ _ _ _ (by simpa using h0)]; rw[An _ _ _ _ (by simpa using h0)]; rw[An _ _ _ _ (by simpa using h0)]
  have bt:Ac ((((V.setCell (zD w.heap.size 0) (.string x.1.r.name)).setCell (zD w.heap.size 1) (.slice ra x.1.r.args.length rc)).setCell (zD w.heap.size 2) (.map (some q))).setCell (zD (w.heap.size+1) 0) (.bool true)) w.heap.size #[.string x.1.r.name,.slice ra x.1.r.args.length rc,.map (some q)] 71:=(by refine Ac.setOther ?_ _ _ (by omega);exact((bp.o.set 0 (.string x.1.r.name)).set 1 (.slice ra x.1.r.args.length rc)).set 2 (.map (some q)));have bu:Ac ((((V.setCell (zD w.heap.size 0) (.string x.1.r.name)).setCell (zD w.heap.size 1) (.slice ra x.1.r.args.length rc)).setCell (zD w.heap.size 2) (.map (some q))).setCell (zD (w.heap.size+1) 0) (.bool true)) (w.heap.size+1) #[.bool true] 4:=Ac.set1R (Ac.setOther (Ac.setOther (Ac.setOther bq.o 0 _ (by omega)) 1 _ (by omega)) 2 _ (by omega));have bE:((((V.setCell (zD w.heap.size 0) (.string x.1.r.name)).setCell (zD w.heap.size 1) (.slice ra x.1.r.args.length rc)).setCell (zD w.heap.size 2) (.map (some q))).setCell (zD (w.heap.size+1) 0) (.bool true)).heap.size=W.heap.size+1:=by simp[World.setCell]; omega
  have aC:((((V.setCell (zD w.heap.size 0) (.string x.1.r.name)).setCell (zD w.heap.size 1) (.slice ra x.1.r.args.length rc)).setCell (zD w.heap.size 2) (.map (some q))).setCell (zD (w.heap.size+1) 0) (.bool true)).os=W.os/\((((V.setCell (zD w.heap.size 0) (.string x.1.r.name)).setCell (zD w.heap.size 1) (.slice ra x.1.r.args.length rc)).setCell (zD w.heap.size 2) (.map (some q))).setCell (zD (w.heap.size+1) 0) (.bool true)).tape=W.tape/\((((V.setCell (zD w.heap.size 0) (.string x.1.r.name)).setCell (zD w.heap.size 1) (.slice ra x.1.r.args.length rc)).setCell (zD w.heap.size 2) (.map (some q))).setCell (zD (w.heap.size+1) 0) (.bool true)).output=W.output:=(by simp only[VQ,VR,VT];exact aB.o);generalize ((((V.setCell (zD w.heap.size 0) (.string x.1.r.name)).setCell (zD w.heap.size 1) (.slice ra x.1.r.args.length rc)).setCell (zD w.heap.size 2) (.map (some q))).setCell (zD (w.heap.size+1) 0) (.bool true))=W3 at *;have kF:∀b,b<W.heap.size->b≠w.heap.size+3->b≠w.heap.size->b≠w.heap.size+1->(W3.putObj (w.heap.size+3) (.loop rd)).heap[b]? = W.heap[b]? := λb h0 h1 h2 h3=>(World.putObj_heap_other h1).trans ((k3 b h2 h3).trans (bo.o b h0 h1));have ar:∀b,G b->b<W.heap.size/\b≠w.heap.size+3/\b≠w.heap.size/\b≠w.heap.size+1:=λb hb=>by have:=(H.o b hb).1; omega
  refine⟨(k3 _ (by omega) (by omega)).trans bn.o,f,⟨v.o,bl.o,by simp; omega,λb hb=>(kF b (ar b hb).1 (ar b hb).2.1 (ar b hb).2.2.1 (ar b hb).2.2.2).trans (HC.o b hb),World.putObj_heap_same (by omega),by simp; omega,by simp; omega,λh=>by cases h⟩,⟨aC.1,aC.2.1,aC.2.2,by simp; omega,λb hb hn=>kF b hb (λe=>hn ((v.o b).2 (Ae e))) (λe=>hn ((v.o b).2 (Ad (Ae e)))) (λe=>hn ((v.o b).2 (Ad (Ad (Ae e)))))⟩,(λb hb=>Ae hb),λ_=>?_⟩;refine⟨x,#[.string x.1.r.name,.slice ra x.1.r.args.length rc,.map (some q)],Z,aA.o,(World.putObj_heap_other (by omega)).trans bt,(World.putObj_heap_other (by omega)).trans bu,J.o _ λb hb=>?_,λb hb=>?_⟩
  ·have h:=aV.o b hb;exact kF b h.1 h.2.1 h.2.2.1 h.2.2.2.1
  ·have h:=aV.o b hb;exact⟨by simp; omega,h.2.2.2.2⟩
 have aW:(JF (α:=Ft) w.heap.size (w.heap.size+1) (w.heap.size+3) 71 #[.string ⟨#[]⟩,zB,.map none] G r rd j) [] true (λb=>b=w.heap.size+3∨b=w.heap.size∨b=w.heap.size+1∨G b) j:=⟨λb=>Iff.rfl,λb hb=>by have:=(H.o b hb).1; omega,Al _,λb _=>rfl,H3.o,by omega,by omega,λ_=>⟨rfl,H0.o,H1.o⟩⟩;have aX:∀b,X b->b<j.heap.size/\¬(b=w.heap.size+3∨b=w.heap.size∨b=w.heap.size+1∨G b):=λb hb=>by
  have h:=HX.o b hb;refine⟨by omega,λh2=>?_⟩;rcases h2 with h2|h2|h2|h2
  ·omega
  ·omega
  ·omega
  ·exact h.2 h2
 refine(Sm JF.ok (w.heap.size+3) RH rs B R T uv aa ca [] _ j X (HR.o.below k.o HR.o.lt) (HU.o.later k.o) (HT.o.below k.o HT.o.lt) (HS.o.later k.o) aX (λh=>by
  have hlt:=HR.o.lt;rcases h with h|h|h|h
  ·omega
  ·omega
  ·omega
  ·exact(H.o _ h).2.1 rfl) (λh=>by
  have hlt:=HT.o.lt;rcases h with h|h|h|h
  ·omega
  ·omega
  ·omega
  ·exact(H.o _ h).2.2 rfl) aW (by simp)).mono ?_
 rintro e c ⟨al,s,⟨m,f',hm,aD,hj,he,bw⟩,hS⟩;rw[CE]at hj;obtain⟨bx,bz,bF,aY,b1,bG,bH,aE⟩:=hj;have aF : Hid (c.heap[w.heap.size + 2]? = some (.deferred (some []))) := (he.block _ (by omega) (λh => by
  rcases h with (h|h|h|h)|h
  ·omega
  ·omega
  ·omega
  ·have:=(H.o _ h).1; omega
  ·exact h)).trans H2.o
 have aZ:Hid (∀b,b<w.heap.size->c.heap[b]? = w.heap[b]?):=λb hb=>by
  by_cases hg:G b
  ·exact(aY b hg).trans (k.o.block b hb)
  ·exact (he.block b (by omega) (λh => by
    rcases h with (h|h|h|h)|h
    ·omega
    ·omega
    ·omega
    ·exact hg h
    ·exact h)).trans (k.o.block b hb)
 have ab:Hid (c.os=w.os/\c.tape=w.tape/\c.output=w.output):=⟨he.os.trans k.o.os,he.tape.trans k.o.tape,he.output.trans k.o.output⟩;have aG:=Aa b1;have aH:=Aa al;clear he bw aW aX RH al au av aw ax ay az a6 bx bz aY;refine⟨aH.o,?_⟩;cases s with
 |true=>
  left;refine⟨aG.o,?_⟩;obtain⟨aI,z,A⟩:=aE rfl;have em:=aD rfl;subst em;rw[D8]at aI;have b2:=Aa aI;clear aI aD hm hS aE;have g:∀b,b≠w.heap.size+3->(c.putObj (w.heap.size+3) (.loop { r with state:=.exhausted})).heap[b]? = c.heap[b]? := λb h=>World.putObj_heap_other h;have zg:(c.putObj (w.heap.size+3) (.loop { r with state:=.exhausted})).heap.size=c.heap.size:=by simp
  have t:(c.putObj (w.heap.size+3) (.loop { r with state:=.exhausted})).os=c.os/\(c.putObj (w.heap.size+3) (.loop { r with state:=.exhausted})).tape=c.tape/\(c.putObj (w.heap.size+3) (.loop { r with state:=.exhausted})).output=c.output:=⟨rfl,rfl,rfl⟩;generalize (c.putObj (w.heap.size+3) (.loop { r with state:=.exhausted}))=d at *;have D:Ac d w.heap.size #[.string ⟨#[]⟩,zB,.map none] 71:=(g _ (by omega)).trans z;have q1:Ac d (w.heap.size+1) #[.bool false] 4:=(g _ (by omega)).trans A;have M:d.heap[w.heap.size+2]? = some (.deferred (some [])):=(g _ (by omega)).trans aF.o;have qb:Below w.heap.size w d:=⟨t.1.trans ab.o.1,t.2.1.trans ab.o.2.1,t.2.2.trans ab.o.2.2,by omega,λb hb=>(g b (by omega)).trans (aZ.o b hb)⟩;clear g t z A;have a0:=D.c0;have a1:=D.c1;have a2:=D.c2;have af:=D.frozen;have b0:=q1.c0;have bf:=q1.frozen;have Q0:Ac ((((d.setCell (zD w.heap.size 0) (.string ⟨#[]⟩)).setCell (zD w.heap.size 1) zB).setCell (zD w.heap.size 2) (.map none)).setCell (zD (w.heap.size+1) 0) (.bool false)) w.heap.size #[.string ⟨#[]⟩,zB,.map none] 71:=(by refine Ac.setOther ?_ _ _ (by omega);exact((D.set 0 (.string ⟨#[]⟩)).set 1 zB).set 2 (.map none));have Q1:Ac ((((d.setCell (zD w.heap.size 0) (.string ⟨#[]⟩)).setCell (zD w.heap.size 1) zB).setCell (zD w.heap.size 2) (.map none)).setCell (zD (w.heap.size+1) 0) (.bool false)) (w.heap.size+1) #[.bool false] 4:=Ac.set1R (Ac.setOther (Ac.setOther (Ac.setOther q1 0 _ (by omega)) 1 _ (by omega)) 2 _ (by omega));have QD:((((d.setCell (zD w.heap.size 0) (.string ⟨#[]⟩)).setCell (zD w.heap.size 1) zB).setCell (zD w.heap.size 2) (.map none)).setCell (zD (w.heap.size+1) 0) (.bool false)).heap[w.heap.size+2]? = some (.deferred (some [])):=(by rw[An _ _ _ _ (by simp)];rw[An _ _ _ _ (by simp)]; rw[An _ _ _ _ (by simp)]; rw[An _ _ _ _ (by simp)];exact M);have QB:Below w.heap.size w ((((d.setCell (zD w.heap.size 0) (.string ⟨#[]⟩)).setCell (zD w.heap.size 1) zB).setCell (zD w.heap.size 2) (.map none)).setCell (zD (w.heap.size+1) 0) (.bool false)):=((((qb.setCell (by simp) _).setCell (by simp) _).setCell (by simp) _).setCell (by simp) _);have b3:=Aa Q0;have b4:=Aa Q1;have aJ:=Aa QD;have N:=Aa QB;have br:w.heap.size<d.heap.size:=by omega
  have bs:w.heap.size+1<d.heap.size:=by omega
  clear Q0 Q1 QD QB D q1 M qb;gi_wp2
  clear a0 a1 a2 af bf b0;generalize ((((d.setCell (zD w.heap.size 0) (.string ⟨#[]⟩)).setCell (zD w.heap.size 1) zB).setCell (zD w.heap.size 2) (.map none)).setCell (zD (w.heap.size+1) 0) (.bool false))=Wh at *;have E:Ac (Wh.putObj (w.heap.size+2) (.deferred none)) w.heap.size #[.string ⟨#[]⟩,zB,.map none] 71:=(World.putObj_heap_other (by omega)).trans b3.o;have E1:Ac (Wh.putObj (w.heap.size+2) (.deferred none)) (w.heap.size+1) #[.bool false] 4:=(World.putObj_heap_other (by omega)).trans b4.o;have EB:Below w.heap.size w (Wh.putObj (w.heap.size+2) (.deferred none)):=⟨N.o.os,N.o.tape,N.o.output,by simp; exact N.o.size,λb hb=>(World.putObj_heap_other (by omega)).trans (N.o.block b hb)⟩;refine⟨by simp,.inl ⟨_,_,rfl,run_takeDeferred aJ.o,?_⟩⟩;refine⟨.tuple #[.agg #[.string ⟨#[]⟩,zB,.map none],.bool false],?_,EB,Ae ⟨b2.o,rfl⟩⟩;have e0:=E.cell 0;have F:=E.cell 1;have e2:=E.cell 2;have h2:=E1.cell 0;simp[results,results85,go_sem,e0,F,e2,h2]
 |false=>
  right;refine⟨by rw[<-a7]; exact aG.o,?_⟩;obtain⟨y,cs,Z,ba,z,A,O,I⟩:=hS rfl;have aA:=Aa ba;have J:=Aa O;have U:=Aa I;have HA:=Aa z;have HB:=Aa A;clear ba O I aD hm hS aE z A;have ao:Hid (∃ra rc q,cs=#[.string y.1.r.name,.slice ra y.1.r.args.length rc,.map (some q)]/\Gx y #[.agg cs] c Z):=by
   have h0:=J.o;obtain⟨ra,rc,q,Lm,F,_⟩:=J.o;simp at F;exact⟨ra,rc,q,F,h0⟩
  obtain⟨ra,rc,q,rfl,b5⟩:=ao.o;clear b5 ao;have g:∀b,b≠w.heap.size+3->(c.putObj (w.heap.size+3) (.loop { r with state:=.exhausted,pending:=some .ret})).heap[b]? = c.heap[b]? := λb h=>World.putObj_heap_other h;have zg:(c.putObj (w.heap.size+3) (.loop { r with state:=.exhausted,pending:=some .ret})).heap.size=c.heap.size:=by simp
  have t:(c.putObj (w.heap.size+3) (.loop { r with state:=.exhausted,pending:=some .ret})).os=c.os/\(c.putObj (w.heap.size+3) (.loop { r with state:=.exhausted,pending:=some .ret})).tape=c.tape/\(c.putObj (w.heap.size+3) (.loop { r with state:=.exhausted,pending:=some .ret})).output=c.output:=⟨rfl,rfl,rfl⟩;generalize (c.putObj (w.heap.size+3) (.loop { r with state:=.exhausted,pending:=some .ret}))=d at *;have M:d.heap[w.heap.size+2]? = some (.deferred (some [])):=(g _ (by omega)).trans aF.o;have bb:=mU J.o;have kb:∀b,Z b/\GM c b->(d.putObj (w.heap.size+2) (.deferred none)).heap[b]? = c.heap[b]? := λb hb=>(World.putObj_heap_other (λe=>hb.2.2 _ ((Cb (λi=>c.heap[i]?) e).trans aF.o))).trans (g b (λe=>hb.2.1 _ ((Cb (λi=>c.heap[i]?) e).trans aG.o)));have b6:=Aa (mV bb kb);have b7:Hid (∀b,Z b/\GM c b->b<(d.putObj (w.heap.size+2) (.deferred none)).heap.size/\¬G b):=λb hb=>⟨by have:=(U.o b hb.1).1; simp; omega,(U.o b hb.1).2⟩;have E:Ac (d.putObj (w.heap.size+2) (.deferred none)) w.heap.size #[.string y.1.r.name,.slice ra y.1.r.args.length rc,.map (some q)] 71:=(World.putObj_heap_other (by omega)).trans ((g _ (by omega)).trans HA.o);have E1:Ac (d.putObj (w.heap.size+2) (.deferred none)) (w.heap.size+1) #[.bool true] 4:=(World.putObj_heap_other (by omega)).trans ((g _ (by omega)).trans HB.o);have EB:Below w.heap.size w (d.putObj (w.heap.size+2) (.deferred none)):=⟨t.1.trans ab.o.1,t.2.1.trans ab.o.2.1,t.2.2.trans ab.o.2.2,by simp; omega,λb hb=>(World.putObj_heap_other (by omega)).trans ((g b (by omega)).trans (aZ.o b hb))⟩;have aK:=Aa E;have b8:=Aa E1;have b9:=Aa EB;have aJ:=Aa M;clear E E1 EB M kb bb g t;gi_wp2
  refine⟨by simp,.inl ⟨_,_,rfl,run_takeDeferred aJ.o,?_⟩⟩;refine⟨.tuple #[.agg #[.string y.1.r.name,.slice ra y.1.r.args.length rc,.map (some q)],.bool true],?_,b9.o,Ad ⟨y,_,_,aA.o,rfl,b6.o,b7.o⟩⟩;have e0:=aK.o.cell 0;have F:=aK.o.cell 1;have e2:=aK.o.cell 2;have h2:=b8.o.cell 0;simp[results,results85,go_sem,e0,F,e2,h2]
def ND (k s:Nat):Prop:=k<=4001/\(s<=2000->k=s)/\(2000<s->2000<k)
def mX (n:Nat) (x:Tm) (w:World) (e:Ending) (w':World):Prop:=∃k:Nat,e=.returned (zA k)/\ND k (n+Ab [x])/\Below w.heap.size w w'
def mY (n:Nat) (ls:List Bd) (l:List Tm) (w:World) (m i:Value) (wr:World):Prop:=∃k j:Nat,k<=l.length/\i=zA k/\m=zA j/\ND j (n+1+Ab (gL ls (l.take k)))/\(2000<j->k=l.length∨True)/\Below w.heap.size w wr
theorem VY (ls:List Bd) (L:List (ByteArray×Value)) (f:ByteArray) (ra:Option Addr) (g rc q:Nat) (t:Tm):∀(a:Option Addr) (c n:Nat) (w:World) (X:Nat->Prop),Sl w X a t.args->Dy w q X ls L->n<=2000->
  Calls prog 86 #[.agg #[.string f,.slice ra g rc,.map (some q)],.agg (zF t a c),zA n] w λe w'=>mX n (gT ls t) w e w':=by
 induction t using Tm.ind with
 |h s l J=>
  intro a c n w X hs u hn;have U:=Aa J;clear J;have hz:∀w',(zeroValue 31).run prog w'=.ok (.agg zd) w':=λw'=>zeroValue31 w';have v:=u.1;have hP:=u.2;have B:=λo o':Obj=>(v.kept (Ay w o _ v.lt)).kept (Ay (w.alloc o) o' _ (by have:=v.lt; simp; omega));cases r:As ls s with
  |some x=>
   obtain⟨a1,c1,y,M⟩:=(hP.get s).2 x r;have ab:∀o o',(Instr.lookup 69 (.map (some q)) (.string s) true).run prog ((w.alloc o).alloc o')=.ok (.tuple #[.agg (zF x a1 c1),.bool true]) ((w.alloc o).alloc o'):=λo o'=>by
    rw[El (P:=prog) underlying69 underlying9 (hz _) (B o o') s,y]; rfl
   have G:Hid (gT ls ⟨s,l⟩=x):=SM r;have V:=Aa M;clear r y M B hP v u hs;rw[G.o];go_enter func86,ntmps86;go_wp2_with fail;refine(Is 2000 (by omega) (by omega) x _ _ X ⟨a1,c1,rfl,V.o.later (EP _ _ _)⟩).mono ?_;rintro e w1 ⟨rfl,A⟩;have C:=Aa A;clear A;obtain⟨z,D⟩:∃z:Nat,min (Ab [x]:Int) (2000+1)=(z:Int)/\z=min (Ab [x]) 2001:=⟨min (Ab [x]) 2001,by omega,rfl⟩;rw[D.1];have N:=Aa D.2;have a7:z<=2001:=by rw[D.2]; omega
   clear D;go_wp2_with fail;go_ret;exact⟨n+z,Cj (by omega),⟨by omega,λh=>by have:=N.o; omega,λh=>by have:=N.o; omega⟩,(EP _ _ _).trans (C.o.mono (by simp; omega))⟩
  |none=>
   have y:=(hP.get s).1 r;have ab:∀o o',(Instr.lookup 69 (.map (some q)) (.string s) true).run prog ((w.alloc o).alloc o')=.ok (.tuple #[.agg zd,.bool false]) ((w.alloc o).alloc o'):=λo o'=>by
    rw[El (P:=prog) underlying69 underlying9 (hz _) (B o o') s,y]; rfl
   have G:Hid (gT ls ⟨s,l⟩=⟨s,gL ls l⟩):=SO r;have O:Hid (Ab [(⟨s,gL ls l⟩:Tm)]=1+Ab (gL ls l)):=(by simp[Hid,Ab]);have W:=Aa hs;have Y:=Aa u;have hl:=hs.1;clear r y B hP v u hs;rw[G.o];go_enter func86,ntmps86;go_wp2_with fail;have Z:=Aa (EP (w:=w) (.cells #[.string f,.slice ra g rc,.map (some q)] 71) (.cells #[.string s,.slice a l.length c] 31) zc);have ar:Hid (Ac (((w.alloc (zh #[.string f,.slice ra g rc,.map (some q)] 71)).alloc (zh #[.string s,.slice a l.length c] 31)).alloc zc) w.heap.size #[.string f,.slice ra g rc,.map (some q)] 71):=((Ac.new w _ _).alloc _).alloc _;generalize (((w.alloc (zh #[.string f,.slice ra g rc,.map (some q)] 71)).alloc (zh #[.string s,.slice a l.length c] 31)).alloc zc)=w0 at *;go_loopw [9,30] (λm i wr=>mY n ls l w m i wr/\Ac wr w.heap.size #[.string f,.slice ra g rc,.map (some q)] 71) (λm i wr=>l.length-(intOf i).toNat);case atStart=>exact⟨⟨0,n+1,Be _,rfl,by go_num,⟨by omega,λh=>by simp[gL,Ab],λh=>by simp[gL,Ab] at h; omega⟩,λ_=>Ad trivial,Z.o⟩,ar.o⟩
   case round=>
    obtain⟨⟨k,j,hk,rfl,rfl,H,_,hb⟩,aa⟩:=hrel;have d:=Aa hb;have E:=Aa H;have au:=Aa aa;have hj:j<=4001:=H.1;clear H;by_cases I:k<l.length
    ·obtain⟨b,o,a',c',rfl,d0,d1,hx⟩:=W.o.get hb (λ_ _ h=>h) k I;have HX:=Aa hx;have av:=Aa (ZV ls l k I);have aw:=Aa (ZW ls l k);have ax:=Aa (AM I);have ay:(k:Int)<(l.length:Int):=(by omega);have f0:=aa.c0;have f1:=aa.c1;have f2:=aa.c2;have a8:=aa.lt;clear hx hb aa;by_cases hle:j<=2000
     ·have ak:¬((2000:Int)<(j:Int)):=(by omega);go_wp2_with fail;refine(U.o _ ax.o _ _ j _ X (by obtain⟨a2,c2,e2,h2⟩:=HX.o.alloc _; cases e2; exact h2) ((Y.o.later d.o).later ((Ag _ _).alloc (Al _) _)) hle).mono ?_;rintro e w1 ⟨k2,rfl,R,A⟩;have C:=Aa A;have az:=Aa R;clear A R d0 d1 f0 f1 f2;go_wp2_with fail;go_roundw
      case rel=>
       refine⟨⟨k+1,k2,by omega,by go_num,rfl,?_,λ_=>Ad trivial,(d.o.alloc d.o.size _).trans (C.o.mono (by simp; have:=d.o.size; omega))⟩,(au.o.alloc _).below C.o (by simp; omega)⟩;obtain⟨x1,x2,x3⟩:=az.o;obtain⟨T,F,y3⟩:=E.o;rw[av.o];refine⟨x1,λh=>?_,λh=>?_⟩
       ·have:=F (by omega); subst this; rw[x2 (by omega)]; omega
       ·by_cases h4:n+1+Ab (gL ls (l.take k))<=2000
        ·have:=F h4; subst this; exact x3 (by omega)
        ·have:=y3 (by omega); omega
      case measure=>simp[intOf]; omega
     ·have ak:(2000:Int)<(j:Int):=(by omega);go_wp2_with fail;go_ret;refine⟨j,rfl,?_,d.o.alloc d.o.size _⟩;obtain⟨T,F,y3⟩:=E.o;rw[O.o];have h5:=aw.o;refine⟨T,λh=>?_,λh=>by omega⟩;have:=F (by omega);omega
    ·have a6:l.take k=l:=BH (by omega);rw[a6]at E;clear aa;go_wp2_with fail;go_ret;refine⟨j,rfl,?_,d.o⟩;rw[O.o,<-Nat.add_assoc];exact E.o
theorem Sl.grown {w':World} {a:Option Addr} {r:Option Nat} (h:Sl w X a l) (c:w.grownBy w' r) (d:∀b,X b->some b≠r):Sl w' X a l:=by
 have h1:Sl w (λb=>X b/\b<w.heap.size) a l:=h.mono λb h1 h2=>⟨h1,h2⟩;have h2:Sl w' (λb=>X b/\b<w.heap.size) a l:=h1.kept λb hx=>c.block b hx.2 (d b hx.1);exact h2.mono λb hx _=>hx.1
theorem VZ (h:Af [(⟨s,l⟩:Tm)]=0):AF s=true/\Af l=0:=by
 simp only[Af] at h;split at h
 ·refine⟨by assumption,?_⟩;split at h
  ·exact absurd h (by decide)
  ·split at h
   ·assumption
   ·exact h
 ·exact absurd h (by decide)
theorem NE (h:Af l=0) (k:Nat) (hk:k<l.length):Af [l[k]]=0:=by
 induction l generalizing k with
 |nil=>simp at hk
 |cons t r a=>
  rw[FD]at h;by_cases h0:Af [t]=0
  ·rw[Ao h0]at h;cases k with
   |zero=>exact h0
   |succ k=>exact a h k (by simpa using hk)
  ·rw[Ah h0]at h; exact absurd h h0
theorem DT.lv {c w1:World} {d a:Value} (h:DT c B d aa a w1):LV Value.string w1 (λb=>B<=b) a aa:=LV.of_own h.1
theorem DT.refl (h:w.ownsRow B 9 1 q acc.length (acc.map Value.string)):DT w B q acc q w:=
 ⟨h,IW (Ag _ _) _,λ_ h=>Ae h⟩
theorem mZ (s:ByteArray) (h:w.ownsRow B 9 1 q acc.length (acc.map Value.string)) (hB:B<=w.heap.size) (hn:acc.length<=3000000) (A:Nat) (b:w.heap.size=A):
  ∃a w3,(Builtin.append_ #[36,36] 36 #[q,.slice (some (zD A 0)) 1 1]).run prog (w.alloc (zh #[.string s] 9))=.ok a w3/\DT w B q (acc++[s]) a w3:=by
 subst b;obtain⟨i0,hi,aa,ab,c⟩:=DO Tryz.infoStr;obtain⟨g,cap,w3,d,ho,f,i,hlt⟩:=run_append_lies (P:=prog) (w:=w.alloc (zh #[.string s] 9)) 36 36 B 9 i0 _ 1 16 underlying36 hi aa ab c rfl (by decide) q acc.length (acc.map Value.string) (h.alloc _)
  (zD w.heap.size 0) 1 1 [.string s] rfl (cell_one_new _ _ _) (λx hx=>by simp at hx; subst hx; rfl) (by decide) (by unfold maxLen; omega) (by omega) (by simp; omega) _ rfl
 refine⟨_,w3,d,by simpa using ho,?_,λk hk=>?_⟩
 ·exact JJ (IW ((Ag _ _).alloc (Al _) _) q.ownBlock) f (λk hk=>Ae hk)
 ·simp[Value.ownBlock]at hk;subst hk;rcases i with e|e
  ·exact Ae e
  ·right; simp at e; omega
theorem Qh (h:w.ownsRow B 9 1 q acc.length (acc.map Value.string)) (o:Obj):DT w B q acc q (w.alloc o):=(DT.refl h).below ((Ag _ _).alloc (Al _) o)
theorem nA {w3:World} {a:Value} {o:Obj} (h:w.ownsRow B 9 1 q acc.length (acc.map Value.string)) (h2:DT (w.alloc o) B q aa a w3):DT w B q aa a w3:=(Qh h o).step h2
theorem nB (t:Tm):∀(q v:Value) (acc:List ByteArray) (w:World) (X:Nat->Prop) (B:Nat),TV w X v t->(∀b,X b->b<B)->B<=w.heap.size->w.ownsRow B 9 1 q acc.length (acc.map Value.string)->Af [t]=0->acc.length+Ab [t]<=2000000->
  Calls prog 93 #[q,v] w λe w'=>∃f,e=.returned f/\DT w B q (AN acc (Ap [t])) f w':=by
 induction t using Tm.ind with
 |h s l T=>
  intro q v acc w X B hv u J U V aA;have L:=Aa T;clear T;obtain⟨a,c,rfl,hs⟩:=hv;have hl:=hs.1;obtain⟨W,Y⟩:=VZ V;have M:=QU W;have N:=Aa Y;have hz:Ab [(⟨s,l⟩:Tm)]=1+Ab l:=by simp[Ab]
  rw[hz]at aA;have O:Hid (AN acc (Ap [(⟨s,l⟩:Tm)])=AN (Cf acc s) (Ap l)):=by simp[Hid,Ap,AN]
  have ab:=Aa U;clear hz W Y V U;cases g:Aj s with
  |false=>
   have y:=Aa (Mw (acc:=acc) g);have I:=Aa g;clear g;go_enter func93,ntmps93;go_wp2_with (go_at_call 65; refine(JD _ _ M).mono ?_; rintro e w' ⟨rfl,rfl⟩; rw[I.o]);go_loopw [0,25] (λf i wr=>∃k:Nat,k<=l.length/\i=zA k/\DT w B q (AN (Cf acc s) (Ap (l.take k))) f wr) (λf i wr=>l.length-(intOf i).toNat);case atStart=>exact⟨0,Be _,rfl,by simp only[List.take_zero]; rw[y.o]; simpa [Ap,AN] using Qh ab.o _⟩
   case round=>
    obtain⟨k,hk,rfl,aa⟩:=hrel;have j:=Aa aa;have hlen:=Ou (Ap (l.take k)) (Cf acc s);rw[Mj]at hlen;have m:=Mx acc s;have Z:B<=wr.heap.size:=Bf J aa.2.1.size;by_cases d:k<l.length
    ·have z:=DP l k d;have A:=Eu l (k+1);have n:=hs.grown aa.2.1 (λb hb e=>by have h1:=u b hb; have h2:=(ab.o.lt b e.symm).1; omega);obtain⟨b,o,a',c',rfl,d0,d1,hx⟩:=n.get (Ag wr.heap.size wr) (λ_ _ h=>h) k d;have C:=Aa hx;have D:Hid (AN (Cf acc s) (Ap (l.take (k+1)))=AN (AN (Cf acc s) (Ap (l.take k))) (Ap [l[k]])):=Aa (by rw[Mi l k d,Ot]);have E:Hid ((AN (Cf acc s) (Ap (l.take k))).length+Ab [l[k]]<=2000000):=Aa (by omega);clear aa n hx hlen m z A;go_wp2_with fail;refine(L.o _ (AM d) _ _ _ _ X B (by exact C.o.alloc _) u (by simp; omega) (by exact j.o.1.alloc _) (NE N.o k d) E.o).mono ?_;rintro e w5 ⟨q5,rfl,r⟩;have F:=Aa ((j.o.below ((Ag _ _).alloc (Al _) _)).step r);clear r;go_wp2_with fail;go_roundw
     case rel=>exact⟨k+1,by omega,by go_num,by rw[D.o]; exact F.o⟩
     case measure=>simp[intOf]; omega
    ·have G:l.take k=l:=BH (by omega);rw[G]at aa;have H:=Aa aa;clear aa hlen m;go_wp2_with fail;go_ret;exact⟨_,rfl,by rw[O.o]; exact H.o⟩
  |true=>
   have I:=Aa g;cases x:Bb s acc with
   |true=>
    have y:=Aa (KW g x);have P:=Aa x;clear g x;go_enter func93,ntmps93;go_wp2_with (first|(go_at_call 65; refine(JD _ _ M).mono ?_; rintro e w' ⟨rfl,rfl⟩; rw[I.o])|(go_at_call 80; refine(Mv _ _ _ _ _ (LV.of_own (ab.o.alloc _))).mono ?_; rintro e w' ⟨rfl,rfl⟩; rw[P.o]));go_loopw [0,25] (λf i wr=>∃k:Nat,k<=l.length/\i=zA k/\DT w B q (AN (Cf acc s) (Ap (l.take k))) f wr) (λf i wr=>l.length-(intOf i).toNat);case atStart=>exact⟨0,Be _,rfl,by simp only[List.take_zero]; rw[y.o]; simpa [Ap,AN] using Qh ab.o _⟩
    case round=>
     obtain⟨k,hk,rfl,aa⟩:=hrel;have j:=Aa aa;have hlen:=Ou (Ap (l.take k)) (Cf acc s);rw[Mj]at hlen;have m:=Mx acc s;have Z:B<=wr.heap.size:=Bf J aa.2.1.size;by_cases d:k<l.length
     ·have z:=DP l k d;have A:=Eu l (k+1);have n:=hs.grown aa.2.1 (λb hb e=>by have h1:=u b hb; have h2:=(ab.o.lt b e.symm).1; omega);obtain⟨b,o,a',c',rfl,d0,d1,hx⟩:=n.get (Ag wr.heap.size wr) (λ_ _ h=>h) k d;have C:=Aa hx;have D:Hid (AN (Cf acc s) (Ap (l.take (k+1)))=AN (AN (Cf acc s) (Ap (l.take k))) (Ap [l[k]])):=Aa (by rw[Mi l k d,Ot]);have E:Hid ((AN (Cf acc s) (Ap (l.take k))).length+Ab [l[k]]<=2000000):=Aa (by omega);clear aa n hx hlen m z A;go_wp2_with fail;refine(L.o _ (AM d) _ _ _ _ X B (by exact C.o.alloc _) u (by simp; omega) (by exact j.o.1.alloc _) (NE N.o k d) E.o).mono ?_;rintro e w5 ⟨q5,rfl,r⟩;have F:=Aa ((j.o.below ((Ag _ _).alloc (Al _) _)).step r);clear r;go_wp2_with fail;go_roundw
      case rel=>exact⟨k+1,by omega,by go_num,by rw[D.o]; exact F.o⟩
      case measure=>simp[intOf]; omega
     ·have G:l.take k=l:=BH (by omega);rw[G]at aa;have H:=Aa aa;clear aa hlen m;go_wp2_with fail;go_ret;exact⟨_,rfl,by rw[O.o]; exact H.o⟩
   |false=>
    have y:=Aa (KV g x);have P:=Aa x;clear g x;obtain⟨q2,w3,a8,R⟩:=mZ (w:=w.alloc (zh #[.string s,.slice a l.length c] 31)) (B:=B) s (ab.o.alloc _) (by simp; omega) (by omega) (w.heap.size+1) (by simp);have HR:=Aa a8;have aw:Ac w3 w.heap.size #[.string s,.slice a l.length c] 31:=(Ac.new w _ _).grown R.2.1 (λe=>by have:=(ab.o.lt _ e.symm).2; omega);have aB:=aw.c1;have a1:=Aa (nA ab.o R);clear a8 R aw;go_enter func93,ntmps93;go_wp2_with (first|(go_at_call 65; refine(JD _ _ M).mono ?_; rintro e w' ⟨rfl,rfl⟩; rw[I.o])|(go_at_call 80; refine(Mv _ _ _ _ _ (LV.of_own (ab.o.alloc _))).mono ?_; rintro e w' ⟨rfl,rfl⟩; rw[P.o])|(at_builtin; refine Gt rfl _ _ _ _ rfl rfl rfl HR.o ?_));go_loopw [0,25] (λf i wr=>∃k:Nat,k<=l.length/\i=zA k/\DT w B q (AN (Cf acc s) (Ap (l.take k))) f wr) (λf i wr=>l.length-(intOf i).toNat);case atStart=>exact⟨0,Be _,rfl,by simp only[List.take_zero]; rw[y.o]; simpa [Ap,AN] using a1.o⟩
    case round=>
     obtain⟨k,hk,rfl,aa⟩:=hrel;have j:=Aa aa;have hlen:=Ou (Ap (l.take k)) (Cf acc s);rw[Mj]at hlen;have m:=Mx acc s;have Z:B<=wr.heap.size:=Bf J aa.2.1.size;by_cases d:k<l.length
     ·have z:=DP l k d;have A:=Eu l (k+1);have n:=hs.grown aa.2.1 (λb hb e=>by have h1:=u b hb; have h2:=(ab.o.lt b e.symm).1; omega);obtain⟨b,o,a',c',rfl,d0,d1,hx⟩:=n.get (Ag wr.heap.size wr) (λ_ _ h=>h) k d;have C:=Aa hx;have D:Hid (AN (Cf acc s) (Ap (l.take (k+1)))=AN (AN (Cf acc s) (Ap (l.take k))) (Ap [l[k]])):=Aa (by rw[Mi l k d,Ot]);have E:Hid ((AN (Cf acc s) (Ap (l.take k))).length+Ab [l[k]]<=2000000):=Aa (by omega);clear aa n hx hlen m z A;go_wp2_with fail;refine(L.o _ (AM d) _ _ _ _ X B (by exact C.o.alloc _) u (by simp; omega) (by exact j.o.1.alloc _) (NE N.o k d) E.o).mono ?_;rintro e w5 ⟨q5,rfl,r⟩;have F:=Aa ((j.o.below ((Ag _ _).alloc (Al _) _)).step r);clear r;go_wp2_with fail;go_roundw
      case rel=>exact⟨k+1,by omega,by go_num,by rw[D.o]; exact F.o⟩
      case measure=>simp[intOf]; omega
     ·have G:l.take k=l:=BH (by omega);rw[G]at aa;have H:=Aa aa;clear aa hlen m;go_wp2_with fail;go_ret;exact⟨_,rfl,by rw[O.o]; exact H.o⟩
theorem nC (t:Tm) (v:Value) (w:World) (X:Nat->Prop) (hv:TV w X v t):
  Calls prog 66 #[v] w λe w'=>∃i,e=.returned (.tuple #[i,zA (Av t)])/\(Av t=0->LV Value.string w' (λb=>w.heap.size<=b) i (AN [] (Ap [t])))/\(Av t≠0->i=zB)/\Below w.heap.size w w':=by
 obtain⟨d,q,r⟩:∃d:Nat->Prop,(∀b,d b->b<w.heap.size)/\TV w d v t:=⟨λb=>X b/\b<w.heap.size,λ_ h=>h.2,hv.mono λb h1 h2=>⟨h1,h2⟩⟩;clear hv;obtain⟨a,c,rfl,hs⟩:=r;have l:=Aa (show TV w d (.agg (zF t a c)) t from ⟨a,c,rfl,hs⟩);clear hs;go_enter func66,ntmps66;go_wp2_with fail;refine(JE t _ _ d (by exact l.o.alloc _)).mono ?_;rintro e w1 ⟨rfl,ab⟩;have j:=(Ac.new w (zF t a c) 31).below ab (by simp);have c0:=j.c0;have c1:=j.c1;have f:=Aa (((Ag w.heap.size w).alloc (Al _) (ze t a c)).trans (ab.mono (by simp)));clear ab j;by_cases h:Av t=0
 ·have g:=Aa h;have m:Hid (Af [t]=0/\Ab [t]<=200):=by
   unfold Av at h;split at h
   ·exact absurd h (by decide)
   ·exact⟨h,by omega⟩
  rw[h];clear h;go_wp2_with fail;refine(nB t _ _ [] _ d w1.heap.size (by exact l.o.later f.o) (λb hb=>by have:=q b hb; have:=f.o.size; omega) (Al _) (GT _ _ _ _) m.o.1 (by have:=m.o.2; simp; omega)).mono ?_;rintro e w2 ⟨s,rfl,n⟩;have aa:=Aa n;clear n;go_wp2_with fail;go_ret2
  refine⟨s,by rw[g.o]; rfl,λ_=>?_,λh=>absurd g.o h,?_⟩
  ·exact aa.o.lv.mono λb hb _=>Bf f.o.size hb
  ·exact f.o.trans ⟨aa.o.2.1.os,aa.o.2.1.tape,aa.o.2.1.output,aa.o.2.1.size,λk hk=>aa.o.2.1.block k (B7 hk f.o.size) (by simp[Value.ownBlock])⟩
 ·have h':(Av t==0)=false:=by simpa using h
  have g:=Aa h;clear h;go_wp2_with fail;go_ret2
  exact⟨_,rfl,λh=>absurd h g.o,λ_=>rfl,f.o⟩
theorem nD (a:Aj n=true):Bb n (Cf acc s)=(Bb n acc||(s.toList==n.toList)):=by
 cases hs:Aj s with
 |false=>
  rw[Mw hs];have:(s.toList==n.toList)=false:=by
   rw[Bool.eq_false_iff];intro h;have e:s=n:=Ew (by simpa using h);rw[e,a]at hs;cases hs
  rw[this,Bool.or_false]
 |true=>
  cases hi:Bb s acc with
  |true=>
   rw[KW hs hi];cases he:(s.toList==n.toList) with
   |false=>rw[Bool.or_false]
   |true=>have e:s=n:=Ew (by simpa using he);rw[<-e,hi]; rfl
  |false=>rw[KV hs hi];unfold Bb;rw[KE];simp
theorem V0 {n:ByteArray} (a:Aj n=true):∀(ks:List Tm) (acc:List ByteArray),Bb n (AN acc ks)=(Bb n acc||ks.any λk=>k.name.toList==n.toList)
 | [],acc=>by simp[AN]
 |k::ks,acc=>by
  have h:=V0 a ks (Cf acc k.name);show Bb n (AN (Cf acc k.name) ks)=_;rw[h,nD a,List.any_cons,Bool.or_assoc]
theorem V1:∀(ks:List Tm) (acc:List ByteArray),(∀n∈acc,Aj n=true)->∀n∈AN acc ks,Aj n=true
 | [],acc,h=>h
 |k::ks,acc,h=>V1 ks (Cf acc k.name) λn a=>by
  unfold Cf at a;split at a
  ·rename_i hc;rcases Ba.1 a with h1|h1
   ·exact h n h1
   ·rw[N6.1 h1];simp at hc;exact hc.1
  ·exact h n a
theorem nE (a:Aj n=true) (t:Tm):Bb n (AN [] (Ap [t]))=Bu n [t]:=by
 rw[V0 a];simp[Bb,Bu]
theorem V2 (l:Tm):∀ns:List ByteArray,(∀n∈ns,Aj n=true)->(ns.any λn=>!Bu n [l])=!(ns.all λn=>Bb n (AN [] (Ap [l])))
 | [],_=>by simp
 |n::ns,h=>by
  rw[List.any_cons,List.all_cons,V2 l ns (λm hm=>h m (by simp[hm])),nE (h n (by simp)),Bool.not_and]
theorem nG {l:List ByteArray} {f:ByteArray->Bool} (h:k<l.length):(l.take (k+1)).any f=((l.take k).any f||f l[k]):=by
 rw[Ci h,KE];simp
theorem nH {l:List ByteArray} {f:ByteArray->Bool} (h:k<l.length) (h0:f l[k]=true):l.any f=true:=D6.2 ⟨_,AM h,h0⟩
def Qi (P:Nat) (p:Pr) (a1 a2:Option Addr) (c1 c2:Nat) (w:World):Prop:=Ac w P (zi p a1 c1 a2 c2) 34/\Sl w (λ_=>True) a1 p.l.args
theorem nI (P:Nat) (p:Pr) (a1 a2:Option Addr) (c1 c2:Nat) (n:ByteArray) (w:World) (h:Qi P p a1 a2 c1 c2 w):
  Calls prog 68 #[.string n,zC P] w λe w'=>e=.returned (.bool (!Bu n [p.l]))/\Below w.heap.size w w':=by
 have H:=Aa h;have d0:=h.1.c0;have d1:=h.1.c1;clear h;go_enter func68,ntmps68;go_wp2_with fail;refine(Ub n p.l _ _ (λ_=>True) ⟨_,_,rfl,H.o.2⟩).mono ?_;rintro e w1 ⟨rfl,aa⟩;have ab:=Aa aa;clear aa;go_wp2_with fail;go_ret;exact⟨rfl,ab.o⟩
def nJ (f:ByteArray->Bool) (l:List ByteArray) (w:World) (v:Value) (wr:World):Prop:=∃k:Nat,k<=l.length/\v=zA k/\(l.take k).any f=false/\Below w.heap.size w wr
theorem nK (P:Nat) (p:Pr) (a1 a2:Option Addr) (c1 c2:Nat) (l:List ByteArray) (v:Value) (w:World) (X:Nat->Prop) (hv:LV Value.string w X v l) (hp:Qi P p a1 a2 c1 c2 w):
  Calls prog 94 #[v,.func (.func 68) #[] #[zC P]] w λe w'=>(∃i:Int,e=.returned (zA i)/\decide (0<=i)=l.any λn=>!Bu n [p.l])/\Below w.heap.size w w':=by
 have u:=Aa hv;have g:=Aa hp;obtain⟨a,c,rfl,⟨hl,_⟩,_⟩:=hv;clear hp;go_enter func94,ntmps94;go_wp2_with fail;go_loopw [8] (λv wr=>nJ (λn=>!Bu n [p.l]) l w v wr) (λv wr=>l.length-(intOf v).toNat);case atStart=>exact⟨0,Be _,rfl,by simp,Ag _ _⟩
 case round=>
  obtain⟨k,hk,rfl,q,hb⟩:=hrel;have r:=Aa q;have j:=Aa hb;clear q;by_cases d:k<l.length
  ·have ae:(k:Int)<(l.length:Int):=(by omega);obtain⟨a',c',s,_,h1⟩:=u.o.later hb;simp at s;obtain⟨rfl,rfl⟩:=s;obtain⟨b,o,rfl,_,hc⟩:=h1.resolve_left (λh=>by rw[h] at d; simp at d);have d0:=hc k d;have x:=Aa (nI P p a1 a2 c1 c2 l[k] wr ⟨g.o.1.below hb g.o.1.lt,g.o.2.later hb⟩);have z:=Aa (nG (f:=λn=>!Bu n [p.l]) d);have A:=Aa (nH (f:=λn=>!Bu n [p.l]) d);clear hc h1 hb;generalize l[k]=y at *;go_wp2_with fail;refine x.o.mono ?_;rintro e w1 ⟨rfl,ab⟩;have t:=Aa (j.o.trans (ab.mono j.o.size));clear ab;cases hm:Bu y [p.l] with
   |false=>have m:=Aa (A.o (by rw[hm]; rfl));go_wp2_with fail;go_ret;exact⟨⟨_,rfl,by rw[m.o]; simp⟩,t.o⟩
   |true=>
    have aa:Hid ((l.take (k+1)).any (λn=>!Bu n [p.l])=false):=(by have h:=z.o;rw[hm,r.o]at h;exact h);go_wp2_with fail;go_roundw
    case rel=>exact⟨k+1,by omega,by go_num,aa.o,t.o⟩
    case measure=>simp[intOf]; omega
  ·have m:Hid (false=l.any λn=>!Bu n [p.l]):=Aa (by rw[<-r.o,BH (by omega)]);go_wp2_with fail;go_ret;exact⟨⟨-1,rfl,by rw[<-m.o]; decide⟩,j.o⟩
theorem nL (P:Nat) (p:Pr) (a1 a2:Option Addr) (c1 c2:Nat) (l:List ByteArray) (v:Value) (w:World) (X:Nat->Prop) (hv:LV Value.string w X v l) (hp:Qi P p a1 a2 c1 c2 w):
  Calls prog 67 #[v,.func (.func 68) #[] #[zC P]] w λe w'=>e=.returned (.bool (l.any λn=>!Bu n [p.l]))/\Below w.heap.size w w':=by
 have a:=Aa (nK P p a1 a2 c1 c2 l v w X hv hp);clear hv hp;go_enter func67,ntmps67;go_wp2_with fail;refine a.o.mono ?_;rintro e w1 ⟨⟨i,rfl,hi⟩,aa⟩;have b:=Aa hi;have ab:=Aa aa;clear hi aa;go_wp2_with fail;go_ret;exact⟨Ck (by rw[<-b.o]),ab.o⟩
def Dt:List Tm->Int
 | []=>0
 |t::r=>if Av t=0 then Dt r else Av t
theorem nN (h:k<l.length) (h0:Dt (l.take k)=0):Dt (l.take (k+1))=Av l[k]/\(Av l[k]≠0->Dt l=Av l[k]):=by
 induction l generalizing k with
 |nil=>simp at h
 |cons t r b=>
  cases k with
  |zero=>
   refine⟨?_,λa=>?_⟩
   ·simp only[GY,List.take_zero,Dt,Gs];split
    ·rename_i e; exact e.symm
    ·rfl
   ·simp only[Gs] at a ⊢;rw[Dt,Ah a]
  |succ k=>
   have ht:Av t=0:=by
    rw[GY,Dt]at h0;split at h0
    ·assumption
    ·rename_i e; exact absurd h0 e
   rw[GY,Dt,Ao ht]at h0;obtain⟨h1,h2⟩:=b (by simpa using h) h0;simp only[FX];refine⟨by rw[GY,Dt,Ao ht]; exact h1,λa=>by rw[Dt,Ao ht]; exact h2 a⟩
def nP (l:List Tm) (w:World) (v:Value) (wr:World):Prop:=∃k:Nat,k<=l.length/\v=zA k/\Dt (l.take k)=0/\Below w.heap.size w wr
theorem V4 (l:List Tm) (a:Option Addr) (c:Nat) (w:World) (X:Nat->Prop) (hs:Sl w X a l):
  Calls prog 41 #[.slice a l.length c] w λe w'=>e=.returned (zA (Dt l))/\Below w.heap.size w w':=by
 have n:=Aa hs;have hl:=hs.1;clear hs;go_enter func41,ntmps41;go_wp2_with fail;go_loopw [8] (λv wr=>nP l w v wr) (λv wr=>l.length-(intOf v).toNat);case atStart=>exact⟨0,Be _,rfl,by simp[Dt],Ag _ _⟩
 case round=>
  obtain⟨k,hk,rfl,g,hb⟩:=hrel;have i:=Aa g;have d:=Aa hb;clear g;by_cases j:k<l.length
  ·have ae:(k:Int)<(l.length:Int):=(by omega);obtain⟨b,o,a',c',rfl,d0,d1,hx⟩:=n.o.get hb (λ_ _ h=>h) k j;have q:=Aa hx;have aa:=Aa (nN j i.o);clear hx hb;generalize l[k]=y at *;go_wp2_with fail;refine(JE y _ _ X (by exact q.o.later ((Ag _ _).alloc (Al _) _))).mono ?_;rintro e w1 ⟨rfl,ab⟩;have m:=Aa ((d.o.alloc d.o.size (ze y a' c')).trans (ab.mono (by have:=d.o.size; simp; omega)));clear ab;by_cases hm:Av y=0
   ·have r:Hid (Dt (l.take (k+1))=0):=Aa (by rw[aa.o.1,hm]);rw[hm];clear hm;go_wp2_with fail;go_roundw
    case rel=>exact⟨k+1,by omega,by go_num,r.o,m.o⟩
    case measure=>simp[intOf]; omega
   ·have af:(Av y==0)=false:=(by simpa using hm);have f:=Aa (aa.o.2 hm);clear hm;go_wp2_with fail;go_ret;exact⟨Cj f.o.symm,m.o⟩
  ·have f:Hid (0=Dt l):=Aa (by rw[<-i.o,BH (by omega)]);go_wp2_with fail;go_ret;exact⟨Cj f.o,d.o⟩
theorem V5 (a b:Tm):Dt [a,b]=CJ a b:=by
 simp only[Dt,CJ];by_cases h1:Av a=0
 ·rw[Ao h1,Ao h1];by_cases h2:Av b=0
  ·rw[Ao h2,h2]
  ·rw[Ah h2]
 ·rw[Ah h1,Ah h1]
theorem V6 {t5 t6:Tm} {a5 a:Option Addr} {c5 b T:Nat} (hb:Ac w B #[.string t5.name,.slice a5 t5.args.length c5,.string t6.name,.slice a t6.args.length b] T) (c:Sl w (λ_=>True) a5 t5.args) (h6:Sl w (λ_=>True) a t6.args):Sl w (λ_=>True) (some (zD B 0)) [t5,t6]:=by
 refine⟨by simp,Ad ⟨B,0,rfl,N8 _ _ _ λi hi=>?_⟩⟩;have aa:i=0∨i=1:=by simp at hi; omega
 rcases aa with rfl|rfl
 ·exact⟨trivial,hb.cell 0,a5,c5,hb.cell 1,c⟩
 ·exact⟨trivial,hb.cell 2,a,b,hb.cell 3,h6⟩
theorem nQ (p:Pr) (a1 a2:Option Addr) (c1 c2:Nat) (w:World) (X:Nat->Prop) (g:Sl w X a1 p.l.args) (i:Sl w X a2 p.r.args):
  Calls prog 45 #[.agg (zi p a1 c1 a2 c2)] w λe w'=>e=.returned (zA (Br p))/\Below w.heap.size w w':=by
 have j:=Aa (g.mono (Y:=λ_=>True) λ_ _ _=>trivial);have k:=Aa (i.mono (Y:=λ_=>True) λ_ _ _=>trivial);clear g i;have al:=@hmq prog;have a:Hid (Ac ((w.alloc (zh (zi p a1 c1 a2 c2) 34)).alloc (zh (zi p a1 c1 a2 c2) 31)) w.heap.size (zi p a1 c1 a2 c2) 34/\Ac ((w.alloc (zh (zi p a1 c1 a2 c2) 34)).alloc (zh (zi p a1 c1 a2 c2) 31)) (w.heap.size+1) (zi p a1 c1 a2 c2) 31/\Below w.heap.size w ((w.alloc (zh (zi p a1 c1 a2 c2) 34)).alloc (zh (zi p a1 c1 a2 c2) 31))):=(by have m:=Ac.new (w.alloc (zh (zi p a1 c1 a2 c2) 34)) (zi p a1 c1 a2 c2) 31;rw[Cp]at m;exact⟨(Ac.new w _ _).alloc _,m,((Ag _ _).alloc (Al _) _).alloc (by simp) _⟩);go_enter func45,ntmps45;go_wp2_with fail;generalize ((w.alloc (zh (zi p a1 c1 a2 c2) 34)).alloc (zh (zi p a1 c1 a2 c2) 31))=w2 at *;refine(V4 [p.l,p.r] _ _ _ (λ_=>True) (V6 a.o.2.1 (j.o.later a.o.2.2) (k.o.later a.o.2.2))).mono ?_;rintro e w3 ⟨rfl,aa⟩;have B3:=Aa (a.o.2.2.trans (aa.mono a.o.2.2.size));have c:=Aa (a.o.1.below aa a.o.1.lt);clear aa a;rw[V5];by_cases hm:CJ p.l p.r=0
 ·have q:Hid (Av p.r=0):=by
   unfold CJ at hm;split at hm
   ·exact hm
   ·rename_i h; exact absurd hm h
  have ab:Hid (Br p=if Aj p.l.name=true then 2 else if (AN [] (Ap [p.r])).all (λn=>Bb n (AN [] (Ap [p.l])))=true then 0 else 15):=Aa (by unfold Br;rw[Ao hm]);rw[hm];clear hm;have d0:=c.o.c0;have d2:=c.o.c2;have d3:=c.o.c3;go_wp2_with fail;refine(BR _ _).mono ?_;rintro e y ⟨rfl,s⟩;rw[s];clear s y;cases hv:Aj p.l.name with
  |true=>have b:Hid (2=Br p):=Aa (by rw[ab.o,Ao hv]);clear hv;go_wp2_with fail;go_ret;exact⟨Cj b.o,B3.o⟩
  |false=>
   have t:Hid (Br p=if (AN [] (Ap [p.r])).all (λn=>Bb n (AN [] (Ap [p.l])))=true then 0 else 15):=(by have h:=ab.o;rw[Ah (by rw[hv]; decide)]at h;exact h);clear hv ab;go_wp2_with fail;refine(nC p.r _ _ (λ_=>True) ⟨_,_,rfl,k.o.later B3.o⟩).mono ?_;rintro e w5 ⟨v5,rfl,u,_,d⟩;have z:=Aa (u q.o);have f:=Aa (B3.o.trans (d.mono B3.o.size));have A:=Aa (c.o.below d c.o.lt);rw[q.o];clear u d d0 d2 d3;have B:=Aa (V2 p.l (AN [] (Ap [p.r])) (V1 _ _ (by simp)));go_wp2_with fail;refine(nL w.heap.size p a1 a2 c1 c2 (AN [] (Ap [p.r])) _ _ _ (by exact z.o) ⟨A.o,j.o.later f.o⟩).mono ?_;rintro e w6 ⟨rfl,v⟩;have x:=Aa (f.o.trans (v.mono f.o.size));clear v;rw[B.o];cases ha:(AN [] (Ap [p.r])).all (λn=>Bb n (AN [] (Ap [p.l]))) with
   |true=>have b:Hid (0=Br p):=Aa (by rw[t.o,Ao ha]);clear ha;go_wp2_with fail;go_ret;exact⟨Cj b.o,x.o⟩
   |false=>have b:Hid (15=Br p):=Aa (by rw[t.o,Ah (by rw[ha]; decide)]);clear ha;go_wp2_with fail;go_ret;exact⟨Cj b.o,x.o⟩
 ·have an:(CJ p.l p.r==0)=false:=by simpa using hm
  have b:Hid (CJ p.l p.r=Br p):=Aa (by unfold Br;rw[Ah hm]);clear hm;go_wp2_with fail;go_ret;exact⟨Cj b.o,B3.o⟩
theorem V7 (ls:List Pr) (u:Value) (w:World) (X:Nat->Prop) (hu:QV w X u ls):
  Calls prog 29 #[u] w λe w'=>e=.returned (zA (Bl ls))/\Below w.heap.size w w':=by
 have s:=Aa (hu.mono (Y:=λb=>X b/\b<w.heap.size) λb h1 h2=>⟨h1,h2⟩);obtain⟨a,c,rfl,hl,t⟩:=hu;clear t;go_enter func29,ntmps29;by_cases ab:40<ls.length
 ·go_wp2_with fail;go_ret;exact⟨Cj (by unfold Bl; rw[Ao ab]),Ag _ _⟩
 go_wp2_with fail;go_loopw [11] (λv wr=>YQ ls w v wr) (λv wr=>ls.length-(intOf v).toNat);case atStart=>exact⟨0,rfl,Be _,rfl,Ag _ _⟩
 case round=>
  obtain⟨k,rfl,hk,i,hb⟩:=hrel;have f:=Aa hb;have g:=Aa i;clear i;by_cases h:k<ls.length
  ·obtain⟨b,o,a1,c1,a2,c2,rfl,d0,d1,d2,d3,j,m⟩:=(s.o.later hb).get k h;have ai:(k:Int)<(ls.length:Int):=(by omega);have x:=Aa j;have y:=Aa m;have z:=Aa (Yd h ab g.o);have A:=Aa (My h g.o);clear j m hb;generalize ls[k]=d at *;go_wp2_with fail;have aa:Below wr.heap.size wr (wr.alloc (zh (zi d a1 c1 a2 c2) 34)):=(Ag _ _).alloc (Al _) _;refine(nQ d a1 a2 c1 c2 _ _ (by exact x.o.later aa) (by exact y.o.later aa)).mono ?_;rintro e w5 ⟨rfl,n⟩;have q:=Aa (f.o.trans ((aa.trans (n.mono (by simp))).mono f.o.size));clear n aa;by_cases hm:Br d=0
   ·have B:Hid (EM ls (k+1)=0):=Aa (by rw[A.o,hm]);rw[hm];clear hm;go_wp2_with fail;go_roundw
    case rel=>exact⟨k+1,by go_num,by omega,B.o,q.o⟩
    case measure=>simp[intOf]; omega
   ·have an:(Br d==0)=false:=(by simpa using hm);have C:=Aa (z.o hm);clear hm;go_wp2_with fail;go_ret;exact⟨Cj C.o.symm,q.o⟩
  ·have D:k=ls.length:=(by omega);go_wp2_with fail;go_ret;exact⟨Cj (by unfold Bl; rw[Ah ab,<-D]; exact g.o.symm),f.o⟩

/- Several texts in one. -/
import Derived.Test.YtacmmcnnhfmepaaGreatDoorZELongSaysOwn
import Derived.Deep.RegionHeld3
import Derived.Test.YtacmmcnnhfmepaaGreatDoorL7
import Derived.ProofKit
import Derived.Test.YtacmmcnnhfmepaaGreatDoorIf6
namespace Go.Proofs.YtacmmcnnhfmepaaGreatDoor
set_option linter.all false
set_option maxRecDepth 20000
set_option maxHeartbeats 8000000
open Go.RowKit Go.Proofs.Tryz
def PX.m:PX->Lm
 | .v i=>⟨1,(i:Int),[]⟩
 | .c k=>⟨4,k,[]⟩
 | .l b=>⟨2,0,[b.m]⟩
 | .a f x=>⟨3,0,[f.m,x.m]⟩
theorem Xy (t:Lm):∀u,Au u 0 [t]=0->∃p:PX,p.m=t:=by
 induction t using Lm.ind with
 |h k x l d=>
  intro u he;rcases I7 he with ⟨y,e,h0,h1⟩|⟨b,e,hb⟩|⟨f,a,e,g,i⟩|⟨y,e,h0,h1⟩
  ·cases e;exact⟨.v x.toNat,by simp only[PX.m]; congr 1; omega⟩
  ·cases e;obtain⟨p,hp⟩:=d b (by simp) _ hb;exact⟨.l p,by simp only[PX.m,hp]⟩
  ·cases e;obtain⟨p,hp⟩:=d f (by simp) _ g;obtain⟨q,hq⟩:=d a (by simp) _ i;exact⟨.a p q,by simp only[PX.m,hp,hq]⟩
  ·cases e;exact⟨.c x,rfl⟩
theorem Ml:∀ {p q:PX},p.m=q.m->p=q
 | .v i,.v j,h=>by simp only[PX.m,Lm.mk.injEq] at h; congr 1; omega
 | .c i,.c j,h=>by simp only[PX.m,Lm.mk.injEq] at h; rw[h.2.1]
 | .l b,.l d,h=>by
  simp only[PX.m,Lm.mk.injEq,FT,and_true,true_and] at h;rw[Ml h]
 | .a f x,.a g y,h=>by
  simp only[PX.m,Lm.mk.injEq,FT,and_true,true_and] at h;rw[Ml h.1,Ml h.2]
 | .v i,.c j,h=>by simp[PX.m] at h
 | .v i,.l j,h=>by simp[PX.m] at h
 | .v i,.a f x,h=>by simp[PX.m] at h
 | .c i,.v j,h=>by simp[PX.m] at h
 | .c i,.l j,h=>by simp[PX.m] at h
 | .c i,.a f x,h=>by simp[PX.m] at h
 | .l i,.v j,h=>by simp[PX.m] at h
 | .l i,.c j,h=>by simp[PX.m] at h
 | .l i,.a f x,h=>by simp[PX.m] at h
 | .a f x,.v j,h=>by simp[PX.m] at h
 | .a f x,.c j,h=>by simp[PX.m] at h
 | .a f x,.l j,h=>by simp[PX.m] at h
theorem Xz (y d x:Int):AY y d ⟨1,x,[]⟩=if x<d then ⟨1,x,[]⟩ else ⟨1,x+y,[]⟩:=by
 unfold AY;by_cases h:x<d<;>simp[h]
theorem NP (y d k x:Int) (l:List Lm) (hk:k≠1):AY y d ⟨k,x,l⟩=⟨k,x,l.map (AY y (AO d k))⟩:=by
 rw[<-Ei];unfold AY;simp[hk]
theorem XD (z:Lm) (d x:Int):AX z d ⟨1,x,[]⟩=if x<d then ⟨1,x,[]⟩ else if x=d then AY d 0 z else ⟨1,x-1,[]⟩:=by
 unfold AX;by_cases h:x<d<;>simp[h]
theorem NQ (z:Lm) (d k x:Int) (l:List Lm) (hk:k≠1):AX z d ⟨k,x,l⟩=⟨k,x,l.map (AX z (AO d k))⟩:=by
 rw[<-EG];unfold AX;simp[hk]
def PX.mv (y d:Nat) (i:Nat):Nat:=if i<d then i else i+y
theorem PX.mv_up (y d:Nat):upr (mv y d)=mv y (d+1):=by
 funext i
 cases i with
 |zero=>simp[PX.upr,PX.mv]
 |succ i=>
  simp only[PX.upr,PX.mv];by_cases h:i<d
  ·rw[Aq h,Aq (by omega)]
  ·rw[Am h,Am (by omega)]; omega
theorem Kk (y:Nat):∀(p:PX) (d:Nat),AY (y:Int) (d:Int) p.m=(p.ren (PX.mv y d)).m
 | .v i,d=>by
  simp only[PX.m,PX.ren,PX.mv];rw[Xz];by_cases h:i<d
  ·rw[Aq (by omega),Aq h]
  ·rw[Am (by omega),Am h]; simp
 | .c k,d=>by simp only[PX.m,PX.ren]; rw[NP _ _ _ _ _ (by decide)]; rfl
 | .l b,d=>by
  have h1:=Kk y b (d+1);simp only[PX.m,PX.ren];have e:AO (d:Int) 2=((d+1:Nat):Int):=by simp[AO]
  rw[NP _ _ _ _ _ (by decide),e,PX.mv_up,<-h1];rfl
 | .a f x,d=>by
  have h1:=Kk y f d;have h2:=Kk y x d;simp only[PX.m,PX.ren];have e:AO (d:Int) 3=(d:Int):=by simp[AO]
  rw[NP _ _ _ _ _ (by decide),e,<-h1,<-h2];rfl
def PX.inAt (z:PX) (d:Nat) (i:Nat):PX:=if i<d then .v i else if i=d then z.ren (·+d) else .v (i-1)
theorem PX.inAt_up (z:PX) (d:Nat):up (inAt z d)=inAt z (d+1):=by
 funext i
 cases i with
 |zero=>simp[PX.up,PX.inAt]
 |succ i=>
  simp only[PX.up,PX.inAt];by_cases h:i<d
  ·rw[Aq h,Aq (by omega)]; rfl
  ·rw[Am h,Am (by omega:¬i+1<d+1)];by_cases h2:i=d
   ·rw[Aq h2,Aq (by omega),PX.ren_ren]; rfl
   ·rw[Am h2,Am (by omega)];simp only[PX.ren];congr 1
    omega
theorem PX.inAt_zero (z:PX):inAt z 0=ins z:=by
 funext i
 cases i with
 |zero=>simp only[PX.inAt,PX.ins];rw[Am (by omega),Aq trivial];rw[PX.ren_is];exact PX.sub_v z
 |succ i=>simp[PX.inAt,PX.ins]
theorem Mm (z:PX):∀(p:PX) (d:Nat),AX z.m (d:Int) p.m=(p.sub (PX.inAt z d)).m
 | .v i,d=>by
  simp only[PX.m,PX.sub,PX.inAt];rw[XD];by_cases h:i<d
  ·rw[Aq (by omega),Aq h]; rfl
  ·rw[Am (by omega),Am h];by_cases h2:i=d
   ·rw[Aq (by omega),Aq h2];have:=Kk d z 0;rw[show((0:Nat):Int)=0 from rfl]at this;rw[this];congr 1
   ·rw[Am (by omega),Am h2];simp only[PX.m];congr 1
    omega
 | .c k,d=>by simp only[PX.m,PX.sub]; rw[NQ _ _ _ _ _ (by decide)]; rfl
 | .l b,d=>by
  have h1:=Mm z b (d+1);simp only[PX.m,PX.sub];have e:AO (d:Int) 2=((d+1:Nat):Int):=by simp[AO]
  rw[NQ _ _ _ _ _ (by decide),e,PX.inAt_up,<-h1];rfl
 | .a f x,d=>by
  have h1:=Mm z f d;have h2:=Mm z x d;simp only[PX.m,PX.sub];have e:AO (d:Int) 3=(d:Int):=by simp[AO]
  rw[NQ _ _ _ _ _ (by decide),e,<-h1,<-h2];rfl
theorem XF (z p:PX):AX z.m 0 p.m=(p.sub (PX.ins z)).m:=by
 have:=Mm z p 0;rw[PX.inAt_zero]at this;exact this
theorem NR (p:PX):decide (p.m.kind=2)=p.isl:=by cases p<;>simp[PX.m,PX.isl]
theorem Jo:∀p:PX,AG [p.m]=p.st
 | .v i=>by simp[PX.m,AG,Ct,PX.st]
 | .c k=>by simp[PX.m,AG,Ct,PX.st]
 | .l b=>by
  have h:=Jo b;simp only[PX.m,PX.st];rw[IA,h];simp[Ct]
 | .a f x=>by
  have h1:=Jo f;have h2:=Jo x;simp only[PX.m,PX.st];rw[IA];have h3:AG [f.m,x.m]=(AG [f.m]||AG [x.m]):=Jk [f.m] [x.m];rw[h3,h1,h2,<-NR f];simp[Ct,Bool.or_assoc]
theorem XG {f x:PX} (h:Ct (PX.a f x).m=true):∃b,f=.l b:=by
 cases f with
 |l b=>exact⟨b,rfl⟩
 |v i=>simp[PX.m,Ct] at h
 |c k=>simp[PX.m,Ct] at h
 |a g y=>simp[PX.m,Ct] at h
theorem XH {p:PX} (h:Ct p.m=true):∃b x,p=.a (.l b) x:=by
 cases p with
 |v i=>simp[PX.m,Ct] at h
 |c k=>simp[PX.m,Ct] at h
 |l b=>simp[PX.m,Ct] at h
 |a f x=>obtain⟨b,rfl⟩:=XG h; exact⟨b,x,rfl⟩
theorem XI (b x:PX):GY [(PX.l b).m,x.m]=(b.sub (PX.ins x)).m:=by
 show AX x.m 0 b.m=_;exact XF x b
theorem Mn (inn:Bool):∀(n:Nat) (p:PX),∃q:PX,Bx inn n p.m=q.m/\PX.Par p q
 |0,p=>⟨p,rfl,.refl p⟩
 |n+1,p=>by
  cases d:Fo inn p.m with
  |true=>
   have h:Ct p.m=true:=by unfold Fo at d; simp at d; exact d.1
   obtain⟨b,x,rfl⟩:=XH h;refine⟨b.sub (PX.ins x),?_,.b (.refl b) (.refl x)⟩;rw[<-XI];show Bx inn (n+1) ⟨3,0,[(PX.l b).m,x.m]⟩=_;have j:Fo inn (⟨3,0,[(PX.l b).m,x.m]⟩:Lm)=true:=d;rw[Bx,Aq j]
  |false=>
   cases p with
   |v i=>exact⟨.v i,by simp only[PX.m] at d ⊢; rw[Bx,Am (by rw[d]; simp)]; rfl,.v i⟩
   |c k=>exact⟨.c k,by simp only[PX.m] at d ⊢; rw[Bx,Am (by rw[d]; simp)]; rfl,.c k⟩
   |l b=>
    obtain⟨q,h1,h2⟩:=Mn inn n b;simp only[PX.m] at d ⊢;rw[Bx,Am (by rw[d]; simp),Cx];by_cases e:AG [b.m]=true
    ·rw[Aq e,h1]; exact⟨.l q,rfl,.l h2⟩
    ·rw[Am e]; exact⟨.l b,rfl,.refl _⟩
   |a f x=>
    obtain⟨q,h1,h2⟩:=Mn inn n f;obtain⟨r,h3,o⟩:=Mn inn n x;simp only[PX.m] at d ⊢;rw[Bx,Am (by rw[d]; simp),Cx];by_cases e:AG [f.m]=true
    ·rw[Aq e,h1]; exact⟨.a q x,rfl,.a h2 (.refl x)⟩
    ·rw[Am e,Cx];by_cases g:AG [x.m]=true
     ·rw[Aq g,h3]; exact⟨.a f r,rfl,.a (.refl f) o⟩
     ·rw[Am g]; exact⟨.a f x,rfl,.refl _⟩
theorem RJ (inn:Bool):∀(k:Nat) (p:PX) (r:Lm) (j:Nat),Bl inn k p.m=(0,r,j)->∃q:PX,r=q.m/\PX.Pars p q/\q.st=false/\(j=0↔p.st=false)
 |0,p,r,j,h=>by
  rw[Bl]at h;by_cases a:AG [p.m]=true
  ·rw[Aq a]at h; simp at h
  ·rw[Am a]at h;simp only[Fi,true_and] at h;have b:p.st=false:=by rw[<-Jo]; simpa using a
   exact⟨p,h.1.symm,.refl p,b,λ_=>b,λ_=>h.2.symm⟩
 |k+1,p,r,j,h=>by
  rw[Bl]at h;by_cases a:AG [p.m]=true
  ·rw[Aq a]at h;by_cases hz:2000<Ai [Bx inn 2001 p.m]
   ·rw[Aq hz]at h; simp at h
   ·rw[Am hz]at h;obtain⟨q,h1,h2⟩:=Mn inn 2001 p;rw[h1]at h;generalize c:Bl inn k q.m=g at h;obtain⟨g1,g2,g3⟩:=g;simp only[Fi] at h;obtain⟨rfl,rfl,rfl⟩:=h;obtain⟨d,h3,e,h5,_⟩:=RJ inn k q _ _ c;have b:p.st=true:=by rw[<-Jo]; exact a
    exact⟨d,h3,(PX.Pars.one h2).trans e,h5,λh=>by omega,λh=>by rw[b] at h; cases h⟩
  ·rw[Am a]at h;simp only[Fi,true_and] at h;have b:p.st=false:=by rw[<-Jo]; simpa using a
   exact⟨p,h.1.symm,.refl p,b,λ_=>b,λ_=>h.2.symm⟩
def PX.sz:PX->Nat
 | .v _=>1
 | .c _=>1
 | .l b=>1+b.sz
 | .a f x=>1+(f.sz+x.sz)
def PX.lv:PX->Nat
 | .v _=>1
 | .c _=>1
 | .l b=>b.lv
 | .a f x=>f.lv+x.lv
theorem PX.ren_sz (p:PX):∀r:Nat->Nat,(p.ren r).sz=p.sz:=by
 induction p with
 |v i=>intro r; rfl
 |c k=>intro r; rfl
 |l b d=>intro r; simp only[PX.ren,PX.sz,d]
 |a f x e hx=>intro r; simp only[PX.ren,PX.sz,e,hx]
theorem G8:∀p:PX,Ai [p.m]=p.sz
 | .v i=>by simp[PX.m,Ai,PX.sz]
 | .c k=>by simp[PX.m,Ai,PX.sz]
 | .l b=>by have:=G8 b; simp only[PX.m,PX.sz]; rw[<-this]; simp[Ai]
 | .a f x=>by
  have h1:=G8 f;have h2:=G8 x;simp only[PX.m,PX.sz];rw[<-h1,<-h2];have h3:Ai [f.m,x.m]=Ai [f.m]+Ai [x.m]:=J4 [f.m] [x.m];rw[<-h3];simp[Ai]
def PX.ok:PX->Nat->Prop
 | .v i,u=>i<u
 | .c k,_=>0<=k/\k<40
 | .l b,u=>b.ok (u+1)
 | .a f x,u=>f.ok u/\x.ok u
theorem Jp:∀(p:PX) (u:Nat),Au (u:Int) 0 [p.m]=0↔p.ok u
 | .v i,u=>by
  simp only[PX.m,PX.ok];rw[DV,Et];simp[Bw,Bj,Au]
 | .c k,u=>by
  simp only[PX.m,PX.ok];rw[DV,Et];simp[Bw,Bj,Au]
 | .l b,u=>by
  have h:=Jp b (u+1);simp only[PX.m,PX.ok];rw[<-h,DV,Et];simp[Bw,Bj,AO]
 | .a f x,u=>by
  have h1:=Jp f u;have h2:=Jp x u;simp only[PX.m,PX.ok];rw[<-h1,<-h2,DV,Et,H6];simp[Bw,Bj,AO]
theorem PX.ren_ok (p:PX):∀(r:Nat->Nat) (u u':Nat),(∀i,i<u->r i<u')->p.ok u->(p.ren r).ok u':=by
 induction p with
 |v i=>intro r u u' h hp; exact h i hp
 |c k=>intro r u u' h hp; exact hp
 |l b d=>intro r u u' h hp;exact d _ (u+1) (u'+1) (λi hi=>by cases i with|zero=>simp[PX.upr]|succ i=>have:=h i (by omega); simp only[PX.upr]; omega) hp
 |a f x e hx=>intro r u u' h hp; exact⟨e r u u' h hp.1,hx r u u' h hp.2⟩
theorem PX.sub_ok (p:PX):∀(s:Nat->PX) (u u':Nat),(∀i,i<u->(s i).ok u')->p.ok u->(p.sub s).ok u':=by
 induction p with
 |v i=>intro s u u' h hp; exact h i hp
 |c k=>intro s u u' h hp; exact hp
 |l b d=>
  intro s u u' h hp;refine d _ (u+1) (u'+1) (λi hi=>?_) hp;cases i with
  |zero=>simp[PX.up,PX.ok]
  |succ i=>exact PX.ren_ok (s i) (·+1) u' (u'+1) (λi hi=>by omega) (h i (by omega))
 |a f x e hx=>intro s u u' h hp; exact⟨e s u u' h hp.1,hx s u u' h hp.2⟩
theorem PX.ins_ok {q:PX} {u:Nat} (hq:q.ok u) {p:PX} (hp:p.ok (u+1)):(p.sub (ins q)).ok u:=
 PX.sub_ok p _ (u+1) u (λi hi=>by cases i with|zero=>exact hq|succ i=>show i<u; omega) hp
inductive ST where
 |o
 |ar (a b:ST)
def Ib (A:ST) (Γ:Nat->ST):Nat->ST
 |0=>A
 |i+1=>Γ i
inductive HT:(Nat->ST)->PX->ST->Prop where
 |v {Γ:Nat->ST} {i:Nat} {A:ST} (h:Γ i=A):HT Γ (.v i) A
 |l {Γ:Nat->ST} {A B:ST} {b:PX} (h:HT (Ib A Γ) b B):HT Γ (.l b) (.ar A B)
 |a {Γ:Nat->ST} {A B:ST} {f x:PX} (h:HT Γ f (.ar A B)) (k:HT Γ x A):HT Γ (.a f x) B
theorem HT.ren {Γ:Nat->ST} {p:PX} {A:ST} (h:HT Γ p A):∀(Δ:Nat->ST) (r:Nat->Nat),(∀i,Δ (r i)=Γ i)->HT Δ (p.ren r) A:=by
 induction h with
 |v h=>intro Δ r b; exact .v ((b _).trans h)
 |l h c=>intro Δ r b; exact .l (c _ _ λi=>by cases i with|zero=>rfl|succ i=>exact b i)
 |a h k d i2=>intro Δ r b; exact .a (d _ _ b) (i2 _ _ b)
theorem HT.sub {Γ:Nat->ST} {p:PX} {A:ST} (h:HT Γ p A):∀(Δ:Nat->ST) (s:Nat->PX),(∀i,HT Δ (s i) (Γ i))->HT Δ (p.sub s) A:=by
 induction h with
 |v h=>intro Δ s c; subst h; exact c _
 | @l Γ A B b h d=>
  intro Δ s c;refine .l (d _ _ λi=>?_);cases i with
  |zero=>exact .v rfl
  |succ i=>exact(c i).ren _ _ λ_=>rfl
 |a h k e i2=>intro Δ s c; exact .a (e _ _ c) (i2 _ _ c)
theorem HT.par {p q:PX} (h:PX.Par p q):∀ {Γ:Nat->ST} {A:ST},HT Γ p A->HT Γ q A:=by
 induction h with
 |v i=>intro Γ A k; exact k
 |c k=>intro Γ A k; exact k
 |l _ f=>intro Γ A k; cases k with|l k=>exact .l (f k)
 |a _ _ h1 h2=>intro Γ A k; cases k with|a d e=>exact .a (h1 d) (h2 e)
 |b _ _ h1 h2=>
  intro Γ A k;cases k with
  |a d e=>
   cases d with
   |l d=>
    refine(h1 d).sub _ _ λi=>?_;cases i with
    |zero=>exact h2 e
    |succ i=>exact .v rfl
theorem HT.pars {p q:PX} (h:PX.Pars p q) {Γ:Nat->ST} {A:ST} (k:HT Γ p A):HT Γ q A:=by
 induction h with
 |refl=>exact k
 |tail _ h a=>exact HT.par h a
theorem PX.ren_st (p:PX):∀r:Nat->Nat,(p.ren r).st=p.st/\(p.ren r).isl=p.isl:=by
 induction p with
 |v i=>intro r; exact⟨rfl,rfl⟩
 |c k=>intro r; exact⟨rfl,rfl⟩
 |l b d=>intro r; exact⟨(d _).1,rfl⟩
 |a f x h1 h2=>intro r; exact⟨by simp only[PX.ren,PX.st,(h1 r).1,(h1 r).2,(h2 r).1],rfl⟩
def PX.bod:PX->PX
 | .l b=>b
 |t=>.a (t.ren (·+1)) (.v 0)
theorem PX.bod_of {p:PX} (h:p.isl=false):p.bod=.a (p.ren (·+1)) (.v 0):=by cases p<;>first|rfl|cases h
theorem HT.bod {Γ:Nat->ST} {p:PX} {A B:ST} (h:HT Γ p (.ar A B)) (c:p.st=false):HT (Ib A Γ) p.bod B/\p.bod.st=false:=by
 cases b:p.isl with
 |true=>
  cases h with
  |l h=>exact⟨h,c⟩
  |v=>cases b
  |a=>cases b
 |false=>rw[PX.bod_of b];refine⟨.a (h.ren _ _ λ_=>rfl) (.v rfl),?_⟩;simp only[PX.st,(PX.ren_st p _).1,(PX.ren_st p _).2,c,b];rfl
theorem PX.bod_ok {p:PX} {u:Nat} (h:p.ok u):p.bod.ok (u+1):=by
 cases d:p.isl with
 |true=>cases p with|l b=>exact h|v=>cases d|c=>cases d|a=>cases d
 |false=>rw[PX.bod_of d];exact⟨PX.ren_ok p _ u (u+1) (λi hi=>by omega) h,Nat.succ_pos u⟩
theorem PX.bod_sz (p:PX):p.bod.sz<=p.sz+2:=by
 cases d:p.isl with
 |true=>cases p with|l b=>simp only[PX.bod,PX.sz]; omega|v=>cases d|c=>cases d|a=>cases d
 |false=>rw[PX.bod_of d]; simp only[PX.sz,PX.ren_sz]; omega
theorem HT.flat {Γ:Nat->ST} {p:PX} (h:HT Γ p .o):p.isl=false:=by
 cases h with
 |v=>rfl
 |a=>rfl
def Ha:List ST->ST
 | [a,b]=>.ar a b
 |_=>.o
def Fb:List Ty->List ST
 | []=>[]
 | ⟨_,l⟩::r=>Ha (Fb l)::Fb r
def De (t:Ty):ST:=Ha (Fb t.subs)
theorem Hb (t:Ty) (r:List Ty):Fb (t::r)=De t::Fb r:=by
 obtain⟨x,l⟩:=t;simp only[Fb,De]
theorem RK (x:Int):De ⟨x,[]⟩=.o:=by simp[De,Fb,Ha]
theorem NS (x:Int) (a b:Ty):De ⟨x,[a,b]⟩=.ar (De a) (De b):=by
 show Ha (Fb [a,b])=_;rw[Hb,Hb,Fb,Ha]
theorem RL:∀l:List Ty,(Fb l).length=l.length
 | []=>by simp[Fb]
 |t::r=>by rw[Hb,Cg,Cg,RL r]
theorem RM {t:Ty} {A B:ST} (h:De t=.ar A B):∃a b,t.subs=[a,b]/\De a=A/\De b=B:=by
 have hl:=RL t.subs;unfold De at h;match hm:t.subs with
 | []=>rw[hm] at h; simp[Fb,Ha] at h
 | [a]=>rw[hm,Hb] at h; simp[Fb,Ha] at h
 | [a,b]=>rw[hm,Hb,Hb]at h;simp only[Fb,Ha,ST.ar.injEq] at h;exact⟨a,b,rfl,h.1,h.2⟩
 |a::b::c::r=>rw[hm,Hb,Hb,Hb] at h; simp[Ha] at h
def DB (u:List Ty) (i:Nat):ST:=if i<u.length then De (u.getD (u.length-1-i) ⟨0,[]⟩) else .o
theorem XJ:DB []=λ_=>ST.o:=by funext i; simp[DB]
theorem RN (u:List Ty) (A:Ty):DB (u++[A])=Ib (De A) (DB u):=by
 funext i
 cases i with
 |zero=>simp[DB,Ib]
 |succ i=>
  simp only[DB,Ib,Ed,Cg,Ee];by_cases h:i<u.length
  ·rw[Aq (by omega),Aq h];congr 1
   rw[Gr,Gr,MO (by omega)];congr 2
   omega
  ·rw[Am (by omega),Am h]
inductive LG:Bool->List Ty->PX->Ty->PX->Nat->Prop where
 |fn {u:List Ty} {p:PX} {z:Int} {A B:Ty} {x:PX} {k:Nat} (h:LG true (u++[A]) p.bod B x k):LG true u p ⟨z,[A,B]⟩ (.l x) (k+1)
 |ba {u:List Ty} {p:PX} {z:Int} {F:Ty} {x:PX} {k:Nat} (h:LG false u p F x k):LG true u p ⟨z,[]⟩ x k
 |v {u:List Ty} {i:Nat} {T:Ty} (h:u[u.length-1-i]? = some T) (hi:i<u.length):LG false u (.v i) T (.v i) 1
 |a {u:List Ty} {f g x y:PX} {z:Int} {A B:Ty} {k j:Nat} (h:LG false u f ⟨z,[A,B]⟩ g k) (hx:LG true u x A y j):LG false u (.a f x) B (.a g y) (k+j+1)
theorem LG.det {b:Bool} {u:List Ty} {p:PX} {T:Ty} {x:PX} {k:Nat} (h:LG b u p T x k):∀ {T':Ty} {x':PX} {c:Nat},LG b u p T' x' c->(b=true->T=T')->T=T'/\x=x'/\k=c:=by
 induction h with
 |fn h d=>
  intro T' x' c h' ht;have e:=ht rfl;subst e;cases h' with
  |fn h'=>obtain⟨-,e1,e2⟩:=d h' λ_=>rfl;exact⟨rfl,by rw[e1],by rw[e2]⟩
 |ba h d=>
  intro T' x' c h' ht;have e:=ht rfl;subst e;cases h' with
  |ba h'=>
   obtain⟨-,e1,e2⟩:=d h' λe=>by cases e
   exact⟨rfl,e1,e2⟩
 |v h hi=>
  intro T' x' c h' ht;cases h' with
  |v h'=>rw[h] at h'; cases h'; exact⟨rfl,rfl,rfl⟩
 |a h hx f i2=>
  intro T' x' c h' ht;cases h' with
  |a h' g=>
   obtain⟨e,e1,e2⟩:=f h' λe=>by cases e
   cases e;obtain⟨-,e3,i⟩:=i2 g λ_=>rfl;exact⟨rfl,by rw[e1,e3],by rw[e2,i]⟩
theorem LG.pos {b:Bool} {u:List Ty} {p:PX} {T:Ty} {x:PX} {k:Nat} (h:LG b u p T x k):1<=k:=by
 induction h with
 |fn=>omega
 |ba _ c=>exact c
 |v=>omega
 |a=>omega
structure Cl (b:Bool) (u:List Ty) (p:PX) (T:Ty) (left m:Int) (o:Lm):Prop where
 lo:-((p.sz:Int)+4*(left+2).toNat+2*(-left).toNat+3)<=m
 le:m<=left
 yes:0<=m->∃x k,LG b u p T x k/\o=x.m/\(k:Int)=left-m
 no:m<0->∀T' x k,(b=true->T'=T)->LG b u p T' x k->left<(k:Int)
 only:b=false->∀T' x k,LG b u p T' x k->T'=T
theorem PX.sz_pos (p:PX):1<=p.sz:=by cases p<;>simp only[PX.sz]<;>omega
theorem Cl.neg {u:List Ty} {p:PX} {T:Ty} {left:Int} {o:Lm} (h:left<0):Cl true u p T left left o where
 lo:=by omega
 le:=by omega
 yes:=λh'=>by omega
 no:=λ_ T' x k _ a=>by have:=a.pos; omega
 only:=λh=>by cases h
theorem Cl.fn {u:List Ty} {p:PX} {z left m:Int} {A B:Ty} {o:Lm} (h:Cl true (u++[A]) p.bod B (left-1) m o) (hl:0<=left):Cl true u p ⟨z,[A,B]⟩ left m ⟨2,0,[o]⟩ where
 lo:=by have:=h.lo; have:=p.bod_sz; omega
 le:=by have:=h.le; omega
 yes:=λhm=>by
  obtain⟨x,k,h1,rfl,h2⟩:=h.yes hm;exact⟨.l x,k+1,.fn h1,rfl,by omega⟩
 no:=λhm T' x k ht a=>by
  cases ht rfl;cases a with
  |fn a=>have:=h.no hm _ _ _ (λ_=>rfl) a; omega
 only:=λh=>by cases h
theorem Cl.ba {u:List Ty} {p:PX} {z left m:Int} {F:Ty} {o:Lm} (h:Cl false u p F left m o):Cl true u p ⟨z,[]⟩ left m o where
 lo:=h.lo
 le:=h.le
 yes:=λhm=>by
  obtain⟨x,k,h1,h2,h3⟩:=h.yes hm;exact⟨x,k,.ba h1,h2,h3⟩
 no:=λhm T' x k ht a=>by
  cases ht rfl;cases a with
  |ba a=>exact h.no hm _ _ _ (λe=>by cases e) a
 only:=λh=>by cases h
theorem Cl.v {u:List Ty} {i:Nat} {T:Ty} {left:Int} (h:u[u.length-1-i]? = some T) (hi:i<u.length):Cl false u (.v i) T left (left-1) ⟨1,(i:Int),[]⟩ where
 lo:=by simp only[PX.sz]; omega
 le:=by omega
 yes:=λhm=>⟨.v i,1,.v h hi,rfl,by omega⟩
 no:=λhm T' x k _ a=>by cases a; omega
 only:=λ_ T' x k a=>by
  cases a with
  |v h'=>rw[h] at h'; cases h'; rfl
theorem Cl.aD {u:List Ty} {f x:PX} {z left n m:Int} {A B:Ty} {g y:Lm} (b:Cl false u f ⟨z,[A,B]⟩ left n g) (hx:Cl true u x A n m y) (hl:0<=left) (o:n<0->m=n):Cl false u (.a f x) B left (m-1) ⟨3,0,[g,y]⟩ where
 lo:=by
  have h1:=b.lo; have h2:=hx.lo; have h3:=b.le; have d:=hx.le; have:=f.sz_pos; have:=x.sz_pos;simp only[PX.sz];by_cases h:0<=n
  ·omega
  ·have:=o (by omega); omega
 le:=by have:=b.le; have:=hx.le; omega
 yes:=λhm=>by
  have:=hx.le;obtain⟨i,k,h1,rfl,h2⟩:=b.yes (by omega);obtain⟨l,j,h3,rfl,d⟩:=hx.yes (by omega);exact⟨.a i l,k+j+1,.a h1 h3,rfl,by omega⟩
 no:=λhm T' x' k _ c=>by
  cases c with
  |a h1 h2=>
   cases b.only rfl _ _ _ h1;by_cases h:n<0
   ·have:=b.no h _ _ _ (λe=>by cases e) h1;omega
   ·obtain⟨i,k',h3,_,d⟩:=b.yes (by omega);obtain⟨-,-,e⟩:=h1.det h3 λe=>by cases e
    by_cases q:m<0
    ·have:=hx.no q _ _ _ (λ_=>rfl) h2;omega
    ·obtain⟨l,j',h5,_,h6⟩:=hx.yes (by omega);obtain⟨-,-,e2⟩:=h2.det h5 λ_=>rfl;omega
 only:=λ_ T' x' k c=>by
  cases c with
  |a h1 h2=>cases b.only rfl _ _ _ h1; rfl
theorem Cl.aP {u:List Ty} {f x:PX} {z left n m:Int} {A B:Ty} {g y:Lm} (b:Cl false u f ⟨z,[A,B]⟩ (left-1) n g) (hx:Cl true u x A n m y) (l:n<0->m=n):Cl false u (.a f x) B left m ⟨3,0,[g,y]⟩ where
 lo:=by
  have h1:=b.lo; have h2:=hx.lo; have h3:=b.le; have d:=hx.le; have:=f.sz_pos; have:=x.sz_pos;simp only[PX.sz];by_cases h:0<=n
  ·omega
  ·have:=l (by omega); omega
 le:=by have:=b.le; have:=hx.le; omega
 yes:=λhm=>by
  have:=hx.le;obtain⟨i,k,h1,rfl,h2⟩:=b.yes (by omega);obtain⟨o,j,h3,rfl,d⟩:=hx.yes (by omega);exact⟨.a i o,k+j+1,.a h1 h3,rfl,by omega⟩
 no:=λhm T' x' k _ c=>by
  cases c with
  |a h1 h2=>
   cases b.only rfl _ _ _ h1;by_cases h:n<0
   ·have:=b.no h _ _ _ (λe=>by cases e) h1;omega
   ·obtain⟨i,k',h3,_,d⟩:=b.yes (by omega);obtain⟨-,-,e⟩:=h1.det h3 λe=>by cases e
    have:=hx.no hm _ _ _ (λ_=>rfl) h2;omega
 only:=λ_ T' x' k c=>by
  cases c with
  |a h1 h2=>cases b.only rfl _ _ _ h1; rfl
theorem Cl.both {u:List Ty} {p:PX} {T:Ty} {left m a:Int} {o o':Lm} (h:Cl true u p T left m o) (h':Cl true u p T left a o'):(0<=m/\0<=a/\o=o')∨(m<0/\a<0):=by
 by_cases hm:0<=m
 ·obtain⟨x,k,h1,h2,h3⟩:=h.yes hm;by_cases b:0<=a
  ·obtain⟨x',d,c,h5,h6⟩:=h'.yes b;obtain⟨-,e,-⟩:=h1.det c λ_=>rfl;exact Ad ⟨hm,b,by rw[h2,h5,e]⟩
  ·have:=h'.no (by omega) _ _ _ (λ_=>rfl) h1;omega
 ·by_cases b:0<=a
  ·obtain⟨x',d,c,h5,h6⟩:=h'.yes b;have:=h.no (by omega) _ _ _ (λ_=>rfl) c;omega
  ·exact Ae ⟨by omega,by omega⟩
def EI:Nat->Prop:=λ_=>True
theorem Fq (w:World) (c1 c2 c3:Array Value) (a b c:Nat):Below w.heap.size w (((w.alloc (.cells c1 a)).alloc (.cells c2 b)).alloc (.cells c3 c))/\Ab (((w.alloc (.cells c1 a)).alloc (.cells c2 b)).alloc (.cells c3 c)) w.heap.size c1 a/\
  Ab (((w.alloc (.cells c1 a)).alloc (.cells c2 b)).alloc (.cells c3 c)) (w.heap.size+1) c2 b/\Ab (((w.alloc (.cells c1 a)).alloc (.cells c2 b)).alloc (.cells c3 c)) (w.heap.size+1+1) c3 c:=by
 refine⟨(((Ac _ _).alloc (Ag _) _).alloc (by simp) _).alloc (by simp; omega) _,((Ab.new w c1 a).alloc _).alloc _,?_,?_⟩
 ·have h:=(Ab.new (w.alloc (.cells c1 a)) c2 b).alloc (.cells c3 c);rw[BK]at h;exact h
 ·have h:=Ab.new ((w.alloc (.cells c1 a)).alloc (.cells c2 b)) c3 c;rw[BK,BK]at h;exact h
theorem RO {u:List Ty} {i:Nat} {A:ST} (hi:i<u.length) (h:DB u i=A):∃T,u[u.length-1-i]? = some T/\De T=A:=by
 refine⟨u[u.length-1-i],FU (by omega),?_⟩;rw[DB,Aq hi,Gr,FU (show u.length-1-i<u.length by omega)]at h;exact h
theorem Jq {u:List Ty} (h:Bk u):∀T∈u,Bk [T]:=by
 induction u with
 |nil=>intro T hT; cases hT
 |cons t r a=>
  intro T hT;rw[FG]at h;rcases Cn.1 hT with rfl|hT
  ·rw[FG]; exact⟨h.1,h.2.1,by simp[Bk]⟩
  ·exact a h.2.2 T hT
theorem RP {u:List Ty} {A:Ty} (h:Bk u) (a:Bk [A]):Bk (u++[A]):=by
 induction u with
 |nil=>exact a
 |cons t r b=>rw[FG]at h;rw[Di,FG];exact⟨h.1,h.2.1,b h.2.2⟩
theorem PX.fits {p:PX} {n:Nat} (h:p.ok n) (hn:n+p.sz<=50000):Cs [p.m]/\CZ [p.m]:=by
 have e:=(Jp p n).2 h;exact⟨Jf _ _ _ (by omega) (by rw[G8]; omega) (by omega) e,Mh _ _ _ e⟩
def IG (left:Int):Prop:=∀(X:Nat->Prop) (p:PX) (u:List Ty) (T:Ty) (v y:Value) (ua:Option Addr) (uc:Nat) (w:World),p.st=false->p.ok u.length->p.sz+2*(left+2).toNat<=20000->u.length+(left+2).toNat<=20000->Bk u->Bk [T]->HT (DB u) p (De T)->
 MV w X v p.m->YV w EI y T->AM w EI ua u->
 Calls prog 14 #[v,y,.slice ua u.length uc,zA left] w λe w'=>∃(o:Lm) (a:Option Addr) (c:Nat) (m:Int),e=.returned (.tuple #[.agg (zE o a c),zA m])/\Ap w' (λb=>X b∨w.heap.size<=b) a o.subs/\Cl true u p T left m o/\Below w.heap.size w w'/\(left<0->m=left)
def II (X Y:Nat->Prop) (u:List Ty) (p:PX) (A:ST) (left:Int) (w:World) (e:Ending) (w':World):Prop:=
 ∃(o:Lm) (a:Option Addr) (c:Nat) (F:Ty) (fa:Option Addr) (fc:Nat) (m:Int),e=.returned (.tuple #[.agg (zE o a c),.agg (zH F fa fc),zA m])/\
  Ap w' (λb=>X b∨w.heap.size<=b) a o.subs/\AM w' Y fa F.subs/\Bk [F]/\De F=A/\Cl false u p F left m o/\Below w.heap.size w w'
theorem CV {w:World} {A T:Nat} {c0 c1 c2:Value} (h:Ab w A #[c0,c1,c2] T) (v0 v1 v2:Value):Ab (((w.setCell (zD A 0) v0).setCell (zD A 1) v1).setCell (zD A 2) v2) A #[v0,v1,v2] T:=by
 have:=((h.set 0 v0).set 1 v1).set 2 v2;simpa using this
theorem Mo {w:World} {A T:Nat} {c0 c1:Value} (h:Ab w A #[c0,c1] T) (v0 v1:Value):Ab ((w.setCell (zD A 0) v0).setCell (zD A 1) v1) A #[v0,v1] T:=by
 have:=(h.set 0 v0).set 1 v1;simpa using this
theorem Df {w b:World} {B A:Nat} (h:Below B b w) (a:B<=A) (v0 v1 v2:Value):Below B b (((w.setCell (zD A 0) v0).setCell (zD A 1) v1).setCell (zD A 2) v2):=((h.setCell (p:=(zD A 0)) a _).setCell (p:=(zD A 1)) a _).setCell (p:=(zD A 2)) a _
theorem RQ {w a:World} {B A:Nat} (h:Below B a w) (b:B<=A) (v0 v1:Value):Below B a ((w.setCell (zD A 0) v0).setCell (zD A 1) v1):=(h.setCell (p:=(zD A 0)) b _).setCell (p:=(zD A 1)) b _
theorem D5 {w:World} {A D T:Nat} {cs:Array Value} (h:Ab w D cs T) (a:D≠A) (v0 v1 v2:Value):Ab (((w.setCell (zD A 0) v0).setCell (zD A 1) v1).setCell (zD A 2) v2) D cs T:=((h.setOther _ _ a).setOther _ _ a).setOther _ _ a
theorem Fc {w:World} {A D T:Nat} {cs:Array Value} (h:Ab w D cs T) (a:D≠A) (v0 v1:Value):Ab ((w.setCell (zD A 0) v0).setCell (zD A 1) v1) D cs T:=(h.setOther _ _ a).setOther _ _ a
theorem XK (left:Int) (ak:0<=left) (al:left<=3000) (i:Nat) (u:List Ty) (A:ST) (v:Value) (G:Option Addr) (uc:Nat) (w:World) (hi:i<u.length) (hlen:u.length<=20000) (H:Bk u) (I:DB u i=A) (X:Nat->Prop) (g:MV w X v (PX.v i).m) (Y:Nat->Prop) (hY:∀b,Y b->b<w.heap.size) (hu:AM w Y G u):
  Calls prog 36 #[v,.slice G u.length uc,zA left] w λe w'=>II X Y u (.v i) A left w e w':=by
 obtain⟨T,hT,J⟩:=RO hi I;obtain⟨a,c,g,hs⟩:=g;have g:v=.agg #[zA 1,zA i,.slice a 0 c]:=g;subst g;obtain⟨L,M,N,O⟩:=Fq w #[zA 1,zA i,.slice a 0 c] zJ #[zA 0,zB] 24 24 27;have aj:=Aa (Jq H T (List.mem_of_getElem? hT));have HL:=Aa (Cl.v (left:=left) hT hi);have HE:=Aa J;have s:u.length-1-i<u.length:=by omega
 have P:u[u.length-1-i]=T:=by rw[FU s] at hT; exact JO hT
 obtain⟨b,o,k,c',rfl,d0,d1,hx⟩:=hu.get (Ac _ _) (λ_ _ h=>h) (u.length-1-i) s;rw[P]at d0 d1 hx;clear P;obtain⟨j,R⟩:∃j,j=u.length-1-i:=⟨_,rfl⟩;rw[<-R]at d0 d1 s;have an:IntKind.i64.wrap (IntKind.i64.wrap ((u.length:Int)-1)-(i:Int))=(j:Int):=by rw[Dm,Dm]; omega
 have ao:IntKind.i64.wrap (left-1)=left-1:=by rw[Dm]; omega
 obtain⟨a9,c9,e9,hx⟩:=hx;cases e9;have HX:=Aa hx;have U:=Aa L;have t:=Aa M;have V:=Aa N;have W:=Aa O;have x:=Aa d0;have y:=Aa d1;clear hx R hu L M N O I hT J H hs d0 d1;go_enter func36,ntmps36;go_upto_region 1 with fail;generalize (((w.alloc _).alloc _).alloc _)=w2 at *;have x0:=t.o.c0;go_wp2_with fail;clear x0;have q:Below w2.heap.size w2 w2.drew:=(Ac _ _).drew;have Z:=Aa (U.o.trans (q.mono U.o.size));have f:=Aa (V.o.below q V.o.lt);have S3:=Aa (W.o.below q W.o.lt);refine CC (S:=λw'=>Below w.heap.size w w'/\Ab w' w.heap.size #[zA 1,zA i,.slice a 0 c] 24) (by kernel_rfl) ⟨Z.o,t.o.below q t.o.lt⟩ λhHeld=>?_;generalize w2.drew=wd at *;refine tkz 0 ?_ (hy:=by intro w' d; have y0:=d.2.cell 0; have y1:=d.2.cell 1; have y2:=d.2.cell 2; have r:=cell_later d.1 x.o; have e1:=cell_later d.1 y.o; go_simp<;>with_reducible rfl);refine tkz 1 ?_;refine tkz 2 ?_;refine tkz 3 ?_;refine tkz 4 ?_;refine tkz 5 ?_;refine tkz 6 ?_ (hy:=by intro w' d; have y0:=d.2.cell 0; have y1:=d.2.cell 1; have y2:=d.2.cell 2; have r:=cell_later d.1 x.o; have e1:=cell_later d.1 y.o; go_simp<;>with_reducible rfl);refine tkz 7 ?_;refine tkz 8 ?_;refine tkz 9 ?_ (hy:=by intro w' d; have y0:=d.2.cell 0; have y1:=d.2.cell 1; have y2:=d.2.cell 2; have r:=cell_later d.1 x.o; have e1:=cell_later d.1 y.o; go_simp<;>with_reducible rfl);refine tkz 10 ?_;refine tkz 11 ?_;have z:=f.o.c0;have B:=f.o.c1;have r2:=f.o.c2;have C:=f.o.frozen;refine rdq 12 rfl λK l=>?_;go_simp;have Q2:=Aa (CV f.o (zA 1) (zA i) (.slice a 0 c));have n:=Aa (D5 (A:=w.heap.size+1) S3.o (by omega) (zA 1) (zA i) (.slice a 0 c));have D:=Aa (Df (A:=w.heap.size+1) hHeld.1 (by omega) (zA 1) (zA i) (.slice a 0 c));refine l.o _ _ (by exact⟨D.o,D5 hHeld.2 (by omega) _ _ _⟩) λhHeld=>?_;clear l K z B r2 C f S3 Z;generalize (((wd.setCell _ _).setCell _ _).setCell _ _)=we at *;(try simp only[Act.put,sq]);have z:=n.o.c0;have B:=n.o.c1;have C:=n.o.frozen;refine rdq 13 rfl λK l=>?_;go_simp;have P3:=Aa (Mo n.o (zA T.base) (.slice k T.subs.length c'));have E:=Aa (Fc (A:=w.heap.size+1+1) Q2.o (by omega) (zA T.base) (.slice k T.subs.length c'));have F:=Aa (RQ (A:=w.heap.size+1+1) D.o (by omega) (zA T.base) (.slice k T.subs.length c'));refine l.o _ _ (by exact⟨F.o,Fc hHeld.2 (by omega) _ _⟩) λhHeld=>?_;clear l K z B C Q2 n D;generalize ((we.setCell _ _).setCell _ _)=wf at *;(try simp only[Act.put,sq]);refine tkz 14 ?_;refine dnq ?_;have c0:=E.o.c0;have c1:=E.o.c1;have c2:=E.o.c2;have r:=P3.o.c0;have e1:=P3.o.c1;go_wp2_with fail;refine Ao (v:=.tuple #[.agg #[zA 1,zA i,.slice a 0 c],.agg (zH T k c'),zA (left-1)]) (by simp[results,results36,go_sem,c0,c1,c2,r,e1]) rfl ?_;exact⟨⟨1,(i:Int),[]⟩,a,c,T,k,c',left-1,rfl,⟨by simp,Ad rfl⟩,HX.o.later F.o,aj.o,HE.o,HL.o,F.o⟩
open Go.RowKit Go.Shelf
attribute [local go_sem] Oper.semAt_some
theorem XL {y:Value} {P:Nat->Prop} {hi:Nat} {J:World->Prop} {S:Lm->Bool->World->Prop} (hP:∀b,hi<=b->P b) (hT:RC y P J S) (hJ:G7 J) (k r:Int) (l:List Lm) (i:Nat) (N:i<l.length) (hlen:l.length<=1000000) (a:Option Addr) (c T I Y:Nat) (X:Nat->Prop) (bj:hi<=T) (W:World) (aw:J W) (E:H9 ⟨k,r,l⟩ a c T I Y i y X W) (R:∀b,X b->b<W.heap.size/\P b) (v:Value) (x:Lm) (ok:Bool) (Z:Nat->Prop) (t:MV W Z v x) (hZ:∀b,Z b->b<W.heap.size/\P b):
  Calls prog 112 #[v,.bool ok,zC T,zC I,zC Y] W λe W'=>e=.returned (.bool false)/\S ⟨k,r,l.set i x⟩ ok W':=by
 obtain⟨va,vc,rfl,ax⟩:=t;have ay:Below W.heap.size W (W.alloc (.cells (zE x va vc) 24)):=(Ac _ _).alloc (Ag _) _;have az:=E.sl;obtain⟨ba,m,rfl,U⟩:=az.2.resolve_left (λe=>by simp only at e; rw[e] at N; simp at N);obtain⟨xs,F,a1⟩:=Xo l ba m U;have ao:ba<W.heap.size:=(R _ (EZ _ _ _ U 0 (by show 0<l.length; omega)).1).1;have bk:T<W.heap.size:=E.bt.lt;have CL:Hid (∀w',Below W.heap.size W w'->Calls prog 113 #[.slice (some (zD ba m)) l.length c] w' λe q=>∃G cap,e=.returned (.slice (some (zD G 0)) l.length cap)/\q.ownsRow w'.heap.size 24 3 (.slice (some (zD G 0)) l.length cap) l.length xs/\Below w'.heap.size w' q):=λw' hb=>by
  refine(Xn ba m l.length c xs w' F.len hlen (λj u hj=>(hb.cell (p:=⟨ba,m+j,none⟩) ao).trans (a1 j u hj)) F.one).mono ?_;rintro e q ⟨v',rfl,ho,hne,aM⟩;rcases ho.2 with ⟨h1,_⟩|⟨g,cap,cur,t,_⟩
  ·exact absurd h1 hne
  ·subst t;exact⟨g,cap,rfl,ho,aM⟩
 have aN:=Aa F;have H:=Aa E;have aO:=Aa ax;have aP:=Aa aw;have aQ:=Aa hT;have HX:=Aa R;have HZ:=Aa hZ;have a6:Ab (W.alloc (.cells (zE x va vc) 24)) W.heap.size (zE x va vc) 24:=Ab.new _ _ _;have aR:=Aa a6;have V:=Aa ay;clear F E ax aw hT R hZ az U a1 a6 ay;go_enter func112,ntmps112;go_upto_region 1 with fail;go_cut [8] (λo8 wc=>NM (W.alloc (.cells (zE x va vc) 24)) (W.heap.size+1) k r l.length xs o8 wc);case first=>
  have a7:((W.alloc (.cells (zE x va vc) 24))).heap.size=W.heap.size+1:=by simp
  have L:=H.o.later V.o;generalize (W.alloc (.cells (zE x va vc) 24))=d at *;have t0:=L.bt.c0;have t1:=L.bt.c1;have t2:d.cell? (zD T 2)=some (.slice (some (zD ba m)) l.length c):=L.bt.cell 2;have aS:=Aa (And.intro t0 (And.intro t1 t2));have KP:Hid (∀w',Below (W.heap.size+1) d w'->w'.cell? (zD T 0)=some (zA k)/\w'.cell? (zD T 1)=some (zA r)/\w'.cell? (zD T 2)=some (.slice (some (zD ba m)) l.length c)):=λw' hb=>⟨(hb.cell (p:=(zD T 0)) (by simp; omega)).trans t0,(hb.cell (p:=(zD T 1)) (by simp; omega)).trans t1,(hb.cell (p:=(zD T 2)) (by simp; omega)).trans t2⟩;have HD:Hid (Below (W.heap.size+1) d d.drew):=(Ac _ _).drew;have HA:Hid (∀o,Below (W.heap.size+1) d (d.drew.alloc o)):=λo=>((Ac _ _).drew).alloc (by simp; omega) o;have a8:Hid (∀w',Below (W.heap.size+1) d w'->Calls prog 113 #[.slice (some (zD ba m)) l.length c] w' λe q=>∃G cap,e=.returned (.slice (some (zD G 0)) l.length cap)/\q.ownsRow w'.heap.size 24 3 (.slice (some (zD G 0)) l.length cap) l.length xs/\Below w'.heap.size w' q/\Below (W.heap.size+1) d q):=λw' hb=>by
   refine(CL.o w' (V.o.trans (hb.mono (by omega)))).mono ?_;rintro e q ⟨G,cap,rfl,h1,h2⟩;exact⟨G,cap,rfl,h1,h2,hb.trans (h2.mono (by have:=hb.size; omega))⟩
  have ar:=Aa a7;have nW:T≠d.heap.size:=by omega
  clear a7 t0 t1 t2 L;go_region_held3 (λw'=>w'.cell? (zD T 0)=some (zA k)/\w'.cell? (zD T 1)=some (zA r)/\w'.cell? (zD T 2)=some (.slice (some (zD ba m)) l.length c)) (first|exact f|exact aS.o|exact KP.o _ (HA.o _)|exact⟨NL f.1 nW,NL f.2.1 nW,NL f.2.2 nW⟩|go_keep)
   (first
    | (go_at_call 113;first
       | (refine(a8.o _ (by first|exact Ac _ _|exact HD.o)).mono ?_; rintro e z ⟨G,cap,rfl,M,aA,A⟩; have f:=KP.o _ A)
       | (refine(a8.o _ (by exact HA.o (.cells zJ 24))).mono ?_; rintro e z ⟨G,cap,rfl,M,aA,A⟩; have f:=KP.o _ A; have B:Ab z d.heap.size zJ 24:=(Ab.new d.drew _ _).below aA (by simp); have q0:z.cell? (zD d.heap.size 0)=some (zA 0):=B.cell 0; have q1:z.cell? (zD d.heap.size 1)=some (zA 0):=B.cell 1; have q2:z.cell? (zD d.heap.size 2)=some (zB):=B.cell 2; have qf:=B.frozen)))
  all_goals have aT:=M.lt G rfl
  all_goals go_wp2_with fail
  all_goals go_meet
  all_goals first
   |exact Xq (by exact ar.o) (RB M (by have:=ar.o; simp; omega)) A
   | (have aU:=ar.o; have e:d.heap.size=W.heap.size+1:=aU; exact Xr (by omega) B (by have:=aT.1; simp at this; omega) (RB M (by simp; omega)) A)
 case rest=>
  obtain⟨G,O,cap,rfl,bl,bm,aV,au,ag,aB⟩:=hcut;have C:Below W.heap.size W wc:=V.o.trans (aB.mono (by omega));have XB:=aR.o.below aB (by omega);have E2:=H.o.later C;obtain⟨cur,s,av,aC,aW⟩:∃cur:Array Value,Ab wc G cur 24/\cur.size=cap*3/\cur.toList.take (l.length*3)=xs/\l.length<=cap:=by
   rcases ag.2 with ⟨h1,_⟩|⟨g,aX,cur,t,_,hh,aY,_,hz,ht⟩
   ·cases h1
   ·simp at t;obtain⟨rfl,rfl⟩:=t;exact⟨cur,hh,hz,ht,aY⟩
  obtain⟨y0,aD⟩:∃y,cur[i*3]? = some y:=⟨_,KH (by omega)⟩;obtain⟨y1,aE⟩:∃y,cur[i*3+1]? = some y:=⟨_,KH (by omega)⟩;obtain⟨y2,aF⟩:∃y,cur[i*3+2]? = some y:=⟨_,KH (by omega)⟩;have g0:wc.cell? ⟨G,i*3,none⟩=some y0:=(s.cell (i*3)).trans aD;have g1:wc.cell? ⟨G,i*3+1,none⟩=some y1:=(s.cell (i*3+1)).trans aE;have g2:wc.cell? ⟨G,i*3+2,none⟩=some y2:=(s.cell (i*3+2)).trans aF;have gf:=s.frozen;have aZ:I<W.heap.size:=H.o.bi.lt;have bb:Y<W.heap.size:=H.o.by'.lt;have nO:O≠G:=λe=>aV e.symm;have nI:I≠G:=by omega
  have nY:Y≠G:=by omega
  have nX:W.heap.size≠G:=by omega
  have ci:wc.cell? (zD I 0)=some (zA i):=E2.bi.cell 0;have x0:=XB.c0;have x1:=XB.c1;have x2:=XB.c2;have o2:=au.c2;have bc:(i:Int)<(l.length:Int):=by omega
  have ai:l.length<=9223372036854775807:=by omega
  have aG:Ap wc (λb=>X b∨Z b) va x.subs:=(aO.o.later C).mono λb h _=>Ae h;have aH:CT wc (λb=>X b∨Z b) l xs:=aN.o.imp λa kk hs=>(hs.later C).mono λb h _=>Ad h;have bd:∀b,(X b∨Z b)->b<W.heap.size:=λb h=>h.elim (λh=>(HX.o b h).1) λh=>(HZ.o b h).1;have aI:=Xs (c9:=vc) (λb hb=>by have:=bd b hb; omega) N ai aH aC s aG;have D:=((au.setOther (i*3) (zA x.kind) nO).setOther (i*3+1) (zA x.idx) nO).setOther (i*3+2) (.slice va x.subs.length vc) nO;have YB:=((E2.by'.setOther (i*3) (zA x.kind) nY).setOther (i*3+1) (zA x.idx) nY).setOther (i*3+2) (.slice va x.subs.length vc) nY;have bf:Below W.heap.size W (((wc.setCell ⟨G,i*3,none⟩ (zA x.kind)).setCell ⟨G,i*3+1,none⟩ (zA x.idx)).setCell ⟨G,i*3+2,none⟩ (.slice va x.subs.length vc)):=((C.setCell (p:=⟨G,i*3,none⟩) (by simp; omega) _).setCell (p:=⟨G,i*3+1,none⟩) (by simp; omega) _).setCell (p:=⟨G,i*3+2,none⟩) (by simp; omega) _;have bn:G<wc.heap.size:=s.lt;have aj:(((wc.setCell ⟨G,i*3,none⟩ (zA x.kind)).setCell ⟨G,i*3+1,none⟩ (zA x.idx)).setCell ⟨G,i*3+2,none⟩ (.slice va x.subs.length vc)).heap.size=wc.heap.size:=by simp[World.setCell]
  have TK:=aQ.o (((wc.setCell ⟨G,i*3,none⟩ (zA x.kind)).setCell ⟨G,i*3+1,none⟩ (zA x.idx)).setCell ⟨G,i*3+2,none⟩ (.slice va x.subs.length vc)) (.agg #[zA k,zA r,.slice (some (zD G 0)) l.length cap]) ⟨k,r,l.set i x⟩ ok _ (hJ _ _ aP.o bf) ⟨some (zD G 0),cap,by simp,aI⟩ (λb hb=>by
   rw[aj];have bo:=C.size;rcases hb with hb|rfl
   ·rcases hb with hb|hb
    ·have:=HX.o b hb; exact⟨by omega,this.2⟩
    ·have:=HZ.o b hb; exact⟨by omega,this.2⟩
   ·exact⟨by omega,hP _ (by omega)⟩)
  clear aj aI aG aH s aC aD aE aF av ag au;have u0:=D.cell 0;have u1:=D.cell 1;have u2:=D.cell 2;have yy:=YB.cell 0;simp only[BP,BQ,BR] at u0 u1 u2 yy;rcases TK with ⟨T',I',Y',rfl,ad⟩|⟨lp,rfl,aJ⟩
  ·have HC:=Aa ad;clear ad D YB;go_wp2_with fail;refine HC.o.mono ?_;rintro e W' ⟨rfl,f⟩;have HS:=Aa f;clear f;go_wp2_with fail;go_ret;exact⟨rfl,HS.o⟩
  ·obtain⟨bp,aK,bg,aL,bh,hR⟩:=aJ 0;have HR:=Aa hR;clear hR D YB aJ;go_upto_region 3 with fail;refine(wpIn_wide (n:=1)).1 ?_;gi_wp2
   refine HR.o.mono ?_;rintro e W' ⟨rfl,f⟩;have HS:=Aa f;clear f bh;gi_wp2
   go_wp2_with fail;go_ret;exact⟨rfl,HS.o⟩
theorem NT (F:Nat) (y:Int) (l:-100000<=y) (f:y<=100000) (t:Lm) (n:Nat) (v:Value) (w:World) (X:Nat->Prop) (q:MV w X v t) (r:∀b,X b->b≠F) (s:n<=9223372036854775807) (an:Ai [t]<=100000) (u:Cs [t]) (x:CZ [t]) (hF:Ab w F #[zA n] 152):
  Calls prog 114 #[zC F,v,zA y] w λe w'=>Fp w F (AY y 0 t) n e w':=by
 have ao:=@hmq prog;obtain⟨a,c,rfl,i⟩:=q;have z:=Aa i;have A:=Aa hF;have B:=hF.lt;clear i hF;go_enter func114,ntmps114;go_wp2_with fail;refine (Xv F w.heap.size (w.heap.size + 1 + 1) y l f (by omega) (by omega) t n _ 0 _ (λb => X b /\ b < w.heap.size) ⟨a, c, rfl, ((((z.o.mono (Y := λb => X b /\ b < w.heap.size) λb h1 h2 => ⟨h1, h2⟩).later ((Ac _ _).alloc (Ag _) _)).later ((Ac _ _).alloc (Ag _) _)).later ((Ac _ _).alloc (Ag _) _)).later ((Ac _ _).alloc (Ag _) _)⟩ (λb h => r b h.1) s (Int.le_refl 0) (by omega) u x ((((A.o.alloc _).alloc _).alloc _).alloc _) ⟨((((Ab.new w _ _).alloc _).alloc _).alloc _), by
  have h:=(Ab.new ((w.alloc (.cells #[zC F] 177)).alloc (.cells (zE t a c) 24)) #[zA y] 3).alloc (.cells zJ 24);simp only[BK] at h;exact h⟩).mono ?_
 rintro e w1 ⟨C,x',D,l',c',m,rfl,j,g,f,k⟩;have d:Hid (Ab w1 (w.heap.size+1+1+1) zJ 24):=by
  have h:=(Ab.new (((w.alloc (.cells #[zC F] 177)).alloc (.cells (zE t a c) 24)).alloc (.cells #[zA y] 3)) zJ 24).ex g (by simp; omega);simp only[BK] at h;exact h
 have E:=Aa ((((((Ex.refl F w).alloc (.cells #[zC F] 177)).alloc (.cells (zE t a c) 24)).alloc (.cells #[zA y] 3)).alloc (.cells zJ 24)).trans g);have G:=Aa j;have H:=Aa f;have I:=Aa k;clear j g f k;have J:=d.o.c0;have L:=d.o.c1;have M:=d.o.c2;have rf:=d.o.frozen;have N:=d.o.lt;go_wp2_with fail;refine Ao (v:=.agg #[zA C,zA x',.slice D l' c']) (by simp[results,results114,go_sem,AK,AB,J,L,M,N]) rfl ?_;exact Jl (W:=(((w.alloc (.cells #[zC F] 177)).alloc (.cells (zE t a c) 24)).alloc (.cells #[zA y] 3)).alloc (.cells zJ 24)) B (by omega) (by simp) G.o E.o H.o I.o
def Ic (w:World) (B F:Nat) (X:Nat->Prop) (z:Lm):Prop:=∃a c,Ab w B (zE z a c) 24/\Ap w X a z.subs
theorem Ic.ex {w w':World} {B F:Nat} {X:Nat->Prop} {z:Lm} (h:Ic w B F X z) (he:Ex F w w') (h1:B≠F) (d:∀b,X b->b≠F):Ic w' B F X z:=by
 obtain⟨a,c,h2,h3⟩:=h;exact⟨a,c,h2.ex he h1,h3.ex he d⟩
theorem Ic.later {w w':World} {B F:Nat} {X:Nat->Prop} {z:Lm} (h:Ic w B F X z) (hb:Below w.heap.size w w'):Ic w' B F X z:=by
 obtain⟨a,c,h2,h3⟩:=h;exact⟨a,c,h2.below hb h2.lt,h3.later hb⟩
def IJ (z:Lm) (x d:Int):Lm:=if x=d then AY d 0 z else ⟨1,x-1,[]⟩
theorem XM (F B:Nat) (z:Lm) (x d:Int) (n:Nat) (w:World) (X:Nat->Prop) (E:n<=9223372036854775807) (au:-100000<=x) (c:x<=100000) (av:0<=d) (aw:d<=100000) (N:Ai [z]<=100000) (O:Cs [z]) (P:CZ [z]) (hF:Ab w F #[zA n] 152) (ax:B≠F) (R:∀b,X b->b≠F) (G:Ic w B F X z):
  Calls prog 127 #[zA x,zA d,zC F,zC B] w λe w'=>Fp w F (IJ z x d) n e w':=by
 have H:=hF.lt;have I:=Aa hF;have HE:=Aa G;obtain⟨J,L,j,M⟩:=G;have T:=Aa M;have q0:∀o,(w.alloc o).cell? (zD B 0)=some (zA z.kind):=λo=>(j.alloc o).cell 0;have q1:∀o,(w.alloc o).cell? (zD B 1)=some (zA z.idx):=λo=>(j.alloc o).cell 1;have q2:∀o,(w.alloc o).cell? (zD B 2)=some (.slice J z.subs.length L):=λo=>(j.alloc o).cell 2;clear j M hF;by_cases k:x=d
 ·subst k;have HT:Hid (IJ z x x=AY x 0 z):=Aa (by unfold IJ;simp);go_enter func127,ntmps127;go_wp2_with fail;refine(NT F x (by omega) (by omega) z n _ _ X ⟨J,L,rfl,T.o.later ((Ac _ _).alloc (Ag _) _)⟩ R E N O P (I.o.alloc _)).mono ?_;rintro e w1 ⟨l,x',q,l',c',m,rfl,f,c,g,i⟩;have a:Hid (Ab w1 (w.heap.size) zJ 24):=by
   have h:=(Ab.new w zJ 24).ex c (by simp; omega);exact h
  have r:=Aa (((Ex.refl F w).alloc (.cells zJ 24)).trans c);have s:=Aa f;have t:=Aa g;have u:=Aa i;clear f c g i;have y:=a.o.c0;have A:=a.o.c1;have C:=a.o.c2;have U:=a.o.frozen;have D:=a.o.lt;go_wp2_with fail;refine Ao (v:=.agg #[zA l,zA x',.slice q l' c']) (by simp[results,results127,go_sem,AK,AB,y,A,C,D]) rfl ?_;rw[HT.o];exact Jl (W:=w.alloc (.cells zJ 24)) H (by omega) (by simp) s.o r.o t.o u.o
 ·have HT:Hid (IJ z x d=⟨1,x-1,[]⟩):=Aa (by unfold IJ;simp[k]);have ar:(x==d)=false:=by simpa using k
  have ay:IntKind.i64.wrap (x-1)=x-1:=by rw[Dm]; omega
  go_enter func127,ntmps127;go_wp2_with fail;refine(RG F _ n _ E (I.o.alloc _)).mono ?_;rintro e w1 ⟨l,x',q,l',c',m,rfl,f,c,g,i⟩;have a:Hid (Ab w1 (w.heap.size) zJ 24):=by
   have h:=(Ab.new w zJ 24).ex c (by simp; omega);exact h
  have r:=Aa (((Ex.refl F w).alloc (.cells zJ 24)).trans c);have s:=Aa f;have t:=Aa g;have u:=Aa i;clear f c g i;have y:=a.o.c0;have A:=a.o.c1;have C:=a.o.c2;have U:=a.o.frozen;have D:=a.o.lt;go_wp2_with fail;refine Ao (v:=.agg #[zA l,zA x',.slice q l' c']) (by simp[results,results127,go_sem,AK,AB,y,A,C,D]) rfl ?_;rw[HT.o];exact Jl (W:=w.alloc (.cells zJ 24)) H (by omega) (by simp) s.o r.o t.o u.o
theorem Dn {w:World} (o o':Obj):Below w.heap.size w ((w.alloc o).alloc o'):=((Ac _ _).alloc (Ag _) o).alloc (by simp) o'
theorem XN {w w1:World} {n:Nat} {b c d e f g i j:Addr} {v1 v2 v3 v4 v5 v6 k l:Value} (hb:Below (w.drewN n).heap.size (w.drewN n) w1)
  (h:w.cell? b=some v1/\w.cell? c=some v2/\w.cell? d=some v3/\w.cell? e=some v4/\w.cell? f=some v5/\w.cell? g=some v6/\w.cell? i=some k/\w.cell? j=some l):
  w1.cell? b=some v1/\w1.cell? c=some v2/\w1.cell? d=some v3/\w1.cell? e=some v4/\w1.cell? f=some v5/\w1.cell? g=some v6/\w1.cell? i=some k/\w1.cell? j=some l:=by
 have a:Below w.heap.size w w1:=(below_drewN (Ac _ _) n).trans (hb.mono (by simp));obtain⟨h1,h2,h3,m,h5,h6,o,h8⟩:=h;exact⟨cell_later a h1,cell_later a h2,cell_later a h3,cell_later a m,cell_later a h5,cell_later a h6,cell_later a o,cell_later a h8⟩
theorem XP (t:Lm):∀(v u:Value) (w:World) (X Y:Nat->Prop),MV w X v t->MV w Y u t->
  Calls prog 41 #[v,u] w λe w'=>e=.returned (.bool true)/\Below w.heap.size w w':=by
 induction t using Lm.ind with
 |h kd ix l q=>
  intro v u w X Y y hu;have z:=Aa q;clear q;obtain⟨a,c,rfl,r⟩:=y;obtain⟨a2,c2,rfl,A⟩:=hu;have hl:=r.1;go_enter func41,ntmps41;go_wp2_with fail;go_loopw [5] (λi wr=>∃(k:Nat),k<=l.length/\i=zA k/\Below w.heap.size w wr/\wr.cell? (zD w.heap.size 2)=some (.slice a l.length c)/\wr.cell? (zD (w.heap.size+1) 2)=some (.slice a2 l.length c2)/\w.heap.size+2<=wr.heap.size) (λi wr=>l.length-(intOf i).toNat);case atStart=>exact⟨0,Bm _,rfl,Dn _ _,by simp,by simp,by simp⟩
  case round=>
   obtain⟨k,hk,rfl,hb,B,C,ao⟩:=hrel;by_cases g:k<l.length
   ·obtain⟨b,o,D,c',rfl,d0,E,d1,hx⟩:=r.get hb (λ_ _ h=>h) k g;obtain⟨d,f,F,G,rfl,H,I,e1,s⟩:=A.get hb (λ_ _ h=>h) k g;have J:=Aa hx;have L:=Aa s;have M:=Aa hb;have x:=Aa (And.intro B (And.intro C (And.intro d0 (And.intro E (And.intro d1 (And.intro H (And.intro I e1)))))));clear hx s hb;go_wp2_with fail;go_region_held3 (λw'=>w'.cell? (zD w.heap.size 2)=some (.slice (some (zD b o)) l.length c)/\w'.cell? (zD (w.heap.size+1) 2)=some (.slice (some (zD d f)) l.length c2)/\w'.cell? ⟨b,o+k*3,none⟩=some (zA l[k].kind)/\w'.cell? ⟨b,o+k*3+1,none⟩=some (zA l[k].idx)/\w'.cell? ⟨b,o+k*3+2,none⟩=some (.slice D l[k].subs.length c')/\w'.cell? ⟨d,f+k*3,none⟩=some (zA l[k].kind)/\w'.cell? ⟨d,f+k*3+1,none⟩=some (zA l[k].idx)/\w'.cell? ⟨d,f+k*3+2,none⟩=some (.slice F l[k].subs.length G)) (first|exact x.o|exact j)
     ((go_at_call 41; refine(z.o _ (Bu g) _ _ _ X Y (by exact J.o.later (below_drewN (Ac _ _) 1)) (by exact L.o.later (below_drewN (Ac _ _) 1))).mono ?_; rintro e w1 ⟨rfl,m⟩; have j:=XN (n:=1) m x.o))
    go_wp2_with fail;go_roundw
    case rel=>exact⟨k+1,by omega,by go_num,(M.o.trans (below_drewN (Ac _ _) 1)).trans (m.mono (by simp; omega)),j.1,j.2.1,by have:=m.size; simp at this; omega⟩
    case measure=>simp[intOf]; omega
   ·go_wp2_with fail;go_ret;exact⟨rfl,hb⟩
def RR:Value:=.agg zJ
theorem XQ (t:Lm) (v u:Value) (w:World) (X Y:Nat->Prop) (f:MV w X v t) (hu:MV w Y u t):
  Calls prog 17 #[v,zA 0,u,zA 0] w λe w'=>e=.returned (.bool true)/\Below w.heap.size w w':=by
 obtain⟨a,c,rfl,b⟩:=f;obtain⟨a2,c2,rfl,d⟩:=hu;have g:=Aa (show MV w X (.agg (zE t a c)) t from ⟨a,c,rfl,b⟩);have h:=Aa (show MV w Y (.agg (zE t a2 c2)) t from ⟨a2,c2,rfl,d⟩);clear b d;go_enter func17,ntmps17;go_wp2_with fail;refine(XP t _ _ _ X Y (by exact g.o.later (Dn _ _)) (by exact h.o.later (Dn _ _))).mono ?_;rintro e w1 ⟨rfl,i⟩;go_wp2_with fail;go_ret;exact⟨rfl,(Dn _ _).trans (i.mono (by simp; omega))⟩
theorem XU (f:Int) (u:Value) (a b:Int) (a2:Option Addr) (c c2:Nat) (hu:u=.agg #[zA a,zA b,.slice a2 c c2]) (w:World) (d:f≠0):
  Calls prog 17 #[RR,zA f,u,zA f] w λe w'=>e=.returned (.bool true)/\Below w.heap.size w w':=by
 subst hu;unfold RR;have aa:(f==0)=false:=by simpa using d
 go_enter func17,ntmps17;go_wp2_with fail;go_ret;exact⟨rfl,Dn _ _⟩
open Go.ChangeShapes Go.WideShapes Go.ChangeAt Go.RowKit
theorem Tryz.cellsLam:prog.cellsOf 24=3:=by kernel_rfl
theorem Tryz.cellsIntM:prog.cellsOf 3=1:=by kernel_rfl
theorem Tryz.cellsSlM:prog.cellsOf 22=1:=by kernel_rfl
theorem XV {w:World} {a:Addr} {cs:List Value} (h:w.cells? 0 a 3=some cs):∃c0 c1 c2,cs=[c0,c1,c2]/\w.cell? a=some c0/\w.cell? (a.add 1)=some c1/\w.cell? (a.add 2)=some c2:=by
 have e:(List.range 3)=[0,1,2]:=rfl;simp only[World.cells?,Bm,if_true,e] at h;simp only[List.mapM_cons,List.mapM_nil,Option.bind_eq_bind,Option.bind_eq_some_iff,Option.pure_def] at h;obtain⟨c0,h0,r,⟨c1,h1,r1,⟨c2,h2,r2,h3,b⟩,h5⟩,h6⟩:=h;simp only[Il] at h3 b h5 h6;subst h3; subst b; subst h5; subst h6;exact⟨c0,c1,c2,rfl,by simpa [Addr.add] using h0,h1,h2⟩
theorem RT {w:World} {X:Nat->Prop}:∀(l:List Lm) (b o:Nat),(∀i (h:i<l.length),X b/\w.cell? ⟨b,o+i*3,none⟩=some (zA l[i].kind)/\w.cell? ⟨b,o+i*3+1,none⟩=some (zA l[i].idx)/\∃a c,w.cell? ⟨b,o+i*3+2,none⟩=some (.slice a l[i].subs.length c)/\Ap w X a l[i].subs)->Dc w X b o l:=by
 intro l;induction l with
 |nil=>intro b o _; simp[Dc]
 |cons t r d=>intro b o h;obtain⟨s,x,k⟩:=t;obtain⟨h0,h1,h2,a,c,h3,e,h5⟩:=h 0 (by simp);simp only[Dc];refine⟨h0,by simpa using h1,by simpa using h2,⟨a,c,by simpa using h3,e,h5⟩,d b (o+3) λi hi=>?_⟩;have:=h (i+1) (by simpa using hi);simp only[Fg] at this;rw[show o+(i+1)*3=o+3+i*3 by omega]at this;exact this
theorem XY {H:Type} {enc:TypeId×Value->H} {w:World} {sp:Nat->Bool} {held:Bool}:∀(fuel:Nat) (cs:List Value) (x:DataW H×List MemPlace),DataW.trod enc prog w 0 sp held fuel 24 cs=some x->
  ∃(t:Lm) (a:Option Addr) (c:Nat),cs=[zA t.kind,zA t.idx,.slice a t.subs.length c]/\Ap w (λ_=>True) a t.subs:=by
 intro fuel;induction fuel using Nat.strongRecOn with
 |ind fuel r=>
  intro cs x h;obtain⟨xs,n,ai,hx,k,s,g⟩:=DataW.trod_struct underlying24 h;have f0:=g 0 _ rfl;have f1:=g 1 _ rfl;have f2:=g 2 _ rfl;rw[Tryz.cellsLam]at k;match cs,k with
  | [c0,c1,c2],_=>
   match xs,s with
   | [y0,y1,y2],_=>
    simp[Tryz.cellsIntM,Tryz.cellsSlM]at f0 f1 f2;obtain⟨l,e,_⟩:=DataW.trod_int underlying3 f0;simp at e;subst e;obtain⟨m,e,_⟩:=DataW.trod_int underlying3 f1;simp at e;subst e;rcases DataW.trod_slice underlying22 f2 with ⟨e1,_⟩|⟨a,len,cap,elems,rest,u,aj,e1,_,hb,ak,v,al,q,_⟩
    ·simp at e1;subst e1;exact⟨⟨l,m,[]⟩,none,0,rfl,by simp,Ad rfl⟩
    ·simp at e1;subst e1;unfold maxLen at v;rw[Tryz.cellsLam]at q;have key:∀i,∃t:Lm,i<len->∃d c',w.cell? (a.add (i*3))=some (zA t.kind)/\w.cell? ((a.add (i*3)).add 1)=some (zA t.idx)/\w.cell? ((a.add (i*3)).add 2)=some (.slice d t.subs.length c')/\Ap w (λ_=>True) d t.subs:=by
      intro i;by_cases hi:i<len
      ·have h1:=q i hi;have y:i<elems.length:=(by omega);rw[FU y,Option.bind_eq_some_iff]at h1;obtain⟨an,h2,h3⟩:=h1;obtain⟨d0,d1,d2,rfl,g0,g1,g2⟩:=XV h2;obtain⟨t,d,c',e3,j⟩:=r u (by omega) _ _ h3;simp at e3;obtain⟨rfl,rfl,rfl⟩:=e3;exact⟨t,λ_=>⟨d,c',g0,g1,g2,j⟩⟩
      ·exact⟨⟨0,0,[]⟩,λh=>absurd h hi⟩
     obtain⟨T,hT⟩:=Classical.skolem.1 key;refine⟨⟨l,m,(List.range len).map T⟩,some a,cap,by simp,by simp; omega,?_⟩;by_cases h0:len=0
     ·subst h0; exact Ad rfl
     ·right;obtain⟨b,o,sp⟩:=a;obtain⟨a0,c0,g0,_,_⟩:=hT 0 (by omega);have z:sp=none:=(by simpa [Addr.add] using World.cell?_spot g0);subst z;refine⟨b,o,rfl,RT _ _ _ λi hi=>?_⟩;simp at hi;obtain⟨d,c',g0,g1,g2,j⟩:=hT i hi;refine⟨trivial,?_,?_,d,c',?_,?_⟩
      ·simp only[Im,MR];by_cases f:i=0
       ·subst f; simpa [Addr.add] using g0
       ·have:i*3≠0:=(by omega);simpa [Addr.add,this] using g0
      ·simp only[Im,MR];by_cases f:i=0
       ·subst f; simpa [Addr.add] using g1
       ·have:i*3≠0:=(by omega);simpa [Addr.add,this] using g1
      ·simp only[Im,MR];by_cases f:i=0
       ·subst f; simpa [Addr.add] using g2
       ·have:i*3≠0:=(by omega);simpa [Addr.add,this] using g2
      ·simpa using j
theorem XZ {H:Type} {enc:TypeId×Value->H} {w:World} {sp:Nat->Bool} {held:Bool} {r:Reach} {b:Nat} {v:Value} {d:DataW H} {p:List MemPlace} (f:Value.okWide prog w r b 24 v) (h:DataW.Trod enc prog w 0 sp held 24 v d p):∃t,MV w (λ_=>True) v t:=by
 obtain⟨cs,rfl,aa⟩:=okWide_struct underlying24 f;obtain⟨fuel,g⟩:=h;obtain⟨t,a,c,e,i⟩:=XY fuel _ _ g;refine⟨t,a,c,?_,i⟩;simp[Value.cells]at e;congr 1
 apply Array.ext';simpa using e
theorem X2 (l:List Lm):∀y d,Ai (CE y d l)<=Ai l:=by
 induction l using Lm.indL with
 |h0=>intro y d; simp[CE]
 |h k x l r a b=>
  intro y d;have h1:=a y (AO d k);have h2:=b y d;rw[CE];split
  ·split
   ·simp only[Ai]; omega
   ·simp only[Ai]; omega
  ·simp only[Ai]; omega
theorem X3 (y d:Int) (t:Lm):CE y d [t]=[AY y d t]:=by rw[Ei]; rfl
def DW:List Ty->Prop
 | []=>True
 | ⟨x,l⟩::r=>(∃n:Nat,x=(n:Int)/\n<2001)/\DW l/\DW r
theorem Kl (t:Ty) (r:List Ty):DW (t::r)↔(∃n:Nat,t.base=(n:Int)/\n<2001)/\DW t.subs/\DW r:=by
 obtain⟨x,l⟩:=t;simp only[DW]
theorem X4 {x:Int} {p q:Ty} (h:DW [⟨x,[p,q]⟩]):DW [p]/\DW [q]:=by
 rw[Kl]at h;have h2:DW [p,q]:=h.2.1;rw[Kl]at h2;exact⟨(Kl p []).2 ⟨h2.1,h2.2.1,by simp[DW]⟩,h2.2.2⟩
def Fd (w:World) (H D:Nat) (X:Nat->Prop) (σ:List (Int×Ty)):Prop:=
 ∃hs ks:Array Value,Ab w H hs 27/\Ab w D ks 4/\hs.size=4002/\ks.size=2001/\(∀n:Nat,n<2001->ks[n]? = some (.bool (Dz σ (n:Int)).isSome))/\
  ∀(n:Nat) y,n<2001->Dz σ (n:Int)=some y->∃a c,hs[n*2]? = some (zA y.base)/\hs[n*2+1]? = some (.slice a y.subs.length c)/\AM w X a y.subs
theorem Fd.exq {w w':World} {Q X:Nat->Prop} {H D:Nat} {σ:List (Int×Ty)} (h:Fd w H D X σ) (he:Ak Q w w') (d:∀b,X b->¬Q b) (hH:¬Q H) (e:¬Q D):Fd w' H D X σ:=by
 obtain⟨f,g,h1,h2,h3,i,h5,h6⟩:=h;refine⟨f,g,h1.exq he hH,h2.exq he e,h3,i,h5,λn y j hy=>?_⟩;obtain⟨a,c,e1,e2,e3⟩:=h6 n y j hy;exact⟨a,c,e1,e2,e3.exq he d⟩
theorem Fd.later {w w':World} {X:Nat->Prop} {H D:Nat} {σ:List (Int×Ty)} (h:Fd w H D X σ) (hb:Below w.heap.size w w'):Fd w' H D X σ:=h.exq (Ak.ofBelow (Q:=λ_=>False) hb) (λ_ _ h=>h) (λh=>h) (λh=>h)
theorem RU {w w':World} (hb:Below w.heap.size w w') {b o:Nat} {v:Value} (h:w.cell? (zD b o)=some v):w'.cell? (zD b o)=some v:=(hb.cell (p:=(zD b o)) (Em h)).trans h
theorem Fd.put {w:World} {H D:Nat} {X:Nat->Prop} {σ:List (Int×Ty)} {n:Nat} {t:Ty} {a:Option Addr} {c:Nat} (h:Fd w H D X σ) (d:H≠D) (j:n<2001) (f:Dz σ (n:Int)=none) (g:∀b,X b->¬(b=H∨b=D)) (k:AM w X a t.subs):
  Fd (((w.setCell (zD D n) (.bool true)).setCell ⟨H,n*2,none⟩ (zA t.base)).setCell ⟨H,n*2+1,none⟩ (.slice a t.subs.length c)) H D X (σ++[((n:Int),t)]):=by
 obtain⟨ab,ks,h1,h2,h3,i,h5,h6⟩:=h;have E:Ak (λb=>b=H∨b=D) w (((w.setCell (zD D n) (.bool true)).setCell ⟨H,n*2,none⟩ (zA t.base)).setCell ⟨H,n*2+1,none⟩ (.slice a t.subs.length c)):=(((Ak.refl _ _).set (Ae rfl) _ _).set (Ad rfl) _ _).set (Ad rfl) _ _;refine⟨_,_,((h1.setOther n (.bool true) d).set (n*2) (zA t.base)).set (n*2+1) (.slice a t.subs.length c),((h2.set n (.bool true)).setOther (n*2) _ (Ne.symm d)).setOther (n*2+1) _ (Ne.symm d),by simp[h3],by simp[i],λm hm=>?_,λm y hm hy=>?_⟩
 ·rw[JU _ _ _ _ f];by_cases e:n=m
  ·subst e;simp[i,j]
  ·rw[Am (by omega),KI e];exact h5 m hm
 ·rw[JU _ _ _ _ f]at hy;by_cases e:n=m
  ·subst e;rw[Aq rfl,Il]at hy;subst hy;refine⟨a,c,?_,?_,k.exq E g⟩
   ·rw[KI (by omega),Array.getElem?_setIfInBounds_self_of_lt (by omega)]
   ·rw[Array.getElem?_setIfInBounds_self_of_lt (by simp; omega)]
  ·rw[Am (by omega)]at hy;obtain⟨l,c',e1,e2,e3⟩:=h6 m y hm hy;refine⟨l,c',?_,?_,e3.exq E g⟩
   ·rw[KI (by omega),KI (by omega)];exact e1
   ·rw[KI (by omega),KI (by omega)];exact e2
def X6 (p t:Ty) (σ:List (Int×Ty)) (H D:Nat) (X:Nat->Prop) (w:World) (e:Ending) (w':World):Prop:=e=.returned (.bool (CO p t σ).1)/\Fd w' H D X (CO p t σ).2/\Ak (λb=>b=H∨b=D) w w'
theorem RV (H D:Nat) (ax:H≠D) (p:Ty):∀(t:Ty) (σ:List (Int×Ty)) (v u:Value) (w:World) (Z X:Nat->Prop),Bk [p]->DW [p]->YV w Z v p->YV w X u t->(∀b,Z b->¬(b=H∨b=D))->(∀b,X b->¬(b=H∨b=D))->Fd w H D X σ->
  Calls prog 29 #[v,u,.slice (some (zD H 0)) 2001 2001,.slice (some (zD D 0)) 2001 2001] w λe w'=>X6 p t σ H D X w e w':=by
 induction p using Ty.ind with
 |h x Y ih=>
  intro t σ v u w Z X aq aj hv hu hZ hX hM;have IH:=Aa ih;clear ih;obtain⟨a,c,rfl,hs⟩:=hv;have HU:=Aa hu;obtain⟨s,c',rfl,ar⟩:=hu;have R:=Aa hX;have HZ:=Aa hZ;have aM:H<w.heap.size/\D<w.heap.size:=by obtain⟨_,_,h1,h2,_⟩:=hM; exact⟨h1.lt,h2.lt⟩
  have az:=Aa ax;clear ax;have T:Hid (Below w.heap.size w ((w.alloc (.cells #[zA x,.slice a Y.length c] 27)).alloc (.cells (zH t s c') 27))):=((Ac _ _).alloc (Ag _) _).alloc (by simp) _;have U:Hid (Ab ((w.alloc (.cells #[zA x,.slice a Y.length c] 27)).alloc (.cells (zH t s c') 27)) w.heap.size #[zA x,.slice a Y.length c] 27):=(Ab.new _ _ _).alloc _;have N:Hid (Ab ((w.alloc (.cells #[zA x,.slice a Y.length c] 27)).alloc (.cells (zH t s c') 27)) (w.heap.size+1) (zH t s c') 27):=by have h:=Ab.new (w.alloc (.cells #[zA x,.slice a Y.length c] 27)) (zH t s c') 27; rw[BK] at h; exact h
  have M2:=Aa (hM.later T.o);have aD:=Aa (HU.o.later T.o);have aE:=Aa ((show AM w X s t.subs from ar).later T.o);rcases Ma aq with rfl|⟨p,q,rfl,hp,hq⟩
  ·clear IH hs aq hM;obtain⟨⟨n,a1,P⟩,-⟩:=(Kl _ _).1 aj;have au:x=(n:Int):=a1;subst au;clear a1 aj;simp only[Ee] at *;go_enter func29,ntmps29;go_upto_region 1 with fail;generalize ((w.alloc (.cells #[zA n,.slice a 0 c] 27)).alloc (.cells (zH t s c') 27))=w2 at *;have aN:=U.o.c0;have a6:=U.o.c1;have z0:=N.o.c0;have z1:=N.o.c1;obtain⟨rh,rk,m1,m2,m3,m4,m5,m6⟩:=M2.o;have ln:(n:Int)<2001:=(by omega);have aO:(0:Int)<=(n:Int):=(by omega);have k0:=m2.cell n;rw[m5 n P]at k0;cases O:Dz σ (n:Int) with
   |some y=>rw[O]at k0;obtain⟨ay,cy,e1,e2,e3⟩:=m6 n y P O;have h0:=(m1.cell (n*2)).trans e1;have h1:=(m1.cell (n*2+1)).trans e2;have aF:Hid (YV w2 X (.agg (zH y ay cy)) y):=⟨ay,cy,rfl,e3⟩;have z:=Aa (M0 (t:=t) O);have HN:=Aa P;clear O m1 m2 m3 m4 m5 m6 e1 e2 e3 P;simp only[Option.isSome_some] at k0;go_upto_region 3 with fail;have A:Ab w2.drew w.heap.size #[zA n,.slice a 0 c] 27/\Ab w2.drew (w.heap.size+1) (zH t s c') 27/\w2.drew.cell? ⟨H,n*2,none⟩=some (zA y.base)/\w2.drew.cell? ⟨H,n*2+1,none⟩=some (.slice ay y.subs.length cy):=⟨U.o,N.o,h0,h1⟩;refine CC (S:=λw'=>Ab w' w.heap.size #[zA n,.slice a 0 c] 27/\Ab w' (w.heap.size+1) (zH t s c') 27/\w'.cell? ⟨H,n*2,none⟩=some (zA y.base)/\w'.cell? ⟨H,n*2+1,none⟩=some (.slice ay y.subs.length cy)) (by kernel_rfl) A λhHeld=>?_;refine tkz 0 ?_ (hy:=by intro w' d;obtain⟨g1,g2,y3,y4⟩:=d;have B:w'.cell? (zD w.heap.size 0)=some (zA n):=g1.cell 0;have V:w'.cell? (zD (w.heap.size+1) 0)=some (zA t.base):=g2.cell 0;have y2:w'.cell? (zD (w.heap.size+1) 1)=some (.slice s t.subs.length c'):=g2.cell 1;go_simp<;>with_reducible rfl);refine tkz 1 ?_ (hy:=by intro w' d;obtain⟨g1,g2,y3,y4⟩:=d;have B:w'.cell? (zD w.heap.size 0)=some (zA n):=g1.cell 0;have V:w'.cell? (zD (w.heap.size+1) 0)=some (zA t.base):=g2.cell 0;have y2:w'.cell? (zD (w.heap.size+1) 1)=some (.slice s t.subs.length c'):=g2.cell 1;go_simp<;>with_reducible rfl);refine tkz 2 ?_ (hy:=by intro w' d;obtain⟨g1,g2,y3,y4⟩:=d;have B:w'.cell? (zD w.heap.size 0)=some (zA n):=g1.cell 0;have V:w'.cell? (zD (w.heap.size+1) 0)=some (zA t.base):=g2.cell 0;have y2:w'.cell? (zD (w.heap.size+1) 1)=some (.slice s t.subs.length c'):=g2.cell 1;go_simp<;>with_reducible rfl);refine tkz 3 ?_ (hy:=by intro w' d;obtain⟨g1,g2,y3,y4⟩:=d;have B:w'.cell? (zD w.heap.size 0)=some (zA n):=g1.cell 0;have V:w'.cell? (zD (w.heap.size+1) 0)=some (zA t.base):=g2.cell 0;have y2:w'.cell? (zD (w.heap.size+1) 1)=some (.slice s t.subs.length c'):=g2.cell 1;go_simp<;>with_reducible rfl);refine tkz 4 ?_ (hy:=by intro w' d;obtain⟨g1,g2,y3,y4⟩:=d;have B:w'.cell? (zD w.heap.size 0)=some (zA n):=g1.cell 0;have V:w'.cell? (zD (w.heap.size+1) 0)=some (zA t.base):=g2.cell 0;have y2:w'.cell? (zD (w.heap.size+1) 1)=some (.slice s t.subs.length c'):=g2.cell 1;go_simp<;>with_reducible rfl);refine tkz 5 ?_ (hy:=by intro w' d;obtain⟨g1,g2,y3,y4⟩:=d;have B:w'.cell? (zD w.heap.size 0)=some (zA n):=g1.cell 0;have V:w'.cell? (zD (w.heap.size+1) 0)=some (zA t.base):=g2.cell 0;have y2:w'.cell? (zD (w.heap.size+1) 1)=some (.slice s t.subs.length c'):=g2.cell 1;go_simp<;>with_reducible rfl);refine rdq 6 rfl λK I=>?_;go_simp;go_at_call 43;refine(Vp y t _ _ w2.drew X X (aF.o.later (Ac _ _).drew) (aD.o.later (Ac _ _).drew)).mono ?_;rintro e C ⟨rfl,W⟩;have O4:Hid (Below w2.heap.size w2 C):=((Ac _ _).drew).trans W;have J:Ab C w.heap.size #[zA n,.slice a 0 c] 27/\Ab C (w.heap.size+1) (zH t s c') 27/\C.cell? ⟨H,n*2,none⟩=some (zA y.base)/\C.cell? ⟨H,n*2+1,none⟩=some (.slice ay y.subs.length cy):=⟨A.1.below W A.1.lt,A.2.1.below W A.2.1.lt,RU W A.2.2.1,RU W A.2.2.2⟩;clear W;go_simp;refine I.o _ _ (by exact J) λhHeld=>?_;clear I K;(try simp only[Act.put,sq]);refine tkz 7 ?_;refine dnq ?_;go_wp2_with fail;go_ret;refine⟨by rw[z.o]; rfl,?_,(Ak.ofBelow T.o).trans (Ak.ofBelow O4.o)⟩;rw[z.o];exact M2.o.later O4.o
   |none=>rw[O]at k0;simp only[Option.isSome_none] at k0;have z:=Aa (Na (t:=t) O);have W4:Hid (Fd (((w2.setCell (zD D n) (.bool true)).setCell ⟨H,n*2,none⟩ (zA t.base)).setCell ⟨H,n*2+1,none⟩ (.slice s t.subs.length c')) H D X (σ++[((n:Int),t)])):=M2.o.put az.o P O R.o aE.o;have E4:Hid (Ak (λb=>b=H∨b=D) w2 (((w2.setCell (zD D n) (.bool true)).setCell ⟨H,n*2,none⟩ (zA t.base)).setCell ⟨H,n*2+1,none⟩ (.slice s t.subs.length c'))):=(((Ak.refl _ _).set (Ae rfl) _ _).set (Ad rfl) _ _).set (Ad rfl) _ _;have aG:w.heap.size≠D:=(by omega);have a7:w.heap.size+1≠D:=(by omega);have ak:H≠D:=az.o;have M1:=Aa m1;have aP:=Aa m2;have fK:w2.frozen? (zD D n)=false:=m2.frozen n;have sK:=m2.lt;have sH:=m1.lt;have q0:(w2.setCell (zD D n) (.bool true)).cell? (zD w.heap.size 0)=some (zA n):=(U.o.setOther _ _ aG).cell 0;have q1:(w2.setCell (zD D n) (.bool true)).cell? (zD (w.heap.size+1) 0)=some (zA t.base):=(N.o.setOther _ _ a7).cell 0;have q2:(w2.setCell (zD D n) (.bool true)).cell? (zD (w.heap.size+1) 1)=some (.slice s t.subs.length c'):=(N.o.setOther _ _ a7).cell 1;obtain⟨h0,aQ⟩:∃v,(w2.setCell (zD D n) (.bool true)).cell? ⟨H,n*2,none⟩=some v:=⟨_,((m1.setOther n (.bool true) ak).cell (n*2)).trans (KH (by omega))⟩;obtain⟨h1,aR⟩:∃v,(w2.setCell (zD D n) (.bool true)).cell? ⟨H,n*2+1,none⟩=some v:=⟨_,((m1.setOther n (.bool true) ak).cell (n*2+1)).trans (KH (by omega))⟩;have f0:(w2.setCell (zD D n) (.bool true)).frozen? ⟨H,n*2,none⟩=false:=(m1.setOther n (.bool true) ak).frozen _;have f1:(w2.setCell (zD D n) (.bool true)).frozen? ⟨H,n*2+1,none⟩=false:=(m1.setOther n (.bool true) ak).frozen _;have HN:=Aa P;clear O m1 m2 m3 m4 m5 m6 P;go_wp2_with fail;go_ret;refine⟨by rw[z.o]; rfl,?_,(Ak.ofBelow T.o).trans E4.o⟩;rw[z.o];exact W4.o
  ·obtain⟨E,F,p1,aH,p2,aI,rfl,a8⟩:=Mb hs;have KP:=Aa a8;have Dv:=X4 aj;clear a8 hs aq aj;have IP:=Aa (IH.o p (by simp));have IQ:=Aa (IH.o q (by simp));clear IH hM;have e2:([p,q]:List Ty).length=2:=rfl;rw[e2]at *;clear e2;go_enter func29,ntmps29;go_upto_region 1 with fail;generalize ((w.alloc (.cells #[zA x,.slice (some (zD E F)) 2 c] 27)).alloc (.cells (zH t s c') 27))=w2 at *;have a6:=U.o.c1;go_upto_region 7 with fail;clear a6;have gR:Hid (w.heap.size+1<w2.heap.size):=N.o.lt;have E2:Hid (Ak (λb=>b=H∨b=D) w w2):=Ak.ofBelow T.o;by_cases al:t.subs.length=2
   ·obtain⟨B,ts⟩:=t;have ai:ts.length=2:=al;obtain⟨L,M,rfl⟩:∃L M,ts=[L,M]:=by match ts,ai with|[L,M],_=>exact⟨_,_,rfl⟩
    clear al ai;obtain⟨tb,G,t1,aJ,t2,aK,rfl,aA⟩:=Mb ar;have KT:=Aa aA;clear aA ar;have e2:([L,M]:List Ty).length=2:=rfl;simp only[e2] at *;clear e2;have z:=Aa (Nc (p:=p) (q:=q) (u:=L) (v:=M) x B σ);have f:Hid (∀w',(Ab w' w.heap.size #[zA x,.slice (some (zD E F)) 2 c] 27/\Ab w' (w.heap.size+1) #[zA B,.slice (some (zD tb G)) 2 c'] 27/\Ak (λb=>b=H∨b=D) w w')->w'.cell? (zD w.heap.size 1)=some (.slice (some (zD E F)) 2 c)/\w'.cell? (zD (w.heap.size+1) 1)=some (.slice (some (zD tb G)) 2 c')/\(w'.cell? (zD E F)=some (zA p.base)/\w'.cell? ⟨E,F+1,none⟩=some (.slice p1 p.subs.length aH)/\w'.cell? ⟨E,F+2,none⟩=some (zA q.base)/\w'.cell? ⟨E,F+2+1,none⟩=some (.slice p2 q.subs.length aI))/\(w'.cell? (zD tb G)=some (zA L.base)/\w'.cell? ⟨tb,G+1,none⟩=some (.slice t1 L.subs.length aJ)/\w'.cell? ⟨tb,G+2,none⟩=some (zA M.base)/\w'.cell? ⟨tb,G+2+1,none⟩=some (.slice t2 M.subs.length aK))):=λw' h=>⟨h.1.cell 1,h.2.1.cell 1,(KP.o w' _ h.2.2 HZ.o).1,(KT.o w' _ h.2.2 R.o).1⟩;have A:Ab w2.drew w.heap.size #[zA x,.slice (some (zD E F)) 2 c] 27/\Ab w2.drew (w.heap.size+1) #[zA B,.slice (some (zD tb G)) 2 c'] 27/\Ak (λb=>b=H∨b=D) w w2.drew:=⟨U.o,N.o,E2.o.drew⟩;refine CC (S:=λw'=>Ab w' w.heap.size #[zA x,.slice (some (zD E F)) 2 c] 27/\Ab w' (w.heap.size+1) #[zA B,.slice (some (zD tb G)) 2 c'] 27/\Ak (λb=>b=H∨b=D) w w') (by kernel_rfl) A λhHeld=>?_;refine tkz 0 ?_ (hy:=by intro w' d;obtain⟨g,i,⟨y3,y4,j,y6⟩,k,l,m,r⟩:=f.o w' d;go_simp<;>with_reducible rfl);refine tkz 1 ?_ (hy:=by intro w' d;obtain⟨g,i,⟨y3,y4,j,y6⟩,k,l,m,r⟩:=f.o w' d;go_simp<;>with_reducible rfl);refine tkz 2 ?_ (hy:=by intro w' d;obtain⟨g,i,⟨y3,y4,j,y6⟩,k,l,m,r⟩:=f.o w' d;go_simp<;>with_reducible rfl);refine tkz 3 ?_ (hy:=by intro w' d;obtain⟨g,i,⟨y3,y4,j,y6⟩,k,l,m,r⟩:=f.o w' d;go_simp<;>with_reducible rfl);refine tkz 4 ?_ (hy:=by intro w' d;obtain⟨g,i,⟨y3,y4,j,y6⟩,k,l,m,r⟩:=f.o w' d;go_simp<;>with_reducible rfl);refine tkz 5 ?_ (hy:=by intro w' d;obtain⟨g,i,⟨y3,y4,j,y6⟩,k,l,m,r⟩:=f.o w' d;go_simp<;>with_reducible rfl);refine tkz 6 ?_ (hy:=by intro w' d;obtain⟨g,i,⟨y3,y4,j,y6⟩,k,l,m,r⟩:=f.o w' d;go_simp<;>with_reducible rfl);refine tkz 7 ?_ (hy:=by intro w' d;obtain⟨g,i,⟨y3,y4,j,y6⟩,k,l,m,r⟩:=f.o w' d;go_simp<;>with_reducible rfl);refine tkz 8 ?_ (hy:=by intro w' d;obtain⟨g,i,⟨y3,y4,j,y6⟩,k,l,m,r⟩:=f.o w' d;go_simp<;>with_reducible rfl);refine tkz 9 ?_ (hy:=by intro w' d;obtain⟨g,i,⟨y3,y4,j,y6⟩,k,l,m,r⟩:=f.o w' d;go_simp<;>with_reducible rfl);refine tkz 10 ?_ (hy:=by intro w' d;obtain⟨g,i,⟨y3,y4,j,y6⟩,k,l,m,r⟩:=f.o w' d;go_simp<;>with_reducible rfl);refine tkz 11 ?_ (hy:=by intro w' d;obtain⟨g,i,⟨y3,y4,j,y6⟩,k,l,m,r⟩:=f.o w' d;go_simp<;>with_reducible rfl);refine tkz 12 ?_ (hy:=by intro w' d;obtain⟨g,i,⟨y3,y4,j,y6⟩,k,l,m,r⟩:=f.o w' d;go_simp<;>with_reducible rfl);refine tkz 13 ?_ (hy:=by intro w' d;obtain⟨g,i,⟨y3,y4,j,y6⟩,k,l,m,r⟩:=f.o w' d;go_simp<;>with_reducible rfl);refine tkz 14 ?_ (hy:=by intro w' d;obtain⟨g,i,⟨y3,y4,j,y6⟩,k,l,m,r⟩:=f.o w' d;go_simp<;>with_reducible rfl);refine rdq 15 rfl λK I=>?_;go_simp;go_at_call 29;refine(IP.o L σ _ _ w2.drew Z X hp Dv.1 (KP.o w2.drew _ A.2.2 HZ.o).2.1 (KT.o w2.drew _ A.2.2 R.o).2.1 HZ.o R.o (M2.o.later (Ac _ _).drew)).mono ?_;rintro e C ⟨rfl,aB,an⟩;have A4:Hid (Ab C w.heap.size #[zA x,.slice (some (zD E F)) 2 c] 27):=A.1.exq an (by omega);have C4:Hid (Ab C (w.heap.size+1) #[zA B,.slice (some (zD tb G)) 2 c'] 27):=A.2.1.exq an (by omega);have J:Ab C w.heap.size #[zA x,.slice (some (zD E F)) 2 c] 27/\Ab C (w.heap.size+1) #[zA B,.slice (some (zD tb G)) 2 c'] 27/\Ak (λb=>b=H∨b=D) w C:=⟨A4.o,C4.o,A.2.2.trans an⟩;have M4:=Aa aB;clear aB an;obtain⟨b1,τ,aC⟩:∃b1 τ,CO p L σ=(b1,τ):=⟨_,_,rfl⟩;rw[aC]at M4 z ⊢;clear aC;simp only at M4 z ⊢;cases b1 with
    |true=>rw[Aq rfl]at z;go_simp;refine I.o _ _ (by exact J) λhHeld=>?_;clear I K;(try simp only[Act.put,sq]);refine tkz 16 ?_;refine tkz 17 ?_;refine tkz 18 ?_ (hy:=by intro w' d;obtain⟨g,i,⟨y3,y4,j,y6⟩,k,l,m,r⟩:=f.o w' d;go_simp<;>with_reducible rfl);refine tkz 19 ?_ (hy:=by intro w' d;obtain⟨g,i,⟨y3,y4,j,y6⟩,k,l,m,r⟩:=f.o w' d;go_simp<;>with_reducible rfl);refine tkz 20 ?_ (hy:=by intro w' d;obtain⟨g,i,⟨y3,y4,j,y6⟩,k,l,m,r⟩:=f.o w' d;go_simp<;>with_reducible rfl);refine tkz 21 ?_ (hy:=by intro w' d;obtain⟨g,i,⟨y3,y4,j,y6⟩,k,l,m,r⟩:=f.o w' d;go_simp<;>with_reducible rfl);refine tkz 22 ?_ (hy:=by intro w' d;obtain⟨g,i,⟨y3,y4,j,y6⟩,k,l,m,r⟩:=f.o w' d;go_simp<;>with_reducible rfl);refine tkz 23 ?_ (hy:=by intro w' d;obtain⟨g,i,⟨y3,y4,j,y6⟩,k,l,m,r⟩:=f.o w' d;go_simp<;>with_reducible rfl);refine tkz 24 ?_ (hy:=by intro w' d;obtain⟨g,i,⟨y3,y4,j,y6⟩,k,l,m,r⟩:=f.o w' d;go_simp<;>with_reducible rfl);refine tkz 25 ?_ (hy:=by intro w' d;obtain⟨g,i,⟨y3,y4,j,y6⟩,k,l,m,r⟩:=f.o w' d;go_simp<;>with_reducible rfl);refine tkz 26 ?_ (hy:=by intro w' d;obtain⟨g,i,⟨y3,y4,j,y6⟩,k,l,m,r⟩:=f.o w' d;go_simp<;>with_reducible rfl);refine tkz 27 ?_ (hy:=by intro w' d;obtain⟨g,i,⟨y3,y4,j,y6⟩,k,l,m,r⟩:=f.o w' d;go_simp<;>with_reducible rfl);refine rdq 28 rfl λK I=>?_;go_simp;go_at_call 29;refine(IQ.o M τ _ _ C Z X hq Dv.2 (KP.o C _ J.2.2 HZ.o).2.2 (KT.o C _ J.2.2 R.o).2.2 HZ.o R.o M4.o).mono ?_;rintro e w6 ⟨rfl,av,ao⟩;have A6:Hid (Ab w6 w.heap.size #[zA x,.slice (some (zD E F)) 2 c] 27):=J.1.exq ao (by omega);have C6:Hid (Ab w6 (w.heap.size+1) #[zA B,.slice (some (zD tb G)) 2 c'] 27):=J.2.1.exq ao (by omega);have k6:Ab w6 w.heap.size #[zA x,.slice (some (zD E F)) 2 c] 27/\Ab w6 (w.heap.size+1) #[zA B,.slice (some (zD tb G)) 2 c'] 27/\Ak (λb=>b=H∨b=D) w w6:=⟨A6.o,C6.o,J.2.2.trans ao⟩;rw[<-z.o]at av ⊢;have M6:=Aa av;obtain⟨b2,aw⟩:∃b2,b2=(CO ⟨x,[p,q]⟩ ⟨B,[L,M]⟩ σ).1:=⟨_,rfl⟩;rw[<-aw];have aL:=Aa aw;clear av ao aw;go_simp;refine I.o _ _ (by exact k6) λhHeld=>?_;clear I K;(try simp only[Act.put,sq]);refine tkz 29 ?_;refine tkz 30 ?_;refine dnq ?_;go_wp2_with fail;go_ret;exact⟨by rw[<-aL.o]; rfl,M6.o,k6.2.2⟩
    |false=>rw[Am (by simp)]at z;go_simp;refine I.o _ _ (by exact J) λhHeld=>?_;clear I K;(try simp only[Act.put,sq]);refine tkz 16 ?_;refine tkz 17 ?_;refine tkv 18 ?_;refine tkv 19 ?_;refine tkv 20 ?_;refine tkv 21 ?_;refine tkv 22 ?_;refine tkv 23 ?_;refine tkv 24 ?_;refine tkv 25 ?_;refine tkv 26 ?_;refine tkv 27 ?_;refine tkv 28 ?_;refine tkz 29 ?_;refine tkz 30 ?_;refine dnq ?_;go_wp2_with fail;go_ret;refine⟨by rw[z.o]; rfl,?_,J.2.2⟩;rw[z.o];exact M4.o
   ·have z:=Aa (λσ=>Nb (p:=p) (q:=q) (t:=t) (σ:=σ) al x);have hl:((t.subs.length:Int)==2)=false:=by simp; omega
    clear al;have A:Ab w2.drew (w.heap.size+1) (zH t s c') 27:=N.o;refine CC (S:=λw'=>Ab w' (w.heap.size+1) (zH t s c') 27) (by kernel_rfl) A λhHeld=>?_;refine tkz 0 ?_;refine tkz 1 ?_ (hy:=by intro w' d;have V:w'.cell? (zD (w.heap.size+1) 1)=some (.slice s t.subs.length c'):=d.cell 1;go_simp<;>with_reducible rfl);refine tkz 2 ?_;refine tkz 3 ?_;refine tkz 4 ?_;refine tkv 5 ?_;refine tkv 6 ?_;refine tkv 7 ?_;refine tkv 8 ?_;refine tkv 9 ?_;refine tkv 10 ?_;refine tkv 11 ?_;refine tkv 12 ?_;refine tkv 13 ?_;refine tkv 14 ?_;refine tkv 15 ?_;refine tkz 16 ?_;refine tkz 17 ?_;refine tkv 18 ?_;refine tkv 19 ?_;refine tkv 20 ?_;refine tkv 21 ?_;refine tkv 22 ?_;refine tkv 23 ?_;refine tkv 24 ?_;refine tkv 25 ?_;refine tkv 26 ?_;refine tkv 27 ?_;refine tkv 28 ?_;refine tkz 29 ?_;refine tkz 30 ?_;refine dnq ?_;go_wp2_with fail;go_ret;refine⟨by rw[z.o]; rfl,?_,E2.o.drew⟩;rw[z.o];exact M2.o.later (Ac _ _).drew
theorem Gj {f W:World} {g:Nat} {Y:Nat->Prop} {a:Option Addr} {c:Nat} {l:List Tm} (hb:Below f.heap.size f W) (z:f.heap.size<=g) (A:Ab W g #[] 61) (s:Sl f Y a l) (hl:l.length<=100000):
  ∃v1 d xs,(Builtin.append_ #[59,59] 59 #[.slice (some (zD g 0)) 0 0,.slice a l.length c]).run prog W=.ok v1 d/\d.ownsRow f.heap.size 61 2 v1 l.length xs/\BL f Y l xs/\Below f.heap.size f d/\(∀q,q<W.heap.size->q≠g->d.heap[q]? = W.heap[q]?)/\W.heap.size<=d.heap.size/\(∀b,v1.ownBlock=some b->b=g∨W.heap.size<=b):=by
 obtain⟨i0,hi,B,C,D⟩:=Dq Tryz.infoTerm;have t:=hb.size;have v:W.ownsRow f.heap.size 61 2 (.slice (some (zD g 0)) 0 0) 0 []:=⟨by simp,Ae ⟨g,0,#[],rfl,z,A,by omega,by unfold maxLen; omega,by simp,by simp⟩⟩;have fin:∀(d:World),W.grownBy d (some g)->Below f.heap.size f d/\(∀q,q<W.heap.size->q≠g->d.heap[q]? = W.heap[q]?)/\W.heap.size<=d.heap.size:=by
  intro d i;exact⟨hb.grown i t (λk hk=>by simp at hk; omega),λq hq E=>i.block q hq (by simp; exact λe=>E e),i.size⟩
 cases a with
 |none=>
  have F:l=[]:=by
   rcases s.2 with h|⟨b,o,e,_⟩
   ·exact h
   ·cases e
  subst F;obtain⟨f1,f2,f3⟩:=fin W ⟨rfl,rfl,rfl,Ag _,λk hk _=>rfl⟩;refine⟨.slice (some (zD g 0)) 0 0,W,[],?_,v,rfl,f1,f2,f3,λb h=>Ad (by simpa [Value.ownBlock] using h.symm)⟩;have m:∀x,(Builtin.append_ #[59,59] 59 #[.slice (some (zD g 0)) 0 0,.slice none 0 x]).run prog W=.ok (.slice (some (zD g 0)) 0 0) W:=λx=>by
   simp[Builtin.append_,Fj underlying59,sizeOf,typeInfo,hi,Builtin.lenOf,Builtin.firstCells,storeCells]
  exact m c
 |some y=>
  obtain⟨xs,n,hx⟩:∃xs,BL f Y l xs/\∀j u,xs[j]? = some u->W.cell? (y.add j)=some u:=by
   rcases s.2 with rfl|⟨b,o,e,G⟩
   ·exact⟨[],rfl,λj u r=>by simp at r⟩
   ·cases e;obtain⟨xs,h1,h2⟩:=ON l b o G;refine⟨xs,h1,λj u r=>?_⟩;have e:((zD b o):Addr).add j=⟨b,o+j,none⟩:=by
     by_cases h0:j=0
     ·subst h0; simp[Addr.add]
     ·simp[Addr.add,h0]
    rw[e];exact cell_later hb (h2 j u r)
  obtain⟨v1,d,m,ho,i,_,h5⟩:=run_append_own_at (P:=prog) W f.heap.size 59 59 61 i0 _ 2 40 underlying59 hi B C D rfl (by decide) _ 0 [] v y l.length c xs n.len hx (λu hu=>BL.one n u hu) (by unfold maxLen; omega) (by omega) t;obtain⟨f1,f2,f3⟩:=fin d (by simpa [Value.ownBlock] using i);refine⟨v1,d,xs,m,by simpa using ho,n,f1,f2,f3,λb h=>?_⟩;rcases h5 with h5|h5
  ·rw[h5]at h;exact Ad (by simpa [Value.ownBlock] using h.symm)
  ·rw[h5]at h;exact Ae (by simp at h; omega)
theorem RX {c W:World} {f T:Nat} {Y:Nat->Prop} {v:Value} {l:List Tm} {xs:List Value} {s:ByteArray} (hb:Below c.heap.size c W) (ho:W.ownsRow c.heap.size 61 2 v l.length xs) (o:BL c Y l xs) (hP:Ab W f #[.string s,zB] T) (hl:l.length<=100000):
  ∃g cap d,(Builtin.append_ #[59,59] 59 #[v,.slice (some (zD f 0)) 1 1]).run prog W=.ok (.slice (some (zD g 0)) (l.length+1) cap) d/\
   Sl d (λb=>Y b∨b=g) (some (zD g 0)) (l++[⟨s,[]⟩])/\Below c.heap.size c d/\(c.heap.size<=g/\g<d.heap.size)/\l.length+1<=cap/\(∀q,q<W.heap.size->some q≠v.ownBlock->d.heap[q]? = W.heap[q]?)/\W.heap.size<=d.heap.size/\(v.ownBlock=some g∨W.heap.size<=g):=by
 obtain⟨i0,hi,r,t,u⟩:=Dq Tryz.infoTerm;have m:=hb.size;obtain⟨g,cap,d,y,i,j,z,A⟩:=run_append_lies (P:=prog) (w:=W) 59 59 c.heap.size 61 i0 _ 2 40 underlying59 hi r t u rfl (by decide) v l.length xs ho (zD f 0) 1 1 [.string s,zB] rfl (L0 hP) (λx hx=>by simp at hx; rcases hx with rfl|rfl<;>rfl) (by decide) (by unfold maxLen; omega) (by omega) m _ rfl;have n:Below c.heap.size c d:=hb.grown j m (λk hk=>(ho.lt k hk).1);obtain⟨g2,al,e,B,_,_⟩:=EU i (by omega);cases e;have C:l.length+1<=cap:=by
  rcases i.2 with ⟨_,h0⟩|⟨g1,ao,cur,e,_,_,h1,_⟩
  ·omega
  ·cases e; exact h1
 refine⟨g,cap,d,y,Ra (Y:=λb=>Y b∨b=g) i (by omega) (l:=l++[⟨s,[]⟩]) (BL.append o ⟨none,0,[],rfl,⟨by simp,Ad rfl⟩,rfl⟩) (λa k h=>(h.later n).mono λb h _=>Ad h) (Ae rfl) (by simp; omega),n,⟨B,A⟩,C,λq hq D=>j.block q hq D,j.size,?_⟩;rcases z with h|h
 ·exact Ad h
 ·exact Ae (by omega)

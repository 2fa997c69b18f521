import Derived.Test.YtacmmcnnhfmepaaGreatDoorIf21
namespace Go.Proofs.YtacmmcnnhfmepaaGreatDoor
set_option linter.all false
set_option maxRecDepth 20000
set_option maxHeartbeats 8000000
open Go.RowKit
def Ky (x:ST):List ST->ST
 | [a,b]=>.ar a b
 |_=>x
def Hj (θ:Int->ST):List Ty->List ST
 | []=>[]
 | ⟨x,l⟩::r=>Ky (θ x) (Hj θ l)::Hj θ r
def Hk (θ:Int->ST) (t:Ty):ST:=Ky (θ t.base) (Hj θ t.subs)
theorem U0 (θ:Int->ST) (t:Ty) (r:List Ty):Hj θ (t::r)=Hk θ t::Hj θ r:=by
 obtain⟨x,l⟩:=t;simp only[Hj,Hk]
theorem U1 (θ:Int->ST) (x:Int):Hk θ ⟨x,[]⟩=θ x:=by simp[Hk,Hj,Ky]
theorem U4 (θ:Int->ST) (x:Int) (a b:Ty):Hk θ ⟨x,[a,b]⟩=.ar (Hk θ a) (Hk θ b):=by
 show Ky _ (Hj θ [a,b])=_;rw[U0,U0,Hj,Ky]
def MK (σ:List (Int×Ty)) (x:Int):ST:=match Dz σ x with|some y=>De y|none=>.o
def U5 (σ τ:List (Int×Ty)):Prop:=∀n y,Dz σ n=some y->Dz τ n=some y
theorem mK (p:Ty):∀(t:Ty) (σ τ:List (Int×Ty)),Bk [p]->CO p t σ=(true,τ)->U5 σ τ/\∀ρ,U5 τ ρ->Hk (MK ρ) p=De t:=by
 induction p using Ty.ind with
 |h x l d=>
  intro t σ τ f h;rcases Ma f with rfl|⟨p,q,rfl,h1,h2⟩
  ·cases ho:Dz σ x with
   |some y=>rw[M0 ho]at h;simp only[Fi] at h;obtain⟨e1,rfl⟩:=h;refine⟨λ_ _ h=>h,λρ c=>?_⟩;rw[U1,MK,c _ _ ho,Vr.1 e1]
   |none=>
    rw[Na ho]at h;simp only[Fi,true_and] at h;subst h;refine⟨λn y a=>?_,λρ c=>?_⟩
    ·rw[JU _ _ _ _ ho];by_cases e:x=n
     ·subst e; rw[ho] at a; cases a
     ·rw[Am e]; exact a
    ·rw[U1,MK,c x t (by rw[JU _ _ _ _ ho,Aq rfl])]
  ·obtain⟨y,k⟩:=t;by_cases hk:k.length=2
   ·match k,hk with
    | [u,v],_=>
     rw[Nc]at h;obtain⟨b1,σ1⟩:Bool×List (Int×Ty):=CO p u σ;cases e1:CO p u σ with
     |mk b σ1=>
      rw[e1]at h;cases b with
      |false=>simp at h
      |true=>simp only[if_true] at h;obtain⟨g,i2⟩:=d p (by simp) u σ σ1 h1 e1;obtain⟨i3,i4⟩:=d q (by simp) v σ1 τ h2 h;refine⟨λn y a=>i3 _ _ (g _ _ a),λρ c=>?_⟩;rw[U4,NS,i2 ρ (λn y a=>c _ _ (i3 _ _ a)),i4 ρ c]
   ·rw[Nb (show(⟨y,k⟩:Ty).subs.length≠2 from hk)]at h;simp at h
theorem ML (h:Tm->ST) (d:∀a b,h (Bs a b)=.ar (h a) (h b)):∀(p:PX) (ar:List Tm) (n:Nat),p.ok ar.length->A0 [p.m]=false->(∀q∈(Ay 84 p.m ar n).2.1,h q.l=h q.r)->
  HT (λi=>if i<ar.length then h (ar.getD (ar.length-1-i) DZ) else .o) p (h (Ay 84 p.m ar n).1)
 | .v i,ar,n,ho,hc,hq=>by
  have ho:i<ar.length:=ho;show HT _ (.v i) (h (Ay 84 ⟨1,(i:Int),[]⟩ ar n).1);rw[I8];exact .v (by simp only[Aq ho]; simp)
 | .c k,ar,n,ho,hc,hq=>by simp[PX.m,A0] at hc
 | .l b,ar,n,ho,hc,hq=>by
  have hc:A0 [b.m]=false:=by simpa [PX.m,D2] using hc
  have hq:∀q∈(Ay 84 b.m (ar++[AE 84 (n+1)]) (n+1)).2.1,h q.l=h q.r:=λq hm=>hq q (by
   show q∈(Ay 84 ⟨2,0,[b.m]⟩ ar n).2.1;rw[Iu]; exact hm)
  have ho:b.ok (ar++[AE 84 (n+1)]).length:=by rw[Ed]; exact ho
  show HT _ (.l b) (h (Ay 84 ⟨2,0,[b.m]⟩ ar n).1);rw[Iu];show HT _ (.l b) (h (Bs _ _));rw[d];refine .l ?_;have g:=ML h d b _ _ ho hc hq;have e:(λi=>if i<(ar++[AE 84 (n+1)]).length then h ((ar++[AE 84 (n+1)]).getD ((ar++[AE 84 (n+1)]).length-1-i) DZ) else ST.o)=Ib (h (AE 84 (n+1))) (λi=>if i<ar.length then h (ar.getD (ar.length-1-i) DZ) else .o):=by
   funext i
   cases i with
   |zero=>simp[Ib]
   |succ i=>
    simp only[Ib,Ed,Cg,Ee];by_cases hi:i<ar.length
    ·rw[Aq (by omega),Aq hi];congr 1
     rw[Gr,Gr,MO (by omega)];congr 2
     omega
    ·rw[Am (by omega),Am hi]
  rw[e]at g;exact g
 | .a f x,ar,n,ho,hc,hq=>by
  obtain⟨s,t⟩:A0 [f.m]=false/\A0 [x.m]=false:=by
   have:A0 [f.m,x.m]=false:=(by simpa [PX.m,D2] using hc);rw[Iv]at this;simpa using this
  have hq:∀q∈(Ay 84 ⟨3,0,[f.m,x.m]⟩ ar n).2.1,h q.l=h q.r:=hq;show HT _ (.a f x) (h (Ay 84 ⟨3,0,[f.m,x.m]⟩ ar n).1);rw[I9]at hq ⊢;have j:=ML h d f ar n ho.1 s λq hm=>hq q (BJ.2 (Ad (BJ.2 (Ad hm))));have i2:=ML h d x ar (Ay 84 f.m ar n).2.2 ho.2 t λq hm=>hq q (BJ.2 (Ad (BJ.2 (Ae hm))));have e:=hq _ (BJ.2 (Ae (Gq.2 rfl)));simp only[d] at e;rw[e]at j;exact .a j i2
theorem mL {p:PX} (he:Au 0 0 [p.m]=0) (hc:A0 [p.m]=false) (hz:Ai [p.m]<=60) {g:Nat} {c:Int×List Bd} (l:AZ true g [] (Ay 84 p.m [] 0).2.1=some c) (h0:(Cz c (Ay 84 p.m [] 0).1).1=0)
  {y:Ty} (hy:Fy (Cz c (Ay 84 p.m [] 0).1).2 y=true):HT (DB []) p (De y):=by
 have hp:=LI (p:=84) (Ad rfl) he hc hz;obtain⟨g2,R,R2,h1,h2,h3,u⟩:=Ux hp;obtain rfl:=Oh _ _ _ _ _ _ l h2;obtain⟨v,x⟩:=LT (p:=84) (Ad rfl) p.m [] 0 he hc AW.nil;have z:=Kh true g (s:=[]) (λd hd=>by cases hd) x l;have i:=(UZ z v h0).1;have A:c.1=0:=by
  unfold Cz at h0;by_cases h6:c.1=6
  ·rw[Aq h6]at h0; cases h0
  ·rw[Am h6]at h0;by_cases n:c.1≠0
   ·rw[Aq n]at h0; exact h0
   ·exact Classical.not_not.1 n
 have j:AU R.2=false:=by
  cases j:AU R.2 with
  |false=>rfl
  |true=>have:=h3 j; omega
 obtain rfl:=u j;obtain⟨e1,e2,e3⟩:=JG hp;obtain⟨h',e,gd,hn,k,_⟩:=Tr g2 [] _ _ e3.1 h1;have ok:Ce c.2:=by rw[e]; exact gd.all
 have B:D8 c.2 c.2:=λd hd=>by rw[Is (J8 ok.1 hd),Jy (λe he=>ok.2.2 d hd e he)]
 have hu:D9 c.2 (Ay 84 p.m [] 0).2.1:=((k A c.2 ok.vars).1 B).2;have ho:Cz c (Ay 84 p.m [] 0).1=(0,Ck (AR [] (Aw [Af c.2 (Ay 84 p.m [] 0).1])) (Af c.2 (Ay 84 p.m [] 0).1)):=by
  unfold Cz at h0 ⊢;rw[Am (show ¬c.1=6 by omega),Am (show ¬c.1≠0 by omega)]at h0 ⊢;by_cases o:2000<Ah [Af c.2 (Ay 84 p.m [] 0).1]
  ·rw[Aq o]at h0; cases h0
  ·rw[Am o]
 rw[ho]at hy i;generalize ah:AR [] (Aw [Af c.2 (Ay 84 p.m [] 0).1])=f at hy i;unfold Fy at hy;cases r:CO (Ck f (Af c.2 (Ay 84 p.m [] 0).1)) y [] with
 |mk b τ=>
  rw[r]at hy;have hy:b=true:=hy;subst hy;obtain⟨-,i2⟩:=mK _ _ _ _ i r;have e:=i2 τ λ_ _ h=>h;rw[<-e];have:=ML (λt=>Hk (MK τ) (Ck f (Af c.2 t))) (λa b=>by
   have:Af c.2 (Bs a b)=Bs (Af c.2 a) (Af c.2 b):=by
    unfold Bs;rw[GP (Ad (by simp)),Br,Br];simp[An]
   rw[this];have:Ck f (Bs (Af c.2 a) (Af c.2 b))=⟨0,[Ck f (Af c.2 a),Ck f (Af c.2 b)]⟩:=by
    simp only[Bs,Ck,GT,Gz,H4];simp[Ck]
   rw[this,U4]) p [] 0 ((Jp p 0).1 he) hc (λq hm=>by rw[hu q hm])
  simpa [XJ] using this

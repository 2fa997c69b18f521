import Derived.Test.YthaililgaompeaaGreatDoorZMTopNewmanOwn
namespace Go.Proofs.YthaililgaompeaaGreatDoor
set_option linter.all false
set_option maxRecDepth 20000
set_option maxHeartbeats 8000000
open Go.RowKit
variable {ls:List Bd} {t:Tm}
theorem FR.of_runO:∀(n:Nat) (s:List Bd) (l:List Pr) (e:Int) (sf:List Bd),BG false n s l=some (e,sf)->e≠8->FR s l e sf
 |0,_,_,_,_,h,_=>by cases h
 |n+1,s,[],e,sf,h,_=>by
  rw[BG]at h;cases h;exact FR.done s
 |n+1,s,p::l,e,sf,h,h8=>by
  rw[BG,Hy]at h;by_cases hz:2000<Ab [Ai s p.l]∨2000<Ab [Ai s p.r]
  ·unfold CZ at h;rw[Ao hz]at h;cases h;exact absurd rfl h8
  ·rw[PK (by omega) (by omega)]at h;cases a:Ef s (Ai s p.l) (Ai s p.r) with
   |go s' l'=>rw[a]at h;exact FR.step a (FR.of_runO n s' (l'++l) e sf h h8)
   |stop e'=>rw[a]at h;cases h;exact FR.stop a
theorem sA {n:Nat} {l:List Pr} {R:Int×List Bd} (h:BG false n [] l=some R) (h0:R.1=0) (he:Af (AB l)=0):Bz R.2:=
 ((FR.of_runO n [] l R.1 R.2 h (by rw[h0]; decide)).run Ly he).1.1
theorem sB (h:Ey ls):IZ ls:=by
 intro k hk;have key:∀(l:List Bd) (n:ByteArray),(∀d∈l,d.nm≠n)->As l n=none:=by
  intro l n;induction l with
  |nil=>intro _; rfl
  |cons d r a=>intro h;rw[As,Ah (h d (by simp))];exact a λe he=>h e (by simp[he])
 refine key _ _ λd hd=>?_;obtain⟨i,hi,rfl⟩:=Hi hd;rw[List.length_take]at hi;rw[List.getElem_take];exact Md.1 h i k (by omega) hk (by omega)
open Classical in
noncomputable def Co (ls:List Pr):Int×List Bd:=if h:∃r n,BG false n [] ls=some r then Classical.choose h else (0,[])
theorem Xf {ls:List Pr} (h:Af (AB ls)=0):∃g,BG false g [] ls=some (Co ls):=by
 obtain⟨n,r,a⟩:=fE ls h;have hx:∃r n,BG false n [] ls=some r:=⟨r,n,a⟩;unfold Co;rw[EY hx];exact Classical.choose_spec hx
theorem QJ (ls:List Pr) (h:Cs ls=0):∃g,BG false g [] ls=some (Co ls):=Xf (LL h).1
theorem Xg (ls:List Pr) (h:Cs ls=0) (h0:(Co ls).1=0):Bz (Co ls).2:=by
 obtain⟨g,a⟩:=QJ ls h;exact sA a h0 (LL h).1
theorem Xh (ls:List Pr) (h:Cs ls=0) (h0:(Co ls).1=0):IZ (Co ls).2:=sB (Xg ls h h0).1
theorem sC:∀ {k:Nat},k<4402->AF (Dl k)=true:=by decide +kernel
theorem sD (K:ByteArray->ByteArray) (l:List Tm):∀(ns:List ByteArray),Af l=0->ns.length+Ab l<=4400->Af (AQ K ns l).1=0:=by
 induction l using Tm.indL with
 |h0=>intro ns _ _; rw[AQ]; simp[Af]
 |h s l r ab aa=>
  intro ns he hz;have e:Ab ((⟨s,l⟩:Tm)::r)=1+Ab l+Ab r:=by simp[Ab]
  rw[e]at hz;obtain⟨h1,h2,h3⟩:=Gz he;have a:AF s=true:=Lx he;rw[AQ];by_cases hv:Aj s=true
  ·have b:=h1 hv;subst b;rw[Ao hv];have af:=MC (K s) ns;have ag:=MD ns (K s);have ah:Ab ([]:List Tm)=0:=(by simp[Ab]);have g1:=aa (CY ns (K s)) h3 (by omega);have c:=sC (k:=A0 (K s) ns+1) (by omega);simp[Af,c,g1]
  ·rw[Ah hv];have ai:=MS K l ns;have g1:=ab ns h2 (by omega);have g3:=aa (AQ K ns l).2 h3 (by omega);have d:Aj s=false:=(by simpa using hv);simp[Af,a,d,g1,g3]
theorem Xi {K:ByteArray->ByteArray} {ns:List ByteArray} (he:Af [t]=0) (hz:ns.length+Ab [t]<=4400):Af [(AW K ns t).1]=0:=by
 have h:=sD K [t] ns he hz;rw[G7,Fu]at h;exact h
theorem sE {p:Pr} (h1:Af [p.l]=0) (h2:Af [p.r]=0) (z1:Ab [p.l]<=2000) (z2:Ab [p.r]<=2000):Af [(Df p).l]=0/\Af [(Df p).r]=0:=by
 have h3:=J2 id p.l [];simp only[DB] at h3;unfold Df BW;exact⟨Xi h1 (by simp only[DB]; omega),Xi h2 (by omega)⟩
theorem Xj (h:ER ls) (ht:Af [t]=0):fT ls t=Ai ls t:=by
 have h1:=Lr h [t] ht;rw[AY]at h1;obtain⟨s,l⟩:=t;rw[fL]at h1;exact(List.cons.inj h1).1
def LX (p:Pr):Prop:=(Af [p.l]=0/\Af [p.r]=0)/\Ab [p.l]<=2000/\Ab [p.r]<=2000
theorem sF {o n:Pr} {same:Bool} (ho:Av o.l=0/\Av o.r=0) (e:Av n.l=0/\Av n.r=0) {d:Dn} (hd:d∈BB [] [] (AZ o n).1.l) (hs:DH Co (AZ o n) same d=false) (a:¬FL Co (AZ o n) same d):LX (Df (Dm Co (AZ o n) d)):=by
 obtain⟨⟨a1,a2⟩,f,g⟩:=Nk ho e;obtain⟨p,hp,aa⟩:=MP hd;rw[CE]at hp;have i:=Wd a1 aa;have j:=Qp i f;have h8:CB (Co [⟨d.2,(AZ o n).2.l⟩])≠8:=λh=>a ⟨hs,Ae h⟩;have h1:¬2000<Ab [(Dm Co (AZ o n) d).l]:=λh=>a ⟨hs,Ad (Ae h)⟩;have h2:¬2000<Ab [(Dm Co (AZ o n) d).r]:=λh=>a ⟨hs,Ad (Ad h)⟩;have h0:(Co [⟨d.2,(AZ o n).2.l⟩]).1=0:=by
  unfold DH at hs;rw[Bool.or_eq_false_iff,Bool.and_eq_false_iff]at hs;have hu:CB (Co [⟨d.2,(AZ o n).2.l⟩])=0:=by
   rcases hs.2 with h|h
   ·simpa using h
   ·exact absurd (by simpa using h) h8
  unfold CB at hu h8;split at hu
  ·cases hu
  ·exact hu
 have ok:=Xg _ j h0;have ab:ER (Co [⟨d.2,(AZ o n).2.l⟩]).2:=λd hd=>(ok.2.1 d hd).1;have b:Af [(AZ o n).1.r]=0:=BU a2;have c:Af [AJ (AZ o n).2.r d.1 (AZ o n).1.l]=0:=(by rw[hp];exact(Lu (BU g) p _ _ (BU a1) aa).1);refine⟨sE ?_ ?_ (by omega) (by omega),?_⟩
 ·unfold Dm;simp only;rw[Xj ab b];exact DG ok b
 ·unfold Dm;simp only;rw[Xj ab c];exact DG ok c
 ·have g1:=NH id (Dm Co (AZ o n) d).l [];have g2:=NH id (Dm Co (AZ o n) d).r (AW id [] (Dm Co (AZ o n) d).l).2;refine⟨?_,?_⟩
  ·unfold Df BW; simp only; omega
  ·unfold Df BW; simp only; omega
theorem sG {q:Rn×Rn} (ho:Av q.1.1.l=0/\Av q.1.1.r=0) (a:Av q.2.1.l=0/\Av q.2.1.r=0) (h:¬GL Co q):∀p∈FQ Co q,LX p:=by
 intro p hp;obtain⟨d,hd,he⟩:=Mc.1 hp;unfold He at he;split at he
 ·cases he
 ·rename_i hs;have e:Df (Dm Co (AZ q.1.1 q.2.1) d)=p:=IP he;subst e;exact sF ho a hd (by simpa using hs) λb=>h ⟨d,hd,b⟩
theorem Xk:∀(l:List (Rn×Rn)) (out:List Pr),(∀q∈l,(Av q.1.1.l=0/\Av q.1.1.r=0)/\Av q.2.1.l=0/\Av q.2.1.r=0)->(∀p∈out,LX p)->∀p∈(C2 Co l out).2,LX p
 | [],out,a,h=>by rw[C2]; exact h
 |q::r,out,a,h=>by
  rw[C2];split
  ·simp
  ·rename_i hb;split
   ·simp
   ·have h2:=a q (by simp);exact Xk r _ (λx hx=>a x (by simp[hx])) (λp hp=>by
     rcases Ba.1 hp with e|e
     ·exact h p e
     ·exact sG h2.1 h2.2 hb p e)
theorem sH {α:Type} {Z:List α} {i j:Nat} {q:α×α} (h:q∈DK Z i j):q.1∈Z/\q.2∈Z:=by
 unfold DK at h;rcases Ba.1 h with h|h
 ·split at h
  ·rename_i o ho;obtain⟨n,a,rfl⟩:=Bk.1 h;exact⟨List.mem_of_getElem? ho,List.mem_of_mem_drop a⟩
  ·simp at h
 ·obtain⟨o,ho,h2⟩:=IM.1 h;obtain⟨n,a,rfl⟩:=Bk.1 h2;exact⟨List.mem_of_mem_drop ho,a⟩
theorem sI {rs:List Pr} (a:∀p∈rs,Br p=0):∀p∈(CD Co rs).2,LX p:=by
 refine Xk _ _ (λq hq=>?_) (by simp);obtain⟨h1,h2⟩:=sH hq;obtain⟨⟨p1,k1⟩,p2,k2⟩:=q;have m1:=(List.mem_zipIdx h1);have m2:=(List.mem_zipIdx h2);obtain⟨_,g1,b⟩:=m1;obtain⟨_,g2,c⟩:=m2;rw[b,c];exact⟨NL (a _ (AM _)),NL (a _ (AM _))⟩
theorem QK (rs:List Pr) (inner:Bool):∀(m:Nat) (t:Tm),(AL rs inner m t).1=0∨(AL rs inner m t).1=8∨(AL rs inner m t).1=9
 |0,t=>by
  rw[AL];split
  ·exact Ae rfl
  ·exact Ad (Ad rfl)
 |m+1,t=>by
  rw[AL];split
  ·exact Ae rfl
  ·rename_i t' _;split
   ·exact Ad (Ae rfl)
   ·have h:=QK rs inner m t';split;rename_i e x n he;rw[he]at h;simp only at h;split
    ·exact Ae rfl
    ·exact h
theorem sJ (rs:List Pr) (m:Nat) (a b:Tm):(C3 rs m a b).2=0∨(C3 rs m a b).2=8∨(C3 rs m a b).2=9:=by
 have h1:=QK rs true m a;have h2:=QK rs true m b;unfold C3;split
 ·exact h1
 ·split
  ·exact h2
  ·exact Ae rfl
theorem Xl (rs:List Pr) (m:Nat):∀l:List Pr,(DY rs m l).2=0∨(DY rs m l).2=8∨(DY rs m l).2=9
 | []=>Ae rfl
 |p::r=>by
  rw[DY];split
  ·exact Xl rs m r
  ·exact sJ rs m p.l p.r

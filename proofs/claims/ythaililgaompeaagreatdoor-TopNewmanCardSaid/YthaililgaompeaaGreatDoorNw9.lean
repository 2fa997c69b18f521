import Derived.Test.YthaililgaompeaaGreatDoorOv13
namespace Go.Proofs.YthaililgaompeaaGreatDoor
set_option linter.all false
set_option maxRecDepth 20000
set_option maxHeartbeats 8000000
open Go.RowKit
variable {rs:List Pr} {t:Tm}
def Dv:Pr:=⟨⟨⟨#[97]⟩,[]⟩,⟨⟨#[98]⟩,[]⟩⟩
theorem sK:Bl [Dv]=0:=by
 have h1:AF ⟨#[97]⟩=true/\Aj ⟨#[97]⟩=false/\AF ⟨#[98]⟩=true/\Aj ⟨#[98]⟩=false:=by decide
 obtain⟨a,b,c,d⟩:=h1;refine Qt (by simp) λp hp=>?_;obtain rfl:p=Dv:=by simpa using hp
 exact Wx (by simp[Dv,Av,Af,Ab,a,b]) (by simp[Dv,Av,Af,Ab,c,d]) b (by simp[Dv,Ap,d])
theorem sL (U:List Pr->Int×List Bd):Ep U [Dv] 5=(true,0):=by
 have hv:Aj ⟨#[97]⟩=false:=by decide
 have hz:DK ([Dv].zipIdx) 0 0=[((Dv,0),(Dv,0))]:=rfl;have hd:BB [] [] (AZ Dv Dv).1.l=[([],⟨⟨#[97]⟩,[]⟩)]:=by
  have e:(AZ Dv Dv).1.l=⟨⟨#[97]⟩,[]⟩:=by simp[AZ,BW,AW,Dv,hv,Fu]
  rw[e,BB,Cg]
 have hs:DH U (AZ Dv Dv) true ([],⟨⟨#[97]⟩,[]⟩)=true:=by simp[DH]
 have hb:¬GL U ((Dv,0),(Dv,0)):=(by rintro⟨d,hm,a⟩;simp only[hd,N6] at hm;subst hm;have:=a.1;simp only[decide_true] at this;rw[hs]at this;cases this);have ho:FQ U ((Dv,0),(Dv,0))=[]:=(by unfold FQ Id;simp only[hd,decide_true];rw[NY,He,Ao hs];rfl);have b:CD U [Dv]=(0,[]):=(by unfold CD;rw[hz,NC hb (by rw[ho]; simp),ho,NA];rfl);unfold Ep;rw[Ao sK,b,Ao rfl,Ao (by decide),DY]
theorem Xm (U:List Pr->Int×List Bd):∀(l:List (Rn×Rn)) (out:List Pr),(C2 U l out).1=0∨(C2 U l out).1=8∨(C2 U l out).1=3
 | [],out=>by rw[NA]; exact Ae rfl
 |q::r,out=>by
  by_cases hb:GL U q
  ·rw[Qd hb]; exact Ad (Ae rfl)
  ·by_cases hm:400<(out++FQ U q).length
   ·rw[Qe hb hm]; exact Ad (Ad rfl)
   ·rw[NC hb hm]; exact Xm U r _
theorem sM {U:List Pr->Int×List Bd} (a:Bl rs=0):(Ep U rs 100).2=0∨(Ep U rs 100).2=9∨(Ep U rs 100).2=8∨(Ep U rs 100).2=3:=by
 unfold Ep;rw[Ao a];split
 ·rw[Ao (by decide)];rcases Xl rs (100:Int).toNat (CD U rs).2 with h|h|h
  ·exact Ae h
  ·exact Ad (Ad (Ae h))
  ·exact Ad (Ae h)
 ·rename_i h;rcases Xm U (DK rs.zipIdx 0 0) [] with g|g|g
  ·exact absurd g h
  ·exact Ad (Ad (Ae g))
  ·exact Ad (Ad (Ad g))
theorem Xn (he:Af [t]=0) (hz:Ab [t]<=200):Av t=0:=by unfold Av; rw[Ah (by omega)]; exact he
theorem sN:Ks Co:=λx l hx hz a=>Xf (LL (Qp (Xn hx hz) a)).1
structure sO (rs:List Pr) (t:Tm):Prop where
 ends : ∀ x y k l, AL rs true 400 t = (0, x, k) -> AL rs false 400 t = (0, y, l) -> x = y
 may:∀y∈Cl rs t,Av y=0/\Ab [y]<=152
 meet:∀a∈Cl rs t,∀b∈Cl rs t,C3 rs 400 a b=(true,0)∨C3 rs 400 a b=(false,9)∨C3 rs 400 a b=(false,8)
theorem sP {row:List ByteArray} (c:Bl rs=0) (ab:∀p∈rs,Ab [p.r]<=7) (hj:Ep Co rs 100=(true,0)) (hd:∀p∈rs,AC row p.l p.r=true) (ht:Af [t]=0) (hz:Ab [t]<=19):sO rs t:=by
 have aa:∀p∈rs,Br p=0:=G1 c;have h0:(CD Co rs).1=0:=by
  unfold Ep at hj;rw[Ao c]at hj;split at hj
  ·assumption
  ·have:=Cb Prod.fst hj;cases this
 have d:DY rs 100 (CD Co rs).2=(true,0):=(by unfold Ep at hj;rw[Ao c,Ao h0,Ao (by decide)]at hj;exact hj);have e:∀w∈(CD Co rs).2,Af [w.l]=0/\Af [w.r]=0:=λw hw=>(sI aa w hw).1;have key:=@oP rs row Co 100 sN aa hd h0 e d t;refine⟨λx y k l h1 h2=>key ht (Ae rfl) (Ae rfl) h1 h2,λy hy=>?_,λa ha b hb=>?_⟩
 ·have h1:=Pf aa ht hy;have h2:=h1.2.2 7 ab;exact⟨Xn h1.1 (by omega),by omega⟩
 ·unfold C3;rcases JW rs true 400 a with h|h|h
  ·rw[Ah (by simp[h])];rcases JW rs true 400 b with g|g|g
   ·rw[Ah (by simp[g])];refine Ae (Prod.ext ?_ rfl);show AP _ _=true;rw[Cr];exact key ht (Ad ha) (Ad hb) (x:=(AL rs true 400 a).2.1) (y:=(AL rs true 400 b).2.1) (k':=(AL rs true 400 a).2.2) (l':=(AL rs true 400 b).2.2) (Prod.ext h rfl) (Prod.ext g rfl)
   ·rw[g,Ao (by simp)]; exact Ad (Ae rfl)
   ·rw[g,Ao (by simp)]; exact Ad (Ad rfl)
  ·rw[h,Ao (by simp)]; exact Ad (Ae rfl)
  ·rw[h,Ao (by simp)]; exact Ad (Ad rfl)

import Derived.Test.YthaililgaompeaaGreatDoorSo8
namespace Go.Proofs.YthaililgaompeaaGreatDoor
set_option linter.all false
set_option maxRecDepth 20000
set_option maxHeartbeats 8000000
open Go.RowKit
variable {ns:List ByteArray}
theorem iT (ns:List ByteArray) (t:Tm):DF ns t=AW id ns t:=by
 have key:∀(l:List Tm) (ns:List ByteArray),BI ns l=AQ id ns l:=by
  intro l;induction l using Tm.indL with
  |h0=>intro ns; rw[BI,AQ]
  |h s l r aa ab=>intro ns;rw[BI,AQ];simp only[aa,ab,id]
 unfold DF AW;rw[key];rfl
theorem iU:∀ {k:Nat},k<1002->AF (Dl k)=true:=by decide +kernel
theorem iV (K:ByteArray->ByteArray) (l:List Tm):∀(ns:List ByteArray),Af l=0->ns.length+Ab l<=1000->Af (AQ K ns l).1=0/\Ab (AQ K ns l).1=Ab l:=by
 induction l using Tm.indL with
 |h0=>intro ns _ _; rw[AQ]; exact⟨by simp[Af],rfl⟩
 |h s l r ab aa=>
  intro ns he hz;have e:Ab ((⟨s,l⟩:Tm)::r)=1+Ab l+Ab r:=by simp[Ab]
  rw[e]at hz ⊢;obtain⟨h1,h2,h3⟩:=Gz he;have a:AF s=true:=Lx he;rw[AQ];by_cases hv:Aj s=true
  ·have b:=h1 hv;subst b;rw[Ao hv];have af:=MC (K s) ns;have ag:=MD ns (K s);have ah:Ab ([]:List Tm)=0:=(by simp[Ab]);obtain⟨g1,g2⟩:=aa (CY ns (K s)) h3 (by omega);have c:=iU (k:=A0 (K s) ns+1) (by omega);refine⟨by simp[Af,c,g1],?_⟩;simp[Ab,g2]
  ·rw[Ah hv];have ai:=MS K l ns;obtain⟨g1,g2⟩:=ab ns h2 (by omega);obtain⟨g3,g4⟩:=aa (AQ K ns l).2 h3 (by omega);have d:Aj s=false:=(by simpa using hv);refine⟨by simp[Af,a,d,g1,g3],?_⟩;simp[Ab,g2,g4]
theorem Uz {K:ByteArray->ByteArray} {t:Tm} (he:Af [t]=0) (hz:ns.length+Ab [t]<=1000):Af [(AW K ns t).1]=0/\Ab [(AW K ns t).1]=Ab [t]:=by
 have h:=iV K [t] ns he hz;rw[G7,Fu]at h;exact h
theorem UA {K:ByteArray->ByteArray} {p:Pr} (a:Af [p.l]=0) (b:Af [p.r]=0) (hz:ns.length+Ab [p.l]+Ab [p.r]<=1000):(Af [(BW K ns p).1.l]=0/\Ab [(BW K ns p).1.l]=Ab [p.l])/\Af [(BW K ns p).1.r]=0/\Ab [(BW K ns p).1.r]=Ab [p.r]:=by
 have h1:=J2 K p.l ns;exact⟨Uz a (by omega),Uz b (by omega)⟩
theorem Nk {o n:Pr} (ho:Av o.l=0/\Av o.r=0) (a:Av n.l=0/\Av n.r=0):(Av (AZ o n).1.l=0/\Av (AZ o n).1.r=0)/\Av (AZ o n).2.l=0/\Av (AZ o n).2.r=0:=by
 have b:=En ho.1;have z2:=En ho.2;have z3:=En a.1;have z4:=En a.2;have aa:=Tj (AD 0) o [];simp only[DB] at aa;obtain⟨⟨a1,a2⟩,a3,a4⟩:=UA (K:=AD 0) (p:=o) (ns:=[]) (BU ho.1) (BU ho.2) (by simp only[DB]; omega);obtain⟨⟨c,d⟩,e,b4⟩:=UA (K:=AD 1) (p:=n) (ns:=(BW (AD 0) [] o).2) (BU a.1) (BU a.2) (by omega);have key:∀ {t:Tm},Af [t]=0->Ab [t]<=200->Av t=0:=fun {t} h1 h2=>by unfold Av; rw[Ah (by omega)]; exact h1
 unfold AZ;exact⟨⟨key a1 (by rw[a2]; exact b),key a3 (by rw[a4]; exact z2)⟩,key c (by rw[d]; exact z3),key e (by rw[b4]; exact z4)⟩
def Gj (x l:Tm):Bool:=(x.name.toList==l.name.toList)&&decide (x.args.length=l.args.length)
def CB (R:Int×List Bd):Int:=if Bm R.2=true then 8 else R.1
def DH (U:List Pr->Int×List Bd) (ab:Pr×Pr) (same:Bool) (d:Dn):Bool:=(decide (d.1=[])&&same)||!Gj d.2 ab.2.l||(decide (CB (U [⟨d.2,ab.2.l⟩])≠0)&&decide (CB (U [⟨d.2,ab.2.l⟩])≠8))
def Dm (U:List Pr->Int×List Bd) (ab:Pr×Pr) (d:Dn):Pr:=⟨fT (U [⟨d.2,ab.2.l⟩]).2 ab.1.r,fT (U [⟨d.2,ab.2.l⟩]).2 (AJ ab.2.r d.1 ab.1.l)⟩
def FL (U:List Pr->Int×List Bd) (ab:Pr×Pr) (same:Bool) (d:Dn):Prop:=DH U ab same d=false/\(CB (U [⟨d.2,ab.2.l⟩])=8∨2000<Ab [(Dm U ab d).l]∨2000<Ab [(Dm U ab d).r])
def He (U:List Pr->Int×List Bd) (ab:Pr×Pr) (same:Bool) (d:Dn):Option Pr:=if DH U ab same d=true then none else some (Df (Dm U ab d))
def Id (U:List Pr->Int×List Bd) (o n:Pr) (same:Bool):List Pr:=(BB [] [] (AZ o n).1.l).filterMap (He U (AZ o n) same)

import Derived.Test.YtgbcafaibocebaaGreatDoorSo8
namespace Go.Proofs.YtgbcafaibocebaaGreatDoor
set_option linter.all false
set_option maxRecDepth 20000
set_option maxHeartbeats 8000000
open Go.RowKit
theorem ZV (ns:List ByteArray) (t:Tm):C3 ns t=AR id ns t:=by
 have key:∀(l:List Tm) (ns:List ByteArray),Ba ns l=AO id ns l:=by
  intro l;induction l using Tm.indL with
  |h0=>intro ns; rw[Ba,AO]
  |h s l r aa ab=>intro ns;rw[Ba,AO];simp only[aa,ab,id]
 unfold C3 AR;rw[key];rfl
theorem ZW:∀ {k:Nat},k<1002->AW (Cc k)=true:=by decide +kernel
theorem ZX (K:ByteArray->ByteArray) (l:List Tm):∀(ns:List ByteArray),Ah l=0->ns.length+Ab l<=1000->Ah (AO K ns l).1=0/\Ab (AO K ns l).1=Ab l:=by
 induction l using Tm.indL with
 |h0=>intro ns _ _; rw[AO]; exact⟨by simp[Ah],rfl⟩
 |h s l r ab aa=>
  intro ns he hz;have e:Ab ((⟨s,l⟩:Tm)::r)=1+Ab l+Ab r:=by simp[Ab]
  rw[e]at hz ⊢;obtain⟨h1,h2,h3⟩:=I2 he;have a:AW s=true:=JY he;rw[AO];by_cases hv:Al s=true
  ·have b:=h1 hv;subst b;rw[Ar hv];have af:=Mz (K s) ns;have ag:=MA ns (K s);have ah:Ab ([]:List Tm)=0:=(by simp[Ab]);obtain⟨g1,g2⟩:=aa (Cf ns (K s)) h3 (by omega);have hn:=ZW (k:=AB (K s) ns+1) (by omega);refine⟨by simp[Ah,hn,g1],?_⟩;simp[Ab,g2]
  ·rw[Aj hv];have ai:=Ni K l ns;obtain⟨g1,g2⟩:=ab ns h2 (by omega);obtain⟨g3,g4⟩:=aa (AO K ns l).2 h3 (by omega);have c:Al s=false:=(by simpa using hv);refine⟨by simp[Ah,a,c,g1,g3],?_⟩;simp[Ab,g2,g4]
theorem Sd {K:ByteArray->ByteArray} {t:Tm} {ns:List ByteArray} (he:Ah [t]=0) (hz:ns.length+Ab [t]<=1000):Ah [(AR K ns t).1]=0/\Ab [(AR K ns t).1]=Ab [t]:=by
 have h:=ZX K [t] ns he hz;rw[Gm,Fi]at h;exact h
theorem Se {K:ByteArray->ByteArray} {p:Pr} {ns:List ByteArray} (a:Ah [p.l]=0) (b:Ah [p.r]=0) (hz:ns.length+Ab [p.l]+Ab [p.r]<=1000):(Ah [(Cp K ns p).1.l]=0/\Ab [(Cp K ns p).1.l]=Ab [p.l])/\Ah [(Cp K ns p).1.r]=0/\Ab [(Cp K ns p).1.r]=Ab [p.r]:=by
 have h1:=J2 K p.l ns;exact⟨Sd a (by omega),Sd b (by omega)⟩
theorem Jj {o n:Pr} (ho:AA o.l=0/\AA o.r=0) (hn:AA n.l=0/\AA n.r=0):(AA (Av o n).1.l=0/\AA (Av o n).1.r=0)/\AA (Av o n).2.l=0/\AA (Av o n).2.r=0:=by
 have z1:=CM ho.1;have z2:=CM ho.2;have z3:=CM hn.1;have z4:=CM hn.2;have aa:=Rf (AC 0) o [];simp only[E4] at aa;obtain⟨⟨a1,a2⟩,a3,a4⟩:=Se (K:=AC 0) (p:=o) (ns:=[]) (DH ho.1) (DH ho.2) (by simp only[E4]; omega);obtain⟨⟨a,b⟩,c,b4⟩:=Se (K:=AC 1) (p:=n) (ns:=(Cp (AC 0) [] o).2) (DH hn.1) (DH hn.2) (by omega);have key:∀ {t:Tm},Ah [t]=0->Ab [t]<=200->AA t=0:=fun {t} h1 h2=>by unfold AA; rw[Aj (by omega)]; exact h1
 unfold Av;exact⟨⟨key a1 (by rw[a2]; exact z1),key a3 (by rw[a4]; exact z2)⟩,key a (by rw[b]; exact z3),key c (by rw[b4]; exact z4)⟩
def EX (x l:Tm):Bool:=(x.name.toList==l.name.toList)&&decide (x.args.length=l.args.length)
def C6 (R:Int×List Bd):Int:=if AF R.2=true then 8 else R.1
def C0 (U:List Pr->Int×List Bd) (ab:Pr×Pr) (same:Bool) (d:Dn):Bool:=(decide (d.1=[])&&same)||!EX d.2 ab.2.l||(decide (C6 (U [⟨d.2,ab.2.l⟩])≠0)&&decide (C6 (U [⟨d.2,ab.2.l⟩])≠8))
def D1 (U:List Pr->Int×List Bd) (ab:Pr×Pr) (d:Dn):Pr:=⟨fT (U [⟨d.2,ab.2.l⟩]).2 ab.1.r,fT (U [⟨d.2,ab.2.l⟩]).2 (AP ab.2.r d.1 ab.1.l)⟩
def Dv (U:List Pr->Int×List Bd) (ab:Pr×Pr) (same:Bool) (d:Dn):Prop:=C0 U ab same d=false/\(C6 (U [⟨d.2,ab.2.l⟩])=8∨2000<Ab [(D1 U ab d).l]∨2000<Ab [(D1 U ab d).r])
def Ep (U:List Pr->Int×List Bd) (ab:Pr×Pr) (same:Bool) (d:Dn):Option Pr:=if C0 U ab same d=true then none else some (DI (D1 U ab d))
def Jk (U:List Pr->Int×List Bd) (o n:Pr) (same:Bool):List Pr:=(AQ [] [] (Av o n).1.l).filterMap (Ep U (Av o n) same)

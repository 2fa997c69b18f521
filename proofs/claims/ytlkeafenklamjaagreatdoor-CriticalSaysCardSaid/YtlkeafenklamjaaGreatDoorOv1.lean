import Derived.Test.YtlkeafenklamjaaGreatDoorSo8
namespace Go.Proofs.YtlkeafenklamjaaGreatDoor
set_option linter.all false
set_option maxRecDepth 20000
set_option maxHeartbeats 8000000
open Go.RowKit
theorem Zi (ns:List ByteArray) (t:Tm):CX ns t=AO id ns t:=by
 have key:∀(l:List Tm) (ns:List ByteArray),A7 ns l=AK id ns l:=by
  intro l
  induction l using Tm.indL with
  |h0=>intro ns; rw[A7,AK]
  |h s l r aa ae=>
   intro ns
   rw[A7,AK]
   simp only[aa,ae,id]
 unfold CX AO
 rw[key]
 rfl
theorem Zj:∀ {k:Nat},k<1002->Be (BR k)=true:=by decide +kernel
theorem Zk (K:ByteArray->ByteArray) (l:List Tm):∀(ns:List ByteArray),Ah l=0->ns.length+Ab l<=1000->Ah (AK K ns l).1=0/\Ab (AK K ns l).1=Ab l:=by
 induction l using Tm.indL with
 |h0=>intro ns _ _; rw[AK]; exact⟨by simp[Ah],rfl⟩
 |h s l r ae aa=>
  intro ns he hz
  have e:Ab ((⟨s,l⟩:Tm)::r)=1+Ab l+Ab r:=by simp[Ab]
  rw[e]at hz ⊢
  obtain⟨h1,h2,h3⟩:=IF he
  have af:Be s=true:=Jo he
  rw[AK]
  by_cases hv:Ak s=true
  ·have hl:=h1 hv
   subst hl
   rw[As hv]
   have ag:=LT (K s) ns
   have ah:=LU ns (K s)
   have ai:Ab ([]:List Tm)=0:=by simp[Ab]
   obtain⟨g1,g2⟩:=aa (Cc ns (K s)) h3 (by omega)
   have hn:=Zj (k:=Az (K s) ns+1) (by omega)
   refine⟨by simp[Ah,hn,g1],?_⟩
   simp[Ab,g2]
  ·rw[An hv]
   have aj:=MG K l ns
   obtain⟨g1,g2⟩:=ae ns h2 (by omega)
   obtain⟨g3,g4⟩:=aa (AK K ns l).2 h3 (by omega)
   have hv2:Ak s=false:=by simpa using hv
   refine⟨by simp[Ah,af,hv2,g1,g3],?_⟩
   simp[Ab,g2,g4]
theorem Rz {K:ByteArray->ByteArray} {t:Tm} {ns:List ByteArray} (he:Ah [t]=0) (hz:ns.length+Ab [t]<=1000):Ah [(AO K ns t).1]=0/\Ab [(AO K ns t).1]=Ab [t]:=by
 have h:=Zk K [t] ns he hz
 rw[FY,E6]at h
 exact h
theorem RA {K:ByteArray->ByteArray} {p:Pr} {ns:List ByteArray} (hl:Ah [p.l]=0) (hr:Ah [p.r]=0) (hz:ns.length+Ab [p.l]+Ab [p.r]<=1000):(Ah [(Cl K ns p).1.l]=0/\Ab [(Cl K ns p).1.l]=Ab [p.l])/\Ah [(Cl K ns p).1.r]=0/\Ab [(Cl K ns p).1.r]=Ab [p.r]:=by
 have h1:=Js K p.l ns
 exact⟨Rz hl (by omega),Rz hr (by omega)⟩
theorem IQ {o n:Pr} (ho:Ay o.l=0/\Ay o.r=0) (hn:Ay n.l=0/\Ay n.r=0):(Ay (Av o n).1.l=0/\Ay (Av o n).1.r=0)/\Ay (Av o n).2.l=0/\Ay (Av o n).2.r=0:=by
 have z1:=CC ho.1
 have z2:=CC ho.2
 have z3:=CC hn.1
 have z4:=CC hn.2
 have aa:=Ql (AA 0) o []
 simp only[EN] at aa
 obtain⟨⟨a1,a2⟩,a3,a4⟩:=RA (K:=AA 0) (p:=o) (ns:=[]) (Dy ho.1) (Dy ho.2) (by simp only[EN]; omega)
 obtain⟨⟨b1,b2⟩,b3,b4⟩:=RA (K:=AA 1) (p:=n) (ns:=(Cl (AA 0) [] o).2) (Dy hn.1) (Dy hn.2) (by omega)
 have key:∀ {t:Tm},Ah [t]=0->Ab [t]<=200->Ay t=0:=fun {t} h1 h2=>by unfold Ay; rw[An (by omega)]; exact h1
 unfold Av
 exact⟨⟨key a1 (by rw[a2]; exact z1),key a3 (by rw[a4]; exact z2)⟩,key b1 (by rw[b2]; exact z3),key b3 (by rw[b4]; exact z4)⟩
def EK (x l:Tm):Bool:=(x.name.toList==l.name.toList)&&decide (x.args.length=l.args.length)
def C0 (R:Int×List Bd):Int:=if AD R.2=true then 8 else R.1
def CS (U:List Pr->Int×List Bd) (ab:Pr×Pr) (same:Bool) (d:Dn):Bool:=(decide (d.1=[])&&same)||!EK d.2 ab.2.l||(decide (C0 (U [⟨d.2,ab.2.l⟩])≠0)&&decide (C0 (U [⟨d.2,ab.2.l⟩])≠8))
def DT (U:List Pr->Int×List Bd) (ab:Pr×Pr) (d:Dn):Pr:=⟨fT (U [⟨d.2,ab.2.l⟩]).2 ab.1.r,fT (U [⟨d.2,ab.2.l⟩]).2 (AL ab.2.r d.1 ab.1.l)⟩
def Dk (U:List Pr->Int×List Bd) (ab:Pr×Pr) (same:Bool) (d:Dn):Prop:=CS U ab same d=false/\(C0 (U [⟨d.2,ab.2.l⟩])=8∨2000<Ab [(DT U ab d).l]∨2000<Ab [(DT U ab d).r])
def Eg (U:List Pr->Int×List Bd) (ab:Pr×Pr) (same:Bool) (d:Dn):Option Pr:=if CS U ab same d=true then none else some (Dz (DT U ab d))
def IR (U:List Pr->Int×List Bd) (o n:Pr) (same:Bool):List Pr:=(AM [] [] (Av o n).1.l).filterMap (Eg U (Av o n) same)
end Go.Proofs.YtlkeafenklamjaaGreatDoor

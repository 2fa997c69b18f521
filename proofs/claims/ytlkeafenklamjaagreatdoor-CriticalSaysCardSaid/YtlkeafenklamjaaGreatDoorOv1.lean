import Derived.Test.YtlkeafenklamjaaGreatDoorSo8
namespace Go.Proofs.YtlkeafenklamjaaGreatDoor
set_option linter.unusedSimpArgs false
set_option linter.unusedVariables false
set_option maxRecDepth 20000
set_option maxHeartbeats 8000000
open Go.RowKit
theorem Zk (ns:List ByteArray) (t:Tm):CZ ns t=AP id ns t:=by
 have key:∀(l:List Tm) (ns:List ByteArray),Ba ns l=AL id ns l:=by
  intro l
  induction l using Tm.indL with
  |h0=>intro ns; rw[Ba,AL]
  |h s l r aa ae=>
   intro ns
   rw[Ba,AL]
   simp only[aa,ae,id]
 unfold CZ AP
 rw[key]
 rfl
theorem Zl:∀ {k:Nat},k<1002->Bf (BR k)=true:=by decide +kernel
theorem Zm (K:ByteArray->ByteArray) (l:List Tm):∀(ns:List ByteArray),Ah l=0->ns.length+Ab l<=1000->Ah (AL K ns l).1=0/\Ab (AL K ns l).1=Ab l:=by
 induction l using Tm.indL with
 |h0=>intro ns _ _; rw[AL]; exact⟨by simp[Ah],rfl⟩
 |h s l r ae aa=>
  intro ns he hz
  have e:Ab ((⟨s,l⟩:Tm)::r)=1+Ab l+Ab r:=by simp[Ab]
  rw[e]at hz ⊢
  obtain⟨h1,h2,h3⟩:=IF he
  have af:Bf s=true:=Jp he
  rw[AL]
  by_cases hv:Ak s=true
  ·have hl:=h1 hv
   subst hl
   rw[As hv]
   have ag:=LU (K s) ns
   have ah:=LW ns (K s)
   have ai:Ab ([]:List Tm)=0:=by simp[Ab]
   obtain⟨g1,g2⟩:=aa (Cc ns (K s)) h3 (by omega)
   have hn:=Zl (k:=AA (K s) ns+1) (by omega)
   refine⟨by simp[Ah,hn,g1],?_⟩
   simp[Ab,g2]
  ·rw[An hv]
   have aj:=MH K l ns
   obtain⟨g1,g2⟩:=ae ns h2 (by omega)
   obtain⟨g3,g4⟩:=aa (AL K ns l).2 h3 (by omega)
   have hv2:Ak s=false:=by simpa using hv
   refine⟨by simp[Ah,af,hv2,g1,g3],?_⟩
   simp[Ab,g2,g4]
theorem RC {K:ByteArray->ByteArray} {t:Tm} {ns:List ByteArray} (he:Ah [t]=0) (hz:ns.length+Ab [t]<=1000):Ah [(AP K ns t).1]=0/\Ab [(AP K ns t).1]=Ab [t]:=by
 have h:=Zm K [t] ns he hz
 rw[FZ,E7]at h
 exact h
theorem RD {K:ByteArray->ByteArray} {p:Pr} {ns:List ByteArray} (hl:Ah [p.l]=0) (hr:Ah [p.r]=0) (hz:ns.length+Ab [p.l]+Ab [p.r]<=1000):(Ah [(Cm K ns p).1.l]=0/\Ab [(Cm K ns p).1.l]=Ab [p.l])/\Ah [(Cm K ns p).1.r]=0/\Ab [(Cm K ns p).1.r]=Ab [p.r]:=by
 have h1:=Jt K p.l ns
 exact⟨RC hl (by omega),RC hr (by omega)⟩
theorem IQ {o n:Pr} (ho:Az o.l=0/\Az o.r=0) (hn:Az n.l=0/\Az n.r=0):(Az (Av o n).1.l=0/\Az (Av o n).1.r=0)/\Az (Av o n).2.l=0/\Az (Av o n).2.r=0:=by
 have z1:=CD ho.1
 have z2:=CD ho.2
 have z3:=CD hn.1
 have z4:=CD hn.2
 have aa:=Qn (AB 0) o []
 simp only[EM] at aa
 obtain⟨⟨a1,a2⟩,a3,a4⟩:=RD (K:=AB 0) (p:=o) (ns:=[]) (Dz ho.1) (Dz ho.2) (by simp only[EM]; omega)
 obtain⟨⟨b1,b2⟩,b3,b4⟩:=RD (K:=AB 1) (p:=n) (ns:=(Cm (AB 0) [] o).2) (Dz hn.1) (Dz hn.2) (by omega)
 have key:∀ {t:Tm},Ah [t]=0->Ab [t]<=200->Az t=0:=fun {t} h1 h2=>by unfold Az; rw[An (by omega)]; exact h1
 unfold Av
 exact⟨⟨key a1 (by rw[a2]; exact z1),key a3 (by rw[a4]; exact z2)⟩,key b1 (by rw[b2]; exact z3),key b3 (by rw[b4]; exact z4)⟩
def EW (x l:Tm):Bool:=(x.name.toList==l.name.toList)&&decide (x.args.length=l.args.length)
def C2 (R:Int×List Bd):Int:=if AE R.2=true then 8 else R.1
def CT (U:List Pr->Int×List Bd) (ab:Pr×Pr) (same:Bool) (d:Dn):Bool:=(decide (d.1=[])&&same)||!likeB d.2 ab.2.l||(decide (C2 (U [⟨d.2,ab.2.l⟩])≠0)&&decide (C2 (U [⟨d.2,ab.2.l⟩])≠8))
def DT (U:List Pr->Int×List Bd) (ab:Pr×Pr) (d:Dn):Pr:=⟨fT (U [⟨d.2,ab.2.l⟩]).2 ab.1.r,fT (U [⟨d.2,ab.2.l⟩]).2 (AM ab.2.r d.1 ab.1.l)⟩
def Dm (U:List Pr->Int×List Bd) (ab:Pr×Pr) (same:Bool) (d:Dn):Prop:=CT U ab same d=false/\(C2 (U [⟨d.2,ab.2.l⟩])=8∨2000<Ab [(DT U ab d).l]∨2000<Ab [(DT U ab d).r])
def Eg (U:List Pr->Int×List Bd) (ab:Pr×Pr) (same:Bool) (d:Dn):Option Pr:=if CT U ab same d=true then none else some (DA (DT U ab d))
def IR (U:List Pr->Int×List Bd) (o n:Pr) (same:Bool):List Pr:=(AN [] [] (Av o n).1.l).filterMap (Eg U (Av o n) same)
end Go.Proofs.YtlkeafenklamjaaGreatDoor

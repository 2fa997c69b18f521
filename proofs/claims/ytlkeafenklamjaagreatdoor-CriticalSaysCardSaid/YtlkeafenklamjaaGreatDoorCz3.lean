import Derived.Test.YtlkeafenklamjaaGreatDoorOv13
namespace Go.Proofs.YtlkeafenklamjaaGreatDoor
set_option linter.all false
set_option maxRecDepth 20000
set_option maxHeartbeats 8000000
open Go.RowKit
theorem TO (f:ByteArray->ByteArray):∀(p:List Int) (t:Tm),AR (AJ f t) p=(AR t p).map (AJ f)
 | [],t=>rfl
 |i::r,t=>by
  have hl:(AJ f t).args.length=t.args.length:=M5 f t.args
  unfold AR
  by_cases h:0<=i/\i.toNat<t.args.length
  ·have h':0<=i/\i.toNat<(AJ f t).args.length:=⟨h.1,by rw[hl]; exact h.2⟩
   have e:(AJ f t).args[i.toNat]'(h'.2)=AJ f (t.args[i.toNat]'h.2):=by
    have e2:(AJ f t).args=t.args.map (AJ f):=G3 f t.args
    simp only[e2,Hc]
   rw[DX h,DX h',e]
   exact TO f r _
  ·have h':¬(0<=i/\i.toNat<(AJ f t).args.length):=by rw[hl]; exact h
   rw[dif_neg h,dif_neg h']
   rfl
theorem jK (f:ByteArray->ByteArray) (l:List Tm):∀j,Ca j (Bj f l)=Ca j l:=by
 induction l using Tm.indL with
 |h0=>intro j; simp only[Bj]
 |h s l r aa ae=>intro j; simp only[Bj,Ca,aa,ae]
theorem jL (f:ByteArray->ByteArray) (t:Tm):Bq (AJ f t)=Bq t:=by
 unfold Bq
 show []::Ca 0 (Bj f t.args)=_
 rw[jK]
theorem TP (f:ByteArray->ByteArray) {g g':Tm->Tm} (h:∀a,AJ f (g a)=g' (AJ f a)) (i:Int):∀(l:List Tm) (j:Nat),Bj f (BN g i j l)=BN g' i j (Bj f l)
 | [],j=>by simp[BN,Bj]
 |a::l,j=>by
  rw[BN,Es,Es,BN,TP f h i l (j+1)]
  split
  ·rw[h]
  ·rfl
theorem TQ (f:ByteArray->ByteArray) (y:Tm):∀(p:List Int) (t:Tm),AJ f (AL y p t)=AL (AJ f y) p (AJ f t)
 | [],t=>rfl
 |i::r,t=>by
  show(⟨f t.name,Bj f (BN (AL y r) i 0 t.args)⟩:Tm)=⟨f t.name,BN (AL (AJ f y) r) i 0 (Bj f t.args)⟩
  rw[TP f (TQ f y r)]
theorem jM (l:List Tm):∀(hs:List Int) (j st:Nat) (r:List Int),∀d∈Co hs j st r l,hs.length<d.1.length:=by
 induction l using Tm.indL with
 |h0=>intro hs j st r d hd; simp[Co] at hd
 |h s l rest aa ae=>
  intro hs j st r d hd
  rw[Co]at hd
  rcases Bg.1 hd with hd|hd
  ·split at hd
   ·cases hd
   ·rcases BE.1 hd with rfl|hd
    ·simp
    ·have:=aa _ _ _ _ d hd
     simp at this
     omega
  ·exact ae _ _ _ _ d hd
theorem jN (t:Tm):(AM [] [] t).map (·.1)=Bq t:=by
 have h:=VX (λp (_:Tm)=>[p]) t (λp=>[p]) λ_ _ _=>rfl
 have e1:∀l:List Dn,l.flatMap (λd=>[d.1])=l.map (·.1):=λl=>by induction l with|nil=>rfl|cons a r ih=>rw[I7,BP,ih]; rfl
 have e2:∀l:List (List Int),l.flatMap (λp=>[p])=l:=λl=>by induction l with|nil=>rfl|cons a r ih=>rw[I7,ih]; rfl
 rw[e1,e2]at h
 exact h
theorem jO (t:Tm) (i:Nat) (h:i<(AM [] [] t).length):((AM [] [] t)[i].1=[])↔i=0:=by
 constructor
 ·intro e
  cases i with
  |zero=>rfl
  |succ i=>
   have e2:(AM [] [] t)[i+1]∈Co [] 0 (Ci []) ([]:List Int).tail t.args:=by
    show(Co [] 0 (Ci []) ([]:List Int).tail t.args)[i]'_∈_
    exact AV _
   have:=jM _ _ _ _ _ _ e2
   rw[e]at this
   simp at this
 ·intro e
  subst e
  rfl
theorem TR:∀ {i:Nat},i<201->Be (DB 80 i)=true/\Be (DB 81 i)=true:=by decide +kernel
theorem jP {D:ByteArray->Prop} {f:ByteArray->ByteArray} (hf:DH D f) (hn:∀n,D n->Be n=true->Be (f n)=true) (l:List Tm):AB D l->Ah l=0->Ah (Bj f l)=0:=by
 induction l using Tm.indL with
 |h0=>intro _ _; simp[Bj,Ah]
 |h s l r ag aa=>
  intro hd he
  obtain⟨d1,d2,d3⟩:=AB.cons.1 hd
  have ae:D s:=d1
  obtain⟨h1,h2,h3⟩:=IF he
  have af:=hn s ae (Jo he)
  have hv:=hf.var s ae
  by_cases hs:Ak s=true
  ·have hl:=h1 hs
   subst hl
   simp[Bj,Ah,af,aa d3 h3]
  ·have hs2:Ak s=false:=by simpa using hs
   simp[Bj,Ah,af,hv,hs2,ag d2 h2,aa d3 h3]
theorem Lo {D:ByteArray->Prop} {f:ByteArray->ByteArray} (hf:DH D f) (hn:∀n,D n->Be n=true->Be (f n)=true) {t:Tm} (hd:AB D [t]) (he:Ah [t]=0):Ah [AJ f t]=0:=by
 have h:=jP hf hn [t] hd he
 rw[Es,G3 f []]at h
 exact h
theorem TS (p:Pr):(CG p).length<=Ab [p.l]:=Nh [p.l]
theorem jQ {o n:Pr} (ho:Bt o=0) (hn:Bt n=0):∀x,I0 o n x->Be x=true->Be (C2 o n x)=true:=by
 intro x hx aa
 obtain⟨ol,-,-,-⟩:=Ep ho
 obtain⟨nl,-,-,-⟩:=Ep hn
 have z1:=CC ol
 have z2:=CC nl
 have l1:=TS o
 have l2:=TS n
 rcases hx with hx|⟨k,hk,rfl⟩
 ·rwa [G5 hx]
 ·rcases SY ho hn hk with ⟨v,hv,rfl⟩|⟨v,hv,rfl⟩
  ·rw[Le hk hv]
   have:=JH hv
   exact(TR (by omega)).1
  ·rw[Lf hk hv]
   have:=JH hv
   exact(TR (by omega)).2
theorem TT {D:ByteArray->Prop}:∀(p:List Int) (t x:Tm),AB D [t]->AR t p=some x->AB D [x]
 | [],t,x,h,e=>by simp only[AR,GH] at e; rw[<-e]; exact h
 |i::r,t,x,h,e=>by
  unfold AR at e
  split at e
  ·exact TT r _ x (AB.all.1 (AB.one.1 h).2 _ (AV _)) e
  ·cases e
theorem TU {D:ByteArray->Prop} {g:Tm->Tm} (i:Int):∀(l:List Tm) (j:Nat),AB D l->(∀a∈l,AB D [a]->AB D [g a])->AB D (BN g i j l)
 | [],j,h,_=>h
 |a::l,j,h,hg=>by
  obtain⟨a1,a2,a3⟩:=AB.cons.1 h
  have ha:=AB.one.2 ⟨a1,a2⟩
  have hr:=TU i l (j+1) a3 λb hb=>hg b (by simp[hb])
  rw[BN]
  split
  ·have h2:=AB.one.1 (hg a (by simp) ha)
   exact AB.cons.2 ⟨h2.1,h2.2,hr⟩
  ·exact AB.cons.2 ⟨a1,a2,hr⟩
theorem TW {D:ByteArray->Prop} {y:Tm} (hy:AB D [y]):∀(p:List Int) (t:Tm),AB D [t]->AB D [AL y p t]
 | [],t,_=>hy
 |i::r,t,h=>AB.one.2 ⟨(AB.one.1 h).1,TU i _ 0 (AB.one.1 h).2 λa _ ha=>TW hy r a ha⟩
structure Lq (o n:Pr) (d:Dn) (x:Tm):Prop where
 pl:AR (Dl 80 o).l d.1=some x
 vr:Ak x.name=true->∀same,CS AC (Av o n) same d=true
 sv:Ak x.name=false->∀same,(CS AC (Av o n) same d=false↔¬(d.1=[]/\same=true)/\(C0 (AC [⟨d.2,(Av o n).2.l⟩])=0∨C0 (AC [⟨d.2,(Av o n).2.l⟩])=8))
 pe:Ck [⟨x,(Dl 81 n).l⟩]=0
 un:∃g R,AQ true g [] [⟨x,(Dl 81 n).l⟩]=some R/\R.1=C0 (AC [⟨d.2,(Av o n).2.l⟩])/\(R.1=0->
  (Ah [Ag R.2 (Dl 80 o).r]=0/\Ah [Ag R.2 (AL (Dl 81 n).r d.1 (Dl 80 o).l)]=0)/\(Ab [Ag R.2 (Dl 80 o).r]=Ab [(DT AC (Av o n) d).l]/\Ab [Ag R.2 (AL (Dl 81 n).r d.1 (Dl 80 o).l)]=Ab [(DT AC (Av o n) d).r])/\(A7 [] [Ag R.2 (Dl 80 o).r,Ag R.2 (AL (Dl 81 n).r d.1 (Dl 80 o).l)]).1=[(Dz (DT AC (Av o n) d)).l,(Dz (DT AC (Av o n) d)).r])
theorem jR {x l:Tm} (hx:Ak x.name=false) (hl:Ak l.name=false) (hz:Ab [x]<=2000) (hz2:Ab [l]<=2000) (he:Ah (Aw [⟨x,l⟩])=0) (h:¬EK x l=true):C0 (AC [⟨x,l⟩])=5:=by
 obtain⟨g,hg⟩:=Nt he
 cases g with
 |zero=>cases hg
 |succ g=>
  rw[AQ,ES]at hg
  have e:∀t:Tm,Ag [] t=t:=λt=>by
   have:=GX (s:=[]) [t] (by simp)
   rw[Ba]at this
   exact(List.cons.inj this).1
  have h2:¬(x.name=l.name/\x.args.length=l.args.length):=λhh=>h (by unfold EK; rw[hh.1,hh.2]; simp)
  simp only[e] at hg
  unfold Bf at hg
  rw[An (by omega),An (by rw[hx]; simp),An (by rw[hl]; simp),An h2]at hg
  have e2:AC [⟨x,l⟩]=(5,[]):=(Hf hg).symm
  rw[e2]
  rfl
theorem jS {o n:Pr} (ho:Bt o=0) (hn:Bt n=0) {d:Dn} (hd:d∈AM [] [] (Av o n).1.l):Lq o n d (AJ (C2 o n) d.2):=by
 obtain⟨ol,or,ov,-⟩:=Ep ho
 obtain⟨nl,nr,nv,-⟩:=Ep hn
 have aa:=fA ho hn
 have ag:=jQ ho hn
 obtain⟨⟨e1,e2⟩,hD⟩:=S8 ho hn
 obtain⟨⟨a1,a2⟩,b1,b2⟩:=IQ (o:=o) (n:=n) ⟨ol,or⟩ ⟨nl,nr⟩
 have ai:Ak (Av o n).2.l.name=false:=by
  have h:=(eN (p:=o) (q:=n)).2
  obtain⟨M,h⟩:=h
  rw[h,Z7 _ nv]; exact nv
 obtain⟨p,hp,hat⟩:=P6 hd
 rw[DY]at hp
 have dA:=hD (Av o n).1 (by simp)
 have dB:=hD (Av o n).2 (by simp)
 have hmx:=Sb a1 hat
 have dx:=TT p _ _ dA.1 hat
 generalize hab:Av o n=ab at *
 obtain⟨a,b⟩:=ab
 simp only at *
 have aj:(Dl 80 o).l=AJ (C2 o n) a.l:=by rw[<-e1]; rfl
 have ax:(Dl 80 o).r=AJ (C2 o n) a.r:=by rw[<-e1]; rfl
 have ak:(Dl 81 n).l=AJ (C2 o n) b.l:=by rw[<-e2]; rfl
 have ay:(Dl 81 n).r=AJ (C2 o n) b.r:=by rw[<-e2]; rfl
 have ex:=Dy hmx
 have aA:=CC hmx
 have aB:=CC b1
 have ah:Ah (Aw [(⟨d.2,b.l⟩:Pr)])=0:=by
  have e:Aw [(⟨d.2,b.l⟩:Pr)]=[d.2]++[b.l]:=by simp[Aw]
  rw[e]; exact GY.2 ⟨ex,Dy b1⟩
 have ao:Ck [⟨AJ (C2 o n) d.2,AJ (C2 o n) b.l⟩]=0:=by
  refine Sc ?_ ?_
  ·unfold Ay; rw[F4,An (by omega)]; exact Lo aa ag dx ex
  ·unfold Ay; rw[F4,An (by omega)]; exact Lo aa ag dB.1 (Dy b1)
 have aq:Ak (AJ (C2 o n) d.2).name=Ak d.2.name:=aa.var _ (AB.one.1 dx).1
 refine⟨by rw[aj,TO,hp,hat]; rfl,λhv same=>?_,λhv same=>?_,by rw[ak]; exact ao,?_⟩
 ·rw[aq]at hv
  have hl:EK d.2 b.l=false:=by
   unfold EK
   have hne:d.2.name≠b.l.name:=λe=>by rw[e,ai] at hv; cases hv
   have:(d.2.name.toList==b.l.name.toList)=false:=by
    rw[DL]
    exact λe=>hne (Ej e)
   rw[this]; rfl
  unfold CS
  simp only[hab,hl]
  simp
 ·rw[aq]at hv
  unfold CS
  simp only[hab]
  by_cases hl:EK d.2 b.l=true
  ·rw[hl]
   cases same<;>simp[Classical.or_iff_not_imp_left]
  ·have h5:=jR hv ai (by omega) (by omega) ah hl
   rw[h5]
   simp[hl]
 ·rw[ak,ax,ay,aj,<-TQ]
  obtain⟨g,hg⟩:=Nt ah
  have az:F5 (I0 o n) (C2 o n) [] []:=⟨IB,λd hd=>(by cases hd),JK _⟩
  obtain⟨R,hR,a6,ae⟩:=Ss aa g az ah (λq hq=>by
   have e:q=⟨d.2,b.l⟩:=by simpa using hq
   rw[e]; exact⟨dx,dB.1⟩) hg
  have a7:AQ false g [] [⟨AJ (C2 o n) d.2,AJ (C2 o n) b.l⟩]=some R:=hR
  obtain⟨g2,Q,Q',hQ,hQ',ar,au⟩:=ZH ao
  have eQ:=M0 g g2 _ _ _ _ a7 hQ
  subst eQ
  have av:=ZX ae
  refine⟨g2,Q',hQ',?_,λh0=>?_⟩
  ·simp only[hab]
   unfold C0
   by_cases hh:AD R.2=true
   ·rw[ar hh,As (by rw[<-av]; exact hh)]
   ·rw[au (by simpa using hh),An (by rw[<-av]; exact hh),a6]
  ·have hh:AD R.2=false:=by
    cases hc:AD R.2 with
    |false=>rfl
    |true=>rw[ar hc] at h0; cases h0
   rw[au hh]
   have a8:AB (I0 o n) [AL b.r d.1 a.l]:=TW dB.2 _ _ dA.1
   have af:Ah [AL b.r d.1 a.l]=0:=by rw[hp]; exact(Qi (Dy b2) p _ _ (Dy a1) hat).1
   have o1:=ae.on aa dA.2
   have o2:=ae.on aa a8
   have x1:=Ed ae.ok (Dy a2)
   have x2:=Ed ae.ok af
   have aw:EH (AC [⟨d.2,b.l⟩]).2:=λd hd=>(ae.ok.2.1 d hd).1
   have eW:DT AC (a,b) d=⟨Ag (AC [⟨d.2,b.l⟩]).2 a.r,Ag (AC [⟨d.2,b.l⟩]).2 (AL b.r d.1 a.l)⟩:=by
    unfold DT
    simp only
    rw[TN aw (Dy a2),TN aw af]
   rw[hab,eW,o1.1,o2.1,F4,F4]
   refine⟨⟨Lo aa ag o1.2 x1,Lo aa ag o2.2 x2⟩,⟨rfl,rfl⟩,?_⟩
   rw[fD aa (λ_=>G5) o1.2 o2.2]
end Go.Proofs.YtlkeafenklamjaaGreatDoor

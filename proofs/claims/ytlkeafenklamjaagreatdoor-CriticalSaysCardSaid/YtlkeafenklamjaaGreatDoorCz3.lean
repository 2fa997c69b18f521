import Derived.Test.YtlkeafenklamjaaGreatDoorOv13
namespace Go.Proofs.YtlkeafenklamjaaGreatDoor
set_option linter.unusedSimpArgs false
set_option linter.unusedVariables false
set_option maxRecDepth 20000
set_option maxHeartbeats 8000000
open Go.RowKit
theorem TQ (f:ByteArray->ByteArray):∀(p:List Int) (t:Tm),AU (AK f t) p=(AU t p).map (AK f)
 | [],t=>rfl
 |i::r,t=>by
  have hl:(AK f t).args.length=t.args.length:=M6 f t.args
  unfold AU
  by_cases h:0<=i/\i.toNat<t.args.length
  ·have h':0<=i/\i.toNat<(AK f t).args.length:=⟨h.1,by rw[hl]; exact h.2⟩
   have e:(AK f t).args[i.toNat]'h'.2=AK f (t.args[i.toNat]'h.2):=by
    have e2:(AK f t).args=t.args.map (AK f):=G4 f t.args
    simp only[e2,Hc]
   rw[DX h,DX h',e]
   exact TQ f r _
  ·have h':¬(0<=i/\i.toNat<(AK f t).args.length):=by rw[hl]; exact h
   rw[dif_neg h,dif_neg h']
   rfl
theorem jM (f:ByteArray->ByteArray) (l:List Tm):∀j,Ca j (Bk f l)=Ca j l:=by
 induction l using Tm.indL with
 |h0=>intro j; simp only[Bk]
 |h s l r aa ae=>intro j; simp only[Bk,Ca,aa,ae]
theorem jN (f:ByteArray->ByteArray) (t:Tm):Br (AK f t)=Br t:=by
 unfold Br
 show []::Ca 0 (Bk f t.args)=_
 rw[jM]
theorem TR (f:ByteArray->ByteArray) {g g':Tm->Tm} (h:∀a,AK f (g a)=g' (AK f a)) (i:Int):∀(l:List Tm) (j:Nat),Bk f (BN g i j l)=BN g' i j (Bk f l)
 | [],j=>by simp[BN,Bk]
 |a::l,j=>by
  rw[BN,Es,Es,BN,TR f h i l (j+1)]
  split
  ·rw[h]
  ·rfl
theorem TS (f:ByteArray->ByteArray) (y:Tm):∀(p:List Int) (t:Tm),AK f (AM y p t)=AM (AK f y) p (AK f t)
 | [],t=>rfl
 |i::r,t=>by
  show(⟨f t.name,Bk f (BN (AM y r) i 0 t.args)⟩:Tm)=⟨f t.name,BN (AM (AK f y) r) i 0 (Bk f t.args)⟩
  rw[TR f (TS f y r)]
theorem jO (l:List Tm):∀(hs:List Int) (j st:Nat) (r:List Int),∀d∈Cp hs j st r l,hs.length<d.1.length:=by
 induction l using Tm.indL with
 |h0=>intro hs j st r d hd; simp[Cp] at hd
 |h s l rest aa ae=>
  intro hs j st r d hd
  rw[Cp]at hd
  rcases Bh.1 hd with hd|hd
  ·split at hd
   ·cases hd
   ·rcases BE.1 hd with rfl|hd
    ·simp
    ·have:=aa _ _ _ _ d hd
     simp at this
     omega
  ·exact ae _ _ _ _ d hd
theorem jP (t:Tm):(AN [] [] t).map (·.1)=Br t:=by
 have h:=VZ (λp (_:Tm)=>[p]) t (λp=>[p]) λ_ _ _=>rfl
 have e1:∀l:List Dn,l.flatMap (λd=>[d.1])=l.map (·.1):=λl=>by induction l with|nil=>rfl|cons a r ih=>rw[I8,BP,ih]; rfl
 have e2:∀l:List (List Int),l.flatMap (λp=>[p])=l:=λl=>by induction l with|nil=>rfl|cons a r ih=>rw[I8,ih]; rfl
 rw[e1,e2]at h
 exact h
theorem jQ (t:Tm) (i:Nat) (h:i<(AN [] [] t).length):((AN [] [] t)[i].1=[])↔i=0:=by
 constructor
 ·intro e
  cases i with
  |zero=>rfl
  |succ i=>
   have e2:(AN [] [] t)[i+1]∈Cp [] 0 (Cj []) ([]:List Int).tail t.args:=by
    show(Cp [] 0 (Cj []) ([]:List Int).tail t.args)[i]'_∈_
    exact AW _
   have:=jO _ _ _ _ _ _ e2
   rw[e]at this
   simp at this
 ·intro e
  subst e
  rfl
theorem TT:∀ {i:Nat},i<201->Bf (DB 80 i)=true/\Bf (DB 81 i)=true:=by decide +kernel
theorem jR {D:ByteArray->Prop} {f:ByteArray->ByteArray} (hf:DH D f) (hn:∀n,D n->Bf n=true->Bf (f n)=true) (l:List Tm):AC D l->Ah l=0->Ah (Bk f l)=0:=by
 induction l using Tm.indL with
 |h0=>intro _ _; simp[Bk,Ah]
 |h s l r ag aa=>
  intro hd he
  obtain⟨d1,d2,d3⟩:=AC.cons.1 hd
  have ae:D s:=d1
  obtain⟨h1,h2,h3⟩:=IF he
  have af:=hn s ae (Jp he)
  have hv:=hf.var s ae
  by_cases hs:Ak s=true
  ·have hl:=h1 hs
   subst hl
   simp[Bk,Ah,af,aa d3 h3]
  ·have hs2:Ak s=false:=by simpa using hs
   simp[Bk,Ah,af,hv,hs2,ag d2 h2,aa d3 h3]
theorem Lq {D:ByteArray->Prop} {f:ByteArray->ByteArray} (hf:DH D f) (hn:∀n,D n->Bf n=true->Bf (f n)=true) {t:Tm} (hd:AC D [t]) (he:Ah [t]=0):Ah [AK f t]=0:=by
 have h:=jR hf hn [t] hd he
 rw[Es,G4 f []]at h
 exact h
theorem TU (p:Pr):(CH p).length<=Ab [p.l]:=Ni [p.l]
theorem jS {o n:Pr} (ho:Bt o=0) (hn:Bt n=0):∀x,I0 o n x->Bf x=true->Bf (C4 o n x)=true:=by
 intro x hx aa
 obtain⟨ol,-,-,-⟩:=Ep ho
 obtain⟨nl,-,-,-⟩:=Ep hn
 have z1:=CD ol
 have z2:=CD nl
 have l1:=TU o
 have l2:=TU n
 rcases hx with hx|⟨k,hk,rfl⟩
 ·rwa [G6 hx]
 ·rcases Ta ho hn hk with ⟨v,hv,rfl⟩|⟨v,hv,rfl⟩
  ·rw[Lf hk hv]
   have:=JI hv
   exact(TT (by omega)).1
  ·rw[Lg hk hv]
   have:=JI hv
   exact(TT (by omega)).2
theorem TW {D:ByteArray->Prop}:∀(p:List Int) (t x:Tm),AC D [t]->AU t p=some x->AC D [x]
 | [],t,x,h,e=>by simp only[AU,GI] at e; rw[<-e]; exact h
 |i::r,t,x,h,e=>by
  unfold AU at e
  split at e
  ·exact TW r _ x (AC.all.1 (AC.one.1 h).2 _ (AW _)) e
  ·cases e
theorem TX {D:ByteArray->Prop} {g:Tm->Tm} (i:Int):∀(l:List Tm) (j:Nat),AC D l->(∀a∈l,AC D [a]->AC D [g a])->AC D (BN g i j l)
 | [],j,h,_=>h
 |a::l,j,h,hg=>by
  obtain⟨a1,a2,a3⟩:=AC.cons.1 h
  have ha:=AC.one.2 ⟨a1,a2⟩
  have hr:=TX i l (j+1) a3 λb hb=>hg b (by simp[hb])
  rw[BN]
  split
  ·have h2:=AC.one.1 (hg a (by simp) ha)
   exact AC.cons.2 ⟨h2.1,h2.2,hr⟩
  ·exact AC.cons.2 ⟨a1,a2,hr⟩
theorem TY {D:ByteArray->Prop} {y:Tm} (hy:AC D [y]):∀(p:List Int) (t:Tm),AC D [t]->AC D [AM y p t]
 | [],t,_=>hy
 |i::r,t,h=>AC.one.2 ⟨(AC.one.1 h).1,TX i _ 0 (AC.one.1 h).2 λa _ ha=>TY hy r a ha⟩
structure Lr (o n:Pr) (d:Dn) (x:Tm):Prop where
 pl:AU (Do 80 o).l d.1=some x
 vr:Ak x.name=true->∀same,CT AD (Av o n) same d=true
 sv:Ak x.name=false->∀same,(CT AD (Av o n) same d=false↔¬(d.1=[]/\same=true)/\(C2 (AD [⟨d.2,(Av o n).2.l⟩])=0∨C2 (AD [⟨d.2,(Av o n).2.l⟩])=8))
 pe:Cl [⟨x,(Do 81 n).l⟩]=0
 un:∃g R,AR true g [] [⟨x,(Do 81 n).l⟩]=some R/\R.1=C2 (AD [⟨d.2,(Av o n).2.l⟩])/\(R.1=0->
  (Ah [Ag R.2 (Do 80 o).r]=0/\Ah [Ag R.2 (AM (Do 81 n).r d.1 (Do 80 o).l)]=0)/\(Ab [Ag R.2 (Do 80 o).r]=Ab [(DT AD (Av o n) d).l]/\Ab [Ag R.2 (AM (Do 81 n).r d.1 (Do 80 o).l)]=Ab [(DT AD (Av o n) d).r])/\(Ba [] [Ag R.2 (Do 80 o).r,Ag R.2 (AM (Do 81 n).r d.1 (Do 80 o).l)]).1=[(DA (DT AD (Av o n) d)).l,(DA (DT AD (Av o n) d)).r])
theorem jT {x l:Tm} (hx:Ak x.name=false) (hl:Ak l.name=false) (hz:Ab [x]<=2000) (hz2:Ab [l]<=2000) (he:Ah (Aw [⟨x,l⟩])=0) (h:¬EW x l=true):C2 (AD [⟨x,l⟩])=5:=by
 obtain⟨g,hg⟩:=Nu he
 cases g with
 |zero=>cases hg
 |succ g=>
  rw[AR,EQ]at hg
  have e:∀t:Tm,Ag [] t=t:=λt=>by
   have:=GY (s:=[]) [t] (by simp)
   rw[Bb]at this
   exact(List.cons.inj this).1
  have h2:¬(x.name=l.name/\x.args.length=l.args.length):=λhh=>h (by unfold EW; rw[hh.1,hh.2]; simp)
  simp only[e] at hg
  unfold Bg at hg
  rw[An (by omega),An (by rw[hx]; simp),An (by rw[hl]; simp),An h2]at hg
  have e2:AD [⟨x,l⟩]=(5,[]):=(I7 hg).symm
  rw[e2]
  rfl
theorem jU {o n:Pr} (ho:Bt o=0) (hn:Bt n=0) {d:Dn} (hd:d∈AN [] [] (Av o n).1.l):Lr o n d (AK (C4 o n) d.2):=by
 obtain⟨ol,or,ov,-⟩:=Ep ho
 obtain⟨nl,nr,nv,-⟩:=Ep hn
 have aa:=fC ho hn
 have ag:=jS ho hn
 obtain⟨⟨e1,e2⟩,hD⟩:=Tc ho hn
 obtain⟨⟨a1,a2⟩,b1,b2⟩:=IQ (o:=o) (n:=n) ⟨ol,or⟩ ⟨nl,nr⟩
 have ai:Ak (Av o n).2.l.name=false:=by
  have h:=(eR (p:=o) (q:=n)).2
  obtain⟨M,h⟩:=h
  rw[h,Z9 _ nv]; exact nv
 obtain⟨p,hp,hat⟩:=P8 hd
 rw[DY]at hp
 have dA:=hD (Av o n).1 (by simp)
 have dB:=hD (Av o n).2 (by simp)
 have hmx:=Sd a1 hat
 have dx:=TW p _ _ dA.1 hat
 generalize hab:Av o n=ab at *
 obtain⟨a,b⟩:=ab
 simp only at *
 have aj:(Do 80 o).l=AK (C4 o n) a.l:=by rw[<-e1]; rfl
 have ax:(Do 80 o).r=AK (C4 o n) a.r:=by rw[<-e1]; rfl
 have ak:(Do 81 n).l=AK (C4 o n) b.l:=by rw[<-e2]; rfl
 have ay:(Do 81 n).r=AK (C4 o n) b.r:=by rw[<-e2]; rfl
 have ex:=Dz hmx
 have aA:=CD hmx
 have aB:=CD b1
 have ah:Ah (Aw [(⟨d.2,b.l⟩:Pr)])=0:=by
  have e:Aw [(⟨d.2,b.l⟩:Pr)]=[d.2]++[b.l]:=by simp[Aw]
  rw[e]; exact GZ.2 ⟨ex,Dz b1⟩
 have ao:Cl [⟨AK (C4 o n) d.2,AK (C4 o n) b.l⟩]=0:=by
  refine Se ?_ ?_
  ·unfold Az; rw[F5,An (by omega)]; exact Lq aa ag dx ex
  ·unfold Az; rw[F5,An (by omega)]; exact Lq aa ag dB.1 (Dz b1)
 have aq:Ak (AK (C4 o n) d.2).name=Ak d.2.name:=aa.var _ (AC.one.1 dx).1
 refine⟨by rw[aj,TQ,hp,hat]; rfl,λhv same=>?_,λhv same=>?_,by rw[ak]; exact ao,?_⟩
 ·rw[aq]at hv
  have hl:EW d.2 b.l=false:=by
   unfold EW
   have hne:d.2.name≠b.l.name:=λe=>by rw[e,ai] at hv; cases hv
   have:(d.2.name.toList==b.l.name.toList)=false:=by
    rw[DL]
    exact λe=>hne (Ej e)
   rw[this]; rfl
  unfold CT
  simp only[hab,hl]
  simp
 ·rw[aq]at hv
  unfold CT
  simp only[hab]
  by_cases hl:EW d.2 b.l=true
  ·rw[hl]
   cases same<;>simp[Classical.or_iff_not_imp_left]
  ·have h5:=jT hv ai (by omega) (by omega) ah hl
   rw[h5]
   simp[hl]
 ·rw[ak,ax,ay,aj,<-TS]
  obtain⟨g,hg⟩:=Nu ah
  have az:F6 (I0 o n) (C4 o n) [] []:=⟨IB,λd hd=>(by cases hd),JM _⟩
  obtain⟨R,hR,a6,ae⟩:=Su aa g az ah (λq hq=>by
   have e:q=⟨d.2,b.l⟩:=by simpa using hq
   rw[e]; exact⟨dx,dB.1⟩) hg
  have a7:AR false g [] [⟨AK (C4 o n) d.2,AK (C4 o n) b.l⟩]=some R:=hR
  obtain⟨g2,Q,Q',hQ,hQ',ar,au⟩:=ZJ ao
  have eQ:=M1 g g2 _ _ _ _ a7 hQ
  subst eQ
  have av:=ZZ ae
  refine⟨g2,Q',hQ',?_,λh0=>?_⟩
  ·simp only[hab]
   unfold C2
   by_cases hh:AE R.2=true
   ·rw[ar hh,As (by rw[<-av]; exact hh)]
   ·rw[au (by simpa using hh),An (by rw[<-av]; exact hh),a6]
  ·have hh:AE R.2=false:=by
    cases hc:AE R.2 with
    |false=>rfl
    |true=>rw[ar hc] at h0; cases h0
   rw[au hh]
   have a8:AC (I0 o n) [AM b.r d.1 a.l]:=TY dB.2 _ _ dA.1
   have af:Ah [AM b.r d.1 a.l]=0:=by rw[hp]; exact(Qk (Dz b2) p _ _ (Dz a1) hat).1
   have o1:=ae.on aa dA.2
   have o2:=ae.on aa a8
   have x1:=Ed ae.ok (Dz a2)
   have x2:=Ed ae.ok af
   have aw:EH (AD [⟨d.2,b.l⟩]).2:=λd hd=>(ae.ok.2.1 d hd).1
   have eW:DT AD (a,b) d=⟨Ag (AD [⟨d.2,b.l⟩]).2 a.r,Ag (AD [⟨d.2,b.l⟩]).2 (AM b.r d.1 a.l)⟩:=by
    unfold DT
    simp only
    rw[TP aw (Dz a2),TP aw af]
   rw[hab,eW,o1.1,o2.1,F5,F5]
   refine⟨⟨Lq aa ag o1.2 x1,Lq aa ag o2.2 x2⟩,⟨rfl,rfl⟩,?_⟩
   rw[fF aa (λ_=>G6) o1.2 o2.2]
end Go.Proofs.YtlkeafenklamjaaGreatDoor

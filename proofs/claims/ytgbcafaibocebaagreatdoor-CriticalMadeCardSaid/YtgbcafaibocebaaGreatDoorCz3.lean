import Derived.Test.YtgbcafaibocebaaGreatDoorOv13
namespace Go.Proofs.YtgbcafaibocebaaGreatDoor
set_option linter.all false
set_option maxRecDepth 20000
set_option maxHeartbeats 8000000
open Go.RowKit
theorem UQ (f:ByteArray->ByteArray):∀(p:List Int) (t:Tm),AV (AM f t) p=(AV t p).map (AM f)
 | [],t=>rfl
 |i::r,t=>by
  have a:(AM f t).args.length=t.args.length:=NI f t.args;unfold AV;by_cases h:0<=i/\i.toNat<t.args.length
  ·have h':0<=i/\i.toNat<(AM f t).args.length:=⟨h.1,by rw[a]; exact h.2⟩;have e:(AM f t).args[i.toNat]'(h'.2)=AM f (t.args[i.toNat]'h.2):=(by have b:(AM f t).args=t.args.map (AM f):=Hs f t.args;simp only[b,Jz]);rw[D7 h,D7 h',e];exact UQ f r _
  ·have h':¬(0<=i/\i.toNat<(AM f t).args.length):=by rw[a]; exact h
   rw[dif_neg h,dif_neg h'];rfl
theorem mJ (f:ByteArray->ByteArray) (l:List Tm):∀j,Cd j (Bk f l)=Cd j l:=by
 induction l using Tm.indL with
 |h0=>intro j; simp only[Bk]
 |h s l r aa ab=>intro j; simp only[Bk,Cd,aa,ab]
theorem mK (f:ByteArray->ByteArray) (t:Tm):Bs (AM f t)=Bs t:=by
 unfold Bs;show []::Cd 0 (Bk f t.args)=_;rw[mJ]
theorem UR (f:ByteArray->ByteArray) {g g':Tm->Tm} (h:∀a,AM f (g a)=g' (AM f a)) (i:Int):∀(l:List Tm) (j:Nat),Bk f (BR g i j l)=BR g' i j (Bk f l)
 | [],j=>by simp[BR,Bk]
 |a::l,j=>by
  rw[BR,EH,EH,BR,UR f h i l (j+1)];split
  ·rw[h]
  ·rfl
theorem US (f:ByteArray->ByteArray) (y:Tm):∀(p:List Int) (t:Tm),AM f (AP y p t)=AP (AM f y) p (AM f t)
 | [],t=>rfl
 |i::r,t=>by
  show(⟨f t.name,Bk f (BR (AP y r) i 0 t.args)⟩:Tm)=⟨f t.name,BR (AP (AM f y) r) i 0 (Bk f t.args)⟩;rw[UR f (US f y r)]
theorem mL (l:List Tm):∀(hs:List Int) (j st:Nat) (r:List Int),∀d∈Ct hs j st r l,hs.length<d.1.length:=by
 induction l using Tm.indL with
 |h0=>intro hs j st r d hd; simp[Ct] at hd
 |h s l rest aa ab=>
  intro hs j st r d hd;rw[Ct]at hd;rcases Bg.1 hd with hd|hd
  ·split at hd
   ·cases hd
   ·rcases Bq.1 hd with rfl|hd
    ·simp
    ·have:=aa _ _ _ _ d hd;simp at this;omega
  ·exact ab _ _ _ _ d hd
theorem mM (t:Tm):(AQ [] [] t).map (·.1)=Bs t:=by
 have h:=W6 (λp (_:Tm)=>[p]) t (λp=>[p]) λ_ _ _=>rfl;have c:∀l:List Dn,l.flatMap (λd=>[d.1])=l.map (·.1):=λl=>by induction l with|nil=>rfl|cons a r b=>rw[JC,Cb,b]; rfl
 have e:∀l:List (List Int),l.flatMap (λp=>[p])=l:=λl=>by induction l with|nil=>rfl|cons a r b=>rw[JC,b]; rfl
 rw[c,e]at h;exact h
theorem mN (t:Tm) (i:Nat) (h:i<(AQ [] [] t).length):((AQ [] [] t)[i].1=[])↔i=0:=by
 constructor
 ·intro e;cases i with
  |zero=>rfl
  |succ i=>have a:(AQ [] [] t)[i+1]∈Ct [] 0 (Cl []) ([]:List Int).tail t.args:=(by show(Ct [] 0 (Cl []) ([]:List Int).tail t.args)[i]'_∈_;exact AN _);have:=mL _ _ _ _ _ _ a;rw[e]at this;simp at this
 ·intro e;subst e;rfl
theorem UT:∀ {i:Nat},i<201->AW (DK 80 i)=true/\AW (DK 81 i)=true:=by decide +kernel
theorem mO {D:ByteArray->Prop} {f:ByteArray->ByteArray} (b:DQ D f) (hn:∀n,D n->AW n=true->AW (f n)=true) (l:List Tm):AD D l->Ah l=0->Ah (Bk f l)=0:=by
 induction l using Tm.indL with
 |h0=>intro _ _; simp[Bk,Ah]
 |h s l r c aa=>
  intro hd he;obtain⟨d1,d2,d3⟩:=AD.cons.1 hd;have ab:D s:=d1;obtain⟨h1,h2,h3⟩:=I2 he;have a:=hn s ab (JY he);have hv:=b.var s ab;by_cases hs:Al s=true
  ·have d:=h1 hs;subst d;simp[Bk,Ah,a,aa d3 h3]
  ·have e:Al s=false:=(by simpa using hs);simp[Bk,Ah,a,hv,e,c d2 h2,aa d3 h3]
theorem LZ {D:ByteArray->Prop} {f:ByteArray->ByteArray} (a:DQ D f) (hn:∀n,D n->AW n=true->AW (f n)=true) {t:Tm} (hd:AD D [t]) (he:Ah [t]=0):Ah [AM f t]=0:=by
 have h:=mO a hn [t] hd he;rw[EH,Hs f []]at h;exact h
theorem UU (p:Pr):(CQ p).length<=Ab [p.l]:=NU [p.l]
theorem mP {o n:Pr} (ho:Bv o=0) (hn:Bv n=0):∀x,Jt o n x->AW x=true->AW (C9 o n x)=true:=by
 intro x hx aa;obtain⟨ol,-,-,-⟩:=ED ho;obtain⟨nl,-,-,-⟩:=ED hn;have z1:=CM ol;have z2:=CM nl;have l1:=UU o;have l2:=UU n;rcases hx with hx|⟨k,hk,rfl⟩
 ·rwa [Hu hx]
 ·rcases Ub ho hn hk with ⟨v,hv,rfl⟩|⟨v,hv,rfl⟩
  ·rw[LM hk hv];have:=Kg hv;exact(UT (by omega)).1
  ·rw[LN hk hv];have:=Kg hv;exact(UT (by omega)).2
theorem UV {D:ByteArray->Prop}:∀(p:List Int) (t x:Tm),AD D [t]->AV t p=some x->AD D [x]
 | [],t,x,h,e=>by simp only[AV,H7] at e; rw[<-e]; exact h
 |i::r,t,x,h,e=>by
  unfold AV at e;split at e
  ·exact UV r _ x (AD.all.1 (AD.one.1 h).2 _ (AN _)) e
  ·cases e
theorem UW {D:ByteArray->Prop} {g:Tm->Tm} (i:Int):∀(l:List Tm) (j:Nat),AD D l->(∀a∈l,AD D [a]->AD D [g a])->AD D (BR g i j l)
 | [],j,h,_=>h
 |a::l,j,h,c=>by
  obtain⟨a1,a2,a3⟩:=AD.cons.1 h;have e:=AD.one.2 ⟨a1,a2⟩;have d:=UW i l (j+1) a3 λb hb=>c b (by simp[hb]);rw[BR];split
  ·have h2:=AD.one.1 (c a (by simp) e);exact AD.cons.2 ⟨h2.1,h2.2,d⟩
  ·exact AD.cons.2 ⟨a1,a2,d⟩
theorem UX {D:ByteArray->Prop} {y:Tm} (hy:AD D [y]):∀(p:List Int) (t:Tm),AD D [t]->AD D [AP y p t]
 | [],t,_=>hy
 |i::r,t,h=>AD.one.2 ⟨(AD.one.1 h).1,UW i _ 0 (AD.one.1 h).2 λa _ b=>UX hy r a b⟩
structure L0 (o n:Pr) (d:Dn) (x:Tm):Prop where
 pl:AV (Dw 80 o).l d.1=some x
 vr:Al x.name=true->∀same,C0 AE (Av o n) same d=true
 sv:Al x.name=false->∀same,(C0 AE (Av o n) same d=false↔¬(d.1=[]/\same=true)/\(C6 (AE [⟨d.2,(Av o n).2.l⟩])=0∨C6 (AE [⟨d.2,(Av o n).2.l⟩])=8))
 pe:Co [⟨x,(Dw 81 n).l⟩]=0
 un:∃g R,AU true g [] [⟨x,(Dw 81 n).l⟩]=some R/\R.1=C6 (AE [⟨d.2,(Av o n).2.l⟩])/\(R.1=0->
  (Ah [Ag R.2 (Dw 80 o).r]=0/\Ah [Ag R.2 (AP (Dw 81 n).r d.1 (Dw 80 o).l)]=0)/\(Ab [Ag R.2 (Dw 80 o).r]=Ab [(D1 AE (Av o n) d).l]/\Ab [Ag R.2 (AP (Dw 81 n).r d.1 (Dw 80 o).l)]=Ab [(D1 AE (Av o n) d).r])/\(Ba [] [Ag R.2 (Dw 80 o).r,Ag R.2 (AP (Dw 81 n).r d.1 (Dw 80 o).l)]).1=[(DI (D1 AE (Av o n) d)).l,(DI (D1 AE (Av o n) d)).r])
theorem mQ {x l:Tm} (hx:Al x.name=false) (c:Al l.name=false) (hz:Ab [x]<=2000) (aa:Ab [l]<=2000) (he:Ah (Ax [⟨x,l⟩])=0) (h:¬EX x l=true):C6 (AE [⟨x,l⟩])=5:=by
 obtain⟨g,a⟩:=N9 he;cases g with
 |zero=>cases a
 |succ g=>
  rw[AU,E8]at a;have e:∀t:Tm,Ag [] t=t:=λt=>by
   have:=Hn (s:=[]) [t] (by simp);rw[Bb]at this;exact(List.cons.inj this).1
  have h2:¬(x.name=l.name/\x.args.length=l.args.length):=λb=>h (by unfold EX; rw[b.1,b.2]; simp);simp only[e] at a;unfold Bh at a;rw[Aj (by omega),Aj (by rw[hx]; simp),Aj (by rw[c]; simp),Aj h2]at a;have d:AE [⟨x,l⟩]=(5,[]):=(H6 a).symm;rw[d];rfl
theorem mR {o n:Pr} (ho:Bv o=0) (hn:Bv n=0) {d:Dn} (hd:d∈AQ [] [] (Av o n).1.l):L0 o n d (AM (C9 o n) d.2):=by
 obtain⟨ol,or,ov,-⟩:=ED ho;obtain⟨nl,U,A,-⟩:=ED hn;have aa:=iY ho hn;have j:=mP ho hn;obtain⟨⟨B,C⟩,D⟩:=Uc ho hn;obtain⟨⟨a1,a2⟩,s,V⟩:=Jj (o:=o) (n:=n) ⟨ol,or⟩ ⟨nl,U⟩;have E:Al (Av o n).2.l.name=false:=by
  have h:=(iO (p:=o) (q:=n)).2;obtain⟨M,h⟩:=h;rw[h,gX _ A]; exact A
 obtain⟨p,hp,k⟩:=Qv hd;rw[D9]at hp;have t:=D (Av o n).1 (by simp);have u:=D (Av o n).2 (by simp);have F:=Tg a1 k;have v:=UV p _ _ t.1 k;generalize m:Av o n=ab at *;obtain⟨a,b⟩:=ab;simp only at *;have G:(Dw 80 o).l=AM (C9 o n) a.l:=by rw[<-B]; rfl
 have W:(Dw 80 o).r=AM (C9 o n) a.r:=by rw[<-B]; rfl
 have H:(Dw 81 n).l=AM (C9 o n) b.l:=by rw[<-C]; rfl
 have Y:(Dw 81 n).r=AM (C9 o n) b.r:=by rw[<-C]; rfl
 have ex:=DH F;have aB:=CM F;have aC:=CM s;have x:Ah (Ax [(⟨d.2,b.l⟩:Pr)])=0:=by
  have e:Ax [(⟨d.2,b.l⟩:Pr)]=[d.2]++[b.l]:=by simp[Ax]
  rw[e]; exact Ho.2 ⟨ex,DH s⟩
 have I:Co [⟨AM (C9 o n) d.2,AM (C9 o n) b.l⟩]=0:=by
  refine Th ?_ ?_
  ·unfold AA; rw[Gr,Aj (by omega)]; exact LZ aa j v ex
  ·unfold AA; rw[Gr,Aj (by omega)]; exact LZ aa j u.1 (DH s)
 have J:Al (AM (C9 o n) d.2).name=Al d.2.name:=aa.var _ (AD.one.1 v).1;refine⟨by rw[G,UQ,hp,k]; rfl,λhv same=>?_,λhv same=>?_,by rw[H]; exact I,?_⟩
 ·rw[J]at hv;have i:EX d.2 b.l=false:=by
   unfold EX;have Z:d.2.name≠b.l.name:=λe=>by rw[e,E] at hv; cases hv
   have:(d.2.name.toList==b.l.name.toList)=false:=by
    rw[DU];exact λe=>Z (Eu e)
   rw[this]; rfl
  unfold C0;simp only[m,i];simp
 ·rw[J]at hv;unfold C0;simp only[m];by_cases i:EX d.2 b.l=true
  ·rw[i];cases same<;>simp[Classical.or_iff_not_imp_left]
  ·have h5:=mQ hv E (by omega) (by omega) x i;rw[h5];simp[i]
 ·rw[H,W,Y,G,<-US];obtain⟨g,hg⟩:=N9 x;have az:Gs (Jt o n) (C9 o n) [] []:=⟨Ja,λd hd=>(by cases hd),Kj _⟩;obtain⟨R,hR,a6,c⟩:=Tz aa g az x (λq hq=>by
   have e:q=⟨d.2,b.l⟩:=(by simpa using hq);rw[e]; exact⟨v,u.1⟩) hg
  have a7:AU false g [] [⟨AM (C9 o n) d.2,AM (C9 o n) b.l⟩]=some R:=hR;obtain⟨g2,Q,Q',hQ,a8,L,N⟩:=fV I;have eQ:=NF g g2 _ _ _ _ a7 hQ;subst eQ;have O:=gP c;refine⟨g2,Q',a8,?_,λh0=>?_⟩
  ·simp only[m];unfold C6;by_cases f:AF R.2=true
   ·rw[L f,Ar (by rw[<-O]; exact f)]
   ·rw[N (by simpa using f),Aj (by rw[<-O]; exact f),a6]
  ·have f:AF R.2=false:=by
    cases hc:AF R.2 with
    |false=>rfl
    |true=>rw[L hc] at h0; cases h0
   rw[N f];have aA:AD (Jt o n) [AP b.r d.1 a.l]:=UX u.2 _ _ t.1;have P:Ah [AP b.r d.1 a.l]=0:=by rw[hp]; exact(Rb (DH V) p _ _ (DH a1) k).1
   have y:=c.on aa t.2;have z:=c.on aa aA;have x1:=En c.ok (DH a2);have x2:=En c.ok P;have T:ES (AE [⟨d.2,b.l⟩]).2:=λd hd=>(c.ok.2.1 d hd).1;have eW:D1 AE (a,b) d=⟨Ag (AE [⟨d.2,b.l⟩]).2 a.r,Ag (AE [⟨d.2,b.l⟩]).2 (AP b.r d.1 a.l)⟩:=(by unfold D1;simp only;rw[UN T (DH a2),UN T P]);rw[m,eW,y.1,z.1,Gr,Gr];refine⟨⟨LZ aa j y.2 x1,LZ aa j z.2 x2⟩,⟨rfl,rfl⟩,?_⟩;rw[jB aa (λ_=>Hu) y.2 z.2]

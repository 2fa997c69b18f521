/- Several texts in one. -/
import Derived.Test.YtgbcafaibocebaaGreatDoorOv8
namespace Go.Proofs.YtgbcafaibocebaaGreatDoor
set_option linter.all false
set_option maxRecDepth 20000
set_option maxHeartbeats 8000000
open Go.RowKit Go.Proofs.Tryz
def Bk (f:ByteArray->ByteArray):List Tm->List Tm
 | []=>[]
 | ⟨s,l⟩::r=>⟨f s,Bk f l⟩::Bk f r
def AM (f:ByteArray->ByteArray) (t:Tm):Tm:=⟨f t.name,Bk f t.args⟩
def Fe (f:ByteArray->ByteArray) (d:Bd):Bd:=⟨f d.nm,AM f d.t⟩
def G1 (f:ByteArray->ByteArray) (p:Pr):Pr:=⟨AM f p.l,AM f p.r⟩
theorem EH (f:ByteArray->ByteArray) (t:Tm) (r:List Tm):Bk f (t::r)=AM f t::Bk f r:=by
 obtain⟨s,l⟩:=t;simp only[Bk,AM]
theorem Hs (f:ByteArray->ByteArray):∀l,Bk f l=l.map (AM f)
 | []=>by simp[Bk]
 |t::r=>by rw[EH,Hs f r]; rfl
theorem NI (f:ByteArray->ByteArray) (l:List Tm):(Bk f l).length=l.length:=by rw[Hs]; simp
theorem gB (f:ByteArray->ByteArray) (l:List Tm):Ab (Bk f l)=Ab l:=by
 induction l using Tm.indL with
 |h0=>simp[Bk]
 |h s l r aa ab=>simp only[Bk,Ab,aa,ab]
theorem Gr (f:ByteArray->ByteArray) (t:Tm):Ab [AM f t]=Ab [t]:=by
 have:=gB f [t];rw[EH,Hs f []]at this;exact this
theorem gC (f:ByteArray->ByteArray) (l:List Tm):(Bk f l).isEmpty=l.isEmpty:=by
 rw[Hs]; simp
def AD (D:ByteArray->Prop) (l:List Tm):Prop:=∀k∈Ao l,D k.name
theorem AD.cons {D:ByteArray->Prop} {t:Tm} {r:List Tm}:AD D (t::r)↔D t.name/\AD D t.args/\AD D r:=by
 obtain⟨s,l⟩:=t;unfold AD;simp only[Ao,Bq,Bg];constructor
 ·intro h;exact⟨h ⟨s,l⟩ (Ad rfl),λk hk=>h k (Ae (Ad hk)),λk hk=>h k (Ae (Ae hk))⟩
 ·rintro⟨h1,h2,h3⟩ k (rfl|hk|hk)
  ·exact h1
  ·exact h2 k hk
  ·exact h3 k hk
theorem AD.nil {D:ByteArray->Prop}:AD D []:=λk hk=>by simp[Ao] at hk
theorem AD.one {D:ByteArray->Prop} {t:Tm}:AD D [t]↔D t.name/\AD D t.args:=by
 rw[AD.cons];exact⟨λh=>⟨h.1,h.2.1⟩,λh=>⟨h.1,h.2,AD.nil⟩⟩
theorem AD.all {D:ByteArray->Prop}:∀ {l:List Tm},AD D l↔∀t∈l,AD D [t]
 | []=>by simp[AD.nil]
 |t::r=>by
  rw[AD.cons,AD.all (l:=r)];simp only[Bq,forall_eq_or_imp,AD.one];exact⟨λh=>⟨⟨h.1,h.2.1⟩,h.2.2⟩,λh=>⟨h.1.1,h.1.2,h.2⟩⟩
def G2 (D:ByteArray->Prop) (s:List Bd):Prop:=∀d∈s,D d.nm/\AD D [d.t]
def Iw (D:ByteArray->Prop) (l:List Pr):Prop:=∀p∈l,AD D [p.l]/\AD D [p.r]
structure nU (D:ByteArray->Prop) (f:ByteArray->ByteArray):Prop where
 inj:∀a b,D a->D b->f a=f b->a=b
 var:∀a,D a->Al (f a)=Al a
 lt:∀a b,D a->D b->Cw (f a) (f b)=Cw a b
theorem To {D:ByteArray->Prop} {n:ByteArray} {x:Tm}:∀ {s:List Bd},G2 D s->As s n=some x->AD D [x]
 | [],_,h=>by cases h
 |d::r,h,e=>by
  simp only[As] at e;split at e
  ·cases e; exact(h d (by simp)).2
  ·exact To (λe he=>h e (by simp[he])) e
theorem Tp {x:ByteArray} {l:List ByteArray}:AJ x l=true↔x∈l:=by
 unfold AJ;rw[Ei];constructor
 ·rintro⟨y,hy,e⟩;have a:y.toList=x.toList:=by simpa using e
  have b:y=x:=(by have h:=Bx List.toArray a;rw[G3,G3]at h;cases y; cases x;simpa using h);exact b▸hy
 ·intro h;exact⟨x,h,by simp⟩
theorem gD (f:ByteArray->ByteArray) (l:List Tm):(Ao (Bk f l)).map (·.name)=((Ao l).map (·.name)).map f:=by
 induction l using Tm.indL with
 |h0=>simp[Bk,Ao]
 |h s l r aa ab=>simp only[Bk,Ao,Cb,Cr,aa,ab]
theorem Tq (acc:List ByteArray):∀ks:List Tm,At acc ks=(ks.map (·.name)).foldl Bl acc:=λks=>by
 unfold At;rw[List.foldl_map]
theorem gE (f:ByteArray->ByteArray) (s:List Bd):AF (s.map (Fe f))=AF s:=by
 unfold AF;rw[List.any_map];congr 1
 funext d
 simp only[Function.comp,Fe,Gr]
theorem Tr (f:ByteArray->ByteArray):∀a b:List Tm,Az (Bk f a) (Bk f b)=(Az a b).map (G1 f)
 | [],_=>by simp[Bk,Az]
 |t::r,[]=>by rw[EH]; simp[Bk,Az]
 |t::r,u::q=>by rw[EH,EH]; simp only[Az,Cb]; rw[Tr f r q]; rfl
theorem Ts {D:ByteArray->Prop}:∀ {a b:List Tm},AD D a->AD D b->Iw D (Az a b)
 | [],_,_,_=>λp hp=>by simp[Az] at hp
 |t::r,[],_,_=>λp hp=>by simp[Az] at hp
 |t::r,u::q,c,hb=>λp hp=>by
  obtain⟨a1,a2,a3⟩:=AD.cons.1 c;obtain⟨d,e,f⟩:=AD.cons.1 hb;simp only[Az] at hp;rcases Bq.1 hp with rfl|hp
  ·exact⟨AD.one.2 ⟨a1,a2⟩,AD.one.2 ⟨d,e⟩⟩
  ·exact Ts a3 f p hp
structure DQ (D:ByteArray->Prop) (f:ByteArray->ByteArray):Prop where
 inj:∀a b,D a->D b->f a=f b->a=b
 var:∀a,D a->Al (f a)=Al a
theorem Tt {D:ByteArray->Prop} {f:ByteArray->ByteArray} (a:DQ D f) {n:ByteArray} (hn:D n):∀ {s:List Bd},G2 D s->As (s.map (Fe f)) (f n)=(As s n).map (AM f)
 | [],_=>rfl
 |d::r,h=>by
  have h1:=h d (by simp);have b:=Tt a hn (s:=r) λe he=>h e (by simp[he]);simp only[Cb,As,Fe];by_cases e:d.nm=n
  ·rw[Ar e,Ar (by rw[e])]; rfl
  ·rw[Aj e,Aj (λc=>e (a.inj _ _ h1.1 hn c)),<-b]
theorem gF {D:ByteArray->Prop} {f:ByteArray->ByteArray} (a:DQ D f) {s:List Bd} (hs:G2 D s) (l:List Tm):AD D l->Ap (s.map (Fe f)) (Bk f l)=Bk f (Ap s l)/\AD D (Ap s l):=by
 induction l using Tm.indL with
 |h0=>intro _; simp only[Bk,Ap]; exact⟨trivial,AD.nil⟩
 |h n l r ab b=>
  intro h;obtain⟨h1,h2,h3⟩:=AD.cons.1 h;obtain⟨c,i2⟩:=ab h2;obtain⟨i3,i4⟩:=b h3;have aa:D n:=h1;simp only[Bk,Ap];rw[c,i3,EH];have key:E7 (s.map (Fe f)) (f n) (Bk f l) (Bk f (Ap s l))=AM f (E7 s n l (Ap s l))/\AD D [E7 s n l (Ap s l)]:=by
   unfold E7;rw[Tt a aa hs];cases hq:As s n with
   |none=>exact⟨rfl,AD.one.2 ⟨aa,i2⟩⟩
   |some x=>
    simp only[Option.map_some,gC];cases l.isEmpty with
    |true=>exact⟨rfl,To hs hq⟩
    |false=>exact⟨rfl,AD.one.2 ⟨aa,i2⟩⟩
  rw[key.1];exact⟨rfl,AD.cons.2 ⟨(AD.one.1 key.2).1,(AD.one.1 key.2).2,i4⟩⟩
theorem NJ {D:ByteArray->Prop} {f:ByteArray->ByteArray} (a:DQ D f) {s:List Bd} (hs:G2 D s) {t:Tm} (ht:AD D [t]):Ag (s.map (Fe f)) (AM f t)=AM f (Ag s t)/\AD D [Ag s t]:=by
 have h:=gF a hs [t] ht;rw[EH,Bb,Bb,EH]at h;simp only[Ap] at h;exact⟨(List.cons.inj h.1).1,h.2⟩
theorem Tu {D:ByteArray->Prop} {f:ByteArray->ByteArray} (a:DQ D f) {x:ByteArray} (hx:D x) {l:List ByteArray} (b:∀y∈l,D y):AJ (f x) (l.map f)=AJ x l:=by
 rw[FL,Tp,Tp,Ce];constructor
 ·rintro⟨y,hy,e⟩;rw[<-a.inj _ _ (b y hy) hx e];exact hy
 ·intro h;exact⟨x,h,rfl⟩
theorem gG {D:ByteArray->Prop} {f:ByteArray->ByteArray} (b:DQ D f) {x:ByteArray} (hx:D x) {l:List ByteArray} (a:∀y∈l,D y):Bl (l.map f) (f x)=(Bl l x).map f/\∀y∈Bl l x,D y:=by
 unfold Bl;rw[b.var x hx,Tu b hx a];split
 ·refine⟨by simp,λy hy=>?_⟩;rcases Bg.1 hy with h|h
  ·exact a y h
  ·rw[GE.1 h]; exact hx
 ·exact⟨rfl,a⟩
theorem Tv {D:ByteArray->Prop} {f:ByteArray->ByteArray} (a:DQ D f):∀(ns acc:List ByteArray),(∀y∈ns,D y)->(∀y∈acc,D y)->(ns.map f).foldl Bl (acc.map f)=(ns.foldl Bl acc).map f/\∀y∈ns.foldl Bl acc,D y
 | [],acc,_,h=>⟨rfl,h⟩
 |n::r,acc,hn,h=>by
  have h1:=gG a (hn n (by simp)) h;simp only[Cb,List.foldl_cons];rw[h1.1];exact Tv a r _ (λy hy=>hn y (by simp[hy])) h1.2
theorem gH {D:ByteArray->Prop} {f:ByteArray->ByteArray} (a:DQ D f) {t:Tm} (ht:AD D [t]):At [] (Ao [AM f t])=(At [] (Ao [t])).map f/\∀y∈At [] (Ao [t]),D y:=by
 have e:Ao [AM f t]=Ao (Bk f [t]):=by rw[EH,Hs f []]; rfl
 rw[Tq,Tq,e,gD];refine Tv a _ [] (λy hy=>?_) (by simp);obtain⟨k,hk,rfl⟩:=Ce.1 hy;exact ht k hk
theorem gI {D:ByteArray->Prop} {f:ByteArray->ByteArray} (a:DQ D f) {x:ByteArray} (hx:D x) {t:Tm} (ht:AD D [t]) {s:List Bd} (hs:G2 D s):(s.map (Fe f)).map (Br (f x) (AM f t))=(s.map (Br x t)).map (Fe f)/\G2 D (s.map (Br x t)):=by
 have h1:G2 D [⟨x,t⟩]:=λd hd=>by rw[GE.1 hd]; exact⟨hx,ht⟩
 constructor
 ·rw[List.map_map,List.map_map];refine List.map_congr_left λd hd=>?_;have h:=NJ a h1 (hs d hd).2;simp only[Function.comp,Br,Fe];rw[show [(⟨f x,AM f t⟩:Bd)]=[(⟨x,t⟩:Bd)].map (Fe f) from rfl,h.1]
 ·intro d hd;obtain⟨d0,aa,rfl⟩:=Ce.1 hd;exact⟨(hs d0 aa).1,(NJ a h1 (hs d0 aa).2).2⟩
theorem gJ {a b:List Bd} (h:∀n,As a n=As b n) (l:List Tm):Ap a l=Ap b l:=by
 induction l using Tm.indL with
 |h0=>simp only[Ap]
 |h s l r aa ab=>simp only[Ap,aa,ab];unfold E7;rw[h]
theorem gK {a b:List Bd} (h:∀n,As a n=As b n) (t:Tm):Ag a t=Ag b t:=by
 have h1:=gJ h [t];rw[Bb,Bb]at h1;exact(List.cons.inj h1).1
theorem gM {D:ByteArray->Prop} {f:ByteArray->ByteArray} (a:DQ D f) {s:List Bd} (hs:G2 D s) (b:Cx s):Cx (s.map (Fe f)):=by
 refine Gc.2 (List.Pairwise.imp_of_mem ?_ b);intro d e hd he c h;exact c (a.inj _ _ (hs d hd).1 (hs e he).1 h)
structure Gs (D:ByteArray->Prop) (f:ByteArray->ByteArray) (s s':List Bd):Prop where
 ok:BG s
 dn:G2 D s
 pm:s'.Perm (s.map (Fe f))
theorem Gs.on {D:ByteArray->Prop} {f:ByteArray->ByteArray} {s s':List Bd} (h:Gs D f s s') (a:DQ D f) {t:Tm} (ht:AD D [t]):Ag s' (AM f t)=AM f (Ag s t)/\AD D [Ag s t]:=by
 have h1:=NJ a h.dn ht;rw[<-h1.1];exact⟨gK (λn=>QU h.pm (gM a h.dn h.ok.1) n) _,h1.2⟩
def Tw (D:ByteArray->Prop) (f:ByteArray->ByteArray) (u u':UO):Prop:=
 (∃e s s',u=.stop e s/\u'=.stop e s'/\Gs D f s s')∨∃s s' l,u=.go s l/\u'=.go s' (l.map (G1 f))/\Gs D f s s'/\Ah (Ax l)=0/\Iw D l
theorem Tx {D:ByteArray->Prop} {f:ByteArray->ByteArray} (a:DQ D f) {s s':List Bd} (h:Gs D f s s') {l:List Pr} (he:Ah (Ax l)=0) (b:Iw D l) {x:ByteArray} {t:Tm} (hx:D x) (ht:AD D [t]) (hv:Al x=true) (hn:∀d∈s,d.nm≠x) (het:Ah [t]=0) (c:∀e∈s,¬Au e.nm [t]):Tw D f (CI false s l x t) (CI false s' (l.map (G1 f)) (f x) (AM f t)):=by
 have ab:=gH a ht;have hp:=gI a hx ht h.dn;unfold CI;rw[ab.1,Tu a hx ab.2];by_cases aa:AJ x (At [] (Ao [t]))=true
 ·rw[Ar aa,Ar aa];exact Ad ⟨_,_,_,rfl,rfl,h⟩
 ·rw[Aj aa,Aj aa,Aj (by simp),Aj (by simp)];refine Ae ⟨_,_,_,rfl,rfl,⟨(Ls h.ok hv hn het c (Jc hv aa) he).1,?_,?_⟩,he,b⟩
  ·intro d hd;rcases Bg.1 ((EO _).subset hd) with hd|hd
   ·exact hp.2 d hd
   ·rw[GE.1 hd]; exact⟨hx,ht⟩
  ·refine(EO _).trans ?_;refine List.Perm.trans ?_ ((EO _).map (Fe f)).symm;rw[Cr,<-hp.1];exact(h.pm.map _).append (Kj _)
theorem gO {D:ByteArray->Prop} {f:ByteArray->ByteArray} (c:DQ D f) {s s':List Bd} (h:Gs D f s s') {l:List Pr} (he:Ah (Ax l)=0) (g:Iw D l) {a b:Tm} (j:AD D [a]) (hb:AD D [b]) (m:Ah [a]=0) (o:Ah [b]=0) (q:∀e∈s,¬Au e.nm [a]) (r:∀e∈s,¬Au e.nm [b]):Tw D f (Bh false s l a b) (Bh false s' (l.map (G1 f)) (AM f a) (AM f b)):=by
 obtain⟨a1,a2⟩:=AD.one.1 j;obtain⟨i,t⟩:=AD.one.1 hb;have e:(AM f a).name=(AM f b).name↔a.name=b.name:=⟨λh=>c.inj _ _ a1 i h,λh=>Bx f h⟩;have v:(AM f a).args.length=(AM f b).args.length↔a.args.length=b.args.length:=by
  show(Bk f a.args).length=(Bk f b.args).length↔_;rw[NI,NI]
 have aa:∀u:Tm,Au u.name [u]:=λu=>by obtain⟨n,k⟩:=u; exact Dm.2 (Ad rfl)
 have ab:∀u:Tm,Ah [u]=0->Ah u.args=0:=λu h=>by obtain⟨n,k⟩:=u; exact(GR h).2.1
 unfold Bh;rw[Gr,Gr,show Al (AM f a).name=Al a.name from c.var _ a1,show Al (AM f b).name=Al b.name from c.var _ i];simp only[e,v];split
 ·exact Ad ⟨_,_,_,rfl,rfl,h⟩
 ·split
  ·rename_i x;split
   ·exact Ae ⟨_,_,_,rfl,rfl,h,he,g⟩
   ·exact Tx c h he g a1 hb x (λd hd e=>q d hd (by rw[e]; exact aa a)) o r
  ·split
   ·rename_i y;exact Tx c h he g i j y (λd hd e=>r d hd (by rw[e]; exact aa b)) m q
   ·split
    ·refine Ae ⟨_,_,Az a.args b.args++l,rfl,?_,h,?_,λp hp=>?_⟩
     ·show UO.go _ (Az (Bk f a.args) (Bk f b.args)++_)=_;rw[Tr];simp
     ·rw[Gl];exact Ho.2 ⟨Iq (ab a m) (ab b o),he⟩
     ·rcases Bg.1 hp with h|h
      ·exact Ts a2 t p h
      ·exact g p h
    ·exact Ad ⟨_,_,_,rfl,rfl,h⟩
theorem Tz {D:ByteArray->Prop} {f:ByteArray->ByteArray} (a:DQ D f):∀(n:Nat) {s s':List Bd} (h:Gs D f s s') {l:List Pr} (he:Ah (Ax l)=0) (c:Iw D l) {R:Int×List Bd},AU false n s l=some R->∃d,AU false n s' (l.map (G1 f))=some d/\d.1=R.1/\Gs D f R.2 d.2
 |0,_,_,_,_,_,_,_,h=>by cases h
 |n+1,s,s',hs,[],_,_,R,h=>by
  simp only[AU,Ez] at h;cases h;exact⟨_,rfl,rfl,hs⟩
 |n+1,s,s',hs,p::l,he,c,R,h=>by
  obtain⟨j,b⟩:=Cu.1 he;obtain⟨b,t⟩:=Cu.1 b;have hp:=c p (by simp);have aa:Iw D l:=λq hq=>c q (by simp[hq]);have m:=hs.on a hp.1;have o:=hs.on a hp.2;have k:=gO a hs t aa m.2 o.2 (En hs.ok j) (En hs.ok b) (hs.ok.goneT j) (hs.ok.goneT b);rw[AU,E8]at h;rw[AU,Cb,E8,show(G1 f p).l=AM f p.l from rfl,show(G1 f p).r=AM f p.r from rfl,m.1,o.1];rcases k with ⟨e,s1,ab,k1,g,i⟩|⟨s1,ab,l1,k1,g,i,u,v⟩
  ·rw[k1]at h;rw[g];cases h;exact⟨_,rfl,rfl,i⟩
  ·rw[k1]at h;rw[g];exact Tz a n i u v h
theorem gP {D:ByteArray->Prop} {f:ByteArray->ByteArray} {s s':List Bd} (h:Gs D f s s'):AF s'=AF s:=by
 rw[OM h.pm,gE]
def Ef (f:ByteArray->Tm):List Tm->List Tm
 | []=>[]
 | ⟨s,l⟩::r=>(if Al s=true then f s else ⟨s,Ef f l⟩)::Ef f r
def DC (f:ByteArray->Tm) (t:Tm):Tm:=if Al t.name=true then f t.name else ⟨t.name,Ef f t.args⟩
theorem Jp (f:ByteArray->Tm) {s:ByteArray} {l:List Tm} (h:Al s=true):DC f ⟨s,l⟩=f s:=by unfold DC; rw[Ar h]
theorem Ht (f:ByteArray->Tm) {s:ByteArray} {l:List Tm} (h:Al s=false):DC f ⟨s,l⟩=⟨s,Ef f l⟩:=by unfold DC; rw[Aj (by rw[h]; simp)]
theorem EY (f:ByteArray->Tm) (t:Tm) (r:List Tm):Ef f (t::r)=DC f t::Ef f r:=by
 obtain⟨s,l⟩:=t;rw[Ef];rfl
theorem FH (f:ByteArray->Tm):Ef f []=[]:=by rw[Ef]
theorem Ke {s:ByteArray} {l r:List Tm} (h:Ah (⟨s,l⟩::r)=0):(Al s=true->l=[])/\Ah l=0/\Ah r=0:=by
 obtain⟨h1,h2⟩:=V7 h;refine⟨λhv=>?_,VU h1,h2⟩;simp only[Ah] at h1;repeat' split at h1
 all_goals first|(cases h1; done)|skip
 all_goals
  rename_i h3 _;simp[hv]at h3;exact h3
def FJ (k:List Bd) (n:ByteArray):Tm:=(As k n).getD ⟨n,[]⟩
theorem Jq {x:ByteArray} {l:List ByteArray}:AJ x l=true↔x∈l:=by
 unfold AJ;rw[Ei];constructor
 ·rintro⟨y,hy,he⟩;have e:y.toList=x.toList:=eq_of_beq he;have:y=x:=by
   rw[G3,G3]at e;obtain⟨⟨a⟩⟩:=y;obtain⟨⟨b⟩⟩:=x;simpa using e
  rw[<-this]; exact hy
 ·exact λh=>⟨x,h,by simp⟩
def CO (acc:List ByteArray) (s:ByteArray):List ByteArray:=if AJ s acc=true then acc else acc++[s]
theorem NK (s:ByteArray):∀ns:List ByteArray,AB s ns<ns.length↔s∈ns
 | []=>by simp[AB]
 |n::r=>by
  by_cases e:n=s
  ·simp[AB,e]
  ·have:=NK s r;have a:¬s=n:=λh=>e h.symm;simp[AB,e,a,this]
theorem TC (ns:List ByteArray) (s:ByteArray):Cf ns s=CO ns s:=by
 unfold Cf CO;by_cases h:s∈ns
 ·rw[Ar ((NK s ns).2 h),Ar (Jq.2 h)]
 ·rw[Aj (λk=>h ((NK s ns).1 k)),Aj (λk=>h (Jq.1 k))]
theorem LJ {acc:List ByteArray} {s:ByteArray} (h:Al s=true):Bl acc s=CO acc s:=by
 unfold Bl CO;cases hi:AJ s acc<;>simp[h]
theorem NL (acc:List ByteArray) (s x:ByteArray):x∈CO acc s↔x∈acc∨x=s:=by
 unfold CO;split
 ·rename_i h;have:=Jq.1 h;constructor
  ·exact Ad
  ·rintro(h|rfl)
   ·exact h
   ·exact this
 ·simp
theorem TD (x:ByteArray):∀(vs acc:List ByteArray),x∈vs.foldl CO acc↔x∈acc∨x∈vs
 | [],acc=>by simp
 |s::r,acc=>by
  rw[List.foldl_cons,TD x r,NL];simp only[Bq];constructor
  ·rintro((h|h)|h)
   ·exact Ad h
   ·exact Ae (Ad h)
   ·exact Ae (Ae h)
  ·rintro(h|h|h)
   ·exact Ad (Ad h)
   ·exact Ad (Ae h)
   ·exact Ae h
theorem gQ (acc vs:List ByteArray) (s:ByteArray):(Bl vs s).foldl CO acc=Bl (vs.foldl CO acc) s:=by
 cases hv:Al s with
 |false=>rw[GJ hv,GJ hv]
 |true=>
  rw[LJ hv,LJ hv];by_cases h:s∈vs
  ·have h2:s∈vs.foldl CO acc:=(TD s vs acc).2 (Ae h);unfold CO;rw[Ar (Jq.2 h)];rw[Ar];exact Jq.2 h2
  ·have e:CO vs s=vs++[s]:=(by unfold CO;rw[Aj (λk=>h (Jq.1 k))]);rw[e,List.foldl_append];rfl
theorem TE (acc:List ByteArray):∀(ks:List Tm) (vs:List ByteArray),(At vs ks).foldl CO acc=At (vs.foldl CO acc) ks
 | [],vs=>by simp[At]
 |k::r,vs=>by
  have e:∀us,At us (k::r)=At (Bl us k.name) r:=λus=>by simp[At]
  rw[e,e,TE acc r,gQ]
theorem TG (acc:List ByteArray) (k:Tm) (r:List Tm):At acc (k::r)=At (Bl acc k.name) r:=by simp[At]
theorem gR (l:List Tm):∀ns:List ByteArray,Ah l=0->(Ba ns l).2=At ns (Ao l):=by
 induction l using Tm.indL with
 |h0=>intro ns _; simp[GN,Ao,At]
 |h s l r aa ab=>
  intro ns he;obtain⟨h1,h2,h3⟩:=Ke he;rw[Hi];simp only[Ao];rw[TG,IQ,ab _ h3];congr 1
  unfold C3;cases hv:Al s with
  |true=>have a:=h1 hv;subst a;simp only[hv,Ar,Ao];rw[TC,LJ hv];simp[At]
  |false=>simp only[hv,Bool.false_eq_true,if_false];rw[aa ns h2,GJ hv]
def D6:Nat->List ByteArray->List Bd
 |_,[]=>[]
 |k,n::r=>⟨n,⟨Cc (k+1),[]⟩⟩::D6 (k+1) r
theorem TH:∀(k:Nat) (ns:List ByteArray),(D6 k ns).length=ns.length
 |_,[]=>rfl
 |k,n::r=>by simp[D6,TH (k+1) r]
theorem TI (n:ByteArray):∀(k:Nat) (ns:List ByteArray),D6 k (ns++[n])=D6 k ns++[⟨n,⟨Cc (k+ns.length+1),[]⟩⟩]
 |k,[]=>by simp[D6]
 |k,m::r=>by
  rw[Cj];simp only[D6];rw[TI n (k+1) r];simp only[Cj,Bu];rw[show k+1+r.length+1=k+(r.length+1)+1 by omega]
theorem TJ (s:ByteArray):∀(k:Nat) (ns:List ByteArray),s∈ns->As (D6 k ns) s=some ⟨Cc (k+AB s ns+1),[]⟩
 |k,n::r,h=>by
  simp only[D6,As];by_cases e:n=s
  ·simp[e,AB]
  ·rw[Aj e,TJ s (k+1) r (by simpa [Eh (Ne.intro e)] using(Bq.1 h).resolve_left (λh=>e h.symm))];simp only[AB,e,if_false];rw[show k+1+AB s r+1=k+(AB s r+1)+1 by omega]
theorem TK {s:ByteArray}:∀ {k:Nat} {ns:List ByteArray},s∉ns->As (D6 k ns) s=none
 |k,[],_=>by simp[D6,As]
 |k,n::r,h=>by
  simp only[Bq,not_or] at h;simp only[D6,As];rw[Aj (λe=>h.1 e.symm),TK h.2]
theorem TL {s:ByteArray}:∀ {ns N:List ByteArray},ns <+: N->s∈ns->AB s N=AB s ns
 |n::r,N,hp,h=>by
  obtain⟨q,rfl⟩:=hp;simp only[Cj,AB];by_cases e:n=s
  ·simp[e]
  ·rw[Aj e,Aj e,TL (ns:=r) ⟨q,rfl⟩ ((Bq.1 h).resolve_left (λh=>e h.symm))]
theorem gS (ns:List ByteArray) (s:ByteArray):ns <+: Cf ns s:=by
 unfold Cf;split
 ·exact IF _
 ·exact⟨_,rfl⟩
theorem gU (l:List Tm):∀ns:List ByteArray,ns <+: (Ba ns l).2:=by
 induction l using Tm.indL with
 |h0=>intro ns; rw[GN]; exact IF _
 |h s l r aa ab=>
  intro ns;rw[Hi];refine List.IsPrefix.trans ?_ (ab _);unfold C3;split
  ·exact gS _ _
  ·exact aa ns
theorem gV {N:List ByteArray} (a:∀n∈N,Al n=true) (l:List Tm):∀ns:List ByteArray,Ah l=0->(Ba ns l).2 <+: N->(Ba ns l).1=Ap (D6 0 N) l:=by
 induction l using Tm.indL with
 |h0=>intro ns _ _; simp[GN,Ap]
 |h s l r aa ab=>
  intro ns he hp;obtain⟨h1,h2,h3⟩:=Ke he;rw[Hi]at hp ⊢;simp only at hp;rw[Bb,<-ab _ h3 hp];congr 1
  have hq:(C3 ns ⟨s,l⟩).2 <+: N:=(gU r _).trans hp;cases hv:Al s with
  |true=>
   have b:=h1 hv;subst b;have e:C3 ns ⟨s,[]⟩=(⟨Cc (AB s ns+1),[]⟩,Cf ns s):=(by simp[C3,hv]);rw[e]at hq ⊢;simp only at hq;have hm:s∈Cf ns s:=by rw[TC,NL]; exact Ae rfl
   rw[IM (TJ s 0 N (hq.subset hm)),TL hq hm,Pa];simp
  |false=>have e:C3 ns ⟨s,l⟩=(⟨s,(Ba ns l).1⟩,(Ba ns l).2):=(by simp[C3,hv]);rw[e]at hq ⊢;simp only at hq;rw[FN (Ae (TK λh=>by rw[a s h] at hv; cases hv)),aa ns h2 hq]
theorem NN:∀(ks:List Tm) (acc:List ByteArray),(∀n∈acc,Al n=true)->∀n∈At acc ks,Al n=true
 | [],acc,h=>by simpa [At] using h
 |k::r,acc,h=>by
  rw[TG];refine NN r _ λn hn=>?_;cases hv:Al k.name with
  |false=>rw[GJ hv] at hn; exact h n hn
  |true=>
   rw[LJ hv,NL]at hn;rcases hn with h1|h1
   ·exact h n h1
   ·rw[h1]; exact hv
theorem gW {l:List Tm} (he:Ah l=0):Ap (D6 0 (At [] (Ao l))) l=(Ba [] l).1:=by
 have h:=gR l [] he;exact(gV (NN _ [] (by simp)) l [] he (by rw[h]; exact IF _)).symm
inductive F6 {α:Type} (R:α->α->Prop):α->α->Prop
 |refl (a:α):F6 R a a
 |head {a b c:α}:R a b->F6 R b c->F6 R a c
theorem F6.trans {α:Type} {R:α->α->Prop} {a b c:α} (h:F6 R a b) (h2:F6 R b c):F6 R a c:=by
 induction h with
 |refl=>exact h2
 |head r _ d=>exact .head r (d h2)
theorem F6.one {α:Type} {R:α->α->Prop} {a b:α} (h:R a b):F6 R a b:=.head h (.refl b)
def Kf {α:Type} (R:α->α->Prop) (a b:α):Prop:=∃c,F6 R a c/\F6 R b c
theorem Kf.symm {α:Type} {R:α->α->Prop} {a b:α} (h:Kf R a b):Kf R b a:=by obtain⟨c,h1,h2⟩:=h; exact⟨c,h2,h1⟩
theorem Kf.rfl {α:Type} {R:α->α->Prop} {a:α}:Kf R a a:=⟨a,.refl a,.refl a⟩
theorem TN (f:ByteArray->Tm):∀l:List Tm,Ef f l=l.map (DC f)
 | []=>by simp[FH]
 |t::r=>by rw[EY,TN f r]; rfl
inductive NO (rs:List Pr):Tm->Tm->Prop
 |CC {p:Pr} (f:ByteArray->Tm):p∈rs->NO rs (DC f p.l) (DC f p.r)
 |arg {s:ByteArray} {a b:List Tm} {x y:Tm}:Al s=false->NO rs x y->NO rs ⟨s,a++x::b⟩ ⟨s,a++y::b⟩
theorem gX (f:ByteArray->Tm) {t:Tm} (h:Al t.name=false):DC f t=⟨t.name,t.args.map (DC f)⟩:=by
 obtain⟨s,l⟩:=t;rw[Ht f h,TN]
def gY (F:List Tm) (k:Tm):Prop:=∃f∈F,k.name=f.name/\k.args.length=f.args.length
structure nV (F:List Tm) (p:Pr):Prop where
 vs:∀k∈Ao [p.r],Al k.name=true->∃c∈Ao [p.l],c.name=k.name
 lf:∀c∈Ao [p.l],Al c.name=true->c.args=[]
 sy:∀k∈Ao [p.r],gY F k
theorem gZ {ls:List Bd} (b:K8 ls) (l:List Tm):Ah l=0->Ap ls l=Ef (FJ ls) l:=by
 induction l using Tm.indL with
 |h0=>intro _; simp[Ap,FH]
 |h s l r aa ab=>
  intro he;obtain⟨h1,h2,h3⟩:=Ke he;rw[Bb,EY,ab h3];congr 1
  cases hv:Al s with
  |true=>
   have c:=h1 hv;subst c;have e:DC (FJ ls) ⟨s,[]⟩=FJ ls s:=(by simp[DC,hv]);rw[e];cases a:As ls s with
   |some x=>simp[Ag,E7,a,FJ]
   |none=>rw[FN (Ae a),FJ,a]; simp[Ap]
  |false=>
   have a:As ls s=none:=by
    cases a:As ls s with
    |none=>rfl
    |some x=>have:=b s x a; rw[hv] at this; cases this
   rw[Ht _ hv,FN (Ae a),aa h2]
theorem iA {ls:List Bd} (a:K8 ls) {t:Tm} (he:Ah [t]=0):Ag ls t=DC (FJ ls) t:=by
 have:=gZ a [t] he;rw[Bb,EY,FH]at this;simpa [Ap] using this
theorem TO {p:Pr} (h:Bv p=0):(∀k∈Ao [p.r],Al k.name=true->∃c∈Ao [p.l],c.name=k.name)/\∀c∈Ao [p.l],Al c.name=true->c.args=[]:=by
 obtain⟨a,q2,q3,b⟩:=ED h;refine⟨λk hk hv=>?_,λc hc hv=>?_⟩
 ·have h1:=b _ ((JZ (Ao [p.r]) []).2 k hk hv);rcases Lk _ _ _ h1 with h2|⟨c,h2,h3,_⟩
  ·cases h2
  ·exact⟨c,h2,h3⟩
 ·have key:∀l:List Tm,Ah l=0->∀c∈Ao l,Al c.name=true->c.args=[]:=by
   intro l;induction l using Tm.indL with
   |h0=>intro _ c hc; simp[Ao] at hc
   |h s l r aa ab=>
    intro he c hc hv;obtain⟨h1,h2,h3⟩:=Ke he;have d:c=⟨s,l⟩∨c∈Ao l∨c∈Ao r:=(by simpa [Ao] using hc);rcases d with rfl|hk|hk
    ·exact h1 hv
    ·exact aa h2 c hk hv
    ·exact ab h3 c hk hv
  exact key [p.l] (DH a) c hc hv
theorem iB {f g:ByteArray->Tm} (l:List Tm):(∀k∈Ao l,Al k.name=true->f k.name=g k.name)->Ef f l=Ef g l:=by
 induction l using Tm.indL with
 |h0=>intro _; rw[FH,FH]
 |h s l r aa ab=>
  intro h;rw[EY,EY,ab λk hk=>h k (by simp[Ao,hk])];congr 1
  cases hv:Al s with
  |true=>rw[Jp f hv,Jp g hv]; exact h ⟨s,l⟩ (by simp[Ao]) hv
  |false=>rw[Ht f hv,Ht g hv,aa λk hk=>h k (by simp[Ao,hk])]
theorem iC {f g:ByteArray->Tm} {t:Tm} (h:∀k∈Ao [t],Al k.name=true->f k.name=g k.name):DC f t=DC g t:=by
 have:=iB [t] h;rw[EY,FH,EY,FH]at this;simpa using this
theorem Kg {s:ByteArray}:∀ {l:List ByteArray},s∈l->AB s l<l.length
 |n::r,h=>by
  by_cases e:n=s
  ·simp[AB,e]
  ·have h2:s∈r:=by
    rcases Bq.1 h with h|h
    ·exact absurd h.symm e
    ·exact h
   have:=Kg h2;simp[AB,e]; omega
theorem TP {s:ByteArray} {b:List ByteArray}:∀ {a:List ByteArray},s∈a->AB s (a++b)=AB s a
 |n::r,h=>by
  by_cases e:n=s
  ·simp[AB,e]
  ·have h2:s∈r:=by
    rcases Bq.1 h with h|h
    ·exact absurd h.symm e
    ·exact h
   have:=TP (b:=b) h2;simp[AB,e,this]
theorem TQ (ns:List ByteArray) (s:ByteArray):s∈Cf ns s:=by
 unfold Cf;split
 ·rename_i h; have:=KN s ns h; rw[<-this]; exact AN h
 ·simp
theorem iD (ns:List ByteArray) (s:ByteArray):ns <+: Cf ns s:=by
 unfold Cf;split
 ·exact IF _
 ·exact List.prefix_append _ _
theorem iE {s:ByteArray} {a b:List ByteArray} (h:a <+: b) (hs:s∈a):AB s b=AB s a:=by
 obtain⟨c,rfl⟩:=h;exact TP hs
theorem Kh (K:ByteArray->ByteArray) (l:List Tm):∀ns,ns <+: (AO K ns l).2:=by
 induction l using Tm.indL with
 |h0=>intro ns; rw[Fi]; exact IF _
 |h s l r ab aa=>
  intro ns;rw[AO];split
  ·exact(iD ns (K s)).trans (aa _)
  ·exact(ab ns).trans (aa _)
theorem iF (K:ByteArray->ByteArray) (l:List Tm):∀ns,Ah l=0->∀k∈Ao l,Al k.name=true->K k.name∈(AO K ns l).2:=by
 induction l using Tm.indL with
 |h0=>intro ns _ k hk; simp[Ao] at hk
 |h s l r ab aa=>
  intro ns he k hk hv;obtain⟨h1,h2,h3⟩:=Ke he;have a:k=⟨s,l⟩∨k∈Ao l∨k∈Ao r:=by simpa [Ao] using hk
  rw[AO];rcases a with rfl|hk|hk
  ·rw[Ar hv]; exact(Kh K r _).subset (TQ ns (K s))
  ·cases hs:Al s with
   |true=>have:=h1 hs; subst this; simp[Ao] at hk
   |false=>simp only[Bool.false_eq_true,if_false];exact(Kh K r _).subset (ab ns h2 k hk hv)
  ·split
   ·exact aa _ h3 k hk hv
   ·exact aa _ h3 k hk hv
def Jr (K:ByteArray->ByteArray) (M:List ByteArray) (s:ByteArray):Tm:=⟨Cc (AB (K s) M+1),[]⟩
theorem iG (K:ByteArray->ByteArray) {M:List ByteArray} (l:List Tm):∀ns,(AO K ns l).2 <+: M->(AO K ns l).1=Ef (Jr K M) l:=by
 induction l using Tm.indL with
 |h0=>intro ns _; rw[Fi,FH]
 |h s l r ab aa=>
  intro ns a;rw[EY];rw[AO]at a ⊢;cases hv:Al s with
  |true=>simp only[hv,if_true] at a ⊢;rw[Jp _ hv,aa _ a];have h1:Cf ns (K s) <+: M:=(Kh K r _).trans a;have h2:=iE h1 (TQ ns (K s));rw[Pa]at h2;unfold Jr;rw[h2]
  |false=>simp only[hv,Bool.false_eq_true,if_false] at a ⊢;rw[Ht _ hv,aa _ a,ab ns ((Kh K r _).trans a)]
theorem Ki (K:ByteArray->ByteArray) (ns:List ByteArray) (t:Tm):AO K ns [t]=([(AR K ns t).1],(AR K ns t).2):=by rw[Gm,Fi]
theorem NP (K:ByteArray->ByteArray) {M ns:List ByteArray} {t:Tm} (h:(AR K ns t).2 <+: M):(AR K ns t).1=DC (Jr K M) t:=by
 have:=iG K (M:=M) [t] ns (by rw[Ki]; exact h);rw[Ki,EY,FH]at this;simpa using this
theorem LK (K:ByteArray->ByteArray) (ns:List ByteArray) (t:Tm):ns <+: (AR K ns t).2:=by
 have:=Kh K [t] ns;rw[Ki]at this; exact this
theorem iH (K:ByteArray->ByteArray) (ns:List ByteArray) {t:Tm} (he:Ah [t]=0):∀k∈Ao [t],Al k.name=true->K k.name∈(AR K ns t).2:=by
 have:=iF K [t] ns he;rw[Ki]at this; exact this
open Classical in
noncomputable def NQ (M:List ByteArray) (F:ByteArray->Tm) (n:ByteArray):Tm:=if h:∃k,k∈M/\n=Cc (AB k M+1) then F (Classical.choose h) else ⟨n,[]⟩
theorem NR {M:List ByteArray} {a b:ByteArray} (c:a∈M) (hb:b∈M) (h:AB a M=AB b M):a=b:=by
 have h1:=KN a M (Kg c);have h2:=KN b M (Kg hb);rw[<-h1,<-h2];congr 1
theorem iI {M:List ByteArray} (F:ByteArray->Tm) {k:ByteArray} (h:k∈M):NQ M F (Cc (AB k M+1))=F k:=by
 unfold NQ;have hx:∃a,a∈M/\Cc (AB k M+1)=Cc (AB a M+1):=⟨k,h,rfl⟩;rw[D7 hx];obtain⟨h1,h2⟩:=Classical.choose_spec hx;have h3:=V8 h2;have e:Classical.choose hx=k:=(NR h h1 (by omega)).symm;rw[e]
theorem TR (k:Nat):Al (Cc k)=true:=by
 unfold Al Cc CA;have h0:0<(⟨(90::Lib.decDigits k).toArray⟩:ByteArray).size:=by show 0<(90::Lib.decDigits k).toArray.size; simp
 rw[D7 h0];rfl
theorem TS (i:Nat) (s:ByteArray):(AC i s).data.toList=Lib.decDigits i++s.data.toList:=by
 unfold AC;rw[ByteArray.data_append];simp
theorem TT {i:Nat} {s t:ByteArray} (h:AC i s=AC i t):s=t:=by
 have h1:=Bx (λb:ByteArray=>b.data.toList) h;simp only[TS] at h1;have h2:=List.append_cancel_left h1;exact ByteArray.ext (Array.ext' h2)
theorem iJ {s t:ByteArray} (h:AC 0 s=AC 1 t):False:=by
 have h1:=Bx (λb:ByteArray=>b.data.toList) h;simp only[TS] at h1;rw[show Lib.decDigits 0=[48] by decide +kernel,show Lib.decDigits 1=[49] by decide +kernel]at h1;simp at h1
open Classical in
noncomputable def Js (f g:ByteArray->Tm) (k:ByteArray):Tm:=if h:∃s,k=AC 0 s then f (Classical.choose h) else if h:∃s,k=AC 1 s then g (Classical.choose h) else ⟨k,[]⟩
theorem iK (f g:ByteArray->Tm) (s:ByteArray):Js f g (AC 0 s)=f s:=by
 unfold Js;have hx:∃t,AC 0 s=AC 0 t:=⟨s,rfl⟩;rw[D7 hx];have e:Classical.choose hx=s:=(TT (Classical.choose_spec hx)).symm;rw[e]
theorem iL (f g:ByteArray->Tm) (s:ByteArray):Js f g (AC 1 s)=g s:=by
 unfold Js;have hn:¬ ∃t,AC 1 s=AC 0 t:=by rintro⟨t,ht⟩; exact iJ ht.symm
 have hx:∃t,AC 1 s=AC 1 t:=⟨s,rfl⟩;rw[dif_neg hn,D7 hx];have e:Classical.choose hx=s:=(TT (Classical.choose_spec hx)).symm;rw[e]
theorem iM (K:ByteArray->ByteArray) (ns:List ByteArray) (p:Pr):(Cp K ns p).2=(AR K (AR K ns p.l).2 p.r).2:=rfl
theorem iN (K:ByteArray->ByteArray) (ns:List ByteArray) (p:Pr):ns <+: (Cp K ns p).2:=(LK K ns p.l).trans (LK K _ p.r)
theorem iO {p q:Pr}:(Av p q).1.l=DC (Jr (AC 0) (AR (AC 0) [] p.l).2) p.l/\∃M,(Av p q).2.l=DC (Jr (AC 1) M) q.l:=
 ⟨NP _ (IF _),_,NP _ (IF _)⟩
theorem iP {ls:List Bd} {n:ByteArray} {x:Tm} (h:As ls n=some x):∃d∈ls,d.nm=n:=by
 obtain⟨d,hd,h1,_⟩:=Q8 h;exact⟨d,hd,h1⟩
theorem iQ {ls:List Bd} (h:∀d∈ls,Al d.nm=true):K8 ls:=λn x hx=>by
 obtain⟨d,hd,rfl⟩:=iP hx;exact h d hd
def DK (c:UInt8) (i:Nat):ByteArray:=⟨(c::Lib.decDigits i).toArray⟩
theorem LL {c c':UInt8} {i j:Nat} (h:DK c i=DK c' j):c=c'/\i=j:=by
 unfold DK at h;simp only[ByteArray.mk.injEq] at h;have h1:=Bx Array.toList h;simp only[List.toList_toArray,GC] at h1;exact⟨h1.1,by rw[<-KO i,h1.2,KO]⟩
theorem TU (i:Nat):Al (DK 80 i)=true/\Al (DK 81 i)=true:=by
 unfold Al DK CA;have h0:∀c:UInt8,0<(⟨(c::Lib.decDigits i).toArray⟩:ByteArray).size:=λc=>by show 0<(c::Lib.decDigits i).toArray.size; simp
 rw[D7 (h0 _),D7 (h0 _)];exact⟨rfl,rfl⟩
def C8 (c:UInt8):Nat->List ByteArray->List Bd
 |_,[]=>[]
 |k,n::r=>⟨n,⟨DK c k,[]⟩⟩::C8 c (k+1) r
theorem TW (c:UInt8):∀(k:Nat) (ns:List ByteArray),(C8 c k ns).length=ns.length
 |_,[]=>rfl
 |k,n::r=>by simp[C8,TW c (k+1) r]
theorem TX (c:UInt8) (n:ByteArray):∀(k:Nat) (ns:List ByteArray),C8 c k (ns++[n])=C8 c k ns++[⟨n,⟨DK c (k+ns.length),[]⟩⟩]
 |k,[]=>by simp[C8]
 |k,m::r=>by
  rw[Cj];simp only[C8];rw[TX c n (k+1) r];simp only[Cj,Bu];rw[show k+1+r.length=k+(r.length+1) by omega]
theorem TY (c:UInt8):∀(k:Nat) (ns:List ByteArray),∀d∈C8 c k ns,d.nm∈ns
 |_,[],d,h=>by simp[C8] at h
 |k,n::r,d,h=>by
  simp only[C8] at h;rcases Bq.1 h with rfl|h
  ·simp
  ·exact List.mem_cons_of_mem _ (TY c (k+1) r d h)
theorem TZ (c:UInt8) (s:ByteArray):∀(k:Nat) (ns:List ByteArray),s∈ns->As (C8 c k ns) s=some ⟨DK c (k+AB s ns),[]⟩
 |k,n::r,h=>by
  simp only[C8,As];by_cases e:n=s
  ·simp[e,AB]
  ·rw[Aj e,TZ c s (k+1) r ((Bq.1 h).resolve_left (λh=>e h.symm))];simp only[AB,e,if_false];rw[show k+1+AB s r=k+(AB s r+1) by omega]
def CQ (p:Pr):List ByteArray:=At [] (Ao [p.l])
theorem iR (p:Pr):∀n∈CQ p,Al n=true:=NN _ _ (by simp)
def Dw (c:UInt8) (p:Pr):Pr:=⟨Ag (C8 c 0 (CQ p)) p.l,Ag (C8 c 0 (CQ p)) p.r⟩
theorem iS (c:UInt8) (p:Pr):K8 (C8 c 0 (CQ p)):=iQ λd hd=>iR p _ (TY c 0 _ d hd)
theorem NS (c:UInt8) {p:Pr} {v:ByteArray} (h:v∈CQ p):FJ (C8 c 0 (CQ p)) v=⟨DK c (AB v (CQ p)),[]⟩:=by
 unfold FJ;rw[TZ c v 0 _ h];simp
theorem iT (K:ByteArray->ByteArray) (l:List Tm):∀(ns:List ByteArray),∀k∈(AO K ns l).2,k∈ns∨∃x∈Ao l,Al x.name=true/\k=K x.name:=by
 induction l using Tm.indL with
 |h0=>intro ns k hk; rw[AO] at hk; exact Ad hk
 |h s l r ab aa=>
  intro ns k hk;rw[AO]at hk;simp only[Ao];by_cases hv:Al s=true
  ·rw[Ar hv]at hk;rcases aa _ k hk with h|⟨x,hx,h⟩
   ·unfold Cf at h;split at h
    ·exact Ad h
    ·rcases Bg.1 h with h|h
     ·exact Ad h
     ·exact Ae ⟨⟨s,l⟩,by simp,hv,GE.1 h⟩
   ·exact Ae ⟨x,by simp[hx],h⟩
  ·rw[Aj hv]at hk;rcases aa _ k hk with h|⟨x,hx,h⟩
   ·rcases ab _ k h with h|⟨x,hx,h⟩
    ·exact Ad h
    ·exact Ae ⟨x,by simp[hx],h⟩
   ·exact Ae ⟨x,by simp[hx],h⟩
theorem T8 {K:ByteArray->ByteArray} {t:Tm} {ns:List ByteArray} {k:ByteArray} (h:k∈(AR K ns t).2):k∈ns∨∃x∈Ao [t],Al x.name=true/\k=K x.name:=by
 have:=iT K [t] ns k;rw[Ki]at this;exact this h
theorem T9 {K:ByteArray->ByteArray} {p:Pr} (hp:Bv p=0) {ns:List ByteArray} {k:ByteArray} (h:k∈(Cp K ns p).2):k∈ns∨∃v∈CQ p,k=K v:=by
 rw[iM]at h;have key:∀x∈Ao [p.l],Al x.name=true->x.name∈CQ p:=λx hx hv=>(JZ (Ao [p.l]) []).2 x hx hv;rcases T8 h with h|⟨x,hx,hv,rfl⟩
 ·rcases T8 h with h|⟨x,hx,hv,rfl⟩
  ·exact Ad h
  ·exact Ae ⟨_,key x hx hv,rfl⟩
 ·obtain⟨c,hc,hn⟩:=(TO hp).1 x hx hv;rw[<-hn]at hv ⊢;exact Ae ⟨_,key c hc hv,rfl⟩
theorem iU {f:ByteArray->ByteArray} (a:∀n,Al n=false->f n=n) (g:ByteArray->Tm) (l:List Tm):Bk f (Ef g l)=Ef (λv=>AM f (g v)) l:=by
 induction l using Tm.indL with
 |h0=>simp[FH,Bk]
 |h s l r aa ab=>
  rw[EY,EY,EH,ab];congr 1
  cases hv:Al s with
  |true=>rw[Jp g hv,Jp _ hv]
  |false=>rw[Ht g hv,Ht _ hv];show(⟨f s,Bk f (Ef g l)⟩:Tm)=_;rw[a s hv,aa]
theorem iV {f:ByteArray->ByteArray} (a:∀n,Al n=false->f n=n) (g:ByteArray->Tm) (t:Tm):AM f (DC g t)=DC (λv=>AM f (g v)) t:=by
 have h:=iU a g [t];rw[EY,EY,EH]at h;exact(List.cons.inj h).1
theorem iW {D:ByteArray->Prop} (a:∀n,Al n=false->D n) {g:ByteArray->Tm} (l:List Tm):(∀x∈Ao l,Al x.name=true->AD D [g x.name])->AD D (Ef g l):=by
 induction l using Tm.indL with
 |h0=>intro _; rw[FH]; exact AD.nil
 |h s l r aa ab=>
  intro h;simp only[Ao] at h;rw[EY];have h1:=ab λx hx=>h x (by simp[hx]);have h2:AD D [DC g ⟨s,l⟩]:=by
   cases hv:Al s with
   |true=>rw[Jp g hv]; exact h ⟨s,l⟩ (by simp) hv
   |false=>rw[Ht g hv];exact AD.one.2 ⟨a s hv,aa λx hx=>h x (by simp[hx])⟩
  exact AD.cons.2 ⟨(AD.one.1 h2).1,(AD.one.1 h2).2,h1⟩
theorem iX {D:ByteArray->Prop} (a:∀n,Al n=false->D n) {g:ByteArray->Tm} {t:Tm} (h:∀x∈Ao [t],Al x.name=true->AD D [g x.name]):AD D [DC g t]:=by
 have h1:=iW a [t] h;rw[EY,FH]at h1;exact h1
def DR (o n:Pr):List ByteArray:=(Cp (AC 1) (Cp (AC 0) [] o).2 n).2
def Jt (o n:Pr) (x:ByteArray):Prop:=Al x=false∨∃k∈DR o n,x=Cc (AB k (DR o n)+1)
noncomputable def C9 (o n:Pr) (x:ByteArray):ByteArray:=if Al x=true then (NQ (DR o n) (Js (FJ (C8 80 0 (CQ o))) (FJ (C8 81 0 (CQ n)))) x).name else x
theorem Hu {o n:Pr} {x:ByteArray} (h:Al x=false):C9 o n x=x:=by unfold C9; rw[h]; rfl
theorem Ua {o n:Pr} {k:ByteArray} (h:k∈DR o n):C9 o n (Cc (AB k (DR o n)+1))=(Js (FJ (C8 80 0 (CQ o))) (FJ (C8 81 0 (CQ n))) k).name:=by
 unfold C9;rw[Ar (TR _),iI _ h]
theorem LM {o n:Pr} {v:ByteArray} (h:AC 0 v∈DR o n) (hv:v∈CQ o):C9 o n (Cc (AB (AC 0 v) (DR o n)+1))=DK 80 (AB v (CQ o)):=by
 rw[Ua h,iK,NS _ hv]
theorem LN {o n:Pr} {v:ByteArray} (h:AC 1 v∈DR o n) (hv:v∈CQ n):C9 o n (Cc (AB (AC 1 v) (DR o n)+1))=DK 81 (AB v (CQ n)):=by
 rw[Ua h,iL,NS _ hv]
theorem Ub {o n:Pr} (ho:Bv o=0) (hn:Bv n=0) {k:ByteArray} (h:k∈DR o n):(∃v∈CQ o,k=AC 0 v)∨∃v∈CQ n,k=AC 1 v:=by
 rcases T9 hn h with h|h
 ·rcases T9 ho h with h|h
  ·cases h
  ·exact Ad h
 ·exact Ae h
theorem iY {o n:Pr} (ho:Bv o=0) (hn:Bv n=0):DQ (Jt o n) (C9 o n):=by
 have key:∀k∈DR o n,(∃v∈CQ o,k=AC 0 v/\C9 o n (Cc (AB k (DR o n)+1))=DK 80 (AB v (CQ o)))∨∃v∈CQ n,k=AC 1 v/\C9 o n (Cc (AB k (DR o n)+1))=DK 81 (AB v (CQ n)):=by
  intro k hk;rcases Ub ho hn hk with ⟨v,hv,rfl⟩|⟨v,hv,rfl⟩
  ·exact Ad ⟨v,hv,rfl,LM hk hv⟩
  ·exact Ae ⟨v,hv,rfl,LN hk hv⟩
 have g:∀k∈DR o n,Al (C9 o n (Cc (AB k (DR o n)+1)))=true:=λk hk=>by
  rcases key k hk with ⟨v,_,_,e⟩|⟨v,_,_,e⟩
  ·rw[e]; exact(TU _).1
  ·rw[e]; exact(TU _).2
 refine⟨λa b c hb h=>?_,λa c=>?_⟩
 ·rcases c with c|⟨j,hj,rfl⟩
  ·rcases hb with hb|⟨k,hk,rfl⟩
   ·rwa [Hu c,Hu hb] at h
   ·have:=g k hk;rw[<-h,Hu c,c]at this;cases this
  ·rcases hb with hb|⟨k,hk,rfl⟩
   ·have:=g j hj;rw[h,Hu hb,hb]at this;cases this
   ·rcases key j hj with ⟨v,hv,rfl,d⟩|⟨v,hv,rfl,d⟩<;>rcases key k hk with ⟨u,hu,rfl,f⟩|⟨u,hu,rfl,f⟩
    ·rw[d,f]at h;rw[NR hv hu (LL h).2]
    ·rw[d,f]at h;exact absurd (LL h).1 (by decide)
    ·rw[d,f]at h;exact absurd (LL h).1 (by decide)
    ·rw[d,f]at h;rw[NR hv hu (LL h).2]
 ·rcases c with c|⟨j,hj,rfl⟩
  ·rw[Hu c]
  ·rw[g j hj,TR]
theorem LO {o n:Pr} {K:ByteArray->ByteArray} {ns:List ByteArray} {t:Tm} {c:UInt8} {p:Pr} (he:Ah [t]=0) (a:(AR K ns t).2 <+: DR o n) (hv:∀x∈Ao [t],Al x.name=true->x.name∈CQ p) (hF:∀v,K v∈DR o n->v∈CQ p->C9 o n (Cc (AB (K v) (DR o n)+1))=DK c (AB v (CQ p))):
  AM (C9 o n) (AR K ns t).1=Ag (C8 c 0 (CQ p)) t/\AD (Jt o n) [(AR K ns t).1]:=by
 have ab:∀x∈Ao [t],Al x.name=true->K x.name∈DR o n:=λx hx aa=>a.subset (iH K ns he x hx aa);rw[NP K a,iV (λ_=>Hu),iA (iS c p) he];refine⟨iC λx hx aa=>?_,iX (λn h=>Ad h) λx hx aa=>?_⟩
 ·rw[NS c (hv x hx aa),<-hF x.name (ab x hx aa) (hv x hx aa)];unfold Jr AM;simp only[Bk]
 ·refine AD.one.2 ⟨Ae ⟨_,ab x hx aa,rfl⟩,AD.nil⟩
theorem Uc {o n:Pr} (ho:Bv o=0) (hn:Bv n=0):
  (G1 (C9 o n) (Av o n).1=Dw 80 o/\G1 (C9 o n) (Av o n).2=Dw 81 n)/\Iw (Jt o n) [(Av o n).1,(Av o n).2]:=by
 obtain⟨ol,or,-,-⟩:=ED ho;obtain⟨nl,f,-,-⟩:=ED hn;have a:∀p:Pr,∀x∈Ao [p.l],Al x.name=true->x.name∈CQ p:=λp x hx hv=>(JZ (Ao [p.l]) []).2 x hx hv;have vr:∀p:Pr,Bv p=0->∀x∈Ao [p.r],Al x.name=true->x.name∈CQ p:=λp hp x hx hv=>by
  obtain⟨c,hc,e⟩:=(TO hp).1 x hx hv;rw[<-e]at hv ⊢;exact a p c hc hv
 have b:(Cp (AC 0) [] o).2 <+: DR o n:=iN _ _ _;have h1:=LO (o:=o) (n:=n) (K:=AC 0) (ns:=[]) (c:=80) (p:=o) (DH ol) ((LK _ _ _).trans b) (a o) (λv h1 h2=>LM h1 h2);have h2:=LO (o:=o) (n:=n) (K:=AC 0) (ns:=(AR (AC 0) [] o.l).2) (c:=80) (p:=o) (DH or) b (vr o ho) (λv h1 h2=>LM h1 h2);have h3:=LO (o:=o) (n:=n) (K:=AC 1) (ns:=(Cp (AC 0) [] o).2) (c:=81) (p:=n) (DH nl) (LK _ _ _) (a n) (λv h1 h2=>LN h1 h2);have d:=LO (o:=o) (n:=n) (K:=AC 1) (ns:=(AR (AC 1) (Cp (AC 0) [] o).2 n.l).2) (c:=81) (p:=n) (DH f) (IF _) (vr n hn) (λv h1 h2=>LN h1 h2);refine⟨⟨?_,?_⟩,λp hp=>?_⟩
 ·show(⟨AM _ (AR _ _ _).1,AM _ (AR _ _ _).1⟩:Pr)=_;rw[h1.1,h2.1]; rfl
 ·show(⟨AM _ (AR _ _ _).1,AM _ (AR _ _ _).1⟩:Pr)=_;rw[h3.1,d.1]; rfl
 ·simp only[Bq,List.not_mem_nil,or_false] at hp;rcases hp with rfl|rfl
  ·exact⟨h1.2,h2.2⟩
  ·exact⟨h3.2,d.2⟩
theorem NT {D:ByteArray->Prop} {f:ByteArray->ByteArray} (a:DQ D f) {s:ByteArray} (hs:D s):∀ {ns:List ByteArray},(∀n∈ns,D n)->AB (f s) (ns.map f)=AB s ns
 | [],_=>rfl
 |n::r,h=>by
  rw[Cb,AB,AB,NT a hs λm hm=>h m (by simp[hm])];by_cases e:n=s
  ·rw[Ar e,Ar (by rw[e])]
  ·rw[Aj e,Aj (λb=>e (a.inj _ _ (h n (by simp)) hs b))]
theorem iZ {D:ByteArray->Prop} {f:ByteArray->ByteArray} (a:DQ D f) {s:ByteArray} (hs:D s) {ns:List ByteArray} (h:∀n∈ns,D n):Cf (ns.map f) (f s)=(Cf ns s).map f/\∀n∈Cf ns s,D n:=by
 unfold Cf;rw[NT a hs h,Ea];split
 ·exact⟨rfl,h⟩
 ·refine⟨by simp,λn hn=>?_⟩;rcases Bg.1 hn with hn|hn
  ·exact h n hn
  ·rw[GE.1 hn]; exact hs
theorem jA {D:ByteArray->Prop} {f:ByteArray->ByteArray} (b:DQ D f) (hs:∀n,Al n=false->f n=n) (l:List Tm):∀ns:List ByteArray,AD D l->(∀n∈ns,D n)->AO id (ns.map f) (Bk f l)=((AO id ns l).1,(AO id ns l).2.map f)/\∀n∈(AO id ns l).2,D n:=by
 induction l using Tm.indL with
 |h0=>intro ns _ h; simp only[Bk,AO]; exact⟨trivial,h⟩
 |h s l r e ab=>
  intro ns hd h;obtain⟨d1,d2,d3⟩:=AD.cons.1 hd;have aa:D s:=d1;simp only[Bk,AO,b.var s aa,id];by_cases hv:Al s=true
  ·have c:=iZ b aa h;have a:=ab (Cf ns s) d3 c.2;rw[Ar hv,Ar hv,c.1,a.1,NT b aa h];exact⟨rfl,a.2⟩
  ·have d:=e ns d2 h;have a:=ab _ d3 d.2;rw[Aj hv,Aj hv,d.1,a.1,hs s (by simpa using hv)];exact⟨rfl,a.2⟩
theorem jB {D:ByteArray->Prop} {f:ByteArray->ByteArray} (d:DQ D f) (hs:∀n,Al n=false->f n=n) {a b:Tm} (c:AD D [a]) (hb:AD D [b]):(Ba [] [AM f a,AM f b])=([(DI ⟨a,b⟩).l,(DI ⟨a,b⟩).r],(Ba [] [AM f a,AM f b]).2):=by
 have h:=(jA d hs [a,b] [] (AD.cons.2 ⟨(AD.one.1 c).1,(AD.one.1 c).2,hb⟩) (by simp)).1;have e:∀(l:List Tm) (ns:List ByteArray),Ba ns l=AO id ns l:=by
  intro l;induction l using Tm.indL with
  |h0=>intro ns; rw[Ba,AO]
  |h s l r aa ab=>intro ns;rw[Ba,AO];simp only[aa,ab,id]
 rw[EH,EH,Hs f [],Hy,Hy]at h;rw[e,h];simp only[Gm,Fi,DI,Cp]
theorem Ud (a b:List UInt8):(⟨a.toArray⟩:ByteArray)++⟨b.toArray⟩=⟨(a++b).toArray⟩:=by
 apply ByteArray.ext;simp
theorem Ue:∀(vs acc:List ByteArray),(vs.foldl CO acc).length<=acc.length+vs.length
 | [],acc=>by simp
 |s::r,acc=>by
  have h1:=Ue r (CO acc s);have h2:(CO acc s).length<=acc.length+1:=by unfold CO; split<;>simp
  rw[List.foldl_cons,Bu]; omega
theorem jC {vs acc:List ByteArray} {m:Nat} (h:m<vs.length):(vs.take (m+1)).foldl CO acc=CO ((vs.take m).foldl CO acc) vs[m]:=by
 rw[Bo h,List.foldl_append]; rfl
def Er (l:List Tm) (k:Nat):List ByteArray:=At [] (Ao (l.take k))
theorem jD {l:List Tm} {k:Nat} (h:k<l.length):(At [] (Ao [l[k]])).foldl CO (Er l k)=Er l (k+1):=by
 unfold Er;rw[TE,Bo h,IL,IQ];rfl
theorem jE {l:List Tm} {k:Nat} (h:k<l.length):(Er l k).length+(At [] (Ao [l[k]])).length<=Ab l:=by
 have h1:=Ie (Ao (l.take k)) [];have h2:=Ie (Ao [l[k]]) [];have h3:(Ao l).length=(Ao (l.take k)).length+(Ao [l[k]]).length+(Ao (l.drop (k+1))).length:=by
  conv=>lhs; rw[<-EJ (k+1) l,IL,Bo h,IL]
  simp only[Dx]
 rw[GH]at h3;unfold Er;simp only[E4] at h1 h2;omega
theorem jF {l:List Tm} {k:Nat} (h:l.length<=k):Er l k=At [] (Ao l):=by unfold Er; rw[AX h]
theorem NU (l:List Tm):(At [] (Ao l)).length<=Ab l:=by
 have:=Ie (Ao l) [];rw[GH]at this;simpa using this
theorem LV.atC {w:World} {X:Nat->Prop} {a:Option Addr} {n c:Nat} {l:List ByteArray} (h:LV Value.string w X (.slice a n c) l) (k:Nat) (hk:k<l.length):∃b o,a=some (zD b o)/\w.cell? ⟨b,o+k,none⟩=some (.string l[k]):=by
 obtain⟨a2,c2,e,_,h3⟩:=h;simp only[Value.slice.injEq] at e;obtain⟨rfl,_,_⟩:=e;rcases h3 with h3|⟨b,o,e,_,d⟩
 ·rw[h3]at hk; simp at hk
 ·exact⟨b,o,e,d k hk⟩
theorem jG (w:World) (c0:Value) (T:Nat):∀j u,[c0][j]? = some u->(w.alloc (.cells #[c0] T)).cell? (((zD w.heap.size 0):Addr).add j)=some u:=
 World.news_of_block (cs:=#[c0]) (Et w _)
theorem jH {wr:World} {N:Nat} {q v:Value} {ns vs:List ByteArray} (s:ByteArray) (aa:wr.ownsRow N 9 1 q ns.length (ns.map Value.string)) (hv:LV Value.string wr (λb=>some b≠q.ownBlock) v vs) (d:N<=wr.heap.size) (hl:ns.length<=1000000):
  ∃a w3,(Builtin.append_ #[29,29] 29 #[q,.slice (some (zD wr.heap.size 0)) 1 1]).run prog (wr.alloc (.cells #[.string s] 9))=.ok a w3/\w3.ownsRow N 9 1 a (ns++[s]).length ((ns++[s]).map Value.string)/\LV Value.string w3 (λb=>some b≠a.ownBlock) v vs/\Below N wr w3:=by
 obtain⟨i0,hi,ab,f,h⟩:=CE Tryz.infoStr;obtain⟨g,cap,w3,i,ho,c,k,_⟩:=run_append_lies (P:=prog) (w:=wr.alloc (.cells #[.string s] 9)) 29 29 N 9 i0 _ 1 16 underlying29 hi ab f h rfl (by decide) q ns.length _ (aa.alloc _) (zD wr.heap.size 0) 1 1 [.string s] rfl (jG _ _ _) (λu hu=>by simp at hu; subst hu; rfl) (by decide) (by unfold maxLen; omega) (by omega) (by simp; omega) _ rfl;refine⟨_,w3,i,by simpa using ho,?_,?_⟩
 ·have h1:=hv.mono (Y:=λb=>some b≠q.ownBlock/\b<wr.heap.size) λb h1 h2=>⟨h1,h2⟩;refine(h1.kept λb hb=>?_).mono λb hb _=>λe=>?_
  ·rw[c.block b (by simp; omega) hb.1,AL _ _ _ hb.2]
  ·simp[Value.ownBlock]at e;rcases k with e'|e'
   ·exact hb.1 (by rw[e',e])
   ·simp at e'; omega
 ·exact((Af N wr).alloc d _).grown c (by simp; omega) (λj hj=>(aa.lt j hj).1)
theorem Uf {wr w1:World} {N:Nat} {Y:Nat->Prop} {u:Value} {cs:List Bc} (n z:ByteArray) (aa:Bj wr N Y u cs) (e:∀b,Y b->b<N) (hb:Below wr.heap.size wr w1) (a:N<=wr.heap.size) (hl:cs.length<=1000000):
  ∃c w3,(Builtin.append_ #[71,71] 71 #[u,.slice (some (zD w1.heap.size 0)) 1 1]).run prog (w1.alloc (.cells #[.string n,.string z,zB] 90))=.ok c w3/\Bj w3 N Y c (cs++[(⟨n,⟨z,[]⟩⟩,none,0)])/\Below N wr w3:=by
 obtain⟨i0,hi,ab,f,h⟩:=CE Tryz.infoBind;have hs:=hb.size;obtain⟨g,cap,w3,i,ho,d,k,_⟩:=run_append_lies (P:=prog) (w:=w1.alloc (.cells #[.string n,.string z,zB] 90)) 71 71 N 90 i0 _ 3 56 underlying71 hi ab f h rfl (by decide) u cs.length (Dg cs) ((aa.below hb).own.alloc _) (zD w1.heap.size 0) 1 1 (Dt (⟨n,⟨z,[]⟩⟩,none,0)) rfl (IY _ _ _ _ _) (λx hx=>by simp[Dt] at hx; rcases hx with rfl|rfl|rfl<;>rfl) (by decide) (by unfold maxLen; omega) (by omega) (by simp; omega) _ rfl;have hp:=aa.push (w1:=w1) (x:=(⟨n,⟨z,[]⟩⟩,none,0)) a e hb ⟨by simp,Ad rfl⟩ _ rfl ho d k;exact⟨_,w3,i,hp,((hb.mono a).alloc (by omega) _).grown d (by simp; omega) (λj hj=>(aa.own.lt j hj).1)⟩
theorem jI {wr w1:World} {N:Nat} {Y:Nat->Prop} {u:Value} {L:List Tm} {xs:List Value} {z:Tm} {a1:Option Addr} {c:Nat} (aa:AK wr N 33 Y u L xs) (f:∀b,Y b->b<N) (hb:Below wr.heap.size wr w1) (a:N<=wr.heap.size) (hl:L.length<=1000000) (hz:Sl w1 (λb=>Y b∨wr.heap.size<=b) a1 z.args):
  ∃d w3,(Builtin.append_ #[31,31] 31 #[u,.slice (some (zD w1.heap.size 0)) 1 1]).run prog (w1.alloc (.cells (zF z a1 c) 33))=.ok d w3/\AK w3 N 33 Y d (L++[z]) (xs++[.string z.name,.slice a1 z.args.length c])/\Below N wr w3:=by
 obtain⟨i0,hi,ab,h,i⟩:=CE Tryz.infoTerm;have hs:=hb.size;obtain⟨g,cap,w3,k,ho,e,l,_⟩:=run_append_lies (P:=prog) (w:=w1.alloc (.cells (zF z a1 c) 33)) 31 31 N 33 i0 _ 2 40 underlying31 hi ab h i rfl (by decide) u L.length xs ((aa.below hb).own.alloc _) (zD w1.heap.size 0) 1 1 [.string z.name,.slice a1 z.args.length c] rfl (PD _ _ _ _) (λx hx=>by simp at hx; rcases hx with rfl|rfl<;>rfl) (by decide) (by unfold maxLen; omega) (by omega) (by simp; omega) _ rfl;have hp:=aa.push (w1:=w1) (t:=z) a f hb ⟨a1,c,rfl,hz⟩ _ rfl ho e l;exact⟨_,w3,k,hp,((hb.mono a).alloc (by omega) _).grown e (by simp; omega) (λj hj=>(aa.own.lt j hj).1)⟩
def jJ (w:World) (l:List Tm) (q i:Value) (wr:World):Prop:=
 ∃k:Nat,k<=l.length/\i=zA k/\wr.ownsRow w.heap.size 9 1 q (Er l k).length ((Er l k).map Value.string)/\Below w.heap.size w wr
def jK (N:Nat) (w1:World) (ns vs:List ByteArray) (v q j:Value) (wr:World):Prop:=
 ∃m:Nat,m<=vs.length/\j=zA m/\wr.ownsRow N 9 1 q ((vs.take m).foldl CO ns).length (((vs.take m).foldl CO ns).map Value.string)/\LV Value.string wr (λb=>some b≠q.ownBlock) v vs/\Below N w1 wr
def jL (w2:World) (ns:List ByteArray) (u i:Value) (wr:World):Prop:=
 ∃(m:Nat) (cs:List Bc),m<=ns.length/\i=zA m/\Bj wr w2.heap.size (λ_=>False) u cs/\cs.map (·.1)=D6 0 (ns.take m)/\Below w2.heap.size w2 wr
def jM (V:Nat->Prop) (w3:World) (ls:List Bd) (l:List Tm) (u i:Value) (wr:World):Prop:=
 ∃(m:Nat) (xs:List Value),m<=l.length/\i=zA m/\AK wr w3.heap.size 33 (λb=>V b/\b<w3.heap.size) u (Ap ls (l.take m)) xs/\Below w3.heap.size w3 wr
theorem jN {ns:List ByteArray} {m:Nat} (h:m<ns.length):D6 0 (ns.take (m+1))=D6 0 (ns.take m)++[⟨ns[m],⟨Cc (m+1),[]⟩⟩]:=by
 rw[Bo h,TI];have:(ns.take m).length=m:=by simp; omega
 rw[this,EL]
theorem jO (l:List Tm) (a:Option Addr) (c:Nat) (w:World) (X:Nat->Prop) (hs:Sl w X a l) (he:Ah l=0) (bz:Ab l<=100000):
  Calls prog 42 #[.slice a l.length c] w λe w'=>∃G c',e=.returned (.slice G l.length c')/\Sl w' (λb=>w.heap.size<=b) G (Ba [] l).1/\Below w.heap.size w w':=by
 obtain⟨V,U⟩:∃V:Nat->Prop,V=λb=>w.heap.size<=b:=⟨_,rfl⟩;rw[<-U];have HV:=Aa U;clear U;have HS:=Aa (hs.mono (Y:=λb=>b<w.heap.size) λb _ h=>h);have b0:=EM l;have hl:=hs.1;have HE:=Aa he;clear hs he;go_enter func42,ntmps42;go_wp2_with fail;go_loopw [3,4] (λq i wr=>jJ w l q i wr) (λq i wr=>l.length-(intOf i).toNat);case atStart=>exact⟨0,AG _,rfl,by simpa [Er,At,Ao] using Gy w w.heap.size 9 1,Af _ _⟩
 case round=>
  obtain⟨k,hk,rfl,r,hb⟩:=hrel;have W:=Aa r;have B:=Aa hb;by_cases H:k<l.length
  ·obtain⟨b,o,G,c',rfl,d0,d1,hx⟩:=HS.o.get hb (λb h _=>h) k H;have Z:=Aa hx;have aY:(k:Int)<(l.length:Int):=(by omega);have al:Ab [l[k]]<=1000000:=by
    have:=De l k H;have:=Df l (k+1);omega
   have aZ:=Aa (jD H);have aJ:=Aa (jE H);clear r hb hx;go_wp2_with fail;refine(IR l[k] _ _ _ Z.o al).mono ?_;rintro e w1 ⟨v1,rfl,aD,d⟩;obtain⟨av,cv,rfl,_⟩:=id aD;generalize At [] (Ao [l[k]])=vs at *;have O1:Hid (w1.ownsRow w.heap.size 9 1 u3 (Er l k).length ((Er l k).map Value.string)):=W.o.kept (w':=w1) (row:=none) ⟨d.os,d.tape,d.output,d.size,λj hj _=>d.block j hj⟩ (by rcases Gx (Value.ownBlock u3) with h|⟨x,h⟩; exact Ad h; exact Ae (by rw[h]; simp));have V1:Hid (LV Value.string w1 (λb=>some b≠Value.ownBlock u3) (.slice av vs.length cv) vs):=aD.mono λb h1 h2 e=>by have:=(W.o.lt b e.symm).2; omega
   have aK:=Aa (B.o.trans (d.mono B.o.size));have ba:vs.length<=100000:=by have:=aJ.o; omega
   have b1:=Aa ba;clear aD d d0 d1;go_wp2_with fail;go_loopw [3,6] (λq j C=>jK w.heap.size w1 (Er l k) vs (.slice av vs.length cv) q j C) (λq j C=>vs.length-(intOf j).toNat);case atStart=>exact⟨0,AG _,rfl,by simpa using O1.o,V1.o,Af _ _⟩
   case round=>
    obtain⟨m,hm,rfl,ab,I,hb2⟩:=hrel;have J:=Aa ab;have V2:=Aa I;have L:=Aa hb2;by_cases t:m<vs.length
    ·obtain⟨bv,ov,rfl,M⟩:=I.atC m t;have aE:(m:Int)<(vs.length:Int):=(by omega);have v:=Aa (jC (acc:=Er l k) t);have aL:=Ue (vs.take m) (Er l k);have aF:((vs.take m).foldl CO (Er l k)).length<=1000000:=by
      have:=aJ.o;rw[H9]at aL;omega
     clear ab I hb2 aL;generalize (vs.take m).foldl CO (Er l k)=acc at *;cases y:AJ vs[m] acc with
     |true=>
      have HN:Hid (CO acc vs[m]=acc):=Aa (by unfold CO;rw[Ar y]);have aG:=Aa y;clear y;go_wp2_with (go_at_call 23; refine(Id _ _ _ _ _ (LV.of_own J.o)).mono ?_; rintro e w' ⟨rfl,rfl⟩; rw[aG.o]);go_roundw
      case rel=>exact⟨m+1,by omega,by go_num,by rw[v.o,HN.o]; exact J.o,V2.o,L.o⟩
      case measure=>simp[intOf]; omega
     |false=>
      have HN:Hid (CO acc vs[m]=acc++[vs[m]]):=Aa (by unfold CO;rw[Aj (by rw[y]; decide)]);have aG:=Aa y;clear y;obtain⟨q2,w3,aM,aN,aO,s⟩:=jH vs[m] J.o V2.o (AY aK.o.size (L.o.size)) aF;have D:=Aa aM;have bb:=Aa aN;have bc:=Aa aO;have A:=Aa (L.o.trans s);clear aM aN aO s;go_wp2_with (first|(go_at_call 23; refine(Id _ _ _ _ _ (LV.of_own J.o)).mono ?_; rintro e w' ⟨rfl,rfl⟩; rw[aG.o])|(at_builtin; refine DD rfl _ _ _ _ rfl rfl rfl D.o ?_));go_roundw
      case rel=>exact⟨m+1,by omega,by go_num,by rw[v.o,HN.o]; exact bb.o,bc.o,A.o⟩
      case measure=>simp[intOf]; omega
    ·have g:vs.take m=vs:=AX (by omega);rw[g,aZ.o]at ab;have HO:=Aa ab;clear ab I hb2 g;go_wp2_with fail;go_roundw
     case rel=>exact⟨k+1,by omega,by go_num,HO.o,aK.o.trans L.o⟩
     case measure=>simp[intOf]; omega
  ·rw[jF (by omega:l.length<=k)]at r;obtain⟨ns,aH⟩:∃ns,ns=At [] (Ao l):=⟨_,rfl⟩;have aP:=NU l;rw[<-aH]at r aP;have bd:=Aa aH;have N:=Aa aP;obtain⟨an,cn,rfl,_⟩:=id (LV.of_own r);have aQ:=Aa ((LV.of_own r).mono (Y:=λ_=>True) λ_ _ _=>trivial);clear r hb aH W;go_wp2_with fail;obtain⟨w2,bf⟩:∃w2,w2=wr:=⟨_,rfl⟩;subst bf;go_loopw [7,8] (λu i C=>jL w2 ns u i C) (λu i C=>ns.length-(intOf i).toNat);case atStart=>exact⟨0,[],AG _,rfl,Bj.start _ _ _,by simp[D6],Af _ _⟩
   case round=>
    obtain⟨m,cs,hm,rfl,aa,hcs,hb2⟩:=hrel;have O:=Aa aa;have aR:=Aa hcs;have aT:=Aa hb2;by_cases t:m<ns.length
    ·obtain⟨bn,on,rfl,M⟩:=(aQ.o.later hb2).atC m t;have aE:(m:Int)<(ns.length:Int):=(by omega);have bg:cs.length<=1000000:=by
      have h1:=Bx List.length hcs;rw[Ea,TH,H9]at h1;have:=N.o;omega
     have v:=Aa (jN t);have KP:Hid (∀w',Below wr.heap.size wr w'->w'.cell? ⟨bn,on+m,none⟩=some (.string ns[m])):=λw' hb=>cell_later hb M;have kd:Below wr.heap.size wr wr.drew:=(Af _ _).drew;have bh:=Aa (KP.o _ kd);have bj:1+(Lib.decDigits (m+1)).length<=9223372036854775807:=by have:=IV (m+1); have:=N.o; omega
     have bk:¬9223372036854775807<1+(Lib.decDigits (m+1)).length:=(by omega);have bl:Hid (IntKind.i64.wrap ((m:Int)+1)=((m+1:Nat):Int)):=Aa (by rw[EZ];have:=N.o;omega);clear aa hcs hb2 M;go_upto_region 15 with fail;refine CR (S:=(λw'=>w'.cell? ⟨bn,on+m,none⟩=some (.string ns[m]))) (by kernel_rfl) bh.o λhH=>?_;refine tkz 0 ?_;refine tkz 1 ?_;refine tkz 2 ?_;refine tkz 3 ?_;refine tkz 4 ?_ (hy:=by intro w' bm;have M:=bm;go_simp<;>with_reducible rfl);refine tkz 5 ?_;refine tkz 6 ?_;refine rdq 7 rfl λK n=>?_;go_simp;go_at_call 52;rw[bl.o];refine(O0 (m+1) (by have:=N.o; omega) _).mono ?_;rintro e w5 ⟨rfl,E⟩;have P:Below wr.heap.size wr w5:=kd.trans (E.mono kd.size);clear E;go_simp;refine n.o _ _ (by exact KP.o _ P) λhH=>?_;clear n K;(try simp only[Act.put,sq]);refine tkz 8 ?_;refine tkz 9 ?_;refine tkz 10 ?_;have a6:(⟨#[90]⟩:ByteArray)++⟨(Lib.decDigits (m+1)).toArray⟩=Cc (m+1):=Ud [90] (Lib.decDigits (m+1));try rw[a6]
     clear a6;obtain⟨q2,w6,F,ai,aU⟩:=Uf ns[m] (Cc (m+1)) O.o (λ_ h=>h.elim) P aT.o.size bg;have k6:Below wr.heap.size wr (w5.alloc (.cells #[.string ns[m],.string (Cc (m+1)),zB] 90)):=P.alloc P.size _;have D:=Aa F;have a7:=Aa ai;have aV:=Aa (aT.o.trans aU);have bo:Hid (w6.cell? ⟨bn,on+m,none⟩=some (.string ns[m])):=(((aQ.o.later aV.o).atC m t).elim λb h=>h.elim λo h=>by simp at h; obtain⟨⟨rfl,rfl⟩,h⟩:=h; exact h);clear F ai aU;refine rdq 11 rfl λK n=>?_;go_simp;refine n.o _ _ (by exact KP.o _ k6) λhH=>?_;clear n K;(try simp only[Act.put,sq]);refine rdq 12 rfl λK n=>?_;refine Gh rfl _ _ _ _ rfl rfl rfl D.o ?_;refine n.o _ _ (by exact bo.o) λhH=>?_;clear n K;(try simp only[Act.put,sq]);refine tkz 13 ?_;refine dnq ?_;go_wp2_with fail;go_roundw
     case rel=>exact⟨m+1,_,by omega,by go_num,a7.o,by rw[v.o,Cr,aR.o]; rfl,aV.o⟩
     case measure=>simp[intOf]; omega
    ·have g:ns.take m=ns:=AX (by omega);rw[g]at hcs;have R:=aa.bv;rw[hcs,bd.o]at R;obtain⟨aS,cS,rfl,_⟩:=id R;have bp:=Aa (R.mono (Y:=V) λb h1 _=>by rw[HV.o]; exact h1.elim (λh=>h.elim) λh=>AY B.o.size h);have bq:=Aa (gW HE.o);have T:=Aa (B.o.trans (hb2.mono B.o.size));clear aa hcs hb2 g R O aR;generalize D6 0 (At [] (Ao l))=ls at *;go_wp2_with fail;obtain⟨f,br⟩:∃f,f=wr:=⟨_,rfl⟩;subst br;go_loopw [9,10] (λu i wr=>jM V f ls l u i wr) (λu i wr=>l.length-(intOf i).toNat);case atStart=>exact⟨0,[],AG _,rfl,by simpa [Ap] using AK.start f f.heap.size 33 (λb=>V b/\b<f.heap.size),Af _ _⟩
     case round=>
      obtain⟨p,xs,hp,rfl,aa,s⟩:=hrel;have O:=Aa aa;have A:=Aa s;by_cases aI:p<l.length
      ·obtain⟨b,o,G,c',rfl,d0,d1,hx⟩:=((HS.o.later T.o).mono (Y:=λb=>b<f.heap.size) λb h1 h2=>h2).get s (λb _ h=>h) p aI;have Z:=Aa hx;have bs:(p:Int)<(l.length:Int):=(by omega);have al:Ab [l[p]]<=1000000:=by
        have:=De l p aI;have:=Df l (p+1);omega
       have bt:(Ap ls (l.take p)).length<=1000000:=by rw[Kx]; simp; omega
       have v:=Aa (G9 ls l p aI);clear aa s hx;go_wp2_with fail;refine(Qk ls l[p] _ _ _ _ _ ((bp.o.mono (Y:=λb=>V b/\b<f.heap.size) λb h1 h=>⟨h1,h⟩).later A.o) Z.o al).mono ?_;rintro e w1 ⟨a1,c1,rfl,aW,d⟩;generalize Ag ls l[p]=z at *;obtain⟨q2,w5,F,aj,E⟩:=jI O.o (λb h=>h.2) d A.o.size bt (c:=c1) (aW.mono (Y:=λb=>(V b/\b<f.heap.size)∨wr.heap.size<=b) λb h _=>h.imp (λh=>h.1) id);have D:=Aa F;have a8:=Aa aj;have bu:=Aa (A.o.trans E);clear F aj E aW d d0 d1;go_wp2_with (at_builtin; refine DD rfl _ _ _ _ rfl rfl rfl D.o ?_);go_roundw
       case rel=>exact⟨p+1,_,by omega,by go_num,by rw[v.o]; exact a8.o,bu.o⟩
       case measure=>simp[intOf]; omega
      ·have g:l.take p=l:=AX (by omega);rw[g,bq.o]at aa;obtain⟨ar,cr,rfl,aX⟩:=aa.sl;have bw:=Aa aX;have bx:(Ba [] l).1.length=l.length:=ML l [];clear aa s g aX;go_wp2_with fail;go_ret;exact⟨ar,cr,by rw[bx]; rfl,bw.o.mono λb h1 _=>h1.elim (λh=>h.1) λh=>by rw[HV.o]; exact AY T.o.size h,T.o.trans (A.o.mono T.o.size)⟩
abbrev Rn:=Pr×Nat
def Ix (U:List Pr->Int×List Bd) (q:Rn×Rn):Prop:=∃d∈AQ [] [] (Av q.1.1 q.2.1).1.l,Dv U (Av q.1.1 q.2.1) (decide (q.1.2=q.2.2)) d
def Hv (U:List Pr->Int×List Bd) (q:Rn×Rn):List Pr:=Jk U q.1.1 q.2.1 (decide (q.1.2=q.2.2))
open Classical in
noncomputable def DL (U:List Pr->Int×List Bd):List (Rn×Rn)->List Pr->Int×List Pr
 | [],out=>(0,out)
 |q::r,out=>if Ix U q then (8,[]) else if 400<(out++Hv U q).length then (3,[]) else DL U r (out++Hv U q)
theorem Ug (U:List Pr->Int×List Bd) (out:List Pr):DL U [] out=(0,out):=by rw[DL]
theorem Uh {U:List Pr->Int×List Bd} {q:Rn×Rn} {r:List (Rn×Rn)} {out:List Pr} (h:Ix U q):DL U (q::r) out=(8,[]):=by rw[DL,Ar h]
theorem Ui {U:List Pr->Int×List Bd} {q:Rn×Rn} {r:List (Rn×Rn)} {out:List Pr} (h:¬Ix U q) (hm:400<(out++Hv U q).length):DL U (q::r) out=(3,[]):=by rw[DL,Aj h,Ar hm]
theorem Uj {U:List Pr->Int×List Bd} {q:Rn×Rn} {r:List (Rn×Rn)} {out:List Pr} (h:¬Ix U q) (hm:¬400<(out++Hv U q).length):DL U (q::r) out=DL U r (out++Hv U q):=by rw[DL,Aj h,Aj hm]
def DS {α:Type} (Z:List α) (i j:Nat):List (α×α):=(match Z[i]? with|some o=>(Z.drop j).map λn=>(o,n)|none=>[])++(Z.drop (i+1)).flatMap λo=>Z.map λn=>(o,n)
theorem Uk {α:Type} (Z:List α) (i j:Nat) (hi:i<Z.length) (hj:j<Z.length):DS Z i j=(Z[i],Z[j])::DS Z i (j+1):=by
 unfold DS;rw[G4 hi];simp only;rw[Ks hj,Cb,Cj]
theorem Ul {α:Type} (Z:List α) (i:Nat) (hi:i<Z.length):DS Z i Z.length=DS Z (i+1) 0:=by
 unfold DS;rw[G4 hi];by_cases h:i+1<Z.length
 ·rw[G4 h];simp only[List.drop_length,Hy,D9,JD];rw[Ks h,JC]
 ·rw[List.getElem?_eq_none (by omega),Kt (by omega:Z.length<=i+1),Kt (by omega:Z.length<=i+1+1)];simp
theorem Um {α:Type} (Z:List α):DS Z Z.length 0=[]:=by
 unfold DS;rw[List.getElem?_eq_none (Ai _),Kt (by omega:Z.length<=Z.length+1)];rfl
noncomputable def Ds (U:List Pr->Int×List Bd) (rs:List Pr):Int×List Pr:=DL U (DS rs.zipIdx 0 0) []
theorem LP (rs:List Pr):rs.zipIdx.length=rs.length:=by simp
theorem LQ (rs:List Pr) (i:Nat) (h:i<rs.length):rs.zipIdx[i]'(by simpa using h)=(rs[i],i):=by simp
theorem NV {w:World} {N M:Nat} {Y:Nat->Prop} {v f:Value} {cs aa:List Pc} (h:Cm w N Y v cs) (q:N<=w.heap.size) (r:∀b,Y b->b<N) (h':Cm w M (λ_=>False) f aa) (an:N<=M) (i:∀b,v.ownBlock=some b->b<M) (hn:cs.length+aa.length<=1000000000):
  ∃v2 w3,(Builtin.append_ #[23,23] 23 #[v,f]).run prog w=.ok v2 w3/\Cm w3 N Y v2 (cs++aa)/\w.grownBy w3 v.ownBlock:=by
 obtain⟨i0,hi,s,l,t⟩:=CE Tryz.infoPair;by_cases h0:0<aa.length
 ·obtain⟨g',ab,rfl,ao,aj,hc⟩:=EN h'.own h0;have hlt:=h.own.lt;obtain⟨g,cap,w3,x,ho,d,m,aq⟩:=run_append_lies (P:=prog) (w:=w) 23 23 N 38 i0 _ 4 80 underlying23 hi s l t rfl (by decide) v cs.length (CT cs) h.own
   (zD g' 0) aa.length ab (CT aa) (Ns aa) (λj u hj=>by have:=hc j u hj; by_cases n:j=0; subst n; simpa [Addr.add] using this; simpa [Addr.add,n] using this) (Nx aa) h0 (by unfold maxLen; omega) (by omega) q _ rfl
  refine⟨_,w3,x,⟨by rw[Lw]; simpa using ho,λy hy=>?_⟩,d⟩;rcases Bg.1 hy with hy|hy
  ·have o:∀(a:Option Addr) (k:List Tm),Sl w (λb=>Y b∨(N<=b/\some b≠v.ownBlock)) a k->Sl w3 (λb=>Y b∨(N<=b/\some b≠(Value.slice (some (zD g 0)) (cs.length+aa.length) cap).ownBlock)) a k:=λa k h0=>by
    have h1:Sl w (λb=>(Y b∨(N<=b/\some b≠v.ownBlock))/\b<w.heap.size) a k:=h0.mono λb h1 h2=>⟨h1,h2⟩;refine(h1.kept λb hx=>d.block b hx.2 ?_).mono λb hx _=>?_
    ·rcases hx.1 with hy|hy
     ·exact h.ne (r b hy)
     ·exact hy.2
    ·rcases hx.1 with hy|hy
     ·exact Ad hy
     ·refine Ae ⟨hy.1,λe=>?_⟩;simp[Value.ownBlock]at e;rcases m with e'|e'
      ·exact hy.2 (by rw[e',e])
      ·omega
   exact⟨o _ _ (h.row y hy).1,o _ _ (h.row y hy).2⟩
  ·have new:∀(a:Option Addr) (k:List Tm),Sl w (λb=>False∨(M<=b/\some b≠(Value.slice (some (zD g' 0)) aa.length ab).ownBlock)) a k->Sl w3 (λb=>Y b∨(N<=b/\some b≠(Value.slice (some (zD g 0)) (cs.length+aa.length) cap).ownBlock)) a k:=λa k h0=>by
    have h1:Sl w (λb=>M<=b/\b<w.heap.size) a k:=h0.mono λb h1 h2=>⟨(h1.resolve_left id).1,h2⟩;refine(h1.kept λb hx=>d.block b hx.2 (λe=>?_)).mono λb hx _=>Ae ⟨by omega,λe=>?_⟩
    ·have:=i b e.symm; omega
    ·simp[Value.ownBlock]at e;rcases m with e'|e'
     ·have:=i g e'; omega
     ·omega
   exact⟨new _ _ (h'.row y hy).1,new _ _ (h'.row y hy).2⟩
 ·have e:aa=[]:=EK.1 (by omega);subst e;obtain⟨a,c,z⟩:=DX h'.own;obtain⟨A,vc,hv,B,_⟩:=h.qv;refine⟨v,w,?_,by simpa using h,⟨rfl,rfl,rfl,Ai _,λ_ _ _=>rfl⟩⟩;subst hv z;have hle:=B.2;simp only[Ea] at hle;cases A<;>cases a<;>simp[Builtin.append_,Ga underlying23,sizeOf,typeInfo,hi,l,Builtin.lenOf,Builtin.firstCells,hle,Result.andThen,storeCells,loadCells,loadCellsFrom]

/- Several texts in one. -/
import Derived.Test.YtlkeafenklamjaaGreatDoorOv8
import Derived.ProofKit
namespace Go.Proofs.YtlkeafenklamjaaGreatDoor
set_option linter.all false
set_option maxRecDepth 20000
set_option maxHeartbeats 8000000
open Go.RowKit
def Bj (f:ByteArray->ByteArray):List Tm->List Tm
 | []=>[]
 | ⟨s,l⟩::r=>⟨f s,Bj f l⟩::Bj f r
def AJ (f:ByteArray->ByteArray) (t:Tm):Tm:=⟨f t.name,Bj f t.args⟩
def EY (f:ByteArray->ByteArray) (d:Bd):Bd:=⟨f d.nm,AJ f d.t⟩
def GE (f:ByteArray->ByteArray) (p:Pr):Pr:=⟨AJ f p.l,AJ f p.r⟩
theorem Es (f:ByteArray->ByteArray) (t:Tm) (r:List Tm):Bj f (t::r)=AJ f t::Bj f r:=by
 obtain⟨s,l⟩:=t
 simp only[Bj,AJ]
theorem G3 (f:ByteArray->ByteArray):∀l,Bj f l=l.map (AJ f)
 | []=>by simp[Bj]
 |t::r=>by rw[Es,G3 f r]; rfl
theorem M5 (f:ByteArray->ByteArray) (l:List Tm):(Bj f l).length=l.length:=by rw[G3]; simp
theorem ZL (f:ByteArray->ByteArray) (l:List Tm):Ab (Bj f l)=Ab l:=by
 induction l using Tm.indL with
 |h0=>simp[Bj]
 |h s l r aa ae=>simp only[Bj,Ab,aa,ae]
theorem F4 (f:ByteArray->ByteArray) (t:Tm):Ab [AJ f t]=Ab [t]:=by
 have:=ZL f [t]
 rw[Es,G3 f []]at this
 exact this
theorem ZM (f:ByteArray->ByteArray) (l:List Tm):(Bj f l).isEmpty=l.isEmpty:=by
 rw[G3]; simp
def AB (D:ByteArray->Prop) (l:List Tm):Prop:=∀k∈Ao l,D k.name
theorem AB.cons {D:ByteArray->Prop} {t:Tm} {r:List Tm}:AB D (t::r)↔D t.name/\AB D t.args/\AB D r:=by
 obtain⟨s,l⟩:=t
 unfold AB
 simp only[Ao,BE,Bg]
 constructor
 ·intro h
  exact⟨h ⟨s,l⟩ (Ad rfl),λk hk=>h k (Ae (Ad hk)),λk hk=>h k (Ae (Ae hk))⟩
 ·rintro⟨h1,h2,h3⟩ k (rfl|hk|hk)
  ·exact h1
  ·exact h2 k hk
  ·exact h3 k hk
theorem AB.nil {D:ByteArray->Prop}:AB D []:=λk hk=>by simp[Ao] at hk
theorem AB.one {D:ByteArray->Prop} {t:Tm}:AB D [t]↔D t.name/\AB D t.args:=by
 rw[AB.cons]
 exact⟨λh=>⟨h.1,h.2.1⟩,λh=>⟨h.1,h.2,AB.nil⟩⟩
theorem AB.all {D:ByteArray->Prop}:∀ {l:List Tm},AB D l↔∀t∈l,AB D [t]
 | []=>by simp[AB.nil]
 |t::r=>by
  rw[AB.cons,AB.all (l:=r)]
  simp only[BE,forall_eq_or_imp,AB.one]
  exact⟨λh=>⟨⟨h.1,h.2.1⟩,h.2.2⟩,λh=>⟨h.1.1,h.1.2,h.2⟩⟩
def GF (D:ByteArray->Prop) (s:List Bd):Prop:=∀d∈s,D d.nm/\AB D [d.t]
def H6 (D:ByteArray->Prop) (l:List Pr):Prop:=∀p∈l,AB D [p.l]/\AB D [p.r]
structure kN (D:ByteArray->Prop) (f:ByteArray->ByteArray):Prop where
 inj:∀a b,D a->D b->f a=f b->a=b
 var:∀a,D a->Ak (f a)=Ak a
 lt:∀a b,D a->D b->Cs (f a) (f b)=Cs a b
theorem Sh {D:ByteArray->Prop} {n:ByteArray} {x:Tm}:∀ {s:List Bd},GF D s->Ar s n=some x->AB D [x]
 | [],_,h=>by cases h
 |d::r,h,e=>by
  simp only[Ar] at e
  split at e
  ·cases e; exact(h d (by simp)).2
  ·exact Sh (λe he=>h e (by simp[he])) e
theorem Si {x:ByteArray} {l:List ByteArray}:AF x l=true↔x∈l:=by
 unfold AF
 rw[D7]
 constructor
 ·rintro⟨y,hy,e⟩
  have e1:y.toList=x.toList:=by simpa using e
  have e2:y=x:=by
   have h:=Bu List.toArray e1
   rw[GG,GG]at h
   cases y; cases x
   simpa using h
  exact e2▸hy
 ·intro h
  exact⟨x,h,by simp⟩
theorem ZN (f:ByteArray->ByteArray) (l:List Tm):(Ao (Bj f l)).map (·.name)=((Ao l).map (·.name)).map f:=by
 induction l using Tm.indL with
 |h0=>simp[Bj,Ao]
 |h s l r aa ae=>simp only[Bj,Ao,BP,Cr,aa,ae]
theorem Sj (acc:List ByteArray):∀ks:List Tm,At acc ks=(ks.map (·.name)).foldl Bk acc:=λks=>by
 unfold At
 rw[List.foldl_map]
theorem ZO (f:ByteArray->ByteArray) (s:List Bd):AD (s.map (EY f))=AD s:=by
 unfold AD
 rw[List.any_map]
 congr 1
 funext d
 simp only[Function.comp,EY,F4]
theorem Sk (f:ByteArray->ByteArray):∀a b:List Tm,Ax (Bj f a) (Bj f b)=(Ax a b).map (GE f)
 | [],_=>by simp[Bj,Ax]
 |t::r,[]=>by rw[Es]; simp[Bj,Ax]
 |t::r,u::q=>by rw[Es,Es]; simp only[Ax,BP]; rw[Sk f r q]; rfl
theorem Sm {D:ByteArray->Prop}:∀ {a b:List Tm},AB D a->AB D b->H6 D (Ax a b)
 | [],_,_,_=>λp hp=>by simp[Ax] at hp
 |t::r,[],_,_=>λp hp=>by simp[Ax] at hp
 |t::r,u::q,ha,hb=>λp hp=>by
  obtain⟨a1,a2,a3⟩:=AB.cons.1 ha
  obtain⟨b1,b2,b3⟩:=AB.cons.1 hb
  simp only[Ax] at hp
  rcases BE.1 hp with rfl|hp
  ·exact⟨AB.one.2 ⟨a1,a2⟩,AB.one.2 ⟨b1,b2⟩⟩
  ·exact Sm a3 b3 p hp
structure DH (D:ByteArray->Prop) (f:ByteArray->ByteArray):Prop where
 inj:∀a b,D a->D b->f a=f b->a=b
 var:∀a,D a->Ak (f a)=Ak a
theorem Sn {D:ByteArray->Prop} {f:ByteArray->ByteArray} (hf:DH D f) {n:ByteArray} (hn:D n):∀ {s:List Bd},GF D s->Ar (s.map (EY f)) (f n)=(Ar s n).map (AJ f)
 | [],_=>rfl
 |d::r,h=>by
  have h1:=h d (by simp)
  have ih:=Sn hf hn (s:=r) λe he=>h e (by simp[he])
  simp only[BP,Ar,EY]
  by_cases e:d.nm=n
  ·rw[As e,As (by rw[e])]; rfl
  ·rw[An e,An (λe2=>e (hf.inj _ _ h1.1 hn e2)),<-ih]
theorem ZP {D:ByteArray->Prop} {f:ByteArray->ByteArray} (hf:DH D f) {s:List Bd} (hs:GF D s) (l:List Tm):AB D l->Am (s.map (EY f)) (Bj f l)=Bj f (Am s l)/\AB D (Am s l):=by
 induction l using Tm.indL with
 |h0=>intro _; simp only[Bj,Am]; exact⟨trivial,AB.nil⟩
 |h n l r ae af=>
  intro h
  obtain⟨h1,h2,h3⟩:=AB.cons.1 h
  obtain⟨i1,i2⟩:=ae h2
  obtain⟨i3,i4⟩:=af h3
  have aa:D n:=h1
  simp only[Bj,Am]
  rw[i1,i3,Es]
  have key:ER (s.map (EY f)) (f n) (Bj f l) (Bj f (Am s l))=AJ f (ER s n l (Am s l))/\AB D [ER s n l (Am s l)]:=by
   unfold ER
   rw[Sn hf aa hs]
   cases hq:Ar s n with
   |none=>exact⟨rfl,AB.one.2 ⟨aa,i2⟩⟩
   |some x=>
    simp only[Option.map_some,ZM]
    cases l.isEmpty with
    |true=>exact⟨rfl,Sh hs hq⟩
    |false=>exact⟨rfl,AB.one.2 ⟨aa,i2⟩⟩
  rw[key.1]
  exact⟨rfl,AB.cons.2 ⟨(AB.one.1 key.2).1,(AB.one.1 key.2).2,i4⟩⟩
theorem M6 {D:ByteArray->Prop} {f:ByteArray->ByteArray} (hf:DH D f) {s:List Bd} (hs:GF D s) {t:Tm} (ht:AB D [t]):Ag (s.map (EY f)) (AJ f t)=AJ f (Ag s t)/\AB D [Ag s t]:=by
 have h:=ZP hf hs [t] ht
 rw[Es,Ba,Ba,Es]at h
 simp only[Am] at h
 exact⟨(List.cons.inj h.1).1,h.2⟩
theorem So {D:ByteArray->Prop} {f:ByteArray->ByteArray} (hf:DH D f) {x:ByteArray} (hx:D x) {l:List ByteArray} (hl:∀y∈l,D y):AF (f x) (l.map f)=AF x l:=by
 rw[Fs,Si,Si,Cj]
 constructor
 ·rintro⟨y,hy,e⟩
  rw[<-hf.inj _ _ (hl y hy) hx e]
  exact hy
 ·intro h
  exact⟨x,h,rfl⟩
theorem ZQ {D:ByteArray->Prop} {f:ByteArray->ByteArray} (hf:DH D f) {x:ByteArray} (hx:D x) {l:List ByteArray} (hl:∀y∈l,D y):Bk (l.map f) (f x)=(Bk l x).map f/\∀y∈Bk l x,D y:=by
 unfold Bk
 rw[hf.var x hx,So hf hx hl]
 split
 ·refine⟨by simp,λy hy=>?_⟩
  rcases Bg.1 hy with h|h
  ·exact hl y h
  ·rw[Gf.1 h]; exact hx
 ·exact⟨rfl,hl⟩
theorem Sp {D:ByteArray->Prop} {f:ByteArray->ByteArray} (hf:DH D f):∀(ns acc:List ByteArray),(∀y∈ns,D y)->(∀y∈acc,D y)->(ns.map f).foldl Bk (acc.map f)=(ns.foldl Bk acc).map f/\∀y∈ns.foldl Bk acc,D y
 | [],acc,_,h=>⟨rfl,h⟩
 |n::r,acc,hn,h=>by
  have h1:=ZQ hf (hn n (by simp)) h
  simp only[BP,List.foldl_cons]
  rw[h1.1]
  exact Sp hf r _ (λy hy=>hn y (by simp[hy])) h1.2
theorem ZR {D:ByteArray->Prop} {f:ByteArray->ByteArray} (hf:DH D f) {t:Tm} (ht:AB D [t]):At [] (Ao [AJ f t])=(At [] (Ao [t])).map f/\∀y∈At [] (Ao [t]),D y:=by
 have e:Ao [AJ f t]=Ao (Bj f [t]):=by rw[Es,G3 f []]; rfl
 rw[Sj,Sj,e,ZN]
 refine Sp hf _ [] (λy hy=>?_) (by simp)
 obtain⟨k,hk,rfl⟩:=Cj.1 hy
 exact ht k hk
theorem ZS {D:ByteArray->Prop} {f:ByteArray->ByteArray} (hf:DH D f) {x:ByteArray} (hx:D x) {t:Tm} (ht:AB D [t]) {s:List Bd} (hs:GF D s):(s.map (EY f)).map (Bo (f x) (AJ f t))=(s.map (Bo x t)).map (EY f)/\GF D (s.map (Bo x t)):=by
 have h1:GF D [⟨x,t⟩]:=λd hd=>by rw[Gf.1 hd]; exact⟨hx,ht⟩
 constructor
 ·rw[List.map_map,List.map_map]
  refine List.map_congr_left λd hd=>?_
  have h:=M6 hf h1 (hs d hd).2
  simp only[Function.comp,Bo,EY]
  rw[show [(⟨f x,AJ f t⟩:Bd)]=[(⟨x,t⟩:Bd)].map (EY f) from rfl,h.1]
 ·intro d hd
  obtain⟨d0,aa,rfl⟩:=Cj.1 hd
  exact⟨(hs d0 aa).1,(M6 hf h1 (hs d0 aa).2).2⟩
theorem ZT {a b:List Bd} (h:∀n,Ar a n=Ar b n) (l:List Tm):Am a l=Am b l:=by
 induction l using Tm.indL with
 |h0=>simp only[Am]
 |h s l r aa ae=>
  simp only[Am,aa,ae]
  unfold ER
  rw[h]
theorem ZU {a b:List Bd} (h:∀n,Ar a n=Ar b n) (t:Tm):Ag a t=Ag b t:=by
 have h1:=ZT h [t]
 rw[Ba,Ba]at h1
 exact(List.cons.inj h1).1
theorem ZV {D:ByteArray->Prop} {f:ByteArray->ByteArray} (hf:DH D f) {s:List Bd} (hs:GF D s) (ha:Ct s):Ct (s.map (EY f)):=by
 refine FP.2 (List.Pairwise.imp_of_mem ?_ ha)
 intro d e hd he hne h
 exact hne (hf.inj _ _ (hs d hd).1 (hs e he).1 h)
structure F5 (D:ByteArray->Prop) (f:ByteArray->ByteArray) (s s':List Bd):Prop where
 ok:Bv s
 dn:GF D s
 pm:s'.Perm (s.map (EY f))
theorem F5.on {D:ByteArray->Prop} {f:ByteArray->ByteArray} {s s':List Bd} (h:F5 D f s s') (hf:DH D f) {t:Tm} (ht:AB D [t]):Ag s' (AJ f t)=AJ f (Ag s t)/\AB D [Ag s t]:=by
 have h1:=M6 hf h.dn ht
 rw[<-h1.1]
 exact⟨ZU (λn=>PY h.pm (ZV hf h.dn h.ok.1) n) _,h1.2⟩
def Sq (D:ByteArray->Prop) (f:ByteArray->ByteArray) (u u':UO):Prop:=
 (∃e s s',u=.stop e s/\u'=.stop e s'/\F5 D f s s')∨∃s s' l,u=.go s l/\u'=.go s' (l.map (GE f))/\F5 D f s s'/\Ah (Aw l)=0/\H6 D l
theorem Sr {D:ByteArray->Prop} {f:ByteArray->ByteArray} (hf:DH D f) {s s':List Bd} (h:F5 D f s s') {l:List Pr} (he:Ah (Aw l)=0) (hl:H6 D l) {x:ByteArray} {t:Tm} (hx:D x) (ht:AB D [t]) (hv:Ak x=true) (hn:∀d∈s,d.nm≠x) (het:Ah [t]=0) (hg:∀e∈s,¬Au e.nm [t]):Sq D f (CB false s l x t) (CB false s' (l.map (GE f)) (f x) (AJ f t)):=by
 have hvp:=ZR hf ht
 have hp:=ZS hf hx ht h.dn
 unfold CB
 rw[hvp.1,So hf hx hvp.2]
 by_cases aa:AF x (At [] (Ao [t]))=true
 ·rw[As aa,As aa]
  exact Ad ⟨_,_,_,rfl,rfl,h⟩
 ·rw[An aa,An aa,An (by simp),An (by simp)]
  refine Ae ⟨_,_,_,rfl,rfl,⟨(Kw h.ok hv hn het hg (IE hv aa) he).1,?_,?_⟩,he,hl⟩
  ·intro d hd
   rcases Bg.1 ((EC _).subset hd) with hd|hd
   ·exact hp.2 d hd
   ·rw[Gf.1 hd]; exact⟨hx,ht⟩
  ·refine(EC _).trans ?_
   refine List.Perm.trans ?_ ((EC _).map (EY f)).symm
   rw[Cr,<-hp.1]
   exact(h.pm.map _).append (JK _)
theorem ZW {D:ByteArray->Prop} {f:ByteArray->ByteArray} (hf:DH D f) {s s':List Bd} (h:F5 D f s s') {l:List Pr} (he:Ah (Aw l)=0) (hl:H6 D l) {a b:Tm} (ha:AB D [a]) (hb:AB D [b]) (ea:Ah [a]=0) (eb:Ah [b]=0) (ga:∀e∈s,¬Au e.nm [a]) (gb:∀e∈s,¬Au e.nm [b]):Sq D f (Bf false s l a b) (Bf false s' (l.map (GE f)) (AJ f a) (AJ f b)):=by
 obtain⟨a1,a2⟩:=AB.one.1 ha
 obtain⟨b1,b2⟩:=AB.one.1 hb
 have e:(AJ f a).name=(AJ f b).name↔a.name=b.name:=⟨λh=>hf.inj _ _ a1 b1 h,λh=>Bu f h⟩
 have e2:(AJ f a).args.length=(AJ f b).args.length↔a.args.length=b.args.length:=by
  show(Bj f a.args).length=(Bj f b.args).length↔_
  rw[M5,M5]
 have aa:∀u:Tm,Au u.name [u]:=λu=>by obtain⟨n,k⟩:=u; exact Dc.2 (Ad rfl)
 have ae:∀u:Tm,Ah [u]=0->Ah u.args=0:=λu h=>by obtain⟨n,k⟩:=u; exact(Gt h).2.1
 unfold Bf
 rw[F4,F4,show Ak (AJ f a).name=Ak a.name from hf.var _ a1,show Ak (AJ f b).name=Ak b.name from hf.var _ b1]
 simp only[e,e2]
 split
 ·exact Ad ⟨_,_,_,rfl,rfl,h⟩
 ·split
  ·rename_i hva
   split
   ·exact Ae ⟨_,_,_,rfl,rfl,h,he,hl⟩
   ·exact Sr hf h he hl a1 hb hva (λd hd e=>ga d hd (by rw[e]; exact aa a)) eb gb
  ·split
   ·rename_i hvb
    exact Sr hf h he hl b1 ha hvb (λd hd e=>gb d hd (by rw[e]; exact aa b)) ea ga
   ·split
    ·refine Ae ⟨_,_,Ax a.args b.args++l,rfl,?_,h,?_,λp hp=>?_⟩
     ·show UO.go _ (Ax (Bj f a.args) (Bj f b.args)++_)=_
      rw[Sk]
      simp
     ·rw[FX]
      exact GY.2 ⟨Hv (ae a ea) (ae b eb),he⟩
     ·rcases Bg.1 hp with h|h
      ·exact Sm a2 b2 p h
      ·exact hl p h
    ·exact Ad ⟨_,_,_,rfl,rfl,h⟩
theorem Ss {D:ByteArray->Prop} {f:ByteArray->ByteArray} (hf:DH D f):∀(n:Nat) {s s':List Bd} (h:F5 D f s s') {l:List Pr} (he:Ah (Aw l)=0) (hl:H6 D l) {R:Int×List Bd},AQ false n s l=some R->∃R',AQ false n s' (l.map (GE f))=some R'/\R'.1=R.1/\F5 D f R.2 R'.2
 |0,_,_,_,_,_,_,_,h=>by cases h
 |n+1,s,s',hs,[],_,_,R,h=>by
  simp only[AQ,Em] at h
  cases h
  exact⟨_,rfl,rfl,hs⟩
 |n+1,s,s',hs,p::l,he,hl,R,h=>by
  obtain⟨e1,e2⟩:=Cp.1 he
  obtain⟨e2,e3⟩:=Cp.1 e2
  have hp:=hl p (by simp)
  have aa:H6 D l:=λq hq=>hl q (by simp[hq])
  have o1:=hs.on hf hp.1
  have o2:=hs.on hf hp.2
  have k:=ZW hf hs e3 aa o1.2 o2.2 (Ed hs.ok e1) (Ed hs.ok e2) (hs.ok.goneT e1) (hs.ok.goneT e2)
  rw[AQ,ES]at h
  rw[AQ,BP,ES,show(GE f p).l=AJ f p.l from rfl,show(GE f p).r=AJ f p.r from rfl,o1.1,o2.1]
  rcases k with ⟨e,s1,ae,k1,k2,k3⟩|⟨s1,ae,l1,k1,k2,k3,k4,k5⟩
  ·rw[k1]at h
   rw[k2]
   cases h
   exact⟨_,rfl,rfl,k3⟩
  ·rw[k1]at h
   rw[k2]
   exact Ss hf n k3 k4 k5 h
theorem ZX {D:ByteArray->Prop} {f:ByteArray->ByteArray} {s s':List Bd} (h:F5 D f s s'):AD s'=AD s:=by
 rw[N4 h.pm,ZO]
def D4 (f:ByteArray->Tm):List Tm->List Tm
 | []=>[]
 | ⟨s,l⟩::r=>(if Ak s=true then f s else ⟨s,D4 f l⟩)::D4 f r
def Ds (f:ByteArray->Tm) (t:Tm):Tm:=if Ak t.name=true then f t.name else ⟨t.name,D4 f t.args⟩
theorem IW (f:ByteArray->Tm) {s:ByteArray} {l:List Tm} (h:Ak s=true):Ds f ⟨s,l⟩=f s:=by unfold Ds; rw[As h]
theorem G4 (f:ByteArray->Tm) {s:ByteArray} {l:List Tm} (h:Ak s=false):Ds f ⟨s,l⟩=⟨s,D4 f l⟩:=by unfold Ds; rw[An (by rw[h]; simp)]
theorem EL (f:ByteArray->Tm) (t:Tm) (r:List Tm):D4 f (t::r)=Ds f t::D4 f r:=by
 obtain⟨s,l⟩:=t
 rw[D4]
 rfl
theorem Fp (f:ByteArray->Tm):D4 f []=[]:=by rw[D4]
theorem JE {s:ByteArray} {l r:List Tm} (h:Ah (⟨s,l⟩::r)=0):(Ak s=true->l=[])/\Ah l=0/\Ah r=0:=by
 obtain⟨h1,h2⟩:=U3 h
 refine⟨λhv=>?_,US h1,h2⟩
 simp only[Ah] at h1
 repeat' split at h1
 all_goals first|(cases h1; done)|skip
 all_goals
  rename_i h3 _
  simp[hv]at h3
  exact h3
def Fq (k:List Bd) (n:ByteArray):Tm:=(Ar k n).getD ⟨n,[]⟩
theorem IX {x:ByteArray} {l:List ByteArray}:AF x l=true↔x∈l:=by
 unfold AF
 rw[D7]
 constructor
 ·rintro⟨y,hy,he⟩
  have e:y.toList=x.toList:=eq_of_beq he
  have:y=x:=by
   rw[GG,GG]at e
   obtain⟨⟨a⟩⟩:=y
   obtain⟨⟨b⟩⟩:=x
   simpa using e
  rw[<-this]; exact hy
 ·exact λh=>⟨x,h,by simp⟩
def CE (acc:List ByteArray) (s:ByteArray):List ByteArray:=if AF s acc=true then acc else acc++[s]
theorem M7 (s:ByteArray):∀ns:List ByteArray,Az s ns<ns.length↔s∈ns
 | []=>by simp[Az]
 |n::r=>by
  by_cases e:n=s
  ·simp[Az,e]
  ·have:=M7 s r
   have e2:¬s=n:=λh=>e h.symm
   simp[Az,e,e2,this]
theorem St (ns:List ByteArray) (s:ByteArray):Cc ns s=CE ns s:=by
 unfold Cc CE
 by_cases h:s∈ns
 ·rw[As ((M7 s ns).2 h),As (IX.2 h)]
 ·rw[An (λk=>h ((M7 s ns).1 k)),An (λk=>h (IX.1 k))]
theorem Lb {acc:List ByteArray} {s:ByteArray} (h:Ak s=true):Bk acc s=CE acc s:=by
 unfold Bk CE
 cases hi:AF s acc<;>simp[h]
theorem M8 (acc:List ByteArray) (s x:ByteArray):x∈CE acc s↔x∈acc∨x=s:=by
 unfold CE
 split
 ·rename_i h
  have:=IX.1 h
  constructor
  ·exact Ad
  ·rintro(h|rfl)
   ·exact h
   ·exact this
 ·simp
theorem Su (x:ByteArray):∀(vs acc:List ByteArray),x∈vs.foldl CE acc↔x∈acc∨x∈vs
 | [],acc=>by simp
 |s::r,acc=>by
  rw[List.foldl_cons,Su x r,M8]
  simp only[BE]
  constructor
  ·rintro((h|h)|h)
   ·exact Ad h
   ·exact Ae (Ad h)
   ·exact Ae (Ae h)
  ·rintro(h|h|h)
   ·exact Ad (Ad h)
   ·exact Ad (Ae h)
   ·exact Ae h
theorem ZY (acc vs:List ByteArray) (s:ByteArray):(Bk vs s).foldl CE acc=Bk (vs.foldl CE acc) s:=by
 cases hv:Ak s with
 |false=>rw[Gj hv,Gj hv]
 |true=>
  rw[Lb hv,Lb hv]
  by_cases h:s∈vs
  ·have h2:s∈vs.foldl CE acc:=(Su s vs acc).2 (Ae h)
   unfold CE
   rw[As (IX.2 h)]
   rw[As]
   exact IX.2 h2
  ·have e:CE vs s=vs++[s]:=by
    unfold CE
    rw[An (λk=>h (IX.1 k))]
   rw[e,List.foldl_append]
   rfl
theorem Sv (acc:List ByteArray):∀(ks:List Tm) (vs:List ByteArray),(At vs ks).foldl CE acc=At (vs.foldl CE acc) ks
 | [],vs=>by simp[At]
 |k::r,vs=>by
  have e:∀us,At us (k::r)=At (Bk us k.name) r:=λus=>by simp[At]
  rw[e,e,Sv acc r,ZY]
theorem Sw (acc:List ByteArray) (k:Tm) (r:List Tm):At acc (k::r)=At (Bk acc k.name) r:=by simp[At]
theorem ZZ (l:List Tm):∀ns:List ByteArray,Ah l=0->(A7 ns l).2=At ns (Ao l):=by
 induction l using Tm.indL with
 |h0=>intro ns _; simp[Gp,Ao,At]
 |h s l r aa ae=>
  intro ns he
  obtain⟨h1,h2,h3⟩:=JE he
  rw[GT]
  simp only[Ao]
  rw[Sw,Io,ae _ h3]
  congr 1
  unfold CX
  cases hv:Ak s with
  |true=>
   have hl:=h1 hv
   subst hl
   simp only[hv,As,Ao]
   rw[St,Lb hv]
   simp[At]
  |false=>
   simp only[hv,Bool.false_eq_true,if_false]
   rw[aa ns h2,Gj hv]
def DU:Nat->List ByteArray->List Bd
 |_,[]=>[]
 |k,n::r=>⟨n,⟨BR (k+1),[]⟩⟩::DU (k+1) r
theorem Sx:∀(k:Nat) (ns:List ByteArray),(DU k ns).length=ns.length
 |_,[]=>rfl
 |k,n::r=>by simp[DU,Sx (k+1) r]
theorem Sy (n:ByteArray):∀(k:Nat) (ns:List ByteArray),DU k (ns++[n])=DU k ns++[⟨n,⟨BR (k+ns.length+1),[]⟩⟩]
 |k,[]=>by simp[DU]
 |k,m::r=>by
  rw[Cf]
  simp only[DU]
  rw[Sy n (k+1) r]
  simp only[Cf,Bs]
  rw[show k+1+r.length+1=k+(r.length+1)+1 by omega]
theorem Sz (s:ByteArray):∀(k:Nat) (ns:List ByteArray),s∈ns->Ar (DU k ns) s=some ⟨BR (k+Az s ns+1),[]⟩
 |k,n::r,h=>by
  simp only[DU,Ar]
  by_cases e:n=s
  ·simp[e,Az]
  ·rw[An e,Sz s (k+1) r (by simpa [D6 (Ne.intro e)] using(BE.1 h).resolve_left (λh=>e h.symm))]
   simp only[Az,e,if_false]
   rw[show k+1+Az s r+1=k+(Az s r+1)+1 by omega]
theorem SA {s:ByteArray}:∀ {k:Nat} {ns:List ByteArray},s∉ns->Ar (DU k ns) s=none
 |k,[],_=>by simp[DU,Ar]
 |k,n::r,h=>by
  simp only[BE,not_or] at h
  simp only[DU,Ar]
  rw[An (λe=>h.1 e.symm),SA h.2]
theorem SC {s:ByteArray}:∀ {ns N:List ByteArray},ns <+: N->s∈ns->Az s N=Az s ns
 |n::r,N,hp,h=>by
  obtain⟨q,rfl⟩:=hp
  simp only[Cf,Az]
  by_cases e:n=s
  ·simp[e]
  ·rw[An e,An e,SC (ns:=r) ⟨q,rfl⟩ ((BE.1 h).resolve_left (λh=>e h.symm))]
theorem Z0 (ns:List ByteArray) (s:ByteArray):ns <+: Cc ns s:=by
 unfold Cc
 split
 ·exact Id _
 ·exact⟨_,rfl⟩
theorem Z2 (l:List Tm):∀ns:List ByteArray,ns <+: (A7 ns l).2:=by
 induction l using Tm.indL with
 |h0=>intro ns; rw[Gp]; exact Id _
 |h s l r aa ae=>
  intro ns
  rw[GT]
  refine List.IsPrefix.trans ?_ (ae _)
  unfold CX
  split
  ·exact Z0 _ _
  ·exact aa ns
theorem Z4 {N:List ByteArray} (hN:∀n∈N,Ak n=true) (l:List Tm):∀ns:List ByteArray,Ah l=0->(A7 ns l).2 <+: N->(A7 ns l).1=Am (DU 0 N) l:=by
 induction l using Tm.indL with
 |h0=>intro ns _ _; simp[Gp,Am]
 |h s l r aa ae=>
  intro ns he hp
  obtain⟨h1,h2,h3⟩:=JE he
  rw[GT]at hp ⊢
  simp only at hp
  rw[Ba,<-ae _ h3 hp]
  congr 1
  have hq:(CX ns ⟨s,l⟩).2 <+: N:=(Z2 r _).trans hp
  cases hv:Ak s with
  |true=>
   have hl:=h1 hv
   subst hl
   have e:CX ns ⟨s,[]⟩=(⟨BR (Az s ns+1),[]⟩,Cc ns s):=by simp[CX,hv]
   rw[e]at hq ⊢
   simp only at hq
   have hm:s∈Cc ns s:=by rw[St,M8]; exact Ae rfl
   rw[Ik (Sz s 0 N (hq.subset hm)),SC hq hm,Oj]
   simp
  |false=>
   have e:CX ns ⟨s,l⟩=(⟨s,(A7 ns l).1⟩,(A7 ns l).2):=by simp[CX,hv]
   rw[e]at hq ⊢
   simp only at hq
   rw[Fv (Ae (SA λh=>by rw[hN s h] at hv; cases hv)),aa ns h2 hq]
theorem M9:∀(ks:List Tm) (acc:List ByteArray),(∀n∈acc,Ak n=true)->∀n∈At acc ks,Ak n=true
 | [],acc,h=>by simpa [At] using h
 |k::r,acc,h=>by
  rw[Sw]
  refine M9 r _ λn hn=>?_
  cases hv:Ak k.name with
  |false=>rw[Gj hv] at hn; exact h n hn
  |true=>
   rw[Lb hv,M8]at hn
   rcases hn with h1|h1
   ·exact h n h1
   ·rw[h1]; exact hv
theorem Z6 {l:List Tm} (he:Ah l=0):Am (DU 0 (At [] (Ao l))) l=(A7 [] l).1:=by
 have h:=ZZ l [] he
 exact(Z4 (M9 _ [] (by simp)) l [] he (by rw[h]; exact Id _)).symm
inductive FH {α:Type} (R:α->α->Prop):α->α->Prop
 |refl (a:α):FH R a a
 |head {a b c:α}:R a b->FH R b c->FH R a c
theorem FH.trans {α:Type} {R:α->α->Prop} {a b c:α} (h:FH R a b) (h2:FH R b c):FH R a c:=by
 induction h with
 |refl=>exact h2
 |head r _ ih=>exact .head r (ih h2)
theorem FH.one {α:Type} {R:α->α->Prop} {a b:α} (h:R a b):FH R a b:=.head h (.refl b)
def JG {α:Type} (R:α->α->Prop) (a b:α):Prop:=∃c,FH R a c/\FH R b c
theorem JG.symm {α:Type} {R:α->α->Prop} {a b:α} (h:JG R a b):JG R b a:=by obtain⟨c,h1,h2⟩:=h; exact⟨c,h2,h1⟩
theorem JG.rfl {α:Type} {R:α->α->Prop} {a:α}:JG R a a:=⟨a,.refl a,.refl a⟩
theorem SD (f:ByteArray->Tm):∀l:List Tm,D4 f l=l.map (Ds f)
 | []=>by simp[Fp]
 |t::r=>by rw[EL,SD f r]; rfl
inductive Na (rs:List Pr):Tm->Tm->Prop
 |W7 {p:Pr} (f:ByteArray->Tm):p∈rs->Na rs (Ds f p.l) (Ds f p.r)
 |arg {s:ByteArray} {a b:List Tm} {x y:Tm}:Ak s=false->Na rs x y->Na rs ⟨s,a++x::b⟩ ⟨s,a++y::b⟩
theorem Z7 (f:ByteArray->Tm) {t:Tm} (h:Ak t.name=false):Ds f t=⟨t.name,t.args.map (Ds f)⟩:=by
 obtain⟨s,l⟩:=t
 rw[G4 f h,SD]
def Z8 (F:List Tm) (k:Tm):Prop:=∃f∈F,k.name=f.name/\k.args.length=f.args.length
structure kO (F:List Tm) (p:Pr):Prop where
 vs:∀k∈Ao [p.r],Ak k.name=true->∃c∈Ao [p.l],c.name=k.name
 lf:∀c∈Ao [p.l],Ak c.name=true->c.args=[]
 sy:∀k∈Ao [p.r],Z8 F k
theorem Z9 {ls:List Bd} (hV:Kh ls) (l:List Tm):Ah l=0->Am ls l=D4 (Fq ls) l:=by
 induction l using Tm.indL with
 |h0=>intro _; simp[Am,Fp]
 |h s l r aa ae=>
  intro he
  obtain⟨h1,h2,h3⟩:=JE he
  rw[Ba,EL,ae h3]
  congr 1
  cases hv:Ak s with
  |true=>
   have hl:=h1 hv
   subst hl
   have e:Ds (Fq ls) ⟨s,[]⟩=Fq ls s:=by simp[Ds,hv]
   rw[e]
   cases hf:Ar ls s with
   |some x=>simp[Ag,ER,hf,Fq]
   |none=>rw[Fv (Ae hf),Fq,hf]; simp[Am]
  |false=>
   have hf:Ar ls s=none:=by
    cases hf:Ar ls s with
    |none=>rfl
    |some x=>have:=hV s x hf; rw[hv] at this; cases this
   rw[G4 _ hv,Fv (Ae hf),aa h2]
theorem aE {ls:List Bd} (hV:Kh ls) {t:Tm} (he:Ah [t]=0):Ag ls t=Ds (Fq ls) t:=by
 have:=Z9 hV [t] he
 rw[Ba,EL,Fp]at this
 simpa [Am] using this
theorem SE {p:Pr} (h:Bt p=0):(∀k∈Ao [p.r],Ak k.name=true->∃c∈Ao [p.l],c.name=k.name)/\∀c∈Ao [p.l],Ak c.name=true->c.args=[]:=by
 obtain⟨q1,q2,q3,q4⟩:=Ep h
 refine⟨λk hk hv=>?_,λc hc hv=>?_⟩
 ·have h1:=q4 _ ((Jp (Ao [p.r]) []).2 k hk hv)
  rcases Kr _ _ _ h1 with h2|⟨c,h2,h3,_⟩
  ·cases h2
  ·exact⟨c,h2,h3⟩
 ·have key:∀l:List Tm,Ah l=0->∀c∈Ao l,Ak c.name=true->c.args=[]:=by
   intro l
   induction l using Tm.indL with
   |h0=>intro _ c hc; simp[Ao] at hc
   |h s l r aa ae=>
    intro he c hc hv
    obtain⟨h1,h2,h3⟩:=JE he
    have hk2:c=⟨s,l⟩∨c∈Ao l∨c∈Ao r:=by simpa [Ao] using hc
    rcases hk2 with rfl|hk|hk
    ·exact h1 hv
    ·exact aa h2 c hk hv
    ·exact ae h3 c hk hv
  exact key [p.l] (Dy q1) c hc hv
theorem eA {f g:ByteArray->Tm} (l:List Tm):(∀k∈Ao l,Ak k.name=true->f k.name=g k.name)->D4 f l=D4 g l:=by
 induction l using Tm.indL with
 |h0=>intro _; rw[Fp,Fp]
 |h s l r aa ae=>
  intro h
  rw[EL,EL,ae λk hk=>h k (by simp[Ao,hk])]
  congr 1
  cases hv:Ak s with
  |true=>rw[IW f hv,IW g hv]; exact h ⟨s,l⟩ (by simp[Ao]) hv
  |false=>rw[G4 f hv,G4 g hv,aa λk hk=>h k (by simp[Ao,hk])]
theorem eB {f g:ByteArray->Tm} {t:Tm} (h:∀k∈Ao [t],Ak k.name=true->f k.name=g k.name):Ds f t=Ds g t:=by
 have:=eA [t] h
 rw[EL,Fp,EL,Fp]at this
 simpa using this
theorem JH {s:ByteArray}:∀ {l:List ByteArray},s∈l->Az s l<l.length
 |n::r,h=>by
  by_cases e:n=s
  ·simp[Az,e]
  ·have h2:s∈r:=by
    rcases BE.1 h with h|h
    ·exact absurd h.symm e
    ·exact h
   have:=JH h2
   simp[Az,e]; omega
theorem SG {s:ByteArray} {b:List ByteArray}:∀ {a:List ByteArray},s∈a->Az s (a++b)=Az s a
 |n::r,h=>by
  by_cases e:n=s
  ·simp[Az,e]
  ·have h2:s∈r:=by
    rcases BE.1 h with h|h
    ·exact absurd h.symm e
    ·exact h
   have:=SG (b:=b) h2
   simp[Az,e,this]
theorem SH (ns:List ByteArray) (s:ByteArray):s∈Cc ns s:=by
 unfold Cc
 split
 ·rename_i h; have:=Ka s ns h; rw[<-this]; exact AV h
 ·simp
theorem eC (ns:List ByteArray) (s:ByteArray):ns <+: Cc ns s:=by
 unfold Cc
 split
 ·exact Id _
 ·exact List.prefix_append _ _
theorem eD {s:ByteArray} {a b:List ByteArray} (h:a <+: b) (hs:s∈a):Az s b=Az s a:=by
 obtain⟨c,rfl⟩:=h
 exact SG hs
theorem JI (K:ByteArray->ByteArray) (l:List Tm):∀ns,ns <+: (AK K ns l).2:=by
 induction l using Tm.indL with
 |h0=>intro ns; rw[E6]; exact Id _
 |h s l r ae aa=>
  intro ns
  rw[AK]
  split
  ·exact(eC ns (K s)).trans (aa _)
  ·exact(ae ns).trans (aa _)
theorem eE (K:ByteArray->ByteArray) (l:List Tm):∀ns,Ah l=0->∀k∈Ao l,Ak k.name=true->K k.name∈(AK K ns l).2:=by
 induction l using Tm.indL with
 |h0=>intro ns _ k hk; simp[Ao] at hk
 |h s l r ae aa=>
  intro ns he k hk hv
  obtain⟨h1,h2,h3⟩:=JE he
  have hk2:k=⟨s,l⟩∨k∈Ao l∨k∈Ao r:=by simpa [Ao] using hk
  rw[AK]
  rcases hk2 with rfl|hk|hk
  ·rw[As hv]; exact(JI K r _).subset (SH ns (K s))
  ·cases hs:Ak s with
   |true=>have:=h1 hs; subst this; simp[Ao] at hk
   |false=>
    simp only[Bool.false_eq_true,if_false]
    exact(JI K r _).subset (ae ns h2 k hk hv)
  ·split
   ·exact aa _ h3 k hk hv
   ·exact aa _ h3 k hk hv
def IY (K:ByteArray->ByteArray) (M:List ByteArray) (s:ByteArray):Tm:=⟨BR (Az (K s) M+1),[]⟩
theorem eF (K:ByteArray->ByteArray) {M:List ByteArray} (l:List Tm):∀ns,(AK K ns l).2 <+: M->(AK K ns l).1=D4 (IY K M) l:=by
 induction l using Tm.indL with
 |h0=>intro ns _; rw[E6,Fp]
 |h s l r ae aa=>
  intro ns hM
  rw[EL]
  rw[AK]at hM ⊢
  cases hv:Ak s with
  |true=>
   simp only[hv,if_true] at hM ⊢
   rw[IW _ hv,aa _ hM]
   have h1:Cc ns (K s) <+: M:=(JI K r _).trans hM
   have h2:=eD h1 (SH ns (K s))
   rw[Oj]at h2
   unfold IY
   rw[h2]
  |false=>
   simp only[hv,Bool.false_eq_true,if_false] at hM ⊢
   rw[G4 _ hv,aa _ hM,ae ns ((JI K r _).trans hM)]
theorem JJ (K:ByteArray->ByteArray) (ns:List ByteArray) (t:Tm):AK K ns [t]=([(AO K ns t).1],(AO K ns t).2):=by rw[FY,E6]
theorem Nb (K:ByteArray->ByteArray) {M ns:List ByteArray} {t:Tm} (h:(AO K ns t).2 <+: M):(AO K ns t).1=Ds (IY K M) t:=by
 have:=eF K (M:=M) [t] ns (by rw[JJ]; exact h)
 rw[JJ,EL,Fp]at this
 simpa using this
theorem Lc (K:ByteArray->ByteArray) (ns:List ByteArray) (t:Tm):ns <+: (AO K ns t).2:=by
 have:=JI K [t] ns
 rw[JJ]at this; exact this
theorem eG (K:ByteArray->ByteArray) (ns:List ByteArray) {t:Tm} (he:Ah [t]=0):∀k∈Ao [t],Ak k.name=true->K k.name∈(AO K ns t).2:=by
 have:=eE K [t] ns he
 rw[JJ]at this; exact this
open Classical in
noncomputable def Nc (M:List ByteArray) (F:ByteArray->Tm) (n:ByteArray):Tm:=if h:∃k,k∈M/\n=BR (Az k M+1) then F (Classical.choose h) else ⟨n,[]⟩
theorem Nd {M:List ByteArray} {a b:ByteArray} (ha:a∈M) (hb:b∈M) (h:Az a M=Az b M):a=b:=by
 have h1:=Ka a M (JH ha)
 have h2:=Ka b M (JH hb)
 rw[<-h1,<-h2]
 congr 1
theorem eH {M:List ByteArray} (F:ByteArray->Tm) {k:ByteArray} (h:k∈M):Nc M F (BR (Az k M+1))=F k:=by
 unfold Nc
 have hx:∃k',k'∈M/\BR (Az k M+1)=BR (Az k' M+1):=⟨k,h,rfl⟩
 rw[DX hx]
 obtain⟨h1,h2⟩:=Classical.choose_spec hx
 have h3:=U4 h2
 have e:Classical.choose hx=k:=(Nd h h1 (by omega)).symm
 rw[e]
theorem SI (k:Nat):Ak (BR k)=true:=by
 unfold Ak BR Dt
 have h0:0<(⟨(90::Lib.decDigits k).toArray⟩:ByteArray).size:=by show 0<(90::Lib.decDigits k).toArray.size; simp
 rw[DX h0]
 rfl
theorem SJ (i:Nat) (s:ByteArray):(AA i s).data.toList=Lib.decDigits i++s.data.toList:=by
 unfold AA
 rw[ByteArray.data_append]
 simp
theorem SL {i:Nat} {s t:ByteArray} (h:AA i s=AA i t):s=t:=by
 have h1:=Bu (λb:ByteArray=>b.data.toList) h
 simp only[SJ] at h1
 have h2:=List.append_cancel_left h1
 exact ByteArray.ext (Array.ext' h2)
theorem eI {s t:ByteArray} (h:AA 0 s=AA 1 t):False:=by
 have h1:=Bu (λb:ByteArray=>b.data.toList) h
 simp only[SJ] at h1
 rw[show Lib.decDigits 0=[48] by decide +kernel,show Lib.decDigits 1=[49] by decide +kernel]at h1
 simp at h1
open Classical in
noncomputable def IZ (f g:ByteArray->Tm) (k:ByteArray):Tm:=if h:∃s,k=AA 0 s then f (Classical.choose h) else if h:∃s,k=AA 1 s then g (Classical.choose h) else ⟨k,[]⟩
theorem eJ (f g:ByteArray->Tm) (s:ByteArray):IZ f g (AA 0 s)=f s:=by
 unfold IZ
 have hx:∃t,AA 0 s=AA 0 t:=⟨s,rfl⟩
 rw[DX hx]
 have e:Classical.choose hx=s:=(SL (Classical.choose_spec hx)).symm
 rw[e]
theorem eK (f g:ByteArray->Tm) (s:ByteArray):IZ f g (AA 1 s)=g s:=by
 unfold IZ
 have hn:¬ ∃t,AA 1 s=AA 0 t:=by rintro⟨t,ht⟩; exact eI ht.symm
 have hx:∃t,AA 1 s=AA 1 t:=⟨s,rfl⟩
 rw[dif_neg hn,DX hx]
 have e:Classical.choose hx=s:=(SL (Classical.choose_spec hx)).symm
 rw[e]
theorem eL (K:ByteArray->ByteArray) (ns:List ByteArray) (p:Pr):(Cl K ns p).2=(AO K (AO K ns p.l).2 p.r).2:=rfl
theorem eM (K:ByteArray->ByteArray) (ns:List ByteArray) (p:Pr):ns <+: (Cl K ns p).2:=(Lc K ns p.l).trans (Lc K _ p.r)
theorem eN {p q:Pr}:(Av p q).1.l=Ds (IY (AA 0) (AO (AA 0) [] p.l).2) p.l/\∃M,(Av p q).2.l=Ds (IY (AA 1) M) q.l:=
 ⟨Nb _ (Id _),_,Nb _ (Id _)⟩
theorem eP {ls:List Bd} {n:ByteArray} {x:Tm} (h:Ar ls n=some x):∃d∈ls,d.nm=n:=by
 obtain⟨d,hd,h1,_⟩:=Qf h
 exact⟨d,hd,h1⟩
theorem eR {ls:List Bd} (h:∀d∈ls,Ak d.nm=true):Kh ls:=λn x hx=>by
 obtain⟨d,hd,rfl⟩:=eP hx
 exact h d hd
def DB (c:UInt8) (i:Nat):ByteArray:=⟨(c::Lib.decDigits i).toArray⟩
theorem Ld {c c':UInt8} {i j:Nat} (h:DB c i=DB c' j):c=c'/\i=j:=by
 unfold DB at h
 simp only[ByteArray.mk.injEq] at h
 have h1:=Bu Array.toList h
 simp only[List.toList_toArray,Gd] at h1
 exact⟨h1.1,by rw[<-Kb i,h1.2,Kb]⟩
theorem SM (i:Nat):Ak (DB 80 i)=true/\Ak (DB 81 i)=true:=by
 unfold Ak DB Dt
 have h0:∀c:UInt8,0<(⟨(c::Lib.decDigits i).toArray⟩:ByteArray).size:=λc=>by show 0<(c::Lib.decDigits i).toArray.size; simp
 rw[DX (h0 _),DX (h0 _)]
 exact⟨rfl,rfl⟩
def C1 (c:UInt8):Nat->List ByteArray->List Bd
 |_,[]=>[]
 |k,n::r=>⟨n,⟨DB c k,[]⟩⟩::C1 c (k+1) r
theorem SN (c:UInt8):∀(k:Nat) (ns:List ByteArray),(C1 c k ns).length=ns.length
 |_,[]=>rfl
 |k,n::r=>by simp[C1,SN c (k+1) r]
theorem SO (c:UInt8) (n:ByteArray):∀(k:Nat) (ns:List ByteArray),C1 c k (ns++[n])=C1 c k ns++[⟨n,⟨DB c (k+ns.length),[]⟩⟩]
 |k,[]=>by simp[C1]
 |k,m::r=>by
  rw[Cf]
  simp only[C1]
  rw[SO c n (k+1) r]
  simp only[Cf,Bs]
  rw[show k+1+r.length=k+(r.length+1) by omega]
theorem SP (c:UInt8):∀(k:Nat) (ns:List ByteArray),∀d∈C1 c k ns,d.nm∈ns
 |_,[],d,h=>by simp[C1] at h
 |k,n::r,d,h=>by
  simp only[C1] at h
  rcases BE.1 h with rfl|h
  ·simp
  ·exact List.mem_cons_of_mem _ (SP c (k+1) r d h)
theorem SR (c:UInt8) (s:ByteArray):∀(k:Nat) (ns:List ByteArray),s∈ns->Ar (C1 c k ns) s=some ⟨DB c (k+Az s ns),[]⟩
 |k,n::r,h=>by
  simp only[C1,Ar]
  by_cases e:n=s
  ·simp[e,Az]
  ·rw[An e,SR c s (k+1) r ((BE.1 h).resolve_left (λh=>e h.symm))]
   simp only[Az,e,if_false]
   rw[show k+1+Az s r=k+(Az s r+1) by omega]
def CG (p:Pr):List ByteArray:=At [] (Ao [p.l])
theorem eS (p:Pr):∀n∈CG p,Ak n=true:=M9 _ _ (by simp)
def Dl (c:UInt8) (p:Pr):Pr:=⟨Ag (C1 c 0 (CG p)) p.l,Ag (C1 c 0 (CG p)) p.r⟩
theorem eT (c:UInt8) (p:Pr):Kh (C1 c 0 (CG p)):=eR λd hd=>eS p _ (SP c 0 _ d hd)
theorem Nf (c:UInt8) {p:Pr} {v:ByteArray} (h:v∈CG p):Fq (C1 c 0 (CG p)) v=⟨DB c (Az v (CG p)),[]⟩:=by
 unfold Fq
 rw[SR c v 0 _ h]
 simp
theorem eU (K:ByteArray->ByteArray) (l:List Tm):∀(ns:List ByteArray),∀k∈(AK K ns l).2,k∈ns∨∃x∈Ao l,Ak x.name=true/\k=K x.name:=by
 induction l using Tm.indL with
 |h0=>intro ns k hk; rw[AK] at hk; exact Ad hk
 |h s l r ae aa=>
  intro ns k hk
  rw[AK]at hk
  simp only[Ao]
  by_cases hv:Ak s=true
  ·rw[As hv]at hk
   rcases aa _ k hk with h|⟨x,hx,h⟩
   ·unfold Cc at h
    split at h
    ·exact Ad h
    ·rcases Bg.1 h with h|h
     ·exact Ad h
     ·exact Ae ⟨⟨s,l⟩,by simp,hv,Gf.1 h⟩
   ·exact Ae ⟨x,by simp[hx],h⟩
  ·rw[An hv]at hk
   rcases aa _ k hk with h|⟨x,hx,h⟩
   ·rcases ae _ k h with h|⟨x,hx,h⟩
    ·exact Ad h
    ·exact Ae ⟨x,by simp[hx],h⟩
   ·exact Ae ⟨x,by simp[hx],h⟩
theorem SS {K:ByteArray->ByteArray} {t:Tm} {ns:List ByteArray} {k:ByteArray} (h:k∈(AO K ns t).2):k∈ns∨∃x∈Ao [t],Ak x.name=true/\k=K x.name:=by
 have:=eU K [t] ns k
 rw[JJ]at this
 exact this h
theorem ST {K:ByteArray->ByteArray} {p:Pr} (hp:Bt p=0) {ns:List ByteArray} {k:ByteArray} (h:k∈(Cl K ns p).2):k∈ns∨∃v∈CG p,k=K v:=by
 rw[eL]at h
 have key:∀x∈Ao [p.l],Ak x.name=true->x.name∈CG p:=λx hx hv=>(Jp (Ao [p.l]) []).2 x hx hv
 rcases SS h with h|⟨x,hx,hv,rfl⟩
 ·rcases SS h with h|⟨x,hx,hv,rfl⟩
  ·exact Ad h
  ·exact Ae ⟨_,key x hx hv,rfl⟩
 ·obtain⟨c,hc,hn⟩:=(SE hp).1 x hx hv
  rw[<-hn]at hv ⊢
  exact Ae ⟨_,key c hc hv,rfl⟩
theorem eV {f:ByteArray->ByteArray} (hf:∀n,Ak n=false->f n=n) (g:ByteArray->Tm) (l:List Tm):Bj f (D4 g l)=D4 (λv=>AJ f (g v)) l:=by
 induction l using Tm.indL with
 |h0=>simp[Fp,Bj]
 |h s l r aa ae=>
  rw[EL,EL,Es,ae]
  congr 1
  cases hv:Ak s with
  |true=>rw[IW g hv,IW _ hv]
  |false=>
   rw[G4 g hv,G4 _ hv]
   show(⟨f s,Bj f (D4 g l)⟩:Tm)=_
   rw[hf s hv,aa]
theorem eX {f:ByteArray->ByteArray} (hf:∀n,Ak n=false->f n=n) (g:ByteArray->Tm) (t:Tm):AJ f (Ds g t)=Ds (λv=>AJ f (g v)) t:=by
 have h:=eV hf g [t]
 rw[EL,EL,Es]at h
 exact(List.cons.inj h).1
theorem eY {D:ByteArray->Prop} (hD:∀n,Ak n=false->D n) {g:ByteArray->Tm} (l:List Tm):(∀x∈Ao l,Ak x.name=true->AB D [g x.name])->AB D (D4 g l):=by
 induction l using Tm.indL with
 |h0=>intro _; rw[Fp]; exact AB.nil
 |h s l r aa ae=>
  intro h
  simp only[Ao] at h
  rw[EL]
  have h1:=ae λx hx=>h x (by simp[hx])
  have h2:AB D [Ds g ⟨s,l⟩]:=by
   cases hv:Ak s with
   |true=>rw[IW g hv]; exact h ⟨s,l⟩ (by simp) hv
   |false=>
    rw[G4 g hv]
    exact AB.one.2 ⟨hD s hv,aa λx hx=>h x (by simp[hx])⟩
  exact AB.cons.2 ⟨(AB.one.1 h2).1,(AB.one.1 h2).2,h1⟩
theorem eZ {D:ByteArray->Prop} (hD:∀n,Ak n=false->D n) {g:ByteArray->Tm} {t:Tm} (h:∀x∈Ao [t],Ak x.name=true->AB D [g x.name]):AB D [Ds g t]:=by
 have h1:=eY hD [t] h
 rw[EL,Fp]at h1
 exact h1
def DI (o n:Pr):List ByteArray:=(Cl (AA 1) (Cl (AA 0) [] o).2 n).2
def I0 (o n:Pr) (x:ByteArray):Prop:=Ak x=false∨∃k∈DI o n,x=BR (Az k (DI o n)+1)
noncomputable def C2 (o n:Pr) (x:ByteArray):ByteArray:=if Ak x=true then (Nc (DI o n) (IZ (Fq (C1 80 0 (CG o))) (Fq (C1 81 0 (CG n)))) x).name else x
theorem G5 {o n:Pr} {x:ByteArray} (h:Ak x=false):C2 o n x=x:=by unfold C2; rw[h]; rfl
theorem SW {o n:Pr} {k:ByteArray} (h:k∈DI o n):C2 o n (BR (Az k (DI o n)+1))=(IZ (Fq (C1 80 0 (CG o))) (Fq (C1 81 0 (CG n))) k).name:=by
 unfold C2
 rw[As (SI _),eH _ h]
theorem Le {o n:Pr} {v:ByteArray} (h:AA 0 v∈DI o n) (hv:v∈CG o):C2 o n (BR (Az (AA 0 v) (DI o n)+1))=DB 80 (Az v (CG o)):=by
 rw[SW h,eJ,Nf _ hv]
theorem Lf {o n:Pr} {v:ByteArray} (h:AA 1 v∈DI o n) (hv:v∈CG n):C2 o n (BR (Az (AA 1 v) (DI o n)+1))=DB 81 (Az v (CG n)):=by
 rw[SW h,eK,Nf _ hv]
theorem SY {o n:Pr} (ho:Bt o=0) (hn:Bt n=0) {k:ByteArray} (h:k∈DI o n):(∃v∈CG o,k=AA 0 v)∨∃v∈CG n,k=AA 1 v:=by
 rcases ST hn h with h|h
 ·rcases ST ho h with h|h
  ·cases h
  ·exact Ad h
 ·exact Ae h
theorem fA {o n:Pr} (ho:Bt o=0) (hn:Bt n=0):DH (I0 o n) (C2 o n):=by
 have key:∀k∈DI o n,(∃v∈CG o,k=AA 0 v/\C2 o n (BR (Az k (DI o n)+1))=DB 80 (Az v (CG o)))∨∃v∈CG n,k=AA 1 v/\C2 o n (BR (Az k (DI o n)+1))=DB 81 (Az v (CG n)):=by
  intro k hk
  rcases SY ho hn hk with ⟨v,hv,rfl⟩|⟨v,hv,rfl⟩
  ·exact Ad ⟨v,hv,rfl,Le hk hv⟩
  ·exact Ae ⟨v,hv,rfl,Lf hk hv⟩
 have kv:∀k∈DI o n,Ak (C2 o n (BR (Az k (DI o n)+1)))=true:=λk hk=>by
  rcases key k hk with ⟨v,_,_,e⟩|⟨v,_,_,e⟩
  ·rw[e]; exact(SM _).1
  ·rw[e]; exact(SM _).2
 refine⟨λa b ha hb h=>?_,λa ha=>?_⟩
 ·rcases ha with ha|⟨j,hj,rfl⟩
  ·rcases hb with hb|⟨k,hk,rfl⟩
   ·rwa [G5 ha,G5 hb] at h
   ·have:=kv k hk
    rw[<-h,G5 ha,ha]at this
    cases this
  ·rcases hb with hb|⟨k,hk,rfl⟩
   ·have:=kv j hj
    rw[h,G5 hb,hb]at this
    cases this
   ·rcases key j hj with ⟨v,hv,rfl,e1⟩|⟨v,hv,rfl,e1⟩<;>rcases key k hk with ⟨u,hu,rfl,e2⟩|⟨u,hu,rfl,e2⟩
    ·rw[e1,e2]at h
     rw[Nd hv hu (Ld h).2]
    ·rw[e1,e2]at h
     exact absurd (Ld h).1 (by decide)
    ·rw[e1,e2]at h
     exact absurd (Ld h).1 (by decide)
    ·rw[e1,e2]at h
     rw[Nd hv hu (Ld h).2]
 ·rcases ha with ha|⟨j,hj,rfl⟩
  ·rw[G5 ha]
  ·rw[kv j hj,SI]
theorem Lg {o n:Pr} {K:ByteArray->ByteArray} {ns:List ByteArray} {t:Tm} {c:UInt8} {p:Pr} (he:Ah [t]=0) (hM:(AO K ns t).2 <+: DI o n) (hv:∀x∈Ao [t],Ak x.name=true->x.name∈CG p) (hF:∀v,K v∈DI o n->v∈CG p->C2 o n (BR (Az (K v) (DI o n)+1))=DB c (Az v (CG p))):
  AJ (C2 o n) (AO K ns t).1=Ag (C1 c 0 (CG p)) t/\AB (I0 o n) [(AO K ns t).1]:=by
 have ae:∀x∈Ao [t],Ak x.name=true->K x.name∈DI o n:=λx hx aa=>hM.subset (eG K ns he x hx aa)
 rw[Nb K hM,eX (λ_=>G5),aE (eT c p) he]
 refine⟨eB λx hx aa=>?_,eZ (λn h=>Ad h) λx hx aa=>?_⟩
 ·rw[Nf c (hv x hx aa),<-hF x.name (ae x hx aa) (hv x hx aa)]
  unfold IY AJ
  simp only[Bj]
 ·refine AB.one.2 ⟨Ae ⟨_,ae x hx aa,rfl⟩,AB.nil⟩
theorem S8 {o n:Pr} (ho:Bt o=0) (hn:Bt n=0):
  (GE (C2 o n) (Av o n).1=Dl 80 o/\GE (C2 o n) (Av o n).2=Dl 81 n)/\H6 (I0 o n) [(Av o n).1,(Av o n).2]:=by
 obtain⟨ol,or,-,-⟩:=Ep ho
 obtain⟨nl,nr,-,-⟩:=Ep hn
 have vl:∀p:Pr,∀x∈Ao [p.l],Ak x.name=true->x.name∈CG p:=λp x hx hv=>(Jp (Ao [p.l]) []).2 x hx hv
 have vr:∀p:Pr,Bt p=0->∀x∈Ao [p.r],Ak x.name=true->x.name∈CG p:=λp hp x hx hv=>by
  obtain⟨c,hc,e⟩:=(SE hp).1 x hx hv
  rw[<-e]at hv ⊢
  exact vl p c hc hv
 have hM:(Cl (AA 0) [] o).2 <+: DI o n:=eM _ _ _
 have h1:=Lg (o:=o) (n:=n) (K:=AA 0) (ns:=[]) (c:=80) (p:=o) (Dy ol) ((Lc _ _ _).trans hM) (vl o) (λv h1 h2=>Le h1 h2)
 have h2:=Lg (o:=o) (n:=n) (K:=AA 0) (ns:=(AO (AA 0) [] o.l).2) (c:=80) (p:=o) (Dy or) hM (vr o ho) (λv h1 h2=>Le h1 h2)
 have h3:=Lg (o:=o) (n:=n) (K:=AA 1) (ns:=(Cl (AA 0) [] o).2) (c:=81) (p:=n) (Dy nl) (Lc _ _ _) (vl n) (λv h1 h2=>Lf h1 h2)
 have h4:=Lg (o:=o) (n:=n) (K:=AA 1) (ns:=(AO (AA 1) (Cl (AA 0) [] o).2 n.l).2) (c:=81) (p:=n) (Dy nr) (Id _) (vr n hn) (λv h1 h2=>Lf h1 h2)
 refine⟨⟨?_,?_⟩,λp hp=>?_⟩
 ·show(⟨AJ _ (AO _ _ _).1,AJ _ (AO _ _ _).1⟩:Pr)=_
  rw[h1.1,h2.1]; rfl
 ·show(⟨AJ _ (AO _ _ _).1,AJ _ (AO _ _ _).1⟩:Pr)=_
  rw[h3.1,h4.1]; rfl
 ·simp only[BE,List.not_mem_nil,or_false] at hp
  rcases hp with rfl|rfl
  ·exact⟨h1.2,h2.2⟩
  ·exact⟨h3.2,h4.2⟩
theorem Ng {D:ByteArray->Prop} {f:ByteArray->ByteArray} (hf:DH D f) {s:ByteArray} (hs:D s):∀ {ns:List ByteArray},(∀n∈ns,D n)->Az (f s) (ns.map f)=Az s ns
 | [],_=>rfl
 |n::r,h=>by
  rw[BP,Az,Az,Ng hf hs λm hm=>h m (by simp[hm])]
  by_cases e:n=s
  ·rw[As e,As (by rw[e])]
  ·rw[An e,An (λe2=>e (hf.inj _ _ (h n (by simp)) hs e2))]
theorem fB {D:ByteArray->Prop} {f:ByteArray->ByteArray} (hf:DH D f) {s:ByteArray} (hs:D s) {ns:List ByteArray} (h:∀n∈ns,D n):Cc (ns.map f) (f s)=(Cc ns s).map f/\∀n∈Cc ns s,D n:=by
 unfold Cc
 rw[Ng hf hs h,DZ]
 split
 ·exact⟨rfl,h⟩
 ·refine⟨by simp,λn hn=>?_⟩
  rcases Bg.1 hn with hn|hn
  ·exact h n hn
  ·rw[Gf.1 hn]; exact hs
theorem fC {D:ByteArray->Prop} {f:ByteArray->ByteArray} (hf:DH D f) (hs:∀n,Ak n=false->f n=n) (l:List Tm):∀ns:List ByteArray,AB D l->(∀n∈ns,D n)->AK id (ns.map f) (Bj f l)=((AK id ns l).1,(AK id ns l).2.map f)/\∀n∈(AK id ns l).2,D n:=by
 induction l using Tm.indL with
 |h0=>intro ns _ h; simp only[Bj,AK]; exact⟨trivial,h⟩
 |h s l r af ae=>
  intro ns hd h
  obtain⟨d1,d2,d3⟩:=AB.cons.1 hd
  have aa:D s:=d1
  simp only[Bj,AK,hf.var s aa,id]
  by_cases hv:Ak s=true
  ·have ha:=fB hf aa h
   have hr:=ae (Cc ns s) d3 ha.2
   rw[As hv,As hv,ha.1,hr.1,Ng hf aa h]
   exact⟨rfl,hr.2⟩
  ·have hl:=af ns d2 h
   have hr:=ae _ d3 hl.2
   rw[An hv,An hv,hl.1,hr.1,hs s (by simpa using hv)]
   exact⟨rfl,hr.2⟩
theorem fD {D:ByteArray->Prop} {f:ByteArray->ByteArray} (hf:DH D f) (hs:∀n,Ak n=false->f n=n) {a b:Tm} (ha:AB D [a]) (hb:AB D [b]):(A7 [] [AJ f a,AJ f b])=([(Dz ⟨a,b⟩).l,(Dz ⟨a,b⟩).r],(A7 [] [AJ f a,AJ f b]).2):=by
 have h:=(fC hf hs [a,b] [] (AB.cons.2 ⟨(AB.one.1 ha).1,(AB.one.1 ha).2,hb⟩) (by simp)).1
 have e:∀(l:List Tm) (ns:List ByteArray),A7 ns l=AK id ns l:=by
  intro l
  induction l using Tm.indL with
  |h0=>intro ns; rw[A7,AK]
  |h s l r aa ae=>
   intro ns
   rw[A7,AK]
   simp only[aa,ae,id]
 rw[Es,Es,G3 f [],G9,G9]at h
 rw[e,h]
 simp only[FY,E6,Dz,Cl]
theorem Ta (a b:List UInt8):(⟨a.toArray⟩:ByteArray)++⟨b.toArray⟩=⟨(a++b).toArray⟩:=by
 apply ByteArray.ext
 simp
theorem Tc:∀(vs acc:List ByteArray),(vs.foldl CE acc).length<=acc.length+vs.length
 | [],acc=>by simp
 |s::r,acc=>by
  have h1:=Tc r (CE acc s)
  have h2:(CE acc s).length<=acc.length+1:=by unfold CE; split<;>simp
  rw[List.foldl_cons,Bs]; omega
theorem fE {vs acc:List ByteArray} {m:Nat} (h:m<vs.length):(vs.take (m+1)).foldl CE acc=CE ((vs.take m).foldl CE acc) vs[m]:=by
 rw[Bm h,List.foldl_append]; rfl
def Eh (l:List Tm) (k:Nat):List ByteArray:=At [] (Ao (l.take k))
theorem fF {l:List Tm} {k:Nat} (h:k<l.length):(At [] (Ao [l[k]])).foldl CE (Eh l k)=Eh l (k+1):=by
 unfold Eh
 rw[Sv,Bm h,Ij,Io]
 rfl
theorem fG {l:List Tm} {k:Nat} (h:k<l.length):(Eh l k).length+(At [] (Ao [l[k]])).length<=Ab l:=by
 have h1:=Hm (Ao (l.take k)) []
 have h2:=Hm (Ao [l[k]]) []
 have h3:(Ao l).length=(Ao (l.take k)).length+(Ao [l[k]]).length+(Ao (l.drop (k+1))).length:=by
  conv=>lhs; rw[<-Eu (k+1) l,Ij,Bm h,Ij]
  simp only[Dm]
 rw[Gh]at h3
 unfold Eh
 simp only[EN] at h1 h2
 omega
theorem fH {l:List Tm} {k:Nat} (h:l.length<=k):Eh l k=At [] (Ao l):=by unfold Eh; rw[AW h]
theorem Nh (l:List Tm):(At [] (Ao l)).length<=Ab l:=by
 have:=Hm (Ao l) []
 rw[Gh]at this
 simpa using this
theorem LV.atC {w:World} {X:Nat->Prop} {a:Option Addr} {n c:Nat} {l:List ByteArray} (h:LV Value.string w X (.slice a n c) l) (k:Nat) (hk:k<l.length):∃b o,a=some ⟨b,o,none⟩/\w.cell? ⟨b,o+k,none⟩=some (.string l[k]):=by
 obtain⟨a2,c2,e,_,h3⟩:=h
 simp only[Value.slice.injEq] at e
 obtain⟨rfl,_,_⟩:=e
 rcases h3 with h3|⟨b,o,e,_,h4⟩
 ·rw[h3]at hk; simp at hk
 ·exact⟨b,o,e,h4 k hk⟩
theorem fI (w:World) (c0:Value) (T:Nat):∀j u,[c0][j]? = some u->(w.alloc (.cells #[c0] T)).cell? ((⟨w.heap.size,0,none⟩:Addr).add j)=some u:=
 World.news_of_block (cs:=#[c0]) (EZ w _)
theorem fJ {wr:World} {N:Nat} {q v:Value} {ns vs:List ByteArray} (s:ByteArray) (hown:wr.ownsRow N 9 1 q ns.length (ns.map Value.string)) (hv:LV Value.string wr (λb=>some b≠q.ownBlock) v vs) (hN:N<=wr.heap.size) (hl:ns.length<=1000000):
  ∃q2 w3,(Builtin.append_ #[41,41] 41 #[q,.slice (some ⟨wr.heap.size,0,none⟩) 1 1]).run Tryz.prog (wr.alloc (.cells #[.string s] 9))=.ok q2 w3/\w3.ownsRow N 9 1 q2 (ns++[s]).length ((ns++[s]).map Value.string)/\LV Value.string w3 (λb=>some b≠q2.ownBlock) v vs/\Below N wr w3:=by
 obtain⟨i0,hi,hz0,hz1,hz2⟩:=CT Tryz.infoStr
 obtain⟨g,cap,w3,hr,ho,hg,hat,_⟩:=run_append_lies (P:=Tryz.prog) (w:=wr.alloc (.cells #[.string s] 9)) 41 41 N 9 i0 _ 1 16 Tryz.underlying41 hi hz0 hz1 hz2 rfl (by decide) q ns.length _ (hown.alloc _) ⟨wr.heap.size,0,none⟩ 1 1 [.string s] rfl (fI _ _ _) (λu hu=>by simp at hu; subst hu; rfl) (by decide) (by unfold maxLen; omega) (by omega) (by simp; omega) _ rfl
 refine⟨_,w3,hr,by simpa using ho,?_,?_⟩
 ·have h1:=hv.mono (Y:=λb=>some b≠q.ownBlock/\b<wr.heap.size) λb h1 h2=>⟨h1,h2⟩
  refine(h1.kept λb hb=>?_).mono λb hb _=>λe=>?_
  ·rw[hg.block b (by simp; omega) hb.1,AP _ _ _ hb.2]
  ·simp[Value.ownBlock]at e
   rcases hat with e'|e'
   ·exact hb.1 (by rw[e',e])
   ·simp at e'; omega
 ·exact((Af N wr).alloc hN _).grown hg (by simp; omega) (λj hj=>(hown.lt j hj).1)
theorem Td {wr w1:World} {N:Nat} {Y:Nat->Prop} {u:Value} {cs:List Bc} (n z:ByteArray) (hrow:Bh wr N Y u cs) (hY:∀b,Y b->b<N) (hb:Below wr.heap.size wr w1) (hN:N<=wr.heap.size) (hl:cs.length<=1000000):
  ∃q2 w3,(Builtin.append_ #[57,57] 57 #[u,.slice (some ⟨w1.heap.size,0,none⟩) 1 1]).run Tryz.prog (w1.alloc (.cells #[.string n,.string z,.slice none 0 0] 76))=.ok q2 w3/\Bh w3 N Y q2 (cs++[(⟨n,⟨z,[]⟩⟩,none,0)])/\Below N wr w3:=by
 obtain⟨i0,hi,hz0,hz1,hz2⟩:=CT Tryz.infoBind
 have hs:=hb.size
 obtain⟨g,cap,w3,hr,ho,hg,hat,_⟩:=run_append_lies (P:=Tryz.prog) (w:=w1.alloc (.cells #[.string n,.string z,.slice none 0 0] 76)) 57 57 N 76 i0 _ 3 56 Tryz.underlying57 hi hz0 hz1 hz2 rfl (by decide) u cs.length (C6 cs) ((hrow.below hb).own.alloc _) ⟨w1.heap.size,0,none⟩ 1 1 (Di (⟨n,⟨z,[]⟩⟩,none,0)) rfl (Iu _ _ _ _ _) (λx hx=>by simp[Di] at hx; rcases hx with rfl|rfl|rfl<;>rfl) (by decide) (by unfold maxLen; omega) (by omega) (by simp; omega) _ rfl
 have hp:=hrow.push (w1:=w1) (x:=(⟨n,⟨z,[]⟩⟩,none,0)) hN hY hb ⟨by simp,Ad rfl⟩ _ rfl ho hg hat
 exact⟨_,w3,hr,hp,((hb.mono hN).alloc (by omega) _).grown hg (by simp; omega) (λj hj=>(hrow.own.lt j hj).1)⟩
theorem fK {wr w1:World} {N:Nat} {Y:Nat->Prop} {u:Value} {L:List Tm} {xs:List Value} {z:Tm} {a1:Option Addr} {c:Nat} (hrow:AN wr N 29 Y u L xs) (hY:∀b,Y b->b<N) (hb:Below wr.heap.size wr w1) (hN:N<=wr.heap.size) (hl:L.length<=1000000) (hz:Sl w1 (λb=>Y b∨wr.heap.size<=b) a1 z.args):
  ∃q2 w3,(Builtin.append_ #[27,27] 27 #[u,.slice (some ⟨w1.heap.size,0,none⟩) 1 1]).run Tryz.prog (w1.alloc (.cells #[.string z.name,.slice a1 z.args.length c] 29))=.ok q2 w3/\AN w3 N 29 Y q2 (L++[z]) (xs++[.string z.name,.slice a1 z.args.length c])/\Below N wr w3:=by
 obtain⟨i0,hi,hz0,hz1,hz2⟩:=CT Tryz.infoTerm
 have hs:=hb.size
 obtain⟨g,cap,w3,hr,ho,hg,hat,_⟩:=run_append_lies (P:=Tryz.prog) (w:=w1.alloc (.cells #[.string z.name,.slice a1 z.args.length c] 29)) 27 27 N 29 i0 _ 2 40 Tryz.underlying27 hi hz0 hz1 hz2 rfl (by decide) u L.length xs ((hrow.below hb).own.alloc _) ⟨w1.heap.size,0,none⟩ 1 1 [.string z.name,.slice a1 z.args.length c] rfl (OP _ _ _ _) (λx hx=>by simp at hx; rcases hx with rfl|rfl<;>rfl) (by decide) (by unfold maxLen; omega) (by omega) (by simp; omega) _ rfl
 have hp:=hrow.push (w1:=w1) (t:=z) hN hY hb ⟨a1,c,rfl,hz⟩ _ rfl ho hg hat
 exact⟨_,w3,hr,hp,((hb.mono hN).alloc (by omega) _).grown hg (by simp; omega) (λj hj=>(hrow.own.lt j hj).1)⟩
def fM (w:World) (l:List Tm) (q i:Value) (wr:World):Prop:=
 ∃k:Nat,k<=l.length/\i=.int .i64 k/\wr.ownsRow w.heap.size 9 1 q (Eh l k).length ((Eh l k).map Value.string)/\Below w.heap.size w wr
def fO (N:Nat) (w1:World) (ns vs:List ByteArray) (v q j:Value) (wr:World):Prop:=
 ∃m:Nat,m<=vs.length/\j=.int .i64 m/\wr.ownsRow N 9 1 q ((vs.take m).foldl CE ns).length (((vs.take m).foldl CE ns).map Value.string)/\LV Value.string wr (λb=>some b≠q.ownBlock) v vs/\Below N w1 wr
def fP (w2:World) (ns:List ByteArray) (u i:Value) (wr:World):Prop:=
 ∃(m:Nat) (cs:List Bc),m<=ns.length/\i=.int .i64 m/\Bh wr w2.heap.size (λ_=>False) u cs/\cs.map (·.1)=DU 0 (ns.take m)/\Below w2.heap.size w2 wr
def fQ (V:Nat->Prop) (w3:World) (ls:List Bd) (l:List Tm) (u i:Value) (wr:World):Prop:=
 ∃(m:Nat) (xs:List Value),m<=l.length/\i=.int .i64 m/\AN wr w3.heap.size 29 (λb=>V b/\b<w3.heap.size) u (Am ls (l.take m)) xs/\Below w3.heap.size w3 wr
theorem fR {ns:List ByteArray} {m:Nat} (h:m<ns.length):DU 0 (ns.take (m+1))=DU 0 (ns.take m)++[⟨ns[m],⟨BR (m+1),[]⟩⟩]:=by
 rw[Bm h,Sy]
 have:(ns.take m).length=m:=by simp; omega
 rw[this,Ey]
theorem fS (l:List Tm) (a:Option Addr) (c:Nat) (w:World) (X:Nat->Prop) (hs:Sl w X a l) (he:Ah l=0) (hsm:Ab l<=100000):
  Calls Tryz.prog 31 #[.slice a l.length c] w λe w'=>∃a' c',e=.returned (.slice a' l.length c')/\Sl w' (λb=>w.heap.size<=b) a' (A7 [] l).1/\Below w.heap.size w w':=by
 obtain⟨V,hV⟩:∃V:Nat->Prop,V=λb=>w.heap.size<=b:=⟨_,rfl⟩
 rw[<-hV]
 have HV:=Aa hV
 clear hV
 have HS:=Aa (hs.mono (Y:=λb=>b<w.heap.size) λb _ h=>h)
 have bp:=Ez l
 have hl:=hs.1
 have HE:=Aa he
 clear hs he
 go_enter Tryz.func31,Tryz.ntmps31
 go_wp2_with fail
 go_loopw [3,4] (λq i wr=>fM w l q i wr) (λq i wr=>l.length-(intOf i).toNat)
 case atStart=>exact⟨0,AE _,rfl,by simpa [Eh,At,Ao] using Ga w w.heap.size 9 1,Af _ _⟩
 case round=>
  obtain⟨k,hk,rfl,hown,hb⟩:=hrel
  have aj:=Aa hown
  have HB:=Aa hb
  by_cases hlt:k<l.length
  ·obtain⟨b,o,a',c',rfl,d0,d1,hx⟩:=HS.out.get hb (λb h _=>h) k hlt
   have HX:=Aa hx
   have aT:(k:Int)<(l.length:Int):=by omega
   have ak:Ab [l[k]]<=1000000:=by
    have:=C4 l k hlt
    have:=C5 l (k+1)
    omega
   have HST:=Aa (fF hlt)
   have aH:=Aa (fG hlt)
   clear hown hb hx
   go_wp2_with fail
   refine(Ip l[k] _ _ _ HX.out ak).mono ?_
   rintro e w1 ⟨v1,rfl,hlv,hb1⟩
   obtain⟨av,cv,rfl,_⟩:=id hlv
   generalize At [] (Ao [l[k]])=vs at *
   have O1:Hid (w1.ownsRow w.heap.size 9 1 u3 (Eh l k).length ((Eh l k).map Value.string)):=aj.out.kept (w':=w1) (row:=none) ⟨hb1.os,hb1.tape,hb1.output,hb1.size,λj hj _=>hb1.block j hj⟩ (by rcases F9 (Value.ownBlock u3) with h|⟨x,h⟩; exact Ad h; exact Ae (by rw[h]; simp))
   have V1:Hid (LV Value.string w1 (λb=>some b≠Value.ownBlock u3) (.slice av vs.length cv) vs):=hlv.mono λb h1 h2 e=>by have:=(aj.out.lt b e.symm).2; omega
   have aI:=Aa (HB.out.trans (hb1.mono HB.out.size))
   have aU:vs.length<=100000:=by have:=aH.out; omega
   have bq:=Aa aU
   clear hlv hb1 d0 d1
   go_wp2_with fail
   go_loopw [3,6] (λq j wr2=>fO w.heap.size w1 (Eh l k) vs (.slice av vs.length cv) q j wr2) (λq j wr2=>vs.length-(intOf j).toNat)
   case atStart=>exact⟨0,AE _,rfl,by simpa using O1.out,V1.out,Af _ _⟩
   case round=>
    obtain⟨m,hm,rfl,aa,ae,hb2⟩:=hrel
    have O2:=Aa aa
    have V2:=Aa ae
    have B2:=Aa hb2
    by_cases ao:m<vs.length
    ·obtain⟨bv,ov,rfl,x0⟩:=ae.atC m ao
     have aB:(m:Int)<(vs.length:Int):=by omega
     have aq:=Aa (fE (acc:=Eh l k) ao)
     have aJ:=Tc (vs.take m) (Eh l k)
     have aC:((vs.take m).foldl CE (Eh l k)).length<=1000000:=by
      have:=aH.out
      rw[Hh]at aJ
      omega
     clear aa ae hb2 aJ
     generalize (vs.take m).foldl CE (Eh l k)=acc at *
     cases au:AF vs[m] acc with
     |true=>
      have HN:Hid (CE acc vs[m]=acc):=by unfold Hid CE; rw[As au]
      have aD:=Aa au
      clear au
      go_wp2_with (go_at_call 16; refine(Hl _ _ _ _ _ (LV.of_own O2.out)).mono ?_; rintro e w' ⟨rfl,rfl⟩; rw[aD.out])
      go_roundw
      case rel=>exact⟨m+1,by omega,by go_num,by rw[aq.out,HN.out]; exact O2.out,V2.out,B2.out⟩
      case measure=>simp[intOf]; omega
     |false=>
      have HN:Hid (CE acc vs[m]=acc++[vs[m]]):=by unfold Hid CE; rw[An (by rw[au]; decide)]
      have aD:=Aa au
      clear au
      obtain⟨q2,w3,hr2,aK,hv3,hb3⟩:=fJ vs[m] O2.out V2.out (AX aI.out.size (B2.out.size)) aC
      have HR:=Aa hr2
      have aV:=Aa aK
      have aW:=Aa hv3
      have aw:=Aa (B2.out.trans hb3)
      clear hr2 aK hv3 hb3
      go_wp2_with (first|(go_at_call 16; refine(Hl _ _ _ _ _ (LV.of_own O2.out)).mono ?_; rintro e w' ⟨rfl,rfl⟩; rw[aD.out])|(at_builtin; refine D1 rfl _ _ _ _ rfl rfl rfl HR.out ?_))
      go_roundw
      case rel=>exact⟨m+1,by omega,by go_num,by rw[aq.out,HN.out]; exact aV.out,aW.out,aw.out⟩
      case measure=>simp[intOf]; omega
    ·have ag:vs.take m=vs:=AW (by omega)
     rw[ag,HST.out]at aa
     have HO:=Aa aa
     clear aa ae hb2 ag
     go_wp2_with fail
     go_roundw
     case rel=>exact⟨k+1,by omega,by go_num,HO.out,aI.out.trans B2.out⟩
     case measure=>simp[intOf]; omega
  ·rw[fH (by omega:l.length<=k)]at hown
   obtain⟨ns,aF⟩:∃ns,ns=At [] (Ao l):=⟨_,rfl⟩
   have aL:=Nh l
   rw[<-aF]at hown aL
   have aX:=Aa aF
   have a7:=Aa aL
   obtain⟨an,cn,rfl,_⟩:=id (LV.of_own hown)
   have aM:=Aa ((LV.of_own hown).mono (Y:=λ_=>True) λ_ _ _=>trivial)
   clear hown hb aF aj
   go_wp2_with fail
   obtain⟨w2,hw2⟩:∃w2,w2=wr:=⟨_,rfl⟩
   subst hw2
   go_loopw [7,8] (λu i wr2=>fP w2 ns u i wr2) (λu i wr2=>ns.length-(intOf i).toNat)
   case atStart=>exact⟨0,[],AE _,rfl,Bh.start _ _ _,by simp[DU],Af _ _⟩
   case round=>
    obtain⟨m,cs,hm,rfl,hrow,hcs,hb2⟩:=hrel
    have af:=Aa hrow
    have aN:=Aa hcs
    have aO:=Aa hb2
    by_cases ao:m<ns.length
    ·obtain⟨bn,on,rfl,x0⟩:=(aM.out.later hb2).atC m ao
     have aB:(m:Int)<(ns.length:Int):=by omega
     have aY:cs.length<=1000000:=by
      have h1:=Bu List.length hcs
      rw[DZ,Sx,Hh]at h1
      have:=a7.out
      omega
     have aq:=Aa (fR ao)
     have KP:Hid (∀w',Below wr.heap.size wr w'->w'.cell? ⟨bn,on+m,none⟩=some (.string ns[m])):=λw' hb=>cell_later hb x0
     have kd:Below wr.heap.size wr wr.drew:=(Af _ _).drew
     have aZ:=Aa (KP.out _ kd)
     have ba:1+(Lib.decDigits (m+1)).length<=9223372036854775807:=by have:=Ir (m+1); have:=a7.out; omega
     have bb:¬9223372036854775807<1+(Lib.decDigits (m+1)).length:=by omega
     have bc:Hid (IntKind.i64.wrap ((m:Int)+1)=((m+1:Nat):Int)):=by unfold Hid; rw[E4]; have:=a7.out; omega
     clear hrow hcs hb2 x0
     go_upto_region 15 with fail
     refine CU (S:=(λw'=>w'.cell? ⟨bn,on+m,none⟩=some (.string ns[m]))) (by kernel_rfl) aZ.out (λhHeld=>?_)
     refine tkz 0 ?_
     refine tkz 1 ?_
     refine tkz 2 ?_
     refine tkz 3 ?_
     refine tkz 4 ?_ (hy:=by intro w' hSw;have x0:=hSw;go_simp<;>with_reducible rfl)
     refine tkz 5 ?_
     refine tkz 6 ?_
     refine rdq 7 rfl λK hK=>?_
     go_simp
     go_at_call 42
     rw[bc.out]
     refine(Oe (m+1) (by have:=a7.out; omega) _).mono ?_
     rintro e w5 ⟨rfl,ax⟩
     have k5:Below wr.heap.size wr w5:=kd.trans (ax.mono kd.size)
     clear ax
     go_simp
     refine hK.out _ _ (by exact KP.out _ k5) (λhHeld=>?_)
     clear hK K
     try simp only[Act.put,sq]
     refine tkz 8 ?_
     refine tkz 9 ?_
     refine tkz 10 ?_
     have ay:(⟨#[90]⟩:ByteArray)++⟨(Lib.decDigits (m+1)).toArray⟩=BR (m+1):=Ta [90] (Lib.decDigits (m+1))
     try rw[ay]
     clear ay
     obtain⟨q2,w6,hr,ah,aP⟩:=Td ns[m] (BR (m+1)) af.out (λ_ h=>h.elim) k5 aO.out.size aY
     have k6:Below wr.heap.size wr (w5.alloc (.cells #[.string ns[m],.string (BR (m+1)),.slice none 0 0] 76)):=k5.alloc k5.size _
     have HR:=Aa hr
     have az:=Aa ah
     have aQ:=Aa (aO.out.trans aP)
     have bf:Hid (w6.cell? ⟨bn,on+m,none⟩=some (.string ns[m])):=(((aM.out.later aQ.out).atC m ao).elim λb h=>h.elim λo h=>by simp at h; obtain⟨⟨rfl,rfl⟩,h⟩:=h; exact h)
     clear hr ah aP
     refine rdq 11 rfl λK hK=>?_
     go_simp
     refine hK.out _ _ (by exact KP.out _ k6) (λhHeld=>?_)
     clear hK K
     try simp only[Act.put,sq]
     refine rdq 12 rfl λK hK=>?_
     refine FV rfl _ _ _ _ rfl rfl rfl HR.out ?_
     refine hK.out _ _ (by exact bf.out) (λhHeld=>?_)
     clear hK K
     try simp only[Act.put,sq]
     refine tkz 13 ?_
     refine dnq ?_
     go_wp2_with fail
     go_roundw
     case rel=>exact⟨m+1,_,by omega,by go_num,az.out,by rw[aq.out,Cr,aN.out]; rfl,aQ.out⟩
     case measure=>simp[intOf]; omega
    ·have ag:ns.take m=ns:=AW (by omega)
     rw[ag]at hcs
     have a8:=hrow.bv
     rw[hcs,aX.out]at a8
     obtain⟨aS,cS,rfl,_⟩:=id a8
     have bg:=Aa (a8.mono (Y:=V) λb h1 _=>by rw[HV.out]; exact h1.elim (λh=>h.elim) λh=>AX HB.out.size h)
     have bh:=Aa (Z6 HE.out)
     have aA:=Aa (HB.out.trans (hb2.mono HB.out.size))
     clear hrow hcs hb2 ag a8 af aN
     generalize DU 0 (At [] (Ao l))=ls at *
     go_wp2_with fail
     obtain⟨w4,hw4⟩:∃w4,w4=wr:=⟨_,rfl⟩
     subst hw4
     go_loopw [9,10] (λu i wr=>fQ V w4 ls l u i wr) (λu i wr=>l.length-(intOf i).toNat)
     case atStart=>exact⟨0,[],AE _,rfl,by simpa [Am] using AN.start w4 w4.heap.size 29 (λb=>V b/\b<w4.heap.size),Af _ _⟩
     case round=>
      obtain⟨p,xs,hp,rfl,hrow,hb3⟩:=hrel
      have af:=Aa hrow
      have aw:=Aa hb3
      by_cases aG:p<l.length
      ·obtain⟨b,o,a',c',rfl,d0,d1,hx⟩:=((HS.out.later aA.out).mono (Y:=λb=>b<w4.heap.size) λb h1 h2=>h2).get hb3 (λb _ h=>h) p aG
       have HX:=Aa hx
       have bj:(p:Int)<(l.length:Int):=by omega
       have ak:Ab [l[p]]<=1000000:=by
        have:=C4 l p aG
        have:=C5 l (p+1)
        omega
       have bk:(Am ls (l.take p)).length<=1000000:=by rw[J1]; simp; omega
       have aq:=Aa (GL ls l p aG)
       clear hrow hb3 hx
       go_wp2_with fail
       refine(PF ls l[p] _ _ _ _ _ ((bg.out.mono (Y:=λb=>V b/\b<w4.heap.size) λb h1 h=>⟨h1,h⟩).later aw.out) HX.out ak).mono ?_
       rintro e w1 ⟨a1,c1,rfl,hs1,hb1⟩
       generalize Ag ls l[p]=z at *
       obtain⟨q2,w5,hr,ai,ax⟩:=fK af.out (λb h=>h.2) hb1 aw.out.size bk (c:=c1) (hs1.mono (Y:=λb=>(V b/\b<w4.heap.size)∨wr.heap.size<=b) λb h _=>h.imp (λh=>h.1) id)
       have HR:=Aa hr
       have a6:=Aa ai
       have bl:=Aa (aw.out.trans ax)
       clear hr ai ax hs1 hb1 d0 d1
       go_wp2_with (at_builtin; refine D1 rfl _ _ _ _ rfl rfl rfl HR.out ?_)
       go_roundw
       case rel=>exact⟨p+1,_,by omega,by go_num,by rw[aq.out]; exact a6.out,bl.out⟩
       case measure=>simp[intOf]; omega
      ·have ag:l.take p=l:=AW (by omega)
       rw[ag,bh.out]at hrow
       obtain⟨ar,cr,rfl,aR⟩:=hrow.sl
       have bm:=Aa aR
       have bo:(A7 [] l).1.length=l.length:=L9 l []
       clear hrow hb3 ag aR
       go_wp2_with fail
       go_ret
       exact⟨ar,cr,by rw[bo]; rfl,bm.out.mono λb h1 _=>h1.elim (λh=>h.1) λh=>by rw[HV.out]; exact AX aA.out.size h,aA.out.trans (aw.out.mono aA.out.size)⟩
abbrev Rn:=Pr×Nat
def H7 (U:List Pr->Int×List Bd) (q:Rn×Rn):Prop:=∃d∈AM [] [] (Av q.1.1 q.2.1).1.l,Dk U (Av q.1.1 q.2.1) (decide (q.1.2=q.2.2)) d
def G6 (U:List Pr->Int×List Bd) (q:Rn×Rn):List Pr:=IR U q.1.1 q.2.1 (decide (q.1.2=q.2.2))
open Classical in
noncomputable def DC (U:List Pr->Int×List Bd):List (Rn×Rn)->List Pr->Int×List Pr
 | [],out=>(0,out)
 |q::r,out=>if H7 U q then (8,[]) else if 400<(out++G6 U q).length then (3,[]) else DC U r (out++G6 U q)
theorem Te (U:List Pr->Int×List Bd) (out:List Pr):DC U [] out=(0,out):=by rw[DC]
theorem Tf {U:List Pr->Int×List Bd} {q:Rn×Rn} {r:List (Rn×Rn)} {out:List Pr} (h:H7 U q):DC U (q::r) out=(8,[]):=by rw[DC,As h]
theorem Tg {U:List Pr->Int×List Bd} {q:Rn×Rn} {r:List (Rn×Rn)} {out:List Pr} (h:¬H7 U q) (hm:400<(out++G6 U q).length):DC U (q::r) out=(3,[]):=by rw[DC,An h,As hm]
theorem Th {U:List Pr->Int×List Bd} {q:Rn×Rn} {r:List (Rn×Rn)} {out:List Pr} (h:¬H7 U q) (hm:¬400<(out++G6 U q).length):DC U (q::r) out=DC U r (out++G6 U q):=by rw[DC,An h,An hm]
def DJ {α:Type} (Z:List α) (i j:Nat):List (α×α):=(match Z[i]? with|some o=>(Z.drop j).map λn=>(o,n)|none=>[])++(Z.drop (i+1)).flatMap λo=>Z.map λn=>(o,n)
theorem Ti {α:Type} (Z:List α) (i j:Nat) (hi:i<Z.length) (hj:j<Z.length):DJ Z i j=(Z[i],Z[j])::DJ Z i (j+1):=by
 unfold DJ
 rw[Ha hi]
 simp only
 rw[JV hj,BP,Cf]
theorem Tj {α:Type} (Z:List α) (i:Nat) (hi:i<Z.length):DJ Z i Z.length=DJ Z (i+1) 0:=by
 unfold DJ
 rw[Ha hi]
 by_cases h:i+1<Z.length
 ·rw[Ha h]
  simp only[List.drop_length,G9,DY,I8]
  rw[JV h,I7]
 ·rw[List.getElem?_eq_none (by omega),JW (by omega:Z.length<=i+1),JW (by omega:Z.length<=i+1+1)]
  simp
theorem Tl {α:Type} (Z:List α):DJ Z Z.length 0=[]:=by
 unfold DJ
 rw[List.getElem?_eq_none (Aj _),JW (by omega:Z.length<=Z.length+1)]
 rfl
noncomputable def Dh (U:List Pr->Int×List Bd) (rs:List Pr):Int×List Pr:=DC U (DJ rs.zipIdx 0 0) []
theorem Lh (rs:List Pr):rs.zipIdx.length=rs.length:=by simp
theorem Li (rs:List Pr) (i:Nat) (h:i<rs.length):rs.zipIdx[i]'(by simpa using h)=(rs[i],i):=by simp
theorem Tn {w:World} {N M:Nat} {Y:Nat->Prop} {v v':Value} {cs aa:List Pc} (h:Cx w N Y v cs) (hN:N<=w.heap.size) (hY:∀b,Y b->b<N) (h':Cx w M (λ_=>False) v' aa) (ah:N<=M) (ae:∀b,v.ownBlock=some b->b<M) (hn:cs.length+aa.length<=1000000000):
  ∃v2 w3,(Builtin.append_ #[22,22] 22 #[v,v']).run Tryz.prog w=.ok v2 w3/\Cx w3 N Y v2 (cs++aa)/\w.grownBy w3 v.ownBlock:=by
 obtain⟨i0,hi,hz0,hz1,hz2⟩:=CT Tryz.infoPair
 by_cases h0:0<aa.length
 ·obtain⟨g',cap',rfl,ai,af,hc⟩:=EA h'.own h0
  have hlt:=h.own.lt
  obtain⟨g,cap,w3,hr,ho,hg,hat,aj⟩:=run_append_lies (P:=Tryz.prog) (w:=w) 22 22 N 31 i0 _ 4 80 Tryz.underlying22 hi hz0 hz1 hz2 rfl (by decide) v cs.length (CH cs) h.own
   ⟨g',0,none⟩ aa.length cap' (CH aa) (MP aa) (λj u hj=>by have:=hc j u hj; by_cases h9:j=0; subst h9; simpa [Addr.add] using this; simpa [Addr.add,h9] using this) (MW aa) h0 (by unfold maxLen; omega) (by omega) hN _ rfl
  refine⟨_,w3,hr,⟨by rw[KJ]; simpa using ho,λy hy=>?_⟩,hg⟩
  rcases Bg.1 hy with hy|hy
  ·have old:∀(a:Option Addr) (k:List Tm),Sl w (λb=>Y b∨(N<=b/\some b≠v.ownBlock)) a k->Sl w3 (λb=>Y b∨(N<=b/\some b≠(Value.slice (some ⟨g,0,none⟩) (cs.length+aa.length) cap).ownBlock)) a k:=λa k h0=>by
    have h1:Sl w (λb=>(Y b∨(N<=b/\some b≠v.ownBlock))/\b<w.heap.size) a k:=h0.mono λb h1 h2=>⟨h1,h2⟩
    refine(h1.kept λb hx=>hg.block b hx.2 ?_).mono λb hx _=>?_
    ·rcases hx.1 with hy|hy
     ·exact h.ne (hY b hy)
     ·exact hy.2
    ·rcases hx.1 with hy|hy
     ·exact Ad hy
     ·refine Ae ⟨hy.1,λe=>?_⟩
      simp[Value.ownBlock]at e
      rcases hat with e'|e'
      ·exact hy.2 (by rw[e',e])
      ·omega
   exact⟨old _ _ (h.row y hy).1,old _ _ (h.row y hy).2⟩
  ·have new:∀(a:Option Addr) (k:List Tm),Sl w (λb=>False∨(M<=b/\some b≠(Value.slice (some ⟨g',0,none⟩) aa.length cap').ownBlock)) a k->Sl w3 (λb=>Y b∨(N<=b/\some b≠(Value.slice (some ⟨g,0,none⟩) (cs.length+aa.length) cap).ownBlock)) a k:=λa k h0=>by
    have h1:Sl w (λb=>M<=b/\b<w.heap.size) a k:=h0.mono λb h1 h2=>⟨(h1.resolve_left id).1,h2⟩
    refine(h1.kept λb hx=>hg.block b hx.2 (λe=>?_)).mono λb hx _=>Ae ⟨by omega,λe=>?_⟩
    ·have:=ae b e.symm; omega
    ·simp[Value.ownBlock]at e
     rcases hat with e'|e'
     ·have:=ae g e'; omega
     ·omega
   exact⟨new _ _ (h'.row y hy).1,new _ _ (h'.row y hy).2⟩
 ·have e:aa=[]:=Ew.1 (by omega)
  subst e
  obtain⟨a,c,hv'⟩:=DP h'.own
  obtain⟨va,vc,hv,ag,_⟩:=h.qv
  refine⟨v,w,?_,by simpa using h,⟨rfl,rfl,rfl,Aj _,λ_ _ _=>rfl⟩⟩
  subst hv hv'
  have hle:=ag.2
  simp only[DZ] at hle
  cases va<;>cases a<;>simp[Builtin.append_,FM Tryz.underlying22,sizeOf,typeInfo,hi,hz1,Builtin.lenOf,Builtin.firstCells,hle,Result.andThen,storeCells,loadCells,loadCellsFrom]
theorem Sl.grown {w w':World} {X:Nat->Prop} {a:Option Addr} {l:List Tm} {r:Option Nat} (h:Sl w X a l) (hg:w.grownBy w' r) (hX:∀b,X b->some b≠r):Sl w' X a l:=by
 have h1:Sl w (λb=>X b/\b<w.heap.size) a l:=h.mono λb h1 h2=>⟨h1,h2⟩
 have h2:Sl w' (λb=>X b/\b<w.heap.size) a l:=h1.kept λb hx=>hg.block b hx.2 (hX b hx.1)
 exact h2.mono λb hx _=>hx.1
theorem fU {s:ByteArray} {l:List Tm} (h:Ah [(⟨s,l⟩:Tm)]=0):Be s=true/\Ah l=0:=by
 simp only[Ah] at h
 split at h
 ·refine⟨by assumption,?_⟩
  split at h
  ·exact absurd h (by decide)
  ·split at h
   ·assumption
   ·exact h
 ·exact absurd h (by decide)
theorem Ni {l:List Tm} (h:Ah l=0) (k:Nat) (hk:k<l.length):Ah [l[k]]=0:=by
 induction l generalizing k with
 |nil=>simp at hk
 |cons t r ih=>
  rw[GK]at h
  by_cases h0:Ah [t]=0
  ·rw[As h0]at h
   cases k with
   |zero=>exact h0
   |succ k=>exact ih h k (by simpa using hk)
  ·rw[An h0]at h; exact absurd h h0
theorem DE.lv {w0 w1:World} {B:Nat} {q0 q1:Value} {aa:List ByteArray} (h:DE w0 B q0 aa q1 w1):LV Value.string w1 (λb=>B<=b) q1 aa:=LV.of_own h.1
theorem DE.refl {w:World} {B:Nat} {q:Value} {acc:List ByteArray} (h:w.ownsRow B 9 1 q acc.length (acc.map Value.string)):DE w B q acc q w:=
 ⟨h,Gk (Af _ _) _,λ_ h=>Ad h⟩
theorem fV {w:World} {B:Nat} {q:Value} {acc:List ByteArray} (s:ByteArray) (h:w.ownsRow B 9 1 q acc.length (acc.map Value.string)) (hB:B<=w.heap.size) (hn:acc.length<=3000000) (A:Nat) (hA:w.heap.size=A):
  ∃q2 w3,(Builtin.append_ #[41,41] 41 #[q,.slice (some ⟨A,0,none⟩) 1 1]).run Tryz.prog (w.alloc (.cells #[.string s] 9))=.ok q2 w3/\DE w B q (acc++[s]) q2 w3:=by
 subst hA
 obtain⟨i0,hi,hz0,hz1,hz2⟩:=CT Tryz.infoStr
 obtain⟨g,cap,w3,hr,ho,hg,hat,hlt⟩:=run_append_lies (P:=Tryz.prog) (w:=w.alloc (.cells #[.string s] 9)) 41 41 B 9 i0 _ 1 16 Tryz.underlying41 hi hz0 hz1 hz2 rfl (by decide) q acc.length (acc.map Value.string) (h.alloc _)
  ⟨w.heap.size,0,none⟩ 1 1 [.string s] rfl (cell_one_new _ _ _) (λx hx=>by simp at hx; subst hx; rfl) (by decide) (by unfold maxLen; omega) (by omega) (by simp; omega) _ rfl
 refine⟨_,w3,hr,by simpa using ho,?_,λk hk=>?_⟩
 ·exact GM (Gk ((Af _ _).alloc (Aj _) _) q.ownBlock) hg (λk hk=>Ad hk)
 ·simp[Value.ownBlock]at hk
  subst hk
  rcases hat with e|e
  ·exact Ad e
  ·right; simp at e; omega
theorem Nj {w:World} {B:Nat} {q:Value} {acc:List ByteArray} (h:w.ownsRow B 9 1 q acc.length (acc.map Value.string)) (o:Obj):DE w B q acc q (w.alloc o):=(DE.refl h).below ((Af _ _).alloc (Aj _) o)
theorem fW {w w3:World} {B:Nat} {q q2:Value} {acc aa:List ByteArray} {o:Obj} (h:w.ownsRow B 9 1 q acc.length (acc.map Value.string)) (h2:DE (w.alloc o) B q aa q2 w3):DE w B q aa q2 w3:=(Nj h o).step h2
theorem fX (t:Tm):∀(q v:Value) (acc:List ByteArray) (w:World) (X:Nat->Prop) (B:Nat),TV w X v t->(∀b,X b->b<B)->B<=w.heap.size->w.ownsRow B 9 1 q acc.length (acc.map Value.string)->Ah [t]=0->acc.length+Ab [t]<=2000000->
  Calls Tryz.prog 76 #[q,v] w λe w'=>∃q',e=.returned q'/\DE w B q (At acc (Ao [t])) q' w':=by
 induction t using Tm.ind with
 |h s l ih=>
  intro q v acc w X B hv hX hB hown au hsm
  have IH:=Aa ih
  clear ih
  obtain⟨a,c,rfl,hs⟩:=hv
  have hl:=hs.1
  obtain⟨hn,aA⟩:=fU au
  have ao:=NH hn
  have a6:=Aa aA
  have hz:Ab [(⟨s,l⟩:Tm)]=1+Ab l:=by simp[Ab]
  rw[hz]at hsm
  have HP:Hid (At acc (Ao [(⟨s,l⟩:Tm)])=At (Bk acc s) (Ao l)):=by simp[Hid,Ao,At]
  have ae:=Aa hown
  clear hz hn aA au hown
  cases hvb:Ak s with
  |false=>
   have HN:=Aa (Gj (acc:=acc) hvb)
   have az:=Aa hvb
   clear hvb
   go_enter Tryz.func76,Tryz.ntmps76
   go_wp2_with (go_at_call 49; refine(Ih _ _ ao).mono ?_; rintro e w' ⟨rfl,rfl⟩; rw[az.out])
   go_loopw [0,25] (λq' i wr=>∃k:Nat,k<=l.length/\i=.int .i64 k/\DE w B q (At (Bk acc s) (Ao (l.take k))) q' wr) (λq' i wr=>l.length-(intOf i).toNat)
   case atStart=>exact⟨0,AE _,rfl,by simp only[List.take_zero]; rw[HN.out]; simpa [Ao,At] using Nj ae.out _⟩
   case round=>
    obtain⟨k,hk,rfl,aa⟩:=hrel
    have aj:=Aa aa
    have hlen:=Hm (Ao (l.take k)) (Bk acc s)
    rw[Gh]at hlen
    have af:=J2 acc s
    have aB:B<=wr.heap.size:=AX hB aa.2.1.size
    by_cases hlt:k<l.length
    ·have hst:=C4 l k hlt
     have ah:=C5 l (k+1)
     have ak:=hs.grown aa.2.1 (λb hb e=>by have h1:=hX b hb; have h2:=(ae.out.lt b e.symm).1; omega)
     obtain⟨b,o,a',c',rfl,d0,d1,hx⟩:=ak.get (Af wr.heap.size wr) (λ_ _ h=>h) k hlt
     have HX:=Aa hx
     have HT:Hid (At (Bk acc s) (Ao (l.take (k+1)))=At (At (Bk acc s) (Ao (l.take k))) (Ao [l[k]])):=by unfold Hid; rw[Jb l k hlt,Io]
     have av:Hid ((At (Bk acc s) (Ao (l.take k))).length+Ab [l[k]]<=2000000):=by unfold Hid; omega
     clear aa ak hx hlen af hst ah
     go_wp2_with fail
     refine(IH.out _ (AV hlt) _ _ _ _ X B (by exact HX.out.alloc _) hX (by simp; omega) (by exact aj.out.1.alloc _) (Ni a6.out k hlt) av.out).mono ?_
     rintro e w5 ⟨q5,rfl,ag⟩
     have ai:=Aa ((aj.out.below ((Af _ _).alloc (Aj _) _)).step ag)
     clear ag
     go_wp2_with fail
     go_roundw
     case rel=>exact⟨k+1,by omega,by go_num,by rw[HT.out]; exact ai.out⟩
     case measure=>simp[intOf]; omega
    ·have aw:l.take k=l:=AW (by omega)
     rw[aw]at aa
     have ax:=Aa aa
     clear aa hlen af
     go_wp2_with fail
     go_ret
     exact⟨_,rfl,by rw[HP.out]; exact ax.out⟩
  |true=>
   have az:=Aa hvb
   cases ar:AF s acc with
   |true=>
    have HN:=Aa (Im hvb ar)
    have a7:=Aa ar
    clear hvb ar
    go_enter Tryz.func76,Tryz.ntmps76
    go_wp2_with (first|(go_at_call 49; refine(Ih _ _ ao).mono ?_; rintro e w' ⟨rfl,rfl⟩; rw[az.out])|(go_at_call 94; refine(N1 _ _ _ _ _ (LV.of_own (ae.out.alloc _))).mono ?_; rintro e w' ⟨rfl,rfl⟩; rw[a7.out]))
    go_loopw [0,25] (λq' i wr=>∃k:Nat,k<=l.length/\i=.int .i64 k/\DE w B q (At (Bk acc s) (Ao (l.take k))) q' wr) (λq' i wr=>l.length-(intOf i).toNat)
    case atStart=>exact⟨0,AE _,rfl,by simp only[List.take_zero]; rw[HN.out]; simpa [Ao,At] using Nj ae.out _⟩
    case round=>
     obtain⟨k,hk,rfl,aa⟩:=hrel
     have aj:=Aa aa
     have hlen:=Hm (Ao (l.take k)) (Bk acc s)
     rw[Gh]at hlen
     have af:=J2 acc s
     have aB:B<=wr.heap.size:=AX hB aa.2.1.size
     by_cases hlt:k<l.length
     ·have hst:=C4 l k hlt
      have ah:=C5 l (k+1)
      have ak:=hs.grown aa.2.1 (λb hb e=>by have h1:=hX b hb; have h2:=(ae.out.lt b e.symm).1; omega)
      obtain⟨b,o,a',c',rfl,d0,d1,hx⟩:=ak.get (Af wr.heap.size wr) (λ_ _ h=>h) k hlt
      have HX:=Aa hx
      have HT:Hid (At (Bk acc s) (Ao (l.take (k+1)))=At (At (Bk acc s) (Ao (l.take k))) (Ao [l[k]])):=by unfold Hid; rw[Jb l k hlt,Io]
      have av:Hid ((At (Bk acc s) (Ao (l.take k))).length+Ab [l[k]]<=2000000):=by unfold Hid; omega
      clear aa ak hx hlen af hst ah
      go_wp2_with fail
      refine(IH.out _ (AV hlt) _ _ _ _ X B (by exact HX.out.alloc _) hX (by simp; omega) (by exact aj.out.1.alloc _) (Ni a6.out k hlt) av.out).mono ?_
      rintro e w5 ⟨q5,rfl,ag⟩
      have ai:=Aa ((aj.out.below ((Af _ _).alloc (Aj _) _)).step ag)
      clear ag
      go_wp2_with fail
      go_roundw
      case rel=>exact⟨k+1,by omega,by go_num,by rw[HT.out]; exact ai.out⟩
      case measure=>simp[intOf]; omega
     ·have aw:l.take k=l:=AW (by omega)
      rw[aw]at aa
      have ax:=Aa aa
      clear aa hlen af
      go_wp2_with fail
      go_ret
      exact⟨_,rfl,by rw[HP.out]; exact ax.out⟩
   |false=>
    have HN:=Aa (Il hvb ar)
    have a7:=Aa ar
    clear hvb ar
    obtain⟨q2,w3,hr2,aq⟩:=fV (w:=w.alloc (.cells #[.string s,.slice a l.length c] 29)) (B:=B) s (ae.out.alloc _) (by simp; omega) (by omega) (w.heap.size+1) (by simp)
    have HR:=Aa hr2
    have ay:Ac w3 w.heap.size #[.string s,.slice a l.length c] 29:=(Ac.new w _ _).grown aq.2.1 (λe=>by have:=(ae.out.lt _ e.symm).2; omega)
    have aC:=ay.c1
    have a8:=Aa (fW ae.out aq)
    clear hr2 aq ay
    go_enter Tryz.func76,Tryz.ntmps76
    go_wp2_with (first|(go_at_call 49; refine(Ih _ _ ao).mono ?_; rintro e w' ⟨rfl,rfl⟩; rw[az.out])|(go_at_call 94; refine(N1 _ _ _ _ _ (LV.of_own (ae.out.alloc _))).mono ?_; rintro e w' ⟨rfl,rfl⟩; rw[a7.out])|(at_builtin; refine D1 rfl _ _ _ _ rfl rfl rfl HR.out ?_))
    go_loopw [0,25] (λq' i wr=>∃k:Nat,k<=l.length/\i=.int .i64 k/\DE w B q (At (Bk acc s) (Ao (l.take k))) q' wr) (λq' i wr=>l.length-(intOf i).toNat)
    case atStart=>exact⟨0,AE _,rfl,by simp only[List.take_zero]; rw[HN.out]; simpa [Ao,At] using a8.out⟩
    case round=>
     obtain⟨k,hk,rfl,aa⟩:=hrel
     have aj:=Aa aa
     have hlen:=Hm (Ao (l.take k)) (Bk acc s)
     rw[Gh]at hlen
     have af:=J2 acc s
     have aB:B<=wr.heap.size:=AX hB aa.2.1.size
     by_cases hlt:k<l.length
     ·have hst:=C4 l k hlt
      have ah:=C5 l (k+1)
      have ak:=hs.grown aa.2.1 (λb hb e=>by have h1:=hX b hb; have h2:=(ae.out.lt b e.symm).1; omega)
      obtain⟨b,o,a',c',rfl,d0,d1,hx⟩:=ak.get (Af wr.heap.size wr) (λ_ _ h=>h) k hlt
      have HX:=Aa hx
      have HT:Hid (At (Bk acc s) (Ao (l.take (k+1)))=At (At (Bk acc s) (Ao (l.take k))) (Ao [l[k]])):=by unfold Hid; rw[Jb l k hlt,Io]
      have av:Hid ((At (Bk acc s) (Ao (l.take k))).length+Ab [l[k]]<=2000000):=by unfold Hid; omega
      clear aa ak hx hlen af hst ah
      go_wp2_with fail
      refine(IH.out _ (AV hlt) _ _ _ _ X B (by exact HX.out.alloc _) hX (by simp; omega) (by exact aj.out.1.alloc _) (Ni a6.out k hlt) av.out).mono ?_
      rintro e w5 ⟨q5,rfl,ag⟩
      have ai:=Aa ((aj.out.below ((Af _ _).alloc (Aj _) _)).step ag)
      clear ag
      go_wp2_with fail
      go_roundw
      case rel=>exact⟨k+1,by omega,by go_num,by rw[HT.out]; exact ai.out⟩
      case measure=>simp[intOf]; omega
     ·have aw:l.take k=l:=AW (by omega)
      rw[aw]at aa
      have ax:=Aa aa
      clear aa hlen af
      go_wp2_with fail
      go_ret
      exact⟨_,rfl,by rw[HP.out]; exact ax.out⟩
theorem fY (t:Tm) (v:Value) (w:World) (X:Nat->Prop) (hv:TV w X v t):
  Calls Tryz.prog 50 #[v] w λe w'=>∃v',e=.returned (.tuple #[v',.int .i64 (Ay t)])/\(Ay t=0->LV Value.string w' (λb=>w.heap.size<=b) v' (At [] (Ao [t])))/\(Ay t≠0->v'=.slice none 0 0)/\Below w.heap.size w w':=by
 obtain⟨X',hX,hv'⟩:∃X':Nat->Prop,(∀b,X' b->b<w.heap.size)/\TV w X' v t:=⟨λb=>X b/\b<w.heap.size,λ_ h=>h.2,hv.mono λb h1 h2=>⟨h1,h2⟩⟩
 clear hv
 obtain⟨a,c,rfl,hs⟩:=hv'
 have HV:=Aa (show TV w X' (.agg #[.string t.name,.slice a t.args.length c]) t from ⟨a,c,rfl,hs⟩)
 clear hs
 go_enter Tryz.func50,Tryz.ntmps50
 go_wp2_with fail
 refine(J0 t _ _ X' (by exact HV.out.alloc _)).mono ?_
 rintro e w1 ⟨rfl,hb1⟩
 have ae:=(Ac.new w #[.string t.name,.slice a t.args.length c] 29).below hb1 (by simp)
 have c0:=ae.c0
 have c1:=ae.c1
 have HB:=Aa (((Af w.heap.size w).alloc (Aj _) (.cells #[.string t.name,.slice a t.args.length c] 29)).trans (hb1.mono (by simp)))
 clear hb1 ae
 by_cases h:Ay t=0
 ·have HM:=Aa h
  have HE:Hid (Ah [t]=0/\Ab [t]<=200):=by
   unfold Ay at h
   split at h
   ·exact absurd h (by decide)
   ·exact⟨h,by omega⟩
  rw[h]
  clear h
  go_wp2_with fail
  refine(fX t _ _ [] _ X' w1.heap.size (by exact HV.out.later HB.out) (λb hb=>by have:=hX b hb; have:=HB.out.size; omega) (Aj _) (Ga _ _ _ _) HE.out.1 (by have:=HE.out.2; simp; omega)).mono ?_
  rintro e w2 ⟨q2,rfl,af⟩
  have aa:=Aa af
  clear af
  go_wp2_with fail
  go_ret2
  refine⟨q2,by rw[HM.out]; rfl,λ_=>?_,λh=>absurd HM.out h,?_⟩
  ·exact aa.out.lv.mono λb hb _=>AX HB.out.size hb
  ·exact HB.out.trans ⟨aa.out.2.1.os,aa.out.2.1.tape,aa.out.2.1.output,aa.out.2.1.size,λk hk=>aa.out.2.1.block k (Do hk HB.out.size) (by simp[Value.ownBlock])⟩
 ·have h':(Ay t==0)=false:=by simpa using h
  have HM:=Aa h
  clear h
  go_wp2_with fail
  go_ret2
  exact⟨_,rfl,λh=>absurd h HM.out,λ_=>rfl,HB.out⟩
theorem fZ {n s:ByteArray} {acc:List ByteArray} (hn:Ak n=true):AF n (Bk acc s)=(AF n acc||(s.toList==n.toList)):=by
 cases hs:Ak s with
 |false=>
  rw[Gj hs]
  have:(s.toList==n.toList)=false:=by
   rw[I4]
   intro h
   have e:s=n:=Ej (by simpa using h)
   rw[e,hn]at hs
   cases hs
  rw[this,Bool.or_false]
 |true=>
  cases hi:AF s acc with
  |true=>
   rw[Im hs hi]
   cases he:(s.toList==n.toList) with
   |false=>rw[Bool.or_false]
   |true=>
    have e:s=n:=Ej (by simpa using he)
    rw[<-e,hi]; rfl
  |false=>
   rw[Il hs hi]
   unfold AF
   rw[He]
   simp
theorem To {n:ByteArray} (hn:Ak n=true):∀(ks:List Tm) (acc:List ByteArray),AF n (At acc ks)=(AF n acc||ks.any λk=>k.name.toList==n.toList)
 | [],acc=>by simp[At]
 |k::ks,acc=>by
  have h:=To hn ks (Bk acc k.name)
  show AF n (At (Bk acc k.name) ks)=_
  rw[h,fZ hn,List.any_cons,Bool.or_assoc]
theorem Tp:∀(ks:List Tm) (acc:List ByteArray),(∀n∈acc,Ak n=true)->∀n∈At acc ks,Ak n=true
 | [],acc,h=>h
 |k::ks,acc,h=>Tp ks (Bk acc k.name) λn hn=>by
  unfold Bk at hn
  split at hn
  ·rename_i hc
   rcases Bg.1 hn with h1|h1
   ·exact h n h1
   ·rw[Gf.1 h1]
    simp at hc
    exact hc.1
  ·exact h n hn
theorem gA {n:ByteArray} (hn:Ak n=true) (t:Tm):AF n (At [] (Ao [t]))=Br n [t]:=by
 rw[To hn]
 simp[AF,Br]
theorem Tq (l:Tm):∀ns:List ByteArray,(∀n∈ns,Ak n=true)->(ns.any λn=>!Br n [l])=!(ns.all λn=>AF n (At [] (Ao [l])))
 | [],_=>by simp
 |n::ns,h=>by
  rw[List.any_cons,List.all_cons,Tq l ns (λm hm=>h m (by simp[hm])),gA (h n (by simp)),Bool.not_and]
theorem gB {l:List ByteArray} {f:ByteArray->Bool} {k:Nat} (h:k<l.length):(l.take (k+1)).any f=((l.take k).any f||f l[k]):=by
 rw[Bm h,He]
 simp
theorem gC {l:List ByteArray} {f:ByteArray->Bool} {k:Nat} (h:k<l.length) (h0:f l[k]=true):l.any f=true:=D7.2 ⟨_,AV h,h0⟩
def Nk (P:Nat) (p:Pr) (a1 a2:Option Addr) (c1 c2:Nat) (w:World):Prop:=Ac w P #[.string p.l.name,.slice a1 p.l.args.length c1,.string p.r.name,.slice a2 p.r.args.length c2] 31/\Sl w (λ_=>True) a1 p.l.args
theorem gD (P:Nat) (p:Pr) (a1 a2:Option Addr) (c1 c2:Nat) (n:ByteArray) (w:World) (h:Nk P p a1 a2 c1 c2 w):
  Calls Tryz.prog 52 #[.string n,.pointer (some ⟨P,0,none⟩)] w λe w'=>e=.returned (.bool (!Br n [p.l]))/\Below w.heap.size w w':=by
 have H:=Aa h
 have d0:=h.1.c0
 have d1:=h.1.c1
 clear h
 go_enter Tryz.func52,Tryz.ntmps52
 go_wp2_with fail
 refine(QK n p.l _ _ (λ_=>True) ⟨_,_,rfl,H.out.2⟩).mono ?_
 rintro e w1 ⟨rfl,hb1⟩
 have aa:=Aa hb1
 clear hb1
 go_wp2_with fail
 go_ret
 exact⟨rfl,aa.out⟩
def gE (f:ByteArray->Bool) (l:List ByteArray) (w:World) (v:Value) (wr:World):Prop:=∃k:Nat,k<=l.length/\v=.int .i64 (k:Int)/\(l.take k).any f=false/\Below w.heap.size w wr
theorem gF (P:Nat) (p:Pr) (a1 a2:Option Addr) (c1 c2:Nat) (l:List ByteArray) (v:Value) (w:World) (X:Nat->Prop) (hv:LV Value.string w X v l) (hp:Nk P p a1 a2 c1 c2 w):
  Calls Tryz.prog 77 #[v,.func (.func 52) #[] #[.pointer (some ⟨P,0,none⟩)]] w λe w'=>(∃i:Int,e=.returned (.int .i64 i)/\decide (0<=i)=l.any λn=>!Br n [p.l])/\Below w.heap.size w w':=by
 have HV:=Aa hv
 have HP:=Aa hp
 obtain⟨a,c,rfl,⟨hl,_⟩,_⟩:=hv
 clear hp
 go_enter Tryz.func77,Tryz.ntmps77
 go_wp2_with fail
 go_loopw [8] (λv wr=>gE (λn=>!Br n [p.l]) l w v wr) (λv wr=>l.length-(intOf v).toNat)
 case atStart=>exact⟨0,AE _,rfl,by simp,Af _ _⟩
 case round=>
  obtain⟨k,hk,rfl,hT,hb⟩:=hrel
  have HT:=Aa hT
  have HB:=Aa hb
  clear hT
  by_cases hlt:k<l.length
  ·have af:(k:Int)<(l.length:Int):=by omega
   obtain⟨a',c',ev,_,h1⟩:=HV.out.later hb
   simp at ev
   obtain⟨rfl,rfl⟩:=ev
   obtain⟨b,o,rfl,_,hc⟩:=h1.resolve_left (λh=>by rw[h] at hlt; simp at hlt)
   have d0:=hc k hlt
   have CK:=Aa (gD P p a1 a2 c1 c2 l[k] wr ⟨HP.out.1.below hb HP.out.1.lt,HP.out.2.later hb⟩)
   have ag:=Aa (gB (f:=λn=>!Br n [p.l]) hlt)
   have ah:=Aa (gC (f:=λn=>!Br n [p.l]) hlt)
   clear hc h1 hb
   generalize l[k]=y at *
   go_wp2_with fail
   refine CK.out.mono ?_
   rintro e w1 ⟨rfl,hb1⟩
   have ae:=Aa (HB.out.trans (hb1.mono HB.out.size))
   clear hb1
   cases hm:Br y [p.l] with
   |false=>
    have HF:=Aa (ah.out (by rw[hm]; rfl))
    go_wp2_with fail
    go_ret
    exact⟨⟨_,rfl,by rw[HF.out]; simp⟩,ae.out⟩
   |true=>
    have aa:Hid ((l.take (k+1)).any (λn=>!Br n [p.l])=false):=by
     have h:=ag.out
     rw[hm,HT.out]at h
     exact h
    go_wp2_with fail
    go_roundw
    case rel=>exact⟨k+1,by omega,by go_num,aa.out,ae.out⟩
    case measure=>simp[intOf]; omega
  ·have HF:Hid (false=l.any λn=>!Br n [p.l]):=by
    unfold Hid
    rw[<-HT.out,AW (by omega)]
   go_wp2_with fail
   go_ret
   exact⟨⟨-1,rfl,by rw[<-HF.out]; decide⟩,HB.out⟩
theorem gG (P:Nat) (p:Pr) (a1 a2:Option Addr) (c1 c2:Nat) (l:List ByteArray) (v:Value) (w:World) (X:Nat->Prop) (hv:LV Value.string w X v l) (hp:Nk P p a1 a2 c1 c2 w):
  Calls Tryz.prog 51 #[v,.func (.func 52) #[] #[.pointer (some ⟨P,0,none⟩)]] w λe w'=>e=.returned (.bool (l.any λn=>!Br n [p.l]))/\Below w.heap.size w w':=by
 have IC:=Aa (gF P p a1 a2 c1 c2 l v w X hv hp)
 clear hv hp
 go_enter Tryz.func51,Tryz.ntmps51
 go_wp2_with fail
 refine IC.out.mono ?_
 rintro e w1 ⟨⟨i,rfl,hi⟩,hb1⟩
 have HI:=Aa hi
 have aa:=Aa hb1
 clear hi hb1
 go_wp2_with fail
 go_ret
 exact⟨BH (by rw[<-HI.out]),aa.out⟩
def Ei:List Tm->Int
 | []=>0
 |t::r=>if Ay t=0 then Ei r else Ay t
theorem gH {l:List Tm} {k:Nat} (h:k<l.length) (h0:Ei (l.take k)=0):Ei (l.take (k+1))=Ay l[k]/\(Ay l[k]≠0->Ei l=Ay l[k]):=by
 induction l generalizing k with
 |nil=>simp at h
 |cons t r ih=>
  cases k with
  |zero=>
   refine⟨?_,λhne=>?_⟩
   ·simp only[F8,List.take_zero,Ei,Et]
    split
    ·rename_i e; exact e.symm
    ·rfl
   ·simp only[Et] at hne ⊢
    rw[Ei,An hne]
  |succ k=>
   have ht:Ay t=0:=by
    rw[F8,Ei]at h0
    split at h0
    ·assumption
    ·rename_i e; exact absurd h0 e
   rw[F8,Ei,As ht]at h0
   obtain⟨h1,h2⟩:=ih (by simpa using h) h0
   simp only[F7]
   refine⟨by rw[F8,Ei,As ht]; exact h1,λhne=>by rw[Ei,As ht]; exact h2 hne⟩
def gI (l:List Tm) (w:World) (v:Value) (wr:World):Prop:=∃k:Nat,k<=l.length/\v=.int .i64 (k:Int)/\Ei (l.take k)=0/\Below w.heap.size w wr
theorem gJ (l:List Tm) (a:Option Addr) (c:Nat) (w:World) (X:Nat->Prop) (hs:Sl w X a l):
  Calls Tryz.prog 48 #[.slice a l.length c] w λe w'=>e=.returned (.int .i64 (Ei l))/\Below w.heap.size w w':=by
 have HS:=Aa hs
 have hl:=hs.1
 clear hs
 go_enter Tryz.func48,Tryz.ntmps48
 go_wp2_with fail
 go_loopw [8] (λv wr=>gI l w v wr) (λv wr=>l.length-(intOf v).toNat)
 case atStart=>exact⟨0,AE _,rfl,by simp[Ei],Af _ _⟩
 case round=>
  obtain⟨k,hk,rfl,hT,hb⟩:=hrel
  have HT:=Aa hT
  have HB:=Aa hb
  clear hT
  by_cases hlt:k<l.length
  ·have af:(k:Int)<(l.length:Int):=by omega
   obtain⟨b,o,a',c',rfl,d0,d1,hx⟩:=HS.out.get hb (λ_ _ h=>h) k hlt
   have HX:=Aa hx
   have aa:=Aa (gH hlt HT.out)
   clear hx hb
   generalize l[k]=y at *
   go_wp2_with fail
   refine(J0 y _ _ X (by exact HX.out.later ((Af _ _).alloc (Aj _) _))).mono ?_
   rintro e w1 ⟨rfl,hb1⟩
   have ae:=Aa ((HB.out.alloc HB.out.size (.cells #[.string y.name,.slice a' y.args.length c'] 29)).trans (hb1.mono (by have:=HB.out.size; simp; omega)))
   clear hb1
   by_cases hm:Ay y=0
   ·have HZ:Hid (Ei (l.take (k+1))=0):=by unfold Hid; rw[aa.out.1,hm]
    rw[hm]
    clear hm
    go_wp2_with fail
    go_roundw
    case rel=>exact⟨k+1,by omega,by go_num,HZ.out,ae.out⟩
    case measure=>simp[intOf]; omega
   ·have ag:(Ay y==0)=false:=by simpa using hm
    have HF:=Aa (aa.out.2 hm)
    clear hm
    go_wp2_with fail
    go_ret
    exact⟨BG HF.out.symm,ae.out⟩
  ·have HF:Hid (0=Ei l):=by
    unfold Hid
    rw[<-HT.out,AW (by omega)]
   go_wp2_with fail
   go_ret
   exact⟨BG HF.out,HB.out⟩
theorem gK (a b:Tm):Ei [a,b]=CA a b:=by
 simp only[Ei,CA]
 by_cases h1:Ay a=0
 ·rw[As h1,As h1]
  by_cases h2:Ay b=0
  ·rw[As h2,h2]
  ·rw[An h2]
 ·rw[An h1,An h1]
theorem Tr {w:World} {B:Nat} {t5 t6:Tm} {a5 a6:Option Addr} {c5 c6 T:Nat} (hb:Ac w B #[.string t5.name,.slice a5 t5.args.length c5,.string t6.name,.slice a6 t6.args.length c6] T) (h5:Sl w (λ_=>True) a5 t5.args) (h6:Sl w (λ_=>True) a6 t6.args):Sl w (λ_=>True) (some ⟨B,0,none⟩) [t5,t6]:=by
 refine⟨by simp,Ae ⟨B,0,rfl,NA _ _ _ λi hi=>?_⟩⟩
 have aa:i=0∨i=1:=by simp at hi; omega
 rcases aa with rfl|rfl
 ·exact⟨trivial,hb.cell 0,a5,c5,hb.cell 1,h5⟩
 ·exact⟨trivial,hb.cell 2,a6,c6,hb.cell 3,h6⟩
theorem gM (p:Pr) (a1 a2:Option Addr) (c1 c2:Nat) (w:World) (X:Nat->Prop) (hs1:Sl w X a1 p.l.args) (hs2:Sl w X a2 p.r.args):
  Calls Tryz.prog 33 #[.agg #[.string p.l.name,.slice a1 p.l.args.length c1,.string p.r.name,.slice a2 p.r.args.length c2]] w λe w'=>e=.returned (.int .i64 (Bt p))/\Below w.heap.size w w':=by
 have S1:=Aa (hs1.mono (Y:=λ_=>True) λ_ _ _=>trivial)
 have S2:=Aa (hs2.mono (Y:=λ_=>True) λ_ _ _=>trivial)
 clear hs1 hs2
 have ai:=@hmq Tryz.prog
 have HW:Hid (Ac ((w.alloc (.cells #[.string p.l.name,.slice a1 p.l.args.length c1,.string p.r.name,.slice a2 p.r.args.length c2] 31)).alloc (.cells #[.string p.l.name,.slice a1 p.l.args.length c1,.string p.r.name,.slice a2 p.r.args.length c2] 29)) w.heap.size #[.string p.l.name,.slice a1 p.l.args.length c1,.string p.r.name,.slice a2 p.r.args.length c2] 31/\Ac ((w.alloc (.cells #[.string p.l.name,.slice a1 p.l.args.length c1,.string p.r.name,.slice a2 p.r.args.length c2] 31)).alloc (.cells #[.string p.l.name,.slice a1 p.l.args.length c1,.string p.r.name,.slice a2 p.r.args.length c2] 29)) (w.heap.size+1) #[.string p.l.name,.slice a1 p.l.args.length c1,.string p.r.name,.slice a2 p.r.args.length c2] 29/\Below w.heap.size w ((w.alloc (.cells #[.string p.l.name,.slice a1 p.l.args.length c1,.string p.r.name,.slice a2 p.r.args.length c2] 31)).alloc (.cells #[.string p.l.name,.slice a1 p.l.args.length c1,.string p.r.name,.slice a2 p.r.args.length c2] 29))):=by
  have K1:=Ac.new (w.alloc (.cells #[.string p.l.name,.slice a1 p.l.args.length c1,.string p.r.name,.slice a2 p.r.args.length c2] 31)) #[.string p.l.name,.slice a1 p.l.args.length c1,.string p.r.name,.slice a2 p.r.args.length c2] 29
  rw[CN]at K1
  exact⟨(Ac.new w _ _).alloc _,K1,((Af _ _).alloc (Aj _) _).alloc (by simp) _⟩
 go_enter Tryz.func33,Tryz.ntmps33
 go_wp2_with fail
 generalize ((w.alloc (.cells #[.string p.l.name,.slice a1 p.l.args.length c1,.string p.r.name,.slice a2 p.r.args.length c2] 31)).alloc (.cells #[.string p.l.name,.slice a1 p.l.args.length c1,.string p.r.name,.slice a2 p.r.args.length c2] 29))=w2 at *
 refine(gJ [p.l,p.r] _ _ _ (λ_=>True) (Tr HW.out.2.1 (S1.out.later HW.out.2.2) (S2.out.later HW.out.2.2))).mono ?_
 rintro e w3 ⟨rfl,hb3⟩
 have B3:=Aa (HW.out.2.2.trans (hb3.mono HW.out.2.2.size))
 have K3:=Aa (HW.out.1.below hb3 HW.out.1.lt)
 clear hb3 HW
 rw[gK]
 by_cases hm:CA p.l p.r=0
 ·have HM:Hid (Ay p.r=0):=by
   unfold CA at hm
   split at hm
   ·exact hm
   ·rename_i h; exact absurd hm h
  have aa:Hid (Bt p=if Ak p.l.name=true then 2 else if (At [] (Ao [p.r])).all (λn=>AF n (At [] (Ao [p.l])))=true then 0 else 15):=by unfold Hid Bt; rw[As hm]
  rw[hm]
  clear hm
  have d0:=K3.out.c0
  have d2:=K3.out.c2
  have d3:=K3.out.c3
  go_wp2_with fail
  refine(Cz _ _).mono ?_
  rintro e w4 ⟨rfl,hw4⟩
  rw[hw4]
  clear hw4 w4
  cases hv:Ak p.l.name with
  |true=>
   have HE:Hid (2=Bt p):=by unfold Hid; rw[aa.out,As hv]
   clear hv
   go_wp2_with fail
   go_ret
   exact⟨BG HE.out,B3.out⟩
  |false=>
   have af:Hid (Bt p=if (At [] (Ao [p.r])).all (λn=>AF n (At [] (Ao [p.l])))=true then 0 else 15):=by
    have h:=aa.out
    rw[An (by rw[hv]; decide)]at h
    exact h
   clear hv aa
   go_wp2_with fail
   refine(fY p.r _ _ (λ_=>True) ⟨_,_,rfl,S2.out.later B3.out⟩).mono ?_
   rintro e w5 ⟨v5,rfl,hlv,_,ae⟩
   have L5:=Aa (hlv HM.out)
   have B5:=Aa (B3.out.trans (ae.mono B3.out.size))
   have K5:=Aa (K3.out.below ae K3.out.lt)
   rw[HM.out]
   clear hlv ae d0 d2 d3
   have ah:=Aa (Tq p.l (At [] (Ao [p.r])) (Tp _ _ (by simp)))
   go_wp2_with fail
   refine(gG w.heap.size p a1 a2 c1 c2 (At [] (Ao [p.r])) _ _ _ (by exact L5.out) ⟨K5.out,S1.out.later B5.out⟩).mono ?_
   rintro e w6 ⟨rfl,ag⟩
   have B6:=Aa (B5.out.trans (ag.mono B5.out.size))
   clear ag
   rw[ah.out]
   cases ha:(At [] (Ao [p.r])).all (λn=>AF n (At [] (Ao [p.l]))) with
   |true=>
    have HE:Hid (0=Bt p):=by unfold Hid; rw[af.out,As ha]
    clear ha
    go_wp2_with fail
    go_ret
    exact⟨BG HE.out,B6.out⟩
   |false=>
    have HE:Hid (15=Bt p):=by unfold Hid; rw[af.out,An (by rw[ha]; decide)]
    clear ha
    go_wp2_with fail
    go_ret
    exact⟨BG HE.out,B6.out⟩
 ·have aj:(CA p.l p.r==0)=false:=by simpa using hm
  have HE:Hid (CA p.l p.r=Bt p):=by unfold Hid Bt; rw[An hm]
  clear hm
  go_wp2_with fail
  go_ret
  exact⟨BG HE.out,B3.out⟩
theorem gO (ls:List Pr) (u:Value) (w:World) (X:Nat->Prop) (hu:QV w X u ls):
  Calls Tryz.prog 19 #[u] w λe w'=>e=.returned (.int .i64 (Cg ls))/\Below w.heap.size w w':=by
 have HU:=Aa (hu.mono (Y:=λb=>X b/\b<w.heap.size) λb h1 h2=>⟨h1,h2⟩)
 obtain⟨a,c,rfl,hl,ah⟩:=hu
 clear ah
 go_enter Tryz.func19,Tryz.ntmps19
 by_cases ae:40<ls.length
 ·go_wp2_with fail
  go_ret
  exact⟨BG (by unfold Cg; rw[As ae]),Af _ _⟩
 go_wp2_with fail
 go_loopw [11] (λv wr=>Pb ls w v wr) (λv wr=>ls.length-(intOf v).toNat)
 case atStart=>exact⟨0,rfl,AE _,rfl,Af _ _⟩
 case round=>
  obtain⟨k,rfl,hk,hT,hb⟩:=hrel
  have HB:=Aa hb
  have HT:=Aa hT
  clear hT
  by_cases hlt:k<ls.length
  ·obtain⟨b,o,a1,c1,a2,c2,rfl,d0,d1,d2,d3,hs1,hs2⟩:=(HU.out.later hb).get k hlt
   have ai:(k:Int)<(ls.length:Int):=by omega
   have aj:=Aa hs1
   have ak:=Aa hs2
   have HY:=Aa (ON hlt ae HT.out)
   have HN:=Aa (Kf hlt HT.out)
   clear hs1 hs2 hb
   generalize ls[k]=d at *
   go_wp2_with fail
   have aa:Below wr.heap.size wr (wr.alloc (.cells #[.string d.l.name,.slice a1 d.l.args.length c1,.string d.r.name,.slice a2 d.r.args.length c2] 31)):=(Af _ _).alloc (Aj _) _
   refine(gM d a1 a2 c1 c2 _ _ (by exact aj.out.later aa) (by exact ak.out.later aa)).mono ?_
   rintro e w5 ⟨rfl,af⟩
   have ag:=Aa (HB.out.trans ((aa.trans (af.mono (by simp))).mono HB.out.size))
   clear af aa
   by_cases hm:Bt d=0
   ·have HZ:Hid (Eo ls (k+1)=0):=by unfold Hid; rw[HN.out,hm]
    rw[hm]
    clear hm
    go_wp2_with fail
    go_roundw
    case rel=>exact⟨k+1,by go_num,by omega,HZ.out,ag.out⟩
    case measure=>simp[intOf]; omega
   ·have aq:(Bt d==0)=false:=by simpa using hm
    have HM:=Aa (HY.out hm)
    clear hm
    go_wp2_with fail
    go_ret
    exact⟨BG HM.out.symm,ag.out⟩
  ·have ao:k=ls.length:=by omega
   go_wp2_with fail
   go_ret
   exact⟨BG (by unfold Cg; rw[An ae,<-ao]; exact HT.out.symm),HB.out⟩
def kP:List (List ByteArray):=[[⟨#[102,40,97,44,88,41]⟩,⟨#[88]⟩,⟨#[102,40,104,40,88,41,44,89,41]⟩,⟨#[104,40,102,40,88,44,89,41,41]⟩],[⟨#[102,40,88,44,97,41]⟩,⟨#[88]⟩,⟨#[102,40,88,44,104,40,89,41,41]⟩,⟨#[104,40,102,40,88,44,89,41,41]⟩,⟨#[102,40,97,44,88,41]⟩,⟨#[88]⟩],[⟨#[102,40,102,40,88,44,89,41,44,90,41]⟩,⟨#[102,40,88,44,102,40,89,44,90,41,41]⟩],[⟨#[107,40,107,40,88,41,41]⟩,⟨#[88]⟩,⟨#[107,40,97,41]⟩,⟨#[97]⟩,⟨#[107,40,102,40,88,44,89,41,41]⟩,⟨#[102,40,107,40,89,41,44,107,40,88,41,41]⟩],[⟨#[102,40,88,44,88,41]⟩,⟨#[88]⟩],[⟨#[104,40,107,40,88,41,41]⟩,⟨#[107,40,104,40,88,41,41]⟩,⟨#[104,40,104,40,88,41,41]⟩,⟨#[104,40,88,41]⟩],[⟨#[102,40,97,44,98,41]⟩,⟨#[99]⟩,⟨#[97]⟩,⟨#[98]⟩],[⟨#[103,40,88,44,89,41]⟩,⟨#[102,40,89,44,88,41]⟩],[⟨#[104,40,97,41]⟩,⟨#[98]⟩,⟨#[104,40,97,41]⟩,⟨#[99]⟩],[⟨#[102,40,88,44,103,40,89,44,90,41,41]⟩,⟨#[103,40,102,40,88,44,89,41,44,102,40,88,44,90,41,41]⟩]]
def Nl (B:Nat) (l:List ByteArray) (w w':World):Prop:=Ac w' B (l.map Value.string).toArray 9/\Below w.heap.size w w'
theorem Nl.later {B:Nat} {l:List ByteArray} {w w1 w2:World} (h:Nl B l w w1) (hb:Below w1.heap.size w1 w2):Nl B l w w2:=⟨h.1.below hb h.1.lt,h.2.trans (hb.mono h.2.size)⟩
theorem Lj {p:Pr} (h:Bt p=0):Ay p.l=0/\Ay p.r=0:=by
 unfold Bt at h
 split at h
 ·rename_i h1
  unfold CA at h1
  split at h1
  ·rename_i h2
   exact⟨h2,h1⟩
  ·rename_i h2
   exact absurd h1 h2
 ·rename_i h1
  exact absurd h h1
theorem Ts (U:List Pr->Int×List Bd) {o n:Pr} (same:Bool) (ho:Ay o.l=0/\Ay o.r=0) (hn:Ay n.l=0/\Ay n.r=0):(IR U o n same).length<=200:=by
 have h1:=List.length_filterMap_le (Eg U (Av o n) same) (AM [] [] (Av o n).1.l)
 have h2:(AM [] [] (Av o n).1.l).length<=Ab [(Av o n).1.l]:=by
  obtain⟨s,l⟩:=(Av o n).1.l
  unfold AM
  have:=P7 l [] 0 (Ci []) ([]:List Int).tail
  have e:Ab [(⟨s,l⟩:Tm)]=1+Ab l:=by simp[Ab]
  rw[e,Bs]
  simp only
  omega
 have h3:=CC (IQ ho hn).1.1
 unfold IR
 omega
def Lk (U:List Pr->Int×List Bd) (rs:List Pr) (w:World) (i j:Nat) (v:Value) (wr:World):Prop:=
 ∃cs,Cx wr w.heap.size (λ_=>False) v cs/\cs.length<=400/\Below w.heap.size w wr/\DC U (DJ rs.zipIdx i j) (cs.map (·.1))=Dh U rs
def Ll (U:List Pr->Int×List Bd) (rs:List Pr) (w:World) (e:Ending) (w':World):Prop:=
 Below w.heap.size w w'/\((Cg rs≠0/\e=.returned (.tuple #[.slice none 0 0,.int .i64 (Cg rs)]))∨(Cg rs=0/\(Dh U rs).1≠0/\e=.returned (.tuple #[.slice none 0 0,.int .i64 (Dh U rs).1]))∨
  (Cg rs=0/\(Dh U rs).1=0/\∃v cs,e=.returned (.tuple #[v,.int .i64 0])/\Cx w' w.heap.size (λ_=>False) v cs/\cs.length<=400/\cs.map (·.1)=(Dh U rs).2))
theorem Tt (BT:Nat) (U:List Pr->Int×List Bd) (hU:∀ls,Ck ls=0->∃g,AQ false g [] ls=some (U ls)) (a7:∀ls,Ck ls=0->(U ls).1=0->Hp (U ls).2) (rs:List Pr) (u:Value) (w:World) (X:Nat->Prop) (hu:QV w X u rs) (hT:Tb BT w) (aK:BT<=w.heap.size):
  Calls Tryz.prog 9 #[u] w λe w'=>Ll U rs w e w':=by
 have HU:=Aa hu
 have HT:=Aa hT
 have aL:=Aa hU
 have aM:=Aa a7
 obtain⟨ua,uc,rfl,aV,-⟩:=id hu
 clear hu hT hU a7
 go_enter Tryz.func9,Tryz.ntmps9
 go_wp2_with fail
 refine(gO rs _ w X HU.out).mono ?_
 rintro e w1 ⟨rfl,hb1⟩
 have a8:=Aa hb1
 clear hb1
 by_cases hr:Cg rs=0
 ·have HR:=Aa hr
  rw[hr]
  clear hr
  go_wp2_with fail
  go_loopw [5,17] (λov oi wr=>∃i,i<=rs.length/\oi=.int .i64 (i:Int)/\Lk U rs w i 0 ov wr) (λov oi wr=>rs.length-(intOf oi).toNat)
  case atStart=>exact⟨0,AE _,rfl,[],Cx.start _ _ _,by simp,a8.out,rfl⟩
  case round=>
   obtain⟨i,hi,rfl,cs,hQ,hl,hB,hc⟩:=hrel
   obtain⟨va,vc,rfl⟩:=DP hQ.own
   have HQ:=Aa hQ
   have HB:=Aa hB
   have HC:=Aa hc
   have HL:=Aa hl
   clear hQ hB hc hl
   by_cases af:i<rs.length
   ·have aN:(i:Int)<(rs.length:Int):=by omega
    go_wp2_with fail
    go_loopw [5,22] (λov oi wr=>∃j,j<=rs.length/\oi=.int .i64 (j:Int)/\Lk U rs w i j ov wr) (λov oi wr=>rs.length-(intOf oi).toNat)
    case atStart=>exact⟨0,AE _,rfl,cs,HQ.out,HL.out,HB.out,HC.out⟩
    case round=>
     obtain⟨j,hj,rfl,aa,aq,hl2,Bx,hc2⟩:=hrel
     obtain⟨aW,aX,rfl⟩:=DP aq.own
     have ar:=Aa aq
     have ae:=Aa Bx
     have au:=Aa hc2
     have aA:=Aa hl2
     clear aq Bx hc2 hl2
     by_cases aj:j<rs.length
     ·have aO:(j:Int)<(rs.length:Int):=by omega
      have aB:=Aa (Lj (GS HR.out rs[i] (AV af)))
      have aC:=Aa (Lj (GS HR.out rs[j] (AV aj)))
      have HST:Hid (DJ rs.zipIdx i j=((rs[i],i),(rs[j],j))::DJ rs.zipIdx i (j+1)):=by unfold Hid; rw[Ti _ i j (by simpa using af) (by simpa using aj),Li rs i af,Li rs j aj]
      go_wp2_with fail
      refine(ZK BT U aL.out aM.out rs i j af aj _ _ X (HU.out.later ae.out) aB.out aC.out (HT.out.on (ae.out.mono aK)) (by have:=ae.out.size; omega)).mono ?_
      rintro e w3 ⟨hb3,ag⟩
      have ak:=Aa (ae.out.trans (hb3.mono ae.out.size))
      have aD:=Aa (ar.out.below hb3)
      have hz3:=hb3.size
      clear hb3
      rcases ag with ⟨aF,v',ao,rfl,av,aw⟩|⟨hf,rfl⟩
      ·have aP:ao.length<=200:=by
        have h1:=Bu List.length aw
        rw[DZ]at h1
        rw[h1]
        exact Ts U _ aB.out aC.out
       have aG:=ae.out.size
       have hl2:=aA.out
       obtain⟨v2,w4,hrun,ax,hg4⟩:=Tn aD.out ak.out.size (λ_ h=>h.elim) av aG (λb hb=>(ar.out.own.lt b hb).2) (by omega)
       have ah:=aD.out.own.lt
       have aH:Hid (Below w.heap.size w w4):=ak.out.grown hg4 ak.out.size (λq hq=>(ah q hq).1)
       have aQ:=Aa ax
       obtain⟨a3,c3,rfl⟩:=DP av.own
       obtain⟨a4,c4,hv4⟩:=DP ax.own
       obtain⟨nl,ay⟩:∃nl,nl=(aa++ao).length:=⟨_,rfl⟩
       rw[<-ay]at hv4
       subst hv4
       have ai:=Aa hrun
       have az:=Aa ay
       have aI:Hid (¬H7 U ((rs[i],i),(rs[j],j))):=λh=>by
        obtain⟨d,hd,hf⟩:=h
        exact aF d hd hf
       have HM:Hid ((aa++ao).map (·.1)=aa.map (·.1)++G6 U ((rs[i],i),(rs[j],j))):=by unfold Hid; rw[Cr,aw]; rfl
       clear hrun ax hg4 ah av aw aF ay hl2 aG aP hz3
       have HE:Hid (DC U (((rs[i],i),(rs[j],j))::DJ rs.zipIdx i (j+1)) (aa.map (·.1))=Dh U rs):=by unfold Hid; rw[<-HST.out]; exact au.out
       by_cases aJ:400<nl
       ·have aR:(400:Int)<(nl:Int):=by omega
        go_wp2_with (at_builtin; refine D1 rfl _ _ _ _ rfl rfl rfl ai.out ?_)
        refine Ap (v:=.tuple #[.slice none 0 0,.int .i64 3]) (by simp[results,Tryz.results9,go_sem]) rfl ?_
        have h:=HE.out
        rw[Tg aI.out (by rw[<-HM.out,DZ,<-az.out]; exact aJ)]at h
        exact⟨aH.out,Ae (Ad ⟨HR.out,by rw[<-h]; decide,by rw[<-h]⟩)⟩
       ·have aR:¬(400:Int)<(nl:Int):=by omega
        have aS:(nl:Int)<=400:=by omega
        go_wp2_with (at_builtin; refine D1 rfl _ _ _ _ rfl rfl rfl ai.out ?_)
        go_roundw
        case rel=>
         have h:=HE.out
         rw[Th aI.out (by rw[<-HM.out,DZ,<-az.out]; exact aJ),<-HM.out]at h
         exact⟨j+1,by omega,by simp,aa++ao,aQ.out,by rw[<-az.out]; omega,aH.out,h⟩
        case measure=>simp[intOf]; omega
      ·have HE:Hid ((8,[])=Dh U rs):=by
        have h:=au.out
        rw[HST.out,Tf (by obtain⟨d,hd,h⟩:=hf; exact⟨d,hd,h⟩)]at h
        exact h
       clear hf
       go_wp2_with fail
       refine Ap (v:=.tuple #[.slice none 0 0,.int .i64 8]) (by simp[results,Tryz.results9,go_sem]) rfl ?_
       have h:=HE.out
       exact⟨ak.out,Ae (Ad ⟨HR.out,by rw[<-h]; decide,by rw[<-h]⟩)⟩
     ·have aO:¬(j:Int)<(rs.length:Int):=by omega
      have ej:j=rs.length:=by omega
      have aT:Hid (DC U (DJ rs.zipIdx (i+1) 0) (aa.map (·.1))=Dh U rs):=by
       unfold Hid
       rw[<-Tj _ i (by simpa using af),Lh,<-ej]
       exact au.out
      clear ej
      go_wp2_with fail
      go_roundw
      case rel=>exact⟨i+1,by omega,by simp,aa,ar.out,aA.out,ae.out,aT.out⟩
      case measure=>simp[intOf]; omega
   ·have aN:¬(i:Int)<(rs.length:Int):=by omega
    have ei:i=rs.length:=by omega
    have aU:Hid ((0,cs.map (·.1))=Dh U rs):=by
     have h:DC U (DJ rs.zipIdx rs.zipIdx.length 0) (cs.map (·.1))=Dh U rs:=by rw[Lh,<-ei]; exact HC.out
     rw[Tl,Te]at h
     exact h
    clear ei
    go_wp2_with fail
    refine Ap (v:=.tuple #[.slice va cs.length vc,.int .i64 0]) (by simp[results,Tryz.results9,go_sem]) rfl ?_
    have h:=aU.out
    exact⟨HB.out,Ae (Ae ⟨HR.out,by rw[<-h],_,cs,rfl,HQ.out,HL.out,by rw[<-h]⟩)⟩
 ·obtain⟨er,a6⟩:∃er,er=Cg rs:=⟨_,rfl⟩
  rw[<-a6]at hr ⊢
  have HR:Hid (er=Cg rs/\er≠0):=⟨a6,hr⟩
  have hr3:(er !=0)=true:=by simp[hr]
  clear a6 hr
  go_wp2_with fail
  refine Ap (v:=.tuple #[.slice none 0 0,.int .i64 er]) (by simp[results,Tryz.results9,go_sem]) rfl ?_
  have h:=HR.out
  exact⟨a8.out,Ad ⟨λq=>h.2 (h.1.trans q),by rw[h.1]⟩⟩
open Go.RowKit Go.Shelf
attribute [local go_sem] GJ
theorem gP (w:World) (a:Addr) (v:Value):(w.setCell a v).os=w.os:=rfl
theorem gQ (w:World) (a:Addr) (v:Value):(w.setCell a v).tape=w.tape:=rfl
theorem gR (w:World) (a:Addr) (v:Value):(w.setCell a v).output=w.output:=rfl
def H8 (W:World) (b:Nat):Prop:=(∀r,W.heap[b]? ≠ some (.loop r))/\∀d,W.heap[b]? ≠ some (.deferred d)
theorem Tu {W:World} {b i:Nat} {v:Value} (h:W.cell? ⟨b,i,none⟩=some v):H8 W b:=
 ⟨(λr e=>by simp[World.cell?,e] at h),(λd e=>by simp[World.cell?,e] at h)⟩
theorem gS {w:World} {X:Nat->Prop} (l:List Tm):∀b o,C3 w X b o l->C3 w (λb=>X b/\H8 w b) b o l:=by
 induction l using Tm.indL with
 |h0=>intro b o _; simp[C3]
 |h s l r aa ae=>
  intro b o hl
  simp only[C3] at hl ⊢
  obtain⟨hx,h1,⟨a,c,h2,af,h3⟩,h4⟩:=hl
  refine⟨⟨hx,Tu h1⟩,h1,⟨a,c,h2,af,?_⟩,ae _ _ h4⟩
  rcases h3 with h3|⟨b',o',h3,h5⟩
  ·exact Ad h3
  ·exact Ae ⟨b',o',h3,aa _ _ h5⟩
theorem Sl.solid {w:World} {X:Nat->Prop} {a:Option Addr} {l:List Tm} (h:Sl w X a l):Sl w (λb=>X b/\H8 w b) a l:=by
 obtain⟨hl,h⟩:=h
 refine⟨hl,?_⟩
 rcases h with h|⟨b,o,e,h⟩
 ·exact Ad h
 ·exact Ae ⟨b,o,e,gS _ _ _ h⟩
theorem PV.solid {w:World} {X:Nat->Prop} {v:Value} {zs:List Int} (h:PV w X v zs):PV w (λb=>X b/\H8 w b) v zs:=by
 obtain⟨a,c,e,hl,h⟩:=h
 refine⟨a,c,e,hl,?_⟩
 rcases h with h|⟨b,o,e,hx,h⟩
 ·exact Ad h
 ·by_cases hz:zs=[]
  ·exact Ad hz
  ·exact Ae ⟨b,o,e,⟨hx,Tu (h 0 (Fb.2 hz))⟩,h⟩
theorem gU {x:Ft} {args:Array Value} {W:World} {Z:Nat->Prop} (h:FW x args W Z):FW x args W (λb=>Z b/\H8 W b):=by
 obtain⟨ra,rc,q,Lm,rfl,ae,hq,aa⟩:=h
 refine⟨ra,rc,q,Lm,rfl,ae.solid,⟨hq,?_⟩,aa.1,aa.2.imp λa l hs=>hs.solid⟩
 obtain⟨es,af,h1,_⟩:=aa.1
 exact⟨(λr e=>by rw[h1] at e; cases e),(λd e=>by rw[h1] at e; cases e)⟩
theorem gV {x:Ft} {args:Array Value} {W W':World} {Z:Nat->Prop} (h:FW x args W Z) (k9:∀b,Z b->W'.heap[b]? = W.heap[b]?):FW x args W' Z:=by
 obtain⟨ra,rc,q,Lm,rfl,ae,hq,aa⟩:=h
 exact⟨ra,rc,q,Lm,rfl,ae.kept k9,hq,aa.1.kept (k9 q hq),aa.2.imp λa l hs=>hs.kept k9⟩
def gW {α:Type} (Lp:α->Array Value->World->(Nat->Prop)->Prop) (A B TA:Nat) (G:Nat->Prop) (all:List α) (W:World):Prop:=
 ∃(y:α) (cs:Array Value) (Z:Nat->Prop),[y] <+: all/\Ac W A cs TA/\Ac W B #[.bool true] 4/\Lp y #[.agg cs] W Z/\∀b,Z b->b<W.heap.size/\¬G b
def JF {α:Type} (A B L TA:Nat) (zs:Array Value) (G:Nat->Prop) (r rd:Loop) (W0:World):Tk α:=λpre s f W=>
 (∀b,f b↔b=L∨b=A∨b=B∨G b)/\(∀b,G b->b<W0.heap.size)/\W0.heap.size<=W.heap.size/\(∀b,G b->W.heap[b]? = W0.heap[b]?)/\W.heap[L]? = some (.loop (if s=true then r else rd))/\A<W.heap.size/\B<W.heap.size/\(s=true->pre=[]/\Ac W A zs TA/\Ac W B #[.bool false] 4)
theorem JF.ok {α:Type} {A B L TA:Nat} {zs:Array Value} {G:Nat->Prop} {r rd:Loop} {W0:World}:Fx (JF (α:=α) A B L TA zs G r rd W0) (λ_=>False) where
 inside:=by
  rintro pre s f W ⟨hf,hG,hz,hC,hL,hA,hB,hs⟩ b hb
  rcases hb with hb|hb
  ·rcases(hf b).1 hb with h|h|h|h
   ·subst h; exact(DM.1 hL).1
   ·subst h; exact hA
   ·subst h; exact hB
   ·have:=hG b h; omega
  ·exact hb.elim
 apart:=by
  rintro pre s f W hj b hb
  exact hb.elim
 abide:=by
  rintro pre s f W W' ⟨hf,hG,hz,hC,hL,hA,hB,hs⟩ hz2 hk
  refine⟨hf,hG,by omega,λb hb=>(hk b (Ad ((hf b).2 (Ae (Ae (Ae hb)))))).trans (hC b hb),(hk L (Ad ((hf L).2 (Ad rfl)))).trans hL,by omega,by omega,λh=>⟨(hs h).1,(hk A (Ad ((hf A).2 (Ae (Ad rfl))))).trans (hs h).2.1,(hk B (Ad ((hf B).2 (Ae (Ae (Ad rfl)))))).trans (hs h).2.2⟩⟩
def gX {α:Type} (Lp:α->Array Value->World->(Nat->Prop)->Prop) (zs:Array Value) (G:Nat->Prop) (all:List α) (w:World) (e:Ending) (w':World):Prop:=
 Below w.heap.size w w'/\((all=[]/\e=.returned (.tuple #[.agg zs,.bool false]))∨∃(y:α) (cs:Array Value) (Z:Nat->Prop),[y] <+: all/\e=.returned (.tuple #[.agg cs,.bool true])/\Lp y #[.agg cs] w' Z/\∀b,Z b->b<w'.heap.size/\¬G b)
theorem gY (rs:List Pr) (x0:Tm) (R T:Nat) (uv:Value) (aa:Option Addr) (ca:Nat) (w:World) (X G:Nat->Prop) (hR:Ac w R #[uv] 22) (hu:QV w X uv rs) (hT:Ac w T #[.string x0.name,.slice aa x0.args.length ca] 29) (hs:Sl w X aa x0.args) (hX:∀b,X b->b<w.heap.size/\¬G b) (hG:∀b,G b->b<w.heap.size/\b≠R/\b≠T):
  Calls Tryz.prog 105 #[.func (.func 124) #[] #[.pointer (some ⟨R,0,none⟩),.pointer (some ⟨T,0,none⟩)]] w λe w'=>gX FW #[.string ⟨#[]⟩,.slice none 0 0,.map none] G (Cm rs x0) w e w':=by
 have HX:=Aa hX
 have HG:=Aa hG
 have HU:=Aa hu
 have HS:=Aa hs
 have HR:=Aa hR
 have HT:=Aa hT
 clear hX hG hu hs hR hT
 refine(DN (n:=3)).1 ?_
 refine callsIn_of_wp_marks Tryz.func105 rfl trivial ?_ rfl
 simp only[Tryz.ntmps105,List.size_toArray,Bs,EN,Nat.reduceAdd,Nat.reduceSub,Lw,Lx,List.push_toArray,Ly,DY,Cf]
 gi_wp2
 refine Pl (gf:=124) (lb:=#[.pointer (some ⟨R,0,none⟩),.pointer (some ⟨T,0,none⟩)]) rfl (enters_of Tryz.func124 (by kernel_rfl) rfl) ?_
 intro r hr1 hr2 hr3 hr4 ay az
 have hz2:((w.alloc (.cells #[.string ⟨#[]⟩,.slice none 0 0,.map none] 148)).alloc (.cells #[.bool false] 4)).heap.size=w.heap.size+2:=by simp
 rw[hz2]
 have aL:w.heap.size+2+1=w.heap.size+3:=rfl
 rw[aL]
 clear aL
 have aM:((((w.alloc (.cells #[.string ⟨#[]⟩,.slice none 0 0,.map none] 148)).alloc (.cells #[.bool false] 4)).alloc (.deferred (some []))).alloc (.loop r))=GZ w [(.cells #[.string ⟨#[]⟩,.slice none 0 0,.map none] 148:Obj),(.cells #[.bool false] 4:Obj),(.deferred (some []):Obj),(.loop r:Obj)]:=rfl
 have ah:=Aa (Gv [(.cells #[.string ⟨#[]⟩,.slice none 0 0,.map none] 148:Obj),(.cells #[.bool false] 4:Obj),(.deferred (some []):Obj),(.loop r:Obj)] w)
 rw[<-aM]at ah
 clear aM
 generalize ((((w.alloc (.cells #[.string ⟨#[]⟩,.slice none 0 0,.map none] 148)).alloc (.cells #[.bool false] 4)).alloc (.deferred (some []))).alloc (.loop r))=W5 at *
 have b9:W5.heap.size=w.heap.size+4:=ah.out.2.1
 have ag:Hid (Below w.heap.size w W5):=ah.out.1
 have H0:Hid (Ac W5 w.heap.size #[.string ⟨#[]⟩,.slice none 0 0,.map none] 148):=ah.out.2.2 0 _ rfl
 have H1:Hid (Ac W5 (w.heap.size+1) #[.bool false] 4):=ah.out.2.2 1 _ rfl
 have H2:Hid (W5.heap[w.heap.size+2]? = some (.deferred (some []))):=ah.out.2.2 2 _ rfl
 have H3:Hid (W5.heap[w.heap.size+3]? = some (.loop r)):=ah.out.2.2 3 _ rfl
 clear ah
 obtain⟨rd,a6⟩:∃rd:Loop,rd={ r with state:=.done,pending:=some .ret}:=⟨_,rfl⟩
 obtain⟨rb,aN⟩:∃rb:Loop,rb={ r with state:=.busy}:=⟨_,rfl⟩
 have RH:Jk (w.heap.size+3) FW (JF (α:=Ft) w.heap.size (w.heap.size+1) (w.heap.size+3) 148 #[.string ⟨#[]⟩,.slice none 0 0,.map none] G r rd W5) (Cm rs x0) (gW FW w.heap.size (w.heap.size+1) 148 G (Cm rs x0)):=by
  have aZ:=Aa hr1
  have ba:=Aa hr2
  have bb:=Aa hr3
  have bc:=Aa hr4
  have bg:=Aa ay
  have bh:=Aa az
  clear hr1 hr2 hr3 hr4 ay az hz2
  intro n pre x args Z f W aj hj hl hZ
  obtain⟨hf,aO,bA,hC,hL,hA,hB,hs0⟩:=hj
  obtain⟨rfl,aP,aQ⟩:=hs0 rfl
  rw[DY]at aj
  simp only[if_true] at hL
  obtain⟨ra,rc,q,Lm,rfl,aR,hq,a7⟩:=hl
  have ao:Hid (∀W',(∀b,Z b->W'.heap[b]? = W.heap[b]?)->FW x #[.agg #[.string x.1.r.name,.slice ra x.1.r.args.length rc,.map (some q)]] W' Z):=λW' k9=>⟨ra,rc,q,Lm,rfl,aR.kept k9,hq,a7.1.kept (k9 q hq),a7.2.imp λa l hs=>hs.kept k9⟩
  have a8:=Aa aj
  have ai:=Aa hf
  have bj:=Aa aO
  have HC:=Aa hC
  have HZ:=Aa hZ
  have HA:=Aa aP
  have HB:=Aa aQ
  have bk:w.heap.size+3<W.heap.size:=(DM.1 hL).1
  clear aj hf aO hC hZ aP aQ aR a7 hq hs0
  refine Pk aN a6 bg.out bh.out bc.out bb.out hL aZ.out ba.out rfl ?_
  have hL2:(W.alloc (.cells #[.string x.1.r.name,.slice ra x.1.r.args.length rc,.map (some q)] 148)).heap[w.heap.size+3]? = some (.loop r):=(AP _ _ _ bk).trans hL
  have kV:∀b,b<W.heap.size->b≠w.heap.size+3->((W.alloc (.cells #[.string x.1.r.name,.slice ra x.1.r.args.length rc,.map (some q)] 148)).putObj (w.heap.size+3) (.loop rb)).heap[b]? = W.heap[b]? := λb hb hne=>(World.putObj_heap_other hne).trans (AP _ _ _ hb)
  have bB:((W.alloc (.cells #[.string x.1.r.name,.slice ra x.1.r.args.length rc,.map (some q)] 148)).putObj (w.heap.size+3) (.loop rb)).heap.size=W.heap.size+1:=by simp
  have aq:Ac ((W.alloc (.cells #[.string x.1.r.name,.slice ra x.1.r.args.length rc,.map (some q)] 148)).putObj (w.heap.size+3) (.loop rb)) W.heap.size #[.string x.1.r.name,.slice ra x.1.r.args.length rc,.map (some q)] 148:=(World.putObj_heap_other (by omega)).trans (Ac.new W _ _)
  have aS:((W.alloc (.cells #[.string x.1.r.name,.slice ra x.1.r.args.length rc,.map (some q)] 148)).putObj (w.heap.size+3) (.loop rb)).heap[w.heap.size+3]? = some (.loop rb):=World.putObj_heap_same (by simp; omega)
  have ak:Ac ((W.alloc (.cells #[.string x.1.r.name,.slice ra x.1.r.args.length rc,.map (some q)] 148)).putObj (w.heap.size+3) (.loop rb)) w.heap.size #[.string ⟨#[]⟩,.slice none 0 0,.map none] 148:=(kV _ hA (by omega)).trans HA.out
  have aw:Ac ((W.alloc (.cells #[.string x.1.r.name,.slice ra x.1.r.args.length rc,.map (some q)] 148)).putObj (w.heap.size+3) (.loop rb)) (w.heap.size+1) #[.bool false] 4:=(kV _ hB (by omega)).trans HB.out
  have c0:((W.alloc (.cells #[.string x.1.r.name,.slice ra x.1.r.args.length rc,.map (some q)] 148)).putObj (w.heap.size+3) (.loop rb)).cell? ⟨W.heap.size,0,none⟩=some (.string x.1.r.name):=aq.cell 0
  have c1:((W.alloc (.cells #[.string x.1.r.name,.slice ra x.1.r.args.length rc,.map (some q)] 148)).putObj (w.heap.size+3) (.loop rb)).cell? ⟨W.heap.size,1,none⟩=some (.slice ra x.1.r.args.length rc):=aq.cell 1
  have c2:((W.alloc (.cells #[.string x.1.r.name,.slice ra x.1.r.args.length rc,.map (some q)] 148)).putObj (w.heap.size+3) (.loop rb)).cell? ⟨W.heap.size,2,none⟩=some (.map (some q)):=aq.cell 2
  have a0:((W.alloc (.cells #[.string x.1.r.name,.slice ra x.1.r.args.length rc,.map (some q)] 148)).putObj (w.heap.size+3) (.loop rb)).cell? ⟨w.heap.size,0,none⟩=some (.string ⟨#[]⟩):=ak.cell 0
  have a1:((W.alloc (.cells #[.string x.1.r.name,.slice ra x.1.r.args.length rc,.map (some q)] 148)).putObj (w.heap.size+3) (.loop rb)).cell? ⟨w.heap.size,1,none⟩=some (.slice none 0 0):=ak.cell 1
  have a2:((W.alloc (.cells #[.string x.1.r.name,.slice ra x.1.r.args.length rc,.map (some q)] 148)).putObj (w.heap.size+3) (.loop rb)).cell? ⟨w.heap.size,2,none⟩=some (.map none):=ak.cell 2
  have af:=ak.frozen
  have bf:=aw.frozen
  have b0:((W.alloc (.cells #[.string x.1.r.name,.slice ra x.1.r.args.length rc,.map (some q)] 148)).putObj (w.heap.size+3) (.loop rb)).cell? ⟨w.heap.size+1,0,none⟩=some (.bool false):=aw.cell 0
  have aA:Hid (((W.alloc (.cells #[.string x.1.r.name,.slice ra x.1.r.args.length rc,.map (some q)] 148)).putObj (w.heap.size+3) (.loop rb)).os=W.os/\((W.alloc (.cells #[.string x.1.r.name,.slice ra x.1.r.args.length rc,.map (some q)] 148)).putObj (w.heap.size+3) (.loop rb)).tape=W.tape/\((W.alloc (.cells #[.string x.1.r.name,.slice ra x.1.r.args.length rc,.map (some q)] 148)).putObj (w.heap.size+3) (.loop rb)).output=W.output):=⟨rfl,rfl,rfl⟩
  have bl:=Aa aS
  have bm:=Aa kV
  have bn:=Aa ak
  have bo:=Aa aw
  have bC:=Aa aq
  clear aN a6 aq aS kV ak aw
  gi_wp2
  refine⟨(DM.1 hL2).2,?_⟩
  clear hL2
  generalize ((W.alloc (.cells #[.string x.1.r.name,.slice ra x.1.r.args.length rc,.map (some q)] 148)).putObj (w.heap.size+3) (.loop rb))=V at *
  have bp:w.heap.size<V.heap.size:=by omega
  have bq:w.heap.size+1<V.heap.size:=by omega
  gi_wp2
  clear c0 c1 c2 a0 a1 a2 af bf b0
  have aT:Hid (∀b,Z b->b<W.heap.size/\b≠w.heap.size+3/\b≠w.heap.size/\b≠w.heap.size+1/\¬G b):=λb hb=>by
   have h:=HZ.out b hb
   exact⟨h.1,λe=>h.2 ((ai.out b).2 (Ad e)),λe=>h.2 ((ai.out b).2 (Ae (Ad e))),λe=>h.2 ((ai.out b).2 (Ae (Ae (Ad e)))),λe=>h.2 ((ai.out b).2 (Ae (Ae (Ae e))))⟩
  have k3:∀b,b≠w.heap.size->b≠w.heap.size+1->((((V.setCell ⟨w.heap.size,0,none⟩ (.string x.1.r.name)).setCell ⟨w.heap.size,1,none⟩ (.slice ra x.1.r.args.length rc)).setCell ⟨w.heap.size,2,none⟩ (.map (some q))).setCell ⟨w.heap.size+1,0,none⟩ (.bool true)).heap[b]? = V.heap[b]? := λb h0 h1=>by
   rw[Aq _ _ _ _ (by simpa using h1)]
   rw[Aq _ _ _ _ (by simpa using h0)]; rw[Aq _ _ _ _ (by simpa using h0)]; rw[Aq _ _ _ _ (by simpa using h0)]
  have br:Ac ((((V.setCell ⟨w.heap.size,0,none⟩ (.string x.1.r.name)).setCell ⟨w.heap.size,1,none⟩ (.slice ra x.1.r.args.length rc)).setCell ⟨w.heap.size,2,none⟩ (.map (some q))).setCell ⟨w.heap.size+1,0,none⟩ (.bool true)) w.heap.size #[.string x.1.r.name,.slice ra x.1.r.args.length rc,.map (some q)] 148:=by
   refine Ac.setOther ?_ _ _ (by omega)
   exact((bn.out.set 0 (.string x.1.r.name)).set 1 (.slice ra x.1.r.args.length rc)).set 2 (.map (some q))
  have bs:Ac ((((V.setCell ⟨w.heap.size,0,none⟩ (.string x.1.r.name)).setCell ⟨w.heap.size,1,none⟩ (.slice ra x.1.r.args.length rc)).setCell ⟨w.heap.size,2,none⟩ (.map (some q))).setCell ⟨w.heap.size+1,0,none⟩ (.bool true)) (w.heap.size+1) #[.bool true] 4:=Ac.set1R (Ac.setOther (Ac.setOther (Ac.setOther bo.out 0 _ (by omega)) 1 _ (by omega)) 2 _ (by omega))
  have hz3:((((V.setCell ⟨w.heap.size,0,none⟩ (.string x.1.r.name)).setCell ⟨w.heap.size,1,none⟩ (.slice ra x.1.r.args.length rc)).setCell ⟨w.heap.size,2,none⟩ (.map (some q))).setCell ⟨w.heap.size+1,0,none⟩ (.bool true)).heap.size=W.heap.size+1:=by simp[World.setCell]; omega
  have aB:((((V.setCell ⟨w.heap.size,0,none⟩ (.string x.1.r.name)).setCell ⟨w.heap.size,1,none⟩ (.slice ra x.1.r.args.length rc)).setCell ⟨w.heap.size,2,none⟩ (.map (some q))).setCell ⟨w.heap.size+1,0,none⟩ (.bool true)).os=W.os/\((((V.setCell ⟨w.heap.size,0,none⟩ (.string x.1.r.name)).setCell ⟨w.heap.size,1,none⟩ (.slice ra x.1.r.args.length rc)).setCell ⟨w.heap.size,2,none⟩ (.map (some q))).setCell ⟨w.heap.size+1,0,none⟩ (.bool true)).tape=W.tape/\((((V.setCell ⟨w.heap.size,0,none⟩ (.string x.1.r.name)).setCell ⟨w.heap.size,1,none⟩ (.slice ra x.1.r.args.length rc)).setCell ⟨w.heap.size,2,none⟩ (.map (some q))).setCell ⟨w.heap.size+1,0,none⟩ (.bool true)).output=W.output:=by
   simp only[gP,gQ,gR]
   exact aA.out
  generalize ((((V.setCell ⟨w.heap.size,0,none⟩ (.string x.1.r.name)).setCell ⟨w.heap.size,1,none⟩ (.slice ra x.1.r.args.length rc)).setCell ⟨w.heap.size,2,none⟩ (.map (some q))).setCell ⟨w.heap.size+1,0,none⟩ (.bool true))=W3 at *
  have kF:∀b,b<W.heap.size->b≠w.heap.size+3->b≠w.heap.size->b≠w.heap.size+1->(W3.putObj (w.heap.size+3) (.loop rd)).heap[b]? = W.heap[b]? := λb h0 h1 h2 h3=>(World.putObj_heap_other h1).trans ((k3 b h2 h3).trans (bm.out b h0 h1))
  have ax:∀b,G b->b<W.heap.size/\b≠w.heap.size+3/\b≠w.heap.size/\b≠w.heap.size+1:=λb hb=>by have:=(HG.out b hb).1; omega
  refine⟨(k3 _ (by omega) (by omega)).trans bl.out,f,⟨ai.out,bj.out,by simp; omega,λb hb=>(kF b (ax b hb).1 (ax b hb).2.1 (ax b hb).2.2.1 (ax b hb).2.2.2).trans (HC.out b hb),World.putObj_heap_same (by omega),by simp; omega,by simp; omega,λh=>by cases h⟩,⟨aB.1,aB.2.1,aB.2.2,by simp; omega,λb hb hn=>kF b hb (λe=>hn ((ai.out b).2 (Ad e))) (λe=>hn ((ai.out b).2 (Ae (Ad e)))) (λe=>hn ((ai.out b).2 (Ae (Ae (Ad e)))))⟩,(λb hb=>Ad hb),λ_=>?_⟩
  refine⟨x,#[.string x.1.r.name,.slice ra x.1.r.args.length rc,.map (some q)],Z,a8.out,(World.putObj_heap_other (by omega)).trans br,(World.putObj_heap_other (by omega)).trans bs,ao.out _ λb hb=>?_,λb hb=>?_⟩
  ·have h:=aT.out b hb
   exact kF b h.1 h.2.1 h.2.2.1 h.2.2.2.1
  ·have h:=aT.out b hb
   exact⟨by simp; omega,h.2.2.2.2⟩
 have hst:(JF (α:=Ft) w.heap.size (w.heap.size+1) (w.heap.size+3) 148 #[.string ⟨#[]⟩,.slice none 0 0,.map none] G r rd W5) [] true (λb=>b=w.heap.size+3∨b=w.heap.size∨b=w.heap.size+1∨G b) W5:=⟨λb=>Iff.rfl,λb hb=>by have:=(HG.out b hb).1; omega,Aj _,λb _=>rfl,H3.out,by omega,by omega,λ_=>⟨rfl,H0.out,H1.out⟩⟩
 have aU:∀b,X b->b<W5.heap.size/\¬(b=w.heap.size+3∨b=w.heap.size∨b=w.heap.size+1∨G b):=λb hb=>by
  have h:=HX.out b hb
  refine⟨by omega,λh2=>?_⟩
  rcases h2 with h2|h2|h2|h2
  ·omega
  ·omega
  ·omega
  ·exact h.2 h2
 refine(Wr JF.ok (w.heap.size+3) RH rs x0 R T uv aa ca [] _ W5 X (HR.out.below ag.out HR.out.lt) (HU.out.later ag.out) (HT.out.below ag.out HT.out.lt) (HS.out.later ag.out) aU (λh=>by
  have hlt:=HR.out.lt
  rcases h with h|h|h|h
  ·omega
  ·omega
  ·omega
  ·exact(HG.out _ h).2.1 rfl) (λh=>by
  have hlt:=HT.out.lt
  rcases h with h|h|h|h
  ·omega
  ·omega
  ·omega
  ·exact(HG.out _ h).2.2 rfl) hst (by simp)).mono ?_
 rintro e Wf ⟨ar,s,⟨m,f',hm,aC,hj,he,bt⟩,hS⟩
 rw[DY]at hj
 obtain⟨bu,bw,bD,aV,bx,bE,bF,aD⟩:=hj
 have aF : Hid (Wf.heap[w.heap.size + 2]? = some (.deferred (some []))) := (he.block _ (by omega) (λh => by
  rcases h with (h|h|h|h)|h
  ·omega
  ·omega
  ·omega
  ·have:=(HG.out _ h).1; omega
  ·exact h)).trans H2.out
 have aW:Hid (∀b,b<w.heap.size->Wf.heap[b]? = w.heap[b]?):=λb hb=>by
  by_cases hg:G b
  ·exact(aV b hg).trans (ag.out.block b hb)
  ·exact (he.block b (by omega) (λh => by
    rcases h with (h|h|h|h)|h
    ·omega
    ·omega
    ·omega
    ·exact hg h
    ·exact h)).trans (ag.out.block b hb)
 have ae:Hid (Wf.os=w.os/\Wf.tape=w.tape/\Wf.output=w.output):=⟨he.os.trans ag.out.os,he.tape.trans ag.out.tape,he.output.trans ag.out.output⟩
 have aG:=Aa bx
 have aH:=Aa ar
 clear he bt hst aU RH ar hr1 hr2 hr3 hr4 ay az hz2 bu bw aV
 refine⟨aH.out,?_⟩
 cases s with
 |true=>
  left
  refine⟨aG.out,?_⟩
  obtain⟨aI,hA,hB⟩:=aD rfl
  have em:=aC rfl
  subst em
  rw[EO]at aI
  have bz:=Aa aI
  clear aI aC hm hS aD
  have kg:∀b,b≠w.heap.size+3->(Wf.putObj (w.heap.size+3) (.loop { r with state:=.exhausted})).heap[b]? = Wf.heap[b]? := λb h=>World.putObj_heap_other h
  have zg:(Wf.putObj (w.heap.size+3) (.loop { r with state:=.exhausted})).heap.size=Wf.heap.size:=by simp
  have og:(Wf.putObj (w.heap.size+3) (.loop { r with state:=.exhausted})).os=Wf.os/\(Wf.putObj (w.heap.size+3) (.loop { r with state:=.exhausted})).tape=Wf.tape/\(Wf.putObj (w.heap.size+3) (.loop { r with state:=.exhausted})).output=Wf.output:=⟨rfl,rfl,rfl⟩
  generalize (Wf.putObj (w.heap.size+3) (.loop { r with state:=.exhausted}))=Wg at *
  have q0:Ac Wg w.heap.size #[.string ⟨#[]⟩,.slice none 0 0,.map none] 148:=(kg _ (by omega)).trans hA
  have q1:Ac Wg (w.heap.size+1) #[.bool false] 4:=(kg _ (by omega)).trans hB
  have qd:Wg.heap[w.heap.size+2]? = some (.deferred (some [])):=(kg _ (by omega)).trans aF.out
  have qb:Below w.heap.size w Wg:=⟨og.1.trans ae.out.1,og.2.1.trans ae.out.2.1,og.2.2.trans ae.out.2.2,by omega,λb hb=>(kg b (by omega)).trans (aW.out b hb)⟩
  clear kg og hA hB
  have a0:=q0.c0
  have a1:=q0.c1
  have a2:=q0.c2
  have af:=q0.frozen
  have b0:=q1.c0
  have bf:=q1.frozen
  have Q0:Ac ((((Wg.setCell ⟨w.heap.size,0,none⟩ (.string ⟨#[]⟩)).setCell ⟨w.heap.size,1,none⟩ (.slice none 0 0)).setCell ⟨w.heap.size,2,none⟩ (.map none)).setCell ⟨w.heap.size+1,0,none⟩ (.bool false)) w.heap.size #[.string ⟨#[]⟩,.slice none 0 0,.map none] 148:=by
   refine Ac.setOther ?_ _ _ (by omega)
   exact((q0.set 0 (.string ⟨#[]⟩)).set 1 (.slice none 0 0)).set 2 (.map none)
  have Q1:Ac ((((Wg.setCell ⟨w.heap.size,0,none⟩ (.string ⟨#[]⟩)).setCell ⟨w.heap.size,1,none⟩ (.slice none 0 0)).setCell ⟨w.heap.size,2,none⟩ (.map none)).setCell ⟨w.heap.size+1,0,none⟩ (.bool false)) (w.heap.size+1) #[.bool false] 4:=Ac.set1R (Ac.setOther (Ac.setOther (Ac.setOther q1 0 _ (by omega)) 1 _ (by omega)) 2 _ (by omega))
  have QD:((((Wg.setCell ⟨w.heap.size,0,none⟩ (.string ⟨#[]⟩)).setCell ⟨w.heap.size,1,none⟩ (.slice none 0 0)).setCell ⟨w.heap.size,2,none⟩ (.map none)).setCell ⟨w.heap.size+1,0,none⟩ (.bool false)).heap[w.heap.size+2]? = some (.deferred (some [])):=by
   rw[Aq _ _ _ _ (by simp)]
   rw[Aq _ _ _ _ (by simp)]; rw[Aq _ _ _ _ (by simp)]; rw[Aq _ _ _ _ (by simp)]
   exact qd
  have QB:Below w.heap.size w ((((Wg.setCell ⟨w.heap.size,0,none⟩ (.string ⟨#[]⟩)).setCell ⟨w.heap.size,1,none⟩ (.slice none 0 0)).setCell ⟨w.heap.size,2,none⟩ (.map none)).setCell ⟨w.heap.size+1,0,none⟩ (.bool false)):=((((qb.setCell (by simp) _).setCell (by simp) _).setCell (by simp) _).setCell (by simp) _)
  have b3:=Aa Q0
  have b4:=Aa Q1
  have aJ:=Aa QD
  have au:=Aa QB
  have bp:w.heap.size<Wg.heap.size:=by omega
  have bq:w.heap.size+1<Wg.heap.size:=by omega
  clear Q0 Q1 QD QB q0 q1 qd qb
  gi_wp2
  clear a0 a1 a2 af bf b0
  generalize ((((Wg.setCell ⟨w.heap.size,0,none⟩ (.string ⟨#[]⟩)).setCell ⟨w.heap.size,1,none⟩ (.slice none 0 0)).setCell ⟨w.heap.size,2,none⟩ (.map none)).setCell ⟨w.heap.size+1,0,none⟩ (.bool false))=Wh at *
  have E0:Ac (Wh.putObj (w.heap.size+2) (.deferred none)) w.heap.size #[.string ⟨#[]⟩,.slice none 0 0,.map none] 148:=(World.putObj_heap_other (by omega)).trans b3.out
  have E1:Ac (Wh.putObj (w.heap.size+2) (.deferred none)) (w.heap.size+1) #[.bool false] 4:=(World.putObj_heap_other (by omega)).trans b4.out
  have EB:Below w.heap.size w (Wh.putObj (w.heap.size+2) (.deferred none)):=⟨au.out.os,au.out.tape,au.out.output,by simp; exact au.out.size,λb hb=>(World.putObj_heap_other (by omega)).trans (au.out.block b hb)⟩
  refine⟨by simp,.inl ⟨_,_,rfl,run_takeDeferred aJ.out,?_⟩⟩
  refine⟨.tuple #[.agg #[.string ⟨#[]⟩,.slice none 0 0,.map none],.bool false],?_,EB,Ad ⟨bz.out,rfl⟩⟩
  have e0:=E0.cell 0
  have e1:=E0.cell 1
  have e2:=E0.cell 2
  have h2:=E1.cell 0
  simp[results,Tryz.results105,go_sem,e0,e1,e2,h2]
 |false=>
  right
  refine⟨by rw[<-a6]; exact aG.out,?_⟩
  obtain⟨y,cs,Z,aX,hA,hB,hl,hZ⟩:=hS rfl
  have a8:=Aa aX
  have ao:=Aa hl
  have HZ:=Aa hZ
  have HA:=Aa hA
  have HB:=Aa hB
  clear aX hl hZ aC hm hS aD hA hB
  have av:Hid (∃ra rc q,cs=#[.string y.1.r.name,.slice ra y.1.r.args.length rc,.map (some q)]/\FW y #[.agg cs] Wf Z):=by
   have h0:=ao.out
   obtain⟨ra,rc,q,Lm,e1,_⟩:=ao.out
   simp at e1
   exact⟨ra,rc,q,e1,h0⟩
  obtain⟨ra,rc,q,rfl,hl2⟩:=av.out
  clear hl2 av
  have kg:∀b,b≠w.heap.size+3->(Wf.putObj (w.heap.size+3) (.loop { r with state:=.exhausted,pending:=some .ret})).heap[b]? = Wf.heap[b]? := λb h=>World.putObj_heap_other h
  have zg:(Wf.putObj (w.heap.size+3) (.loop { r with state:=.exhausted,pending:=some .ret})).heap.size=Wf.heap.size:=by simp
  have og:(Wf.putObj (w.heap.size+3) (.loop { r with state:=.exhausted,pending:=some .ret})).os=Wf.os/\(Wf.putObj (w.heap.size+3) (.loop { r with state:=.exhausted,pending:=some .ret})).tape=Wf.tape/\(Wf.putObj (w.heap.size+3) (.loop { r with state:=.exhausted,pending:=some .ret})).output=Wf.output:=⟨rfl,rfl,rfl⟩
  generalize (Wf.putObj (w.heap.size+3) (.loop { r with state:=.exhausted,pending:=some .ret}))=Wg at *
  have qd:Wg.heap[w.heap.size+2]? = some (.deferred (some [])):=(kg _ (by omega)).trans aF.out
  have aY:=gU ao.out
  have kb:∀b,Z b/\H8 Wf b->(Wg.putObj (w.heap.size+2) (.deferred none)).heap[b]? = Wf.heap[b]? := λb hb=>(World.putObj_heap_other (λe=>hb.2.2 _ ((Bu (λi=>Wf.heap[i]?) e).trans aF.out))).trans (kg b (λe=>hb.2.1 _ ((Bu (λi=>Wf.heap[i]?) e).trans aG.out)))
  have b5:=Aa (gV aY kb)
  have b6:Hid (∀b,Z b/\H8 Wf b->b<(Wg.putObj (w.heap.size+2) (.deferred none)).heap.size/\¬G b):=λb hb=>⟨by have:=(HZ.out b hb.1).1; simp; omega,(HZ.out b hb.1).2⟩
  have E0:Ac (Wg.putObj (w.heap.size+2) (.deferred none)) w.heap.size #[.string y.1.r.name,.slice ra y.1.r.args.length rc,.map (some q)] 148:=(World.putObj_heap_other (by omega)).trans ((kg _ (by omega)).trans HA.out)
  have E1:Ac (Wg.putObj (w.heap.size+2) (.deferred none)) (w.heap.size+1) #[.bool true] 4:=(World.putObj_heap_other (by omega)).trans ((kg _ (by omega)).trans HB.out)
  have EB:Below w.heap.size w (Wg.putObj (w.heap.size+2) (.deferred none)):=⟨og.1.trans ae.out.1,og.2.1.trans ae.out.2.1,og.2.2.trans ae.out.2.2,by simp; omega,λb hb=>(World.putObj_heap_other (by omega)).trans ((kg b (by omega)).trans (aW.out b hb))⟩
  have aK:=Aa E0
  have b7:=Aa E1
  have b8:=Aa EB
  have aJ:=Aa qd
  clear E0 E1 EB qd kb aY kg og
  gi_wp2
  refine⟨by simp,.inl ⟨_,_,rfl,run_takeDeferred aJ.out,?_⟩⟩
  refine⟨.tuple #[.agg #[.string y.1.r.name,.slice ra y.1.r.args.length rc,.map (some q)],.bool true],?_,b8.out,Ae ⟨y,_,_,a8.out,rfl,b5.out,b6.out⟩⟩
  have e0:=aK.out.cell 0
  have e1:=aK.out.cell 1
  have e2:=aK.out.cell 2
  have h2:=b7.out.cell 0
  simp[results,Tryz.results105,go_sem,e0,e1,e2,h2]
def Ln (k s:Nat):Prop:=k<=4001/\(s<=2000->k=s)/\(2000<s->2000<k)
def gZ (n:Nat) (x:Tm) (w:World) (e:Ending) (w':World):Prop:=∃k:Nat,e=.returned (.int .i64 (k:Int))/\Ln k (n+Ab [x])/\Below w.heap.size w w'
def iA (n:Nat) (ls:List Bd) (l:List Tm) (w:World) (m i:Value) (wr:World):Prop:=∃k j:Nat,k<=l.length/\i=.int .i64 (k:Int)/\m=.int .i64 (j:Int)/\Ln j (n+1+Ab (gL ls (l.take k)))/\(2000<j->k=l.length∨True)/\Below w.heap.size w wr
theorem Tv (ls:List Bd) (L:List (ByteArray×Value)) (rn:ByteArray) (ra:Option Addr) (rl rc q:Nat) (t:Tm):∀(a:Option Addr) (c n:Nat) (w:World) (X:Nat->Prop),Sl w X a t.args->Fg w q X ls L->n<=2000->
  Calls Tryz.prog 107 #[.agg #[.string rn,.slice ra rl rc,.map (some q)],.agg #[.string t.name,.slice a t.args.length c],.int .i64 (n:Int)] w λe w'=>gZ n (gT ls t) w e w':=by
 induction t using Tm.ind with
 |h s l ih=>
  intro a c n w X hs hE hn
  have IH:=Aa ih
  clear ih
  have hz:∀w',(zeroValue 29).run Tryz.prog w'=.ok (.agg #[.string ⟨#[]⟩,.slice none 0 0]) w':=λw'=>Tryz.zeroValue29 w'
  have hM:=hE.1
  have hP:=hE.2
  have ag:=λo o':Obj=>(hM.kept (AP w o _ hM.lt)).kept (AP (w.alloc o) o' _ (by have:=hM.lt; simp; omega))
  cases hf:Ar ls s with
  |some x=>
   obtain⟨a1,c1,hg,hs1⟩:=(hP.get s).2 x hf
   have ae:∀o o',(Instr.lookup 96 (.map (some q)) (.string s) true).run Tryz.prog ((w.alloc o).alloc o')=.ok (.tuple #[.agg #[.string x.name,.slice a1 x.args.length c1],.bool true]) ((w.alloc o).alloc o'):=λo o'=>by
    rw[ET (P:=Tryz.prog) Tryz.underlying96 Tryz.underlying9 (hz _) (ag o o') s,hg]; rfl
   have HF:Hid (gT ls ⟨s,l⟩=x):=Qd hf
   have aq:=Aa hs1
   clear hf hg hs1 ag hP hM hE hs
   rw[HF.out]
   go_enter Tryz.func107,Tryz.ntmps107
   go_wp2_with fail
   refine(Ii 2000 (by omega) (by omega) x _ _ X ⟨a1,c1,rfl,aq.out.later (Fd _ _ _)⟩).mono ?_
   rintro e w1 ⟨rfl,hb1⟩
   have ah:=Aa hb1
   clear hb1
   obtain⟨z,hz1⟩:∃z:Nat,min (Ab [x]:Int) (2000+1)=(z:Int)/\z=min (Ab [x]) 2001:=⟨min (Ab [x]) 2001,by omega,rfl⟩
   rw[hz1.1]
   have HZ:=Aa hz1.2
   have hz2:z<=2001:=by rw[hz1.2]; omega
   clear hz1
   go_wp2_with fail
   go_ret
   exact⟨n+z,BG (by omega),⟨by omega,λh=>by have:=HZ.out; omega,λh=>by have:=HZ.out; omega⟩,(Fd _ _ _).trans (ah.out.mono (by simp; omega))⟩
  |none=>
   have hg:=(hP.get s).1 hf
   have ae:∀o o',(Instr.lookup 96 (.map (some q)) (.string s) true).run Tryz.prog ((w.alloc o).alloc o')=.ok (.tuple #[.agg #[.string ⟨#[]⟩,.slice none 0 0],.bool false]) ((w.alloc o).alloc o'):=λo o'=>by
    rw[ET (P:=Tryz.prog) Tryz.underlying96 Tryz.underlying9 (hz _) (ag o o') s,hg]; rfl
   have HF:Hid (gT ls ⟨s,l⟩=⟨s,gL ls l⟩):=Qe hf
   have ao:Hid (Ab [(⟨s,gL ls l⟩:Tm)]=1+Ab (gL ls l)):=by simp[Hid,Ab]
   have HS:=Aa hs
   have HE:=Aa hE
   have hl:=hs.1
   clear hf hg ag hP hM hE hs
   rw[HF.out]
   go_enter Tryz.func107,Tryz.ntmps107
   go_wp2_with fail
   have ar:=Aa (Fd (w:=w) (.cells #[.string rn,.slice ra rl rc,.map (some q)] 148) (.cells #[.string s,.slice a l.length c] 29) (.cells #[.string ⟨#[]⟩,.slice none 0 0] 29))
   have au:Hid (Ac (((w.alloc (.cells #[.string rn,.slice ra rl rc,.map (some q)] 148)).alloc (.cells #[.string s,.slice a l.length c] 29)).alloc (.cells #[.string ⟨#[]⟩,.slice none 0 0] 29)) w.heap.size #[.string rn,.slice ra rl rc,.map (some q)] 148):=((Ac.new w _ _).alloc _).alloc _
   generalize (((w.alloc (.cells #[.string rn,.slice ra rl rc,.map (some q)] 148)).alloc (.cells #[.string s,.slice a l.length c] 29)).alloc (.cells #[.string ⟨#[]⟩,.slice none 0 0] 29))=w0 at *
   go_loopw [9,30] (λm i wr=>iA n ls l w m i wr/\Ac wr w.heap.size #[.string rn,.slice ra rl rc,.map (some q)] 148) (λm i wr=>l.length-(intOf i).toNat)
   case atStart=>exact⟨⟨0,n+1,AE _,rfl,by go_num,⟨by omega,λh=>by simp[gL,Ab],λh=>by simp[gL,Ab] at h; omega⟩,λ_=>Ae trivial,ar.out⟩,au.out⟩
   case round=>
    obtain⟨⟨k,j,hk,rfl,rfl,aj,_,hb⟩,aa⟩:=hrel
    have HB:=Aa hb
    have ai:=Aa aj
    have av:=Aa aa
    have hj:j<=4001:=aj.1
    clear aj
    by_cases hlt:k<l.length
    ·obtain⟨b,o,a',c',rfl,d0,d1,hx⟩:=HS.out.get hb (λ_ _ h=>h) k hlt
     have HX:=Aa hx
     have aw:=Aa (Xj ls l k hlt)
     have ax:=Aa (Xk ls l k)
     have ay:=Aa (AV hlt)
     have az:(k:Int)<(l.length:Int):=by omega
     have f0:=aa.c0
     have f1:=aa.c1
     have f2:=aa.c2
     have a8:=aa.lt
     clear hx hb aa
     by_cases hle:j<=2000
     ·have ak:¬((2000:Int)<(j:Int)):=by omega
      go_wp2_with fail
      refine(IH.out _ ay.out _ _ j _ X (by obtain⟨a2,c2,e2,h2⟩:=HX.out.alloc _; cases e2; exact h2) ((HE.out.later HB.out).later ((Af _ _).alloc (Aj _) _)) hle).mono ?_
      rintro e w1 ⟨k2,rfl,af,hb1⟩
      have ah:=Aa hb1
      have a6:=Aa af
      clear hb1 af d0 d1 f0 f1 f2
      go_wp2_with fail
      go_roundw
      case rel=>
       refine⟨⟨k+1,k2,by omega,by go_num,rfl,?_,λ_=>Ae trivial,(HB.out.alloc HB.out.size _).trans (ah.out.mono (by simp; have:=HB.out.size; omega))⟩,(av.out.alloc _).below ah.out (by simp; omega)⟩
       obtain⟨x1,x2,x3⟩:=a6.out
       obtain⟨y1,y2,y3⟩:=ai.out
       rw[aw.out]
       refine⟨x1,λh=>?_,λh=>?_⟩
       ·have:=y2 (by omega); subst this; rw[x2 (by omega)]; omega
       ·by_cases h4:n+1+Ab (gL ls (l.take k))<=2000
        ·have:=y2 h4; subst this; exact x3 (by omega)
        ·have:=y3 (by omega); omega
      case measure=>simp[intOf]; omega
     ·have ak:(2000:Int)<(j:Int):=by omega
      go_wp2_with fail
      go_ret
      refine⟨j,rfl,?_,HB.out.alloc HB.out.size _⟩
      obtain⟨y1,y2,y3⟩:=ai.out
      rw[ao.out]
      have h5:=ax.out
      refine⟨y1,λh=>?_,λh=>by omega⟩
      have:=y2 (by omega)
      omega
    ·have a7:l.take k=l:=AW (by omega)
     rw[a7]at ai
     clear aa
     go_wp2_with fail
     go_ret
     refine⟨j,rfl,?_,HB.out⟩
     rw[ao.out,<-I5]
     exact ai.out
end Go.Proofs.YtlkeafenklamjaaGreatDoor

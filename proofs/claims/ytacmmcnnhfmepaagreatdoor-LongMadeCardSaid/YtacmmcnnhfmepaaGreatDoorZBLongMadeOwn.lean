import Derived.Test.YtacmmcnnhfmepaaGreatDoorZLongMadeOwn
import Derived.Lib.ItoaNum
import Derived.Deep.RegionHeld3
import Derived.Laws.EntriesVeiled
import Derived.Sort.Grow
import Derived.Maps.RangeRun
namespace Go.Proofs.YtacmmcnnhfmepaaGreatDoor
set_option linter.all false
set_option maxRecDepth 9999
set_option maxHeartbeats 0
open Go.RowKit Go.Proofs.Tryz
variable {l:List Tm} {B F O T b c5 k n r:Nat} {ls s s':List Bd} {lim:Bool} {t t5 t6:Tm} {x y:ByteArray} {a w w' w1 w3 wr:World} {m u:Int} {a5 c:Option Addr} {cs:Array Value} {X Y:Nat->Prop} {v:Value} {xs:List Value} {L rem:List (ByteArray×Value)} {d:Bd} {acc:List ByteArray} {P:Program}
def GL (d:Bd):List Bd->List Bd
 | []=>[d]
 |e::r=>if CC d.nm e.nm=true then d::e::r else e::GL d r
def Gm:List Bd->List Bd
 | []=>[]
 |d::r=>GL d (Gm r)
theorem NO (d:Bd):∀l,(GL d l).Perm (d::l)
 | []=>List.Perm.refl _
 |e::r=>by
  rw[GL];split
  ·exact List.Perm.refl _
  ·exact((NO d r).cons e).trans (List.Perm.swap d e r)
theorem EU:∀l,(Gm l).Perm l
 | []=>List.Perm.refl _
 |d::r=>(NO d _).trans ((EU r).cons d)
theorem Qu (d:Bd):∀l,Fu l->(∀e∈l,d.nm≠e.nm)->Fu (GL d l)
 | [],_,_=>by simp[GL,Fu]
 |e::r,h,b=>by
  obtain⟨h1,h2⟩:=Lp.1 h;rw[GL];split
  ·rename_i a;refine Lp.2 ⟨λx hx=>?_,h⟩;rcases Ct.1 hx with rfl|hx
   ·exact a
   ·exact NJ a (h1 x hx)
  ·rename_i a;refine Lp.2 ⟨λx hx=>?_,Qu d r h2 λe he=>b e (by simp[he])⟩;rcases Ct.1 ((NO d r).subset hx) with rfl|hx
   ·cases h3:CC e.nm x.nm with
    |true=>rfl
    |false=>exact absurd (NK (by simpa using a) h3) (b e (by simp))
   ·exact h1 x hx
theorem LM:∀l,Eu l->Fu (Gm l)
 | [],_=>by simp[Gm,Fu]
 |d::r,h=>by
  obtain⟨h1,h2⟩:=Lp.1 h;exact Qu d _ (LM r h2) λe he=>h1 e ((EU r).subset he)
inductive UO where
 |go (s:List Bd) (l:List Pr)
 |stop (e:Int) (s:List Bd)
def AD:List Tm->List Tm->List Pr
 |a::r,b::q=>⟨a,b⟩::AD r q
 |_,_=>[]
def BJ (x:ByteArray) (t:Tm) (d:Bd):Bd:=⟨d.nm,Ag [⟨x,t⟩] d.t⟩
def AV (s:List Bd):Bool:=s.any λd=>decide (2000<Ah [d.t])
def Cu (lim:Bool) (s:List Bd) (l:List Pr) (x:ByteArray) (t:Tm):UO:=
 if Ch x (AU [] (Aw [t]))=true then .stop 6 s
 else if (lim&&AV (s.map (BJ x t)))=true then .stop 8 s
 else .go (Gm (s.map (BJ x t)++[⟨x,t⟩])) l
def Br (lim:Bool) (s:List Bd) (l:List Pr) (a b:Tm):UO:=
 if 2000<Ah [a]∨2000<Ah [b] then .stop 8 s
 else if Av a.name=true then (if a.name=b.name then .go s l else Cu lim s l a.name b)
 else if Av b.name=true then Cu lim s l b.name a
 else if a.name=b.name/\a.args.length=b.args.length then .go s (AD a.args b.args++l)
 else .stop 5 s
def Em (lim:Bool) (s:List Bd):List Pr->UO
 | []=>.stop 0 s
 |p::l=>Br lim s l (Ag s p.l) (Ag s p.r)
theorem EL (lim:Bool) (s:List Bd) (p:Pr) (l:List Pr):Em lim s (p::l)=Br lim s l (Ag s p.l) (Ag s p.r):=rfl
def A0 (lim:Bool):Nat->List Bd->List Pr->Option (Int×List Bd)
 |0,_,_=>none
 |n+1,s,l=>match Em lim s l with
  | .stop e s'=>some (e,s')
  | .go s' l'=>A0 lim n s' l'
theorem LN (t:Tm):1<=Ah [t]:=by
 obtain⟨s,l⟩:=t;simp[Ah]
theorem W9 (ls:List Bd):∀l:List Tm,Ah l<=Ah (An ls l):=by
 intro l;induction l using Tm.indL with
 |h0=>simp[An,Ah]
 |h s l r aa ab=>
  have e1:Ah (An ls (⟨s,l⟩::r))=Ah [Ag ls ⟨s,l⟩]+Ah (An ls r):=(by rw[Bs];generalize Ag ls ⟨s,l⟩=x;obtain⟨s2,m⟩:=x;simp[Ah]);have e2:Ah (⟨s,l⟩::r)=(1+Ah l)+Ah r:=by simp[Ah]
  have h1:1+Ah l<=Ah [Ag ls ⟨s,l⟩]:=by
   by_cases a:l=[]
   ·subst a;have:=LN (Ag ls ⟨s,[]⟩);simpa [Ah] using this
   ·rw[Hc (Ad a)];simp only[Ah];omega
  rw[e1,e2];omega
theorem NP (ls:List Bd) (t:Tm):Ah [t]<=Ah [Ag ls t]:=by
 have h:=W9 ls [t];rw[Bs]at h;simpa [An] using h
theorem Xa {l k:List Bd} (h:l.Perm k):AV l=AV k:=by
 unfold AV;rw[Bool.eq_iff_iff,Fc,Fc];exact⟨λ⟨d,hd,e⟩=>⟨d,h.subset hd,e⟩,λ⟨d,hd,e⟩=>⟨d,h.symm.subset hd,e⟩⟩
theorem Xb (x:ByteArray) (t:Tm) (h:AV s=true):AV (s.map (BJ x t))=true:=by
 unfold AV at *;rw[Fc]at *;obtain⟨d,hd,e⟩:=h;refine⟨BJ x t d,Cx.2 ⟨d,hd,rfl⟩,?_⟩;have h1:=NP [⟨x,t⟩] d.t;simp only[Lo] at e ⊢;exact Ce e h1
theorem Kq (x:ByteArray) (t:Tm):AV (Gm (s.map (BJ x t)++[⟨x,t⟩]))=(AV (s.map (BJ x t))||decide (2000<Ah [t])):=by
 rw[Xa (EU _)];unfold AV;rw[List.any_append];simp
theorem Xc {l l':List Pr} (h:Em lim s l=.go s' l') (c:AV s=true):AV s'=true:=by
 cases l with
 |nil=>cases h
 |cons p l=>
  have bind:∀x t,Cu lim s l x t=.go s' l'->AV s'=true:=λx t h=>by
   unfold Cu at h;split at h
   ·cases h
   ·split at h
    ·cases h
    ·cases h;rw[Kq,Xb x t c];rfl
  rw[EL]at h;unfold Br at h;generalize Ag s p.l=a at h;generalize Ag s p.r=b at h;split at h
  ·cases h
  ·split at h
   ·split at h
    ·cases h; exact c
    ·exact bind _ _ h
   ·split at h
    ·exact bind _ _ h
    ·split at h
     ·cases h; exact c
     ·cases h
theorem NQ {l:List Pr} {e:Int} (h:Em lim s l=.stop e s'):s'=s:=by
 cases l with
 |nil=>cases h; rfl
 |cons p l=>
  have bind:∀x t,Cu lim s l x t=.stop e s'->s'=s:=λx t h=>by
   unfold Cu at h;split at h
   ·cases h; rfl
   ·split at h
    ·cases h; rfl
    ·cases h
  rw[EL]at h;unfold Br at h;generalize Ag s p.l=a at h;generalize Ag s p.r=b at h;split at h
  ·cases h; rfl
  ·split at h
   ·split at h
    ·cases h
    ·exact bind _ _ h
   ·split at h
    ·exact bind _ _ h
    ·split at h
     ·cases h
     ·cases h; rfl
theorem NR {lim:Bool}:∀(n:Nat) (s:List Bd) (l:List Pr) (e:Int) (sf:List Bd),A0 lim n s l=some (e,sf)->AV s=true->AV sf=true
 |0,_,_,_,_,h,_=>by cases h
 |n+1,s,l,e,sf,h,b=>by
  rw[A0]at h;cases a:Em lim s l with
  |stop e' s'=>rw[a]at h;cases h;rw[NQ a]; exact b
  |go s' l'=>rw[a]at h;exact NR n s' l' e sf h (Xc a b)
theorem Xd {l:List Pr}:Em true s l=Em false s l∨(Em true s l=.stop 8 s/\∃s' l',Em false s l=.go s' l'/\AV s'=true):=by
 cases l with
 |nil=>exact Ad rfl
 |cons p l=>
  have bind:∀x t,Cu true s l x t=Cu false s l x t∨(Cu true s l x t=.stop 8 s/\∃s' l',Cu false s l x t=.go s' l'/\AV s'=true):=λx t=>by
   unfold Cu;by_cases h1:Ch x (AU [] (Aw [t]))=true
   ·rw[Aq h1,Aq h1]; exact Ad rfl
   ·rw[Am h1,Am h1];cases h2:AV (s.map (BJ x t)) with
    |true=>exact Ae ⟨rfl,_,_,rfl,by rw[Kq,h2]; rfl⟩
    |false=>exact Ad rfl
  rw[EL,EL];unfold Br;generalize Ag s p.l=a;generalize Ag s p.r=b;by_cases h1:2000<Ah [a]∨2000<Ah [b]
  ·rw[Aq h1,Aq h1]; exact Ad rfl
  ·rw[Am h1,Am h1];by_cases h2:Av a.name=true
   ·rw[Aq h2,Aq h2];by_cases h3:a.name=b.name
    ·rw[Aq h3,Aq h3]; exact Ad rfl
    ·rw[Am h3,Am h3]; exact bind _ _
   ·rw[Am h2,Am h2];by_cases h3:Av b.name=true
    ·rw[Aq h3,Aq h3]; exact bind _ _
    ·rw[Am h3,Am h3]; exact Ad rfl
theorem Qv:∀(n:Nat) (s:List Bd) (l:List Pr) (e:Int) (sf:List Bd),A0 false n s l=some (e,sf)->AV s=false->∃e' g,A0 true n s l=some (e',g)/\(AV sf=true->e'=8)/\(AV sf=false->e'=e/\g=sf)
 |0,_,_,_,_,h,_=>by cases h
 |n+1,s,l,e,sf,h,f=>by
  rw[A0]at h;rcases Xd (s:=s) (l:=l) with h1|⟨h1,s',l',h2,h3⟩
  ·rw[A0,h1];cases d:Em false s l with
   |stop e' s'=>rw[d]at h;cases h;refine⟨e,sf,rfl,λc=>?_,λ_=>⟨rfl,rfl⟩⟩;rw[NQ d,f]at c;cases c
   |go s' l'=>
    rw[d]at h;cases c:AV s' with
    |false=>exact Qv n s' l' e sf h c
    |true=>
     exfalso;rw[d]at h1;have h5:AV s'=false:=by
      cases l with
      |nil=>cases d
      |cons p l=>
       have bind:∀x t,Ah [t]<=2000->Cu true s l x t=.go s' l'->AV s'=false:=λx t ht h=>by
        unfold Cu at h;split at h
        ·cases h
        ·split at h
         ·cases h
         ·rename_i h6;cases h;rw[Kq];simp only[Bool.true_and,Bool.not_eq_true] at h6;rw[h6];simp; omega
       rw[EL]at h1;unfold Br at h1;generalize Ag s p.l=a at h1;generalize Ag s p.r=b at h1;split at h1
       ·cases h1
       ·rename_i h7;split at h1
        ·split at h1
         ·cases h1; exact f
         ·exact bind _ _ (by omega) h1
        ·split at h1
         ·exact bind _ _ (by omega) h1
         ·split at h1
          ·cases h1; exact f
          ·cases h1
     rw[h5]at c;cases c
  ·rw[h2]at h;have c:=NR n s' l' e sf h h3;refine⟨8,s,by rw[A0,h1],λ_=>rfl,λh5=>?_⟩;rw[c]at h5;cases h5
def Cy (f:ByteArray->ByteArray):List Tm->List Tm
 | []=>[]
 | ⟨s,l⟩::r=>⟨f s,Cy f l⟩::Cy f r
def Cd (f:ByteArray->ByteArray) (t:Tm):Tm:=⟨f t.name,Cy f t.args⟩
def CW (f:ByteArray->ByteArray) (d:Bd):Bd:=⟨f d.nm,Cd f d.t⟩
def Gn (f:ByteArray->ByteArray) (p:Pr):Pr:=⟨Cd f p.l,Cd f p.r⟩
def LO (f:ByteArray->ByteArray):UO->UO
 | .go s l=>.go (s.map (CW f)) (l.map (Gn f))
 | .stop e s=>.stop e (s.map (CW f))
theorem Gp (f:ByteArray->ByteArray) (t:Tm) (r:List Tm):Cy f (t::r)=Cd f t::Cy f r:=by
 obtain⟨s,l⟩:=t;simp only[Cy,Cd]
theorem Jm (f:ByteArray->ByteArray):∀l,Cy f l=l.map (Cd f)
 | []=>by simp[Cy]
 |t::r=>by rw[Gp,Jm f r]; rfl
theorem NS (f:ByteArray->ByteArray) (l:List Tm):(Cy f l).length=l.length:=by rw[Jm]; simp
theorem Xe (f:ByteArray->ByteArray) (l:List Tm):Ah (Cy f l)=Ah l:=by
 induction l using Tm.indL with
 |h0=>simp[Cy]
 |h s l r a b=>simp only[Cy,Ah,a,b]
theorem LP (f:ByteArray->ByteArray) (t:Tm):Ah [Cd f t]=Ah [t]:=by
 have:=Xe f [t];rw[Gp,Jm f []]at this;exact this
theorem Xf (f:ByteArray->ByteArray) (l:List Tm):(Cy f l).isEmpty=l.isEmpty:=by
 rw[Jm]; simp
def AW (D:ByteArray->Prop) (l:List Tm):Prop:=∀k∈Aw l,D k.name
theorem AW.cons {D:ByteArray->Prop} {r:List Tm}:AW D (t::r)↔D t.name/\AW D t.args/\AW D r:=by
 obtain⟨s,l⟩:=t;unfold AW;simp only[Aw,Ct,BN];constructor
 ·intro h;exact⟨h ⟨s,l⟩ (Ad rfl),λk hk=>h k (Ae (Ad hk)),λk hk=>h k (Ae (Ae hk))⟩
 ·rintro⟨h1,h2,h3⟩ k (rfl|hk|hk)
  ·exact h1
  ·exact h2 k hk
  ·exact h3 k hk
theorem AW.nil {D:ByteArray->Prop}:AW D []:=λk hk=>by simp[Aw] at hk
theorem AW.one {D:ByteArray->Prop}:AW D [t]↔D t.name/\AW D t.args:=by
 rw[AW.cons];exact⟨λh=>⟨h.1,h.2.1⟩,λh=>⟨h.1,h.2,AW.nil⟩⟩
theorem AW.all {D:ByteArray->Prop}:∀ {l:List Tm},AW D l↔∀t∈l,AW D [t]
 | []=>by simp[AW.nil]
 |t::r=>by
  rw[AW.cons,AW.all (l:=r)];simp only[Ct,forall_eq_or_imp,AW.one];exact⟨λh=>⟨⟨h.1,h.2.1⟩,h.2.2⟩,λh=>⟨h.1.1,h.1.2,h.2⟩⟩
def DV (D:ByteArray->Prop) (s:List Bd):Prop:=∀d∈s,D d.nm/\AW D [d.t]
def Hd (D:ByteArray->Prop) (l:List Pr):Prop:=∀p∈l,AW D [p.l]/\AW D [p.r]
structure Ew (D:ByteArray->Prop) (f:ByteArray->ByteArray):Prop where
 inj:∀a b,D a->D b->f a=f b->a=b
 var:∀a,D a->Av (f a)=Av a
 lt:∀a b,D a->D b->CC (f a) (f b)=CC a b
theorem Qw {D:ByteArray->Prop} {f:ByteArray->ByteArray} (a:Ew D f) {n:ByteArray} (b:D n):∀ {s:List Bd},DV D s->AF (s.map (CW f)) (f n)=(AF s n).map (Cd f)
 | [],_=>rfl
 |d::r,h=>by
  have h1:=h d (by simp);have c:=Qw a b (s:=r) λe he=>h e (by simp[he]);simp only[CB,AF,CW];by_cases e:d.nm=n
  ·rw[Aq e,Aq (by rw[e])]; rfl
  ·rw[Am e,Am (λe2=>e (a.inj _ _ h1.1 b e2)),<-c]
theorem Qx {D:ByteArray->Prop} {n:ByteArray} {x:Tm}:∀ {s:List Bd},DV D s->AF s n=some x->AW D [x]
 | [],_,h=>by cases h
 |d::r,h,e=>by
  simp only[AF] at e;split at e
  ·cases e; exact(h d (by simp)).2
  ·exact Qx (λe he=>h e (by simp[he])) e
theorem Xg {D:ByteArray->Prop} {f:ByteArray->ByteArray} (c:Ew D f) (b:DV D s) (l:List Tm):AW D l->An (s.map (CW f)) (Cy f l)=Cy f (An s l)/\AW D (An s l):=by
 induction l using Tm.indL with
 |h0=>intro _; simp only[Cy,An]; exact⟨trivial,AW.nil⟩
 |h n l r d e=>
  intro h;obtain⟨h1,h2,h3⟩:=AW.cons.1 h;obtain⟨g,i2⟩:=d h2;obtain⟨i3,i4⟩:=e h3;have a:D n:=h1;simp only[Cy,An];rw[g,i3,Gp];have key:Gk (s.map (CW f)) (f n) (Cy f l) (Cy f (An s l))=Cd f (Gk s n l (An s l))/\AW D [Gk s n l (An s l)]:=by
   unfold Gk;rw[Qw c a b];cases hq:AF s n with
   |none=>exact⟨rfl,AW.one.2 ⟨a,i2⟩⟩
   |some x=>
    simp only[Option.map_some,Xf];cases l.isEmpty with
    |true=>exact⟨rfl,Qx b hq⟩
    |false=>exact⟨rfl,AW.one.2 ⟨a,i2⟩⟩
  rw[key.1];exact⟨rfl,AW.cons.2 ⟨(AW.one.1 key.2).1,(AW.one.1 key.2).2,i4⟩⟩
theorem Kr {D:ByteArray->Prop} {f:ByteArray->ByteArray} (a:Ew D f) (b:DV D s) (ht:AW D [t]):Ag (s.map (CW f)) (Cd f t)=Cd f (Ag s t)/\AW D [Ag s t]:=by
 have h:=Xg a b [t] ht;rw[Gp,Bs,Bs,Gp]at h;simp only[An] at h;exact⟨(List.cons.inj h.1).1,h.2⟩
theorem Ks {l:List ByteArray}:Ch x l=true↔x∈l:=by
 unfold Ch;rw[Fc];constructor
 ·rintro⟨y,hy,e⟩;have e1:y.toList=x.toList:=by simpa using e
  have e2:y=x:=(by have h:=Dt List.toArray e1;rw[GW,GW]at h;cases y; cases x;simpa using h);exact e2▸hy
 ·intro h;exact⟨x,h,by simp⟩
theorem Qy {D:ByteArray->Prop} {f:ByteArray->ByteArray} (a:Ew D f) (hx:D x) {l:List ByteArray} (b:∀y∈l,D y):Ch (f x) (l.map f)=Ch x l:=by
 rw[Bool.eq_iff_iff,Ks,Ks,Cx];constructor
 ·rintro⟨y,hy,e⟩;rw[<-a.inj _ _ (b y hy) hx e];exact hy
 ·intro h;exact⟨x,h,rfl⟩
theorem Xh {D:ByteArray->Prop} {f:ByteArray->ByteArray} (b:Ew D f) (hx:D x) {l:List ByteArray} (a:∀y∈l,D y):CO (l.map f) (f x)=(CO l x).map f/\∀y∈CO l x,D y:=by
 unfold CO;rw[b.var x hx,Qy b hx a];split
 ·refine⟨by simp,λy hy=>?_⟩;rcases BN.1 hy with h|h
  ·exact a y h
  ·rw[GC.1 h]; exact hx
 ·exact⟨rfl,a⟩
theorem Xi (f:ByteArray->ByteArray) (l:List Tm):(Aw (Cy f l)).map (·.name)=((Aw l).map (·.name)).map f:=by
 induction l using Tm.indL with
 |h0=>simp[Cy,Aw]
 |h s l r a b=>simp only[Cy,Aw,CB,Db,a,b]
theorem Qz (acc:List ByteArray):∀a:List Tm,AU acc a=(a.map (·.name)).foldl CO acc:=λa=>by
 unfold AU;rw[List.foldl_map]
theorem QC {D:ByteArray->Prop} {f:ByteArray->ByteArray} (b:Ew D f):∀(a acc:List ByteArray),(∀y∈a,D y)->(∀y∈acc,D y)->(a.map f).foldl CO (acc.map f)=(a.foldl CO acc).map f/\∀y∈a.foldl CO acc,D y
 | [],acc,_,h=>⟨rfl,h⟩
 |n::r,acc,c,h=>by
  have h1:=Xh b (c n (by simp)) h;simp only[CB,List.foldl_cons];rw[h1.1];exact QC b r _ (λy hy=>c y (by simp[hy])) h1.2
theorem QE {D:ByteArray->Prop} {f:ByteArray->ByteArray} (a:Ew D f) (ht:AW D [t]):AU [] (Aw [Cd f t])=(AU [] (Aw [t])).map f/\∀y∈AU [] (Aw [t]),D y:=by
 have e:Aw [Cd f t]=Aw (Cy f [t]):=by rw[Gp,Jm f []]; rfl
 rw[Qz,Qz,e,Xi];refine QC a _ [] (λy hy=>?_) (by simp);obtain⟨k,hk,rfl⟩:=Cx.1 hy;exact ht k hk
theorem QG {D:ByteArray->Prop} {f:ByteArray->ByteArray} (a:Ew D f) {d:Bd} (hd:D d.nm):∀ {s:List Bd},DV D s->GL (CW f d) (s.map (CW f))=(GL d s).map (CW f)
 | [],_=>rfl
 |e::r,h=>by
  have h1:=h e (by simp);simp only[CB,GL];rw[show(CW f d).nm=f d.nm from rfl,show(CW f e).nm=f e.nm from rfl,a.lt _ _ hd h1.1,QG a hd (s:=r) λx hx=>h x (by simp[hx])];split<;>rfl
theorem QI {D:ByteArray->Prop} (h:DV D s):DV D (Gm s):=λd hd=>h d ((EU s).subset hd)
theorem QJ {D:ByteArray->Prop} {f:ByteArray->ByteArray} (a:Ew D f):∀ {s:List Bd},DV D s->Gm (s.map (CW f))=(Gm s).map (CW f)
 | [],_=>rfl
 |e::r,h=>by
  have b:DV D r:=λx hx=>h x (by simp[hx]);simp only[CB,Gm];rw[QJ a b,QG a (h e (by simp)).1 (QI b)]
theorem QK (f:ByteArray->ByteArray) (s:List Bd):AV (s.map (CW f))=AV s:=by
 unfold AV;rw[List.any_map];congr 1
 funext d
 simp only[Function.comp,CW,LP]
theorem Xj {D:ByteArray->Prop} {f:ByteArray->ByteArray} (b:Ew D f) (hx:D x) (ht:AW D [t]) (a:DV D s):(s.map (CW f)).map (BJ (f x) (Cd f t))=(s.map (BJ x t)).map (CW f)/\DV D (s.map (BJ x t)):=by
 have h1:DV D [⟨x,t⟩]:=λd hd=>by rw[GC.1 hd]; exact⟨hx,ht⟩
 constructor
 ·rw[List.map_map,List.map_map];refine List.map_congr_left λd hd=>?_;have h:=Kr b h1 (a d hd).2;simp only[Function.comp,BJ,CW];rw[show [(⟨f x,Cd f t⟩:Bd)]=[(⟨x,t⟩:Bd)].map (CW f) from rfl,h.1]
 ·intro d hd;obtain⟨d0,c,rfl⟩:=Cx.1 hd;exact⟨(a d0 c).1,(Kr b h1 (a d0 c).2).2⟩
def QL (D:ByteArray->Prop):UO->Prop
 | .go s l=>DV D s/\Hd D l
 | .stop _ s=>DV D s
theorem QM {D:ByteArray->Prop} {f:ByteArray->ByteArray} (a:Ew D f) (lim:Bool) (b:DV D s) {l:List Pr} (g:Hd D l) (hx:D x) (ht:AW D [t]):Cu lim (s.map (CW f)) (l.map (Gn f)) (f x) (Cd f t)=LO f (Cu lim s l x t)/\QL D (Cu lim s l x t):=by
 have c:=QE a ht;have hp:=Xj a hx ht b;unfold Cu;rw[c.1,Qy a hx c.2,hp.1,QK];have e:DV D (s.map (BJ x t)++[⟨x,t⟩]):=λd hd=>by
  rcases BN.1 hd with h|h
  ·exact hp.2 d h
  ·rw[GC.1 h]; exact⟨hx,ht⟩
 split
 ·exact⟨rfl,b⟩
 ·split
  ·exact⟨rfl,b⟩
  ·refine⟨?_,QI e,g⟩;simp only[LO];rw[<-QJ a e];simp[CW]
theorem QO (f:ByteArray->ByteArray):∀a b:List Tm,AD (Cy f a) (Cy f b)=(AD a b).map (Gn f)
 | [],_=>by simp[Cy,AD]
 |t::r,[]=>by rw[Gp]; simp[Cy,AD]
 |t::r,u::q=>by rw[Gp,Gp]; simp only[AD,CB]; rw[QO f r q]; rfl
theorem QQ {D:ByteArray->Prop}:∀ {a b:List Tm},AW D a->AW D b->Hd D (AD a b)
 | [],_,_,_=>λp hp=>by simp[AD] at hp
 |t::r,[],_,_=>λp hp=>by simp[AD] at hp
 |t::r,u::q,c,hb=>λp hp=>by
  obtain⟨d,a2,a3⟩:=AW.cons.1 c;obtain⟨e,f,g⟩:=AW.cons.1 hb;simp only[AD] at hp;rcases Ct.1 hp with rfl|hp
  ·exact⟨AW.one.2 ⟨d,a2⟩,AW.one.2 ⟨e,f⟩⟩
  ·exact QQ a3 g p hp
theorem Xk {D:ByteArray->Prop} {f:ByteArray->ByteArray} (d:Ew D f) (lim:Bool) (c:DV D s) {l:List Pr} (g:Hd D l) {a b:Tm} (k:AW D [a]) (hb:AW D [b]):Br lim (s.map (CW f)) (l.map (Gn f)) (Cd f a) (Cd f b)=LO f (Br lim s l a b)/\QL D (Br lim s l a b):=by
 obtain⟨i,a2⟩:=AW.one.1 k;obtain⟨j,m⟩:=AW.one.1 hb;have e:(Cd f a).name=(Cd f b).name↔a.name=b.name:=⟨λh=>d.inj _ _ i j h,λh=>Dt f h⟩;have e2:(Cd f a).args.length=(Cd f b).args.length↔a.args.length=b.args.length:=by
  show(Cy f a.args).length=(Cy f b.args).length↔_;rw[NS,NS]
 unfold Br;rw[LP,LP,show Av (Cd f a).name=Av a.name from d.var _ i,show Av (Cd f b).name=Av b.name from d.var _ j];simp only[e,e2];split
 ·exact⟨rfl,c⟩
 ·split
  ·split
   ·exact⟨rfl,c,g⟩
   ·exact QM d lim c g i hb
  ·split
   ·exact QM d lim c g j k
   ·split
    ·refine⟨?_,c,λp hp=>?_⟩
     ·show UO.go _ (AD (Cy f a.args) (Cy f b.args)++_)=_;rw[QO];simp[LO]
     ·rcases BN.1 hp with h|h
      ·exact QQ a2 m p h
      ·exact g p h
    ·exact⟨rfl,c⟩
theorem QR {D:ByteArray->Prop} {f:ByteArray->ByteArray} (c:Ew D f) (lim:Bool):∀(n:Nat) {s:List Bd} (a:DV D s) {l:List Pr} (d:Hd D l) {R:Int×List Bd},A0 lim n s l=some R->A0 lim n (s.map (CW f)) (l.map (Gn f))=some (R.1,R.2.map (CW f))/\DV D R.2
 |0,_,_,_,_,_,h=>by cases h
 |n+1,s,a,[],d,R,h=>by
  simp only[A0,Em] at h;cases h;exact⟨rfl,a⟩
 |n+1,s,a,p::l,d,R,h=>by
  have hp:=d p (by simp);have j:Hd D l:=λq hq=>d q (by simp[hq]);have g:=Kr c a hp.1;have i:=Kr c a hp.2;have k:=Xk c lim a j g.2 i.2;rw[A0,EL]at h;rw[A0,CB,EL,show(Gn f p).l=Cd f p.l from rfl,show(Gn f p).r=Cd f p.r from rfl,g.1,i.1,k.1];have b:=k.2;revert h b;cases Br lim s l (Ag s p.l) (Ag s p.r) with
  |stop e s'=>intro h b;cases h;exact⟨rfl,b⟩
  |go s' l'=>intro h b;exact QR c lim n b.1 b.2 h
def BF (k:Int):Nat:=if k=2 then 1 else if k=3 then 2 else 0
def Bk (u m k:Int):Int:=if k=1 then u else if k=4 then 40 else if k=5 then m else 1
def AR (u k:Int):Int:=if k=2 then u+1 else u
def AG (u m k x:Int) (n:Nat):Int:=if k<1∨5<k then 2 else if n≠BF k then 2 else if x<0∨Bk u m k<=x then 15 else 0
def Au:Int->Int->List Lm->Int
 |_,_,[]=>0
 |u,m,⟨k,x,l⟩::r=>if AG u m k x l.length=0 then (if Au (AR u k) m l=0 then Au u m r else Au (AR u k) m l) else AG u m k x l.length
theorem LQ (u m:Int) (t:Lm) (r:List Lm):Au u m (t::r)=if Au u m [t]=0 then Au u m r else Au u m [t]:=by
 obtain⟨k,x,l⟩:=t;simp only[Au];split
 ·split<;>simp_all
 ·simp_all
theorem QS (u m:Int) (a b:List Lm):Au u m (a++b)=if Au u m a=0 then Au u m b else Au u m a:=by
 induction a with
 |nil=>simp[Au]
 |cons t r c=>rw[Dj,LQ,LQ u m t r,c];by_cases h:Au u m [t]=0<;>simp[h]
theorem LR (u m:Int) (l:List Lm) (k:Nat) (h:k<l.length):Au u m (l.take (k+1))=if Au u m (l.take k)=0 then Au u m [l[k]] else Au u m (l.take k):=by
 rw[CI h,QS]
theorem LT {l:List Lm} (h:Au u m (l.take k)≠0):Au u m l=Au u m (l.take k):=by
 have:=QS u m (l.take k) (l.drop k);rw[FH,Am h]at this;exact this
theorem He {a b:Int} {l:List Lm} (h:AG u m a b l.length=0):Au u m [⟨a,b,l⟩]=Au (AR u a) m l:=by
 simp only[Au,h,if_true];by_cases h0:Au (AR u a) m l=0<;>simp[h0]
theorem D8 {a b:Int} {l:List Lm} (h:AG u m a b l.length≠0):Au u m [⟨a,b,l⟩]=AG u m a b l.length:=by
 simp[Au,h]
def BO (u m:Int) (t:Lm):Int:=if u<0∨40<u then 10 else if 200<Ai [t] then 3 else Au u m [t]
theorem Xl (h d u m:Int) (a:Option Addr) (n c:Nat) (w:World) (hn:n<=9223372036854775807):
  Calls prog 115 #[.agg #[zA h,zA d,.slice a n c],zA u,zA m] w λe w'=>e=.returned (zA (AG u m h d n))/\Below w.heap.size w w':=by
 have f:Hid (Below w.heap.size w (w.alloc (zp #[zA h,zA d,.slice a n c] 24))):=(Ac _ _).alloc (Af _) _;by_cases l:h=1;case pos=>
  subst l;by_cases g:n=0;case pos=>
   subst g;by_cases hi:d<0
   ·have b:Hid (AG u m 1 d 0=15):=Aa (by unfold AG Bk BF;simp[hi]);go_in;go_wp2_with fail;go_ret;exact⟨AM b.o.symm,f.o⟩
   ·by_cases i:(u:Int)<=d
    ·have b:Hid (AG u m 1 d 0=15):=Aa (by unfold AG Bk BF;simp[hi,i]);go_in;go_wp2_with fail;go_ret;exact⟨AM b.o.symm,f.o⟩
    ·have b:Hid (AG u m 1 d 0=0):=Aa (by unfold AG Bk BF;simp[hi,i]);go_in;go_wp2_with fail;go_ret;exact⟨AM b.o.symm,f.o⟩
  case neg=>have b:Hid (AG u m 1 d n=2):=Aa (by unfold AG Bk BF;simp[g]);have j:¬(n:Int)=0:=(by omega);have k:((n:Int) !=0)=true:=(by simpa using j);clear g;go_in;go_wp2_with fail;go_ret;exact⟨AM b.o.symm,f.o⟩
 case neg=>
  by_cases q:h=2;case pos=>
   subst q;by_cases g:n=1;case pos=>
    subst g;by_cases hi:d<0
    ·have b:Hid (AG u m 2 d 1=15):=Aa (by unfold AG Bk BF;simp[hi]);go_in;go_wp2_with fail;go_ret;exact⟨AM b.o.symm,f.o⟩
    ·by_cases i:(1:Int)<=d
     ·have b:Hid (AG u m 2 d 1=15):=Aa (by unfold AG Bk BF;simp[hi,i]);go_in;go_wp2_with fail;go_ret;exact⟨AM b.o.symm,f.o⟩
     ·have b:Hid (AG u m 2 d 1=0):=Aa (by unfold AG Bk BF;simp[hi,i]);go_in;go_wp2_with fail;go_ret;exact⟨AM b.o.symm,f.o⟩
   case neg=>have b:Hid (AG u m 2 d n=2):=Aa (by unfold AG Bk BF;simp[g]);have j:¬(n:Int)=1:=(by omega);have k:((n:Int) !=1)=true:=(by simpa using j);clear g;go_in;go_wp2_with fail;go_ret;exact⟨AM b.o.symm,f.o⟩
  case neg=>
   by_cases r:h=3;case pos=>
    subst r;by_cases g:n=2;case pos=>
     subst g;by_cases hi:d<0
     ·have b:Hid (AG u m 3 d 2=15):=Aa (by unfold AG Bk BF;simp[hi]);go_in;go_wp2_with fail;go_ret;exact⟨AM b.o.symm,f.o⟩
     ·by_cases i:(1:Int)<=d
      ·have b:Hid (AG u m 3 d 2=15):=Aa (by unfold AG Bk BF;simp[hi,i]);go_in;go_wp2_with fail;go_ret;exact⟨AM b.o.symm,f.o⟩
      ·have b:Hid (AG u m 3 d 2=0):=Aa (by unfold AG Bk BF;simp[hi,i]);go_in;go_wp2_with fail;go_ret;exact⟨AM b.o.symm,f.o⟩
    case neg=>have b:Hid (AG u m 3 d n=2):=Aa (by unfold AG Bk BF;simp[g]);have j:¬(n:Int)=2:=(by omega);have k:((n:Int) !=2)=true:=(by simpa using j);clear g;go_in;go_wp2_with fail;go_ret;exact⟨AM b.o.symm,f.o⟩
   case neg=>
    by_cases s:h=4;case pos=>
     subst s;by_cases g:n=0;case pos=>
      subst g;by_cases hi:d<0
      ·have b:Hid (AG u m 4 d 0=15):=Aa (by unfold AG Bk BF;simp[hi]);go_in;go_wp2_with fail;go_ret;exact⟨AM b.o.symm,f.o⟩
      ·by_cases i:(40:Int)<=d
       ·have b:Hid (AG u m 4 d 0=15):=Aa (by unfold AG Bk BF;simp[hi,i]);go_in;go_wp2_with fail;go_ret;exact⟨AM b.o.symm,f.o⟩
       ·have b:Hid (AG u m 4 d 0=0):=Aa (by unfold AG Bk BF;simp[hi,i]);go_in;go_wp2_with fail;go_ret;exact⟨AM b.o.symm,f.o⟩
     case neg=>have b:Hid (AG u m 4 d n=2):=Aa (by unfold AG Bk BF;simp[g]);have j:¬(n:Int)=0:=(by omega);have k:((n:Int) !=0)=true:=(by simpa using j);clear g;go_in;go_wp2_with fail;go_ret;exact⟨AM b.o.symm,f.o⟩
    case neg=>
     by_cases t:h=5;case pos=>
      subst t;by_cases g:n=0;case pos=>
       subst g;by_cases hi:d<0
       ·have b:Hid (AG u m 5 d 0=15):=Aa (by unfold AG Bk BF;simp[hi]);go_in;go_wp2_with fail;go_ret;exact⟨AM b.o.symm,f.o⟩
       ·by_cases i:(m:Int)<=d
        ·have b:Hid (AG u m 5 d 0=15):=Aa (by unfold AG Bk BF;simp[hi,i]);go_in;go_wp2_with fail;go_ret;exact⟨AM b.o.symm,f.o⟩
        ·have b:Hid (AG u m 5 d 0=0):=Aa (by unfold AG Bk BF;simp[hi,i]);go_in;go_wp2_with fail;go_ret;exact⟨AM b.o.symm,f.o⟩
      case neg=>have b:Hid (AG u m 5 d n=2):=Aa (by unfold AG Bk BF;simp[g]);have j:¬(n:Int)=0:=(by omega);have k:((n:Int) !=0)=true:=(by simpa using j);clear g;go_in;go_wp2_with fail;go_ret;exact⟨AM b.o.symm,f.o⟩
     case neg=>have b:Hid (AG u m h d n=2):=Aa (by unfold AG;rw[Aq (by omega)]);have e1:(h==1)=false:=(by simpa using l);have e2:(h==2)=false:=(by simpa using q);have e3:(h==3)=false:=(by simpa using r);have e4:(h==4)=false:=(by simpa using s);have e5:(h==5)=false:=(by simpa using t);go_in;go_wp2_with fail;go_ret;exact⟨AM b.o.symm,f.o⟩
def IK (u m:Int) (l:List Lm) (w:World) (o:Value) (wr:World):Prop:=∃k:Nat,k<=l.length/\o=zA k/\Au u m (l.take k)=0/\Below w.heap.size w wr
theorem Xm (m:Int) (t:Lm):∀(v:Value) (u:Int) (w:World) (X:Nat->Prop),MV w X v t->0<=u->u+Ai [t]<=1000000->
  Calls prog 101 #[v,zA u,zA m] w λe w'=>e=.returned (zA (Au u m [t]))/\Below w.heap.size w w':=by
 induction t using Lm.ind with
 |h f g l H=>
  intro v u w X L au M;obtain⟨a,c,rfl,z⟩:=L;have I:=Aa H;clear H;have N:=z.1;have hz:Ai [(⟨f,g,l⟩:Lm)]=1+Ai l:=by simp[Ai]
  rw[hz]at M;clear hz;have J:Hid (Below w.heap.size w (w.alloc (zp #[zA f,zA g,.slice a l.length c] 24))):=(Ac _ _).alloc (Af _) _;have A:=Ab.new w #[zA f,zA g,.slice a l.length c] 24;go_in;go_wp2_with fail;refine(Xl f g u m a l.length c _ N).mono ?_;rintro e w1 ⟨rfl,B⟩;have C:=Aa (J.o.trans (B.mono (by simp)));have D:=Aa (A.below B A.lt);have t0:=D.o.c0;have t1:=D.o.c1;have t2:=D.o.c2;clear B A J;by_cases h0:AG u m f g l.length=0;case neg=>
   have q:=Aa (D8 h0);have h1:(AG u m f g l.length==0)=false:=(by simpa using h0);have h2:(AG u m f g l.length !=0)=true:=(by simpa using h0);go_wp2_with fail;go_ret;exact⟨AM q.o.symm,C.o⟩
  case pos=>
   have q:=Aa (He h0);rw[h0];clear h0;by_cases E:f=2;case pos=>
    subst E;have r:Hid (AR u 2=u+1):=Aa (by unfold AR;rfl);go_wp2_with fail;go_loopw [26] (λo wr=>IK (u+1) m l w o wr) (λo wr=>l.length-(intOf o).toNat);case atStart=>exact⟨0,Bp _,rfl,by simp[Au],C.o⟩
    case round=>
     obtain⟨k,hk,rfl,he,hb⟩:=hrel;have n:=Aa he;have s:=Aa hb;clear he;have F:w.heap.size<=wr.heap.size:=hb.size;by_cases j:k<l.length
     ·obtain⟨b,o,O,c',rfl,d0,P,d1,hx⟩:=z.get hb (λ_ _ h=>h) k j;have HT:=Aa (LR (u+1) m l k j);have R:1+Ai [l[k]]<=1+Ai l:=by
       have h1:=Df l k j;have h2:=DJ l (k+1);omega
      clear hb;go_wp2_with fail;refine(I.o _ (Bv j) _ _ _ X (hx.alloc _) (by omega) (by omega)).mono ?_;rintro e w2 ⟨rfl,x⟩;have y:Hid (Below w.heap.size w w2):=(s.o.alloc F _).trans (x.mono (by simp; omega));clear x;by_cases d:Au (u+1) m [l[k]]=0
      ·have i:=Aa d;rw[d];clear d;go_wp2_with fail;go_roundw
       case rel=>exact⟨k+1,by omega,by go_num,by rw[HT.o,n.o,i.o]; rfl,y.o⟩
       case measure=>simp[intOf]; omega
      ·have h1:(Au (u+1) m [l[k]]==0)=false:=(by simpa using d);have h2:(Au (u+1) m [l[k]] !=0)=true:=(by simpa using d);have i:Hid (Au (u+1) m [l[k]]=Au u m [(⟨2,g,l⟩:Lm)]):=by
        have h1:Au (u+1) m (l.take (k+1))=Au (u+1) m [l[k]]:=by rw[HT.o,n.o]; rfl
        unfold Hid;rw[q.o,r.o,LT (l:=l) (k:=k+1) (by rw[h1]; exact d),h1]
       go_wp2_with fail;go_ret;exact⟨AM i.o,y.o⟩
     ·have G:l.take k=l:=Bz (by omega);have ar:¬((k:Int)<(l.length:Int)):=(by omega);have i:Hid (0=Au u m [(⟨2,g,l⟩:Lm)]):=Aa (by rw[q.o,r.o,<-G,n.o]);go_wp2_with fail;go_ret;exact⟨AM i.o,s.o⟩
   case neg=>
    have r:Hid (AR u f=u):=Aa (by unfold AR;rw[Am E]);have e2:(f==2)=false:=(by simpa using E);go_wp2_with fail;go_loopw [26] (λo wr=>IK (u) m l w o wr) (λo wr=>l.length-(intOf o).toNat);case atStart=>exact⟨0,Bp _,rfl,by simp[Au],C.o⟩
    case round=>
     obtain⟨k,hk,rfl,he,hb⟩:=hrel;have n:=Aa he;have s:=Aa hb;clear he;have F:w.heap.size<=wr.heap.size:=hb.size;by_cases j:k<l.length
     ·obtain⟨b,o,O,c',rfl,d0,P,d1,hx⟩:=z.get hb (λ_ _ h=>h) k j;have HT:=Aa (LR (u) m l k j);have R:1+Ai [l[k]]<=1+Ai l:=by
       have h1:=Df l k j;have h2:=DJ l (k+1);omega
      clear hb;go_wp2_with fail;refine(I.o _ (Bv j) _ _ _ X (hx.alloc _) (by omega) (by omega)).mono ?_;rintro e w2 ⟨rfl,x⟩;have y:Hid (Below w.heap.size w w2):=(s.o.alloc F _).trans (x.mono (by simp; omega));clear x;by_cases d:Au (u) m [l[k]]=0
      ·have i:=Aa d;rw[d];clear d;go_wp2_with fail;go_roundw
       case rel=>exact⟨k+1,by omega,by go_num,by rw[HT.o,n.o,i.o]; rfl,y.o⟩
       case measure=>simp[intOf]; omega
      ·have h1:(Au (u) m [l[k]]==0)=false:=(by simpa using d);have h2:(Au (u) m [l[k]] !=0)=true:=(by simpa using d);have i:Hid (Au (u) m [l[k]]=Au u m [(⟨f,g,l⟩:Lm)]):=by
        have h1:Au (u) m (l.take (k+1))=Au (u) m [l[k]]:=by rw[HT.o,n.o]; rfl
        unfold Hid;rw[q.o,r.o,LT (l:=l) (k:=k+1) (by rw[h1]; exact d),h1]
       go_wp2_with fail;go_ret;exact⟨AM i.o,y.o⟩
     ·have G:l.take k=l:=Bz (by omega);have ar:¬((k:Int)<(l.length:Int)):=(by omega);have i:Hid (0=Au u m [(⟨f,g,l⟩:Lm)]):=Aa (by rw[q.o,r.o,<-G,n.o]);go_wp2_with fail;go_ret;exact⟨AM i.o,s.o⟩
theorem Xn (t:Lm) (v:Value) (u m:Int) (w:World) (X:Nat->Prop) (d:MV w X v t):
  Calls prog 83 #[v,zA u,zA m] w λe w'=>e=.returned (zA (BO u m t))/\Below w.heap.size w w':=by
 obtain⟨a,c,rfl,k⟩:=d;have d:MV w X (.agg (zE t a c)) t:=⟨a,c,rfl,k⟩;have f:Hid (Below w.heap.size w (w.alloc (zm t a c))):=(Ac _ _).alloc (Af _) _;have h:=Ab.new w (zE t a c) 24;go_in;by_cases h1:u<0
 ·have b:Hid (BO u m t=10):=Aa (by unfold BO;rw[Aq (Ad h1)]);go_wp2_with fail;go_ret;exact⟨AM b.o.symm,f.o⟩
 by_cases h2:40<u
 ·have b:Hid (BO u m t=10):=Aa (by unfold BO;rw[Aq (Ae h2)]);go_wp2_with fail;go_ret;exact⟨AM b.o.symm,f.o⟩
 go_wp2_with fail;refine(PD 200 (by omega) (by omega) t _ _ X (d.alloc _)).mono ?_;rintro e w1 ⟨rfl,i⟩;have g:=Aa (f.o.trans (i.mono (by simp)));have j:=Aa (h.below i h.lt);have t0:=j.o.c0;have t1:=j.o.c1;have t2:=j.o.c2;clear i h f;by_cases h3:200<Ai [t]
 ·have b:Hid (BO u m t=3):=Aa (by unfold BO;rw[Am (by omega),Aq h3]);have e:min (Ai [t]:Int) (200+1)=201:=by omega
  rw[e];go_wp2_with fail;go_ret;exact⟨AM b.o.symm,g.o⟩
 ·have b:Hid (BO u m t=Au u m [t]):=Aa (by unfold BO;rw[Am (by omega),Am h3]);have e:min (Ai [t]:Int) (200+1)=Ai [t]:=by omega
  rw[e];have hle:¬(200:Int)<(Ai [t]:Int):=by omega
  go_wp2_with fail;refine(Xm m t _ u _ X (d.later g.o) (by omega) (by omega)).mono ?_;rintro e w2 ⟨rfl,l⟩;go_wp2_with fail;go_ret;exact⟨AM b.o.symm,g.o.trans (l.mono g.o.size)⟩
theorem NT (t:Lm) (v:Value) (u:Int) (w:World) (X:Nat->Prop) (b:MV w X v t):
  Calls prog 71 #[v,zA u] w λe w'=>e=.returned (zA (BO u 0 t))/\Below w.heap.size w w':=by
 obtain⟨a,c,rfl,d⟩:=b;have b:MV w X (.agg (zE t a c)) t:=⟨a,c,rfl,d⟩;go_in;go_wp2_with fail;refine(Xn t _ u 0 _ X (b.alloc _)).mono ?_;rintro e w1 ⟨rfl,f⟩;go_wp2_with fail;go_ret;exact⟨rfl,((Ac _ _).alloc (Af _) _).trans (f.mono (by simp))⟩
theorem Jn {t:Lm} (h:Au u 0 [t]=0):(∃x,t=⟨1,x,[]⟩/\0<=x/\x<u)∨(∃b,t=⟨2,0,[b]⟩/\Au (u+1) 0 [b]=0)∨(∃f a,t=⟨3,0,[f,a]⟩/\Au u 0 [f]=0/\Au u 0 [a]=0)∨(∃x,t=⟨4,x,[]⟩/\0<=x/\x<40):=by
 obtain⟨k,x,l⟩:=t;have hk:AG u 0 k x l.length=0:=by
  apply Er;intro e;rw[D8 e]at h;exact e h
 have g:=He hk;rw[g]at h;unfold AG at hk;by_cases h1:k<1∨5<k
 ·rw[Aq h1]at hk; cases hk
 rw[Am h1]at hk;by_cases h2:l.length≠BF k
 ·rw[Aq h2]at hk; cases hk
 rw[Am h2]at hk;by_cases h3:x<0∨Bk u 0 k<=x
 ·rw[Aq h3]at hk; cases hk
 have hx:0<=x/\x<Bk u 0 k:=by omega
 have c:l.length=BF k:=by simpa using h2
 have hc:k=1∨k=2∨k=3∨k=4∨k=5:=by omega
 rcases hc with rfl|rfl|rfl|rfl|rfl
 ·left;simp[Bk]at hx;simp[BF]at c;subst c;exact⟨x,rfl,hx.1,hx.2⟩
 ·right; left;simp[Bk]at hx;simp[BF]at c;obtain⟨b,rfl⟩:=List.length_eq_one_iff.1 c;have:x=0:=by omega
  subst this;exact⟨b,rfl,by simpa [AR] using h⟩
 ·right; right; left;simp[Bk]at hx;simp[BF]at c;match l,c with
  | [f,a],_=>
   have:x=0:=(by omega);subst this;rw[LQ]at h;simp only[AR] at h;have e2:(3:Int)=2↔False:=(by simp);simp only[e2,if_false] at h;by_cases d:Au u 0 [f]=0
   ·rw[Aq d]at h;exact⟨f,a,rfl,d,h⟩
   ·rw[Am d]at h; exact absurd h d
 ·right; right; right;simp[Bk]at hx;simp[BF]at c;subst c;exact⟨x,rfl,hx.1,hx.2⟩
 ·simp[Bk]at hx;omega
theorem LU (n:Nat):(Lib.decDigits n).length<=n+1:=by
 induction n using Nat.strongRecOn with
 |ind n a=>
  rw[Lib.decDigits];by_cases h:n<10
  ·rw[dif_pos h]; simp
  ·rw[dif_neg h];have:=a (n / 10) (by omega);simp only[Ej,Cl,Ek];omega
def Ar (p:UInt8) (n:Nat):ByteArray:=⟨(p::Lib.decDigits n).toArray⟩
def AK (p:UInt8) (n:Nat):Tm:=⟨Ar p n,[]⟩
def Bu (a b:Tm):Tm:=⟨⟨#[102]⟩,[a,b]⟩
def D9:Tm:=⟨⟨#[]⟩,[]⟩
def En (p:UInt8) (k i:Int) (ar:List Tm) (n:Nat) (b:List Tm×List Pr×Nat):Tm×List Pr×Nat:=
 if k=1 then (ar.getD (ar.length-1-i.toNat) D9,[],n)
 else if k=2 then (Bu (AK p (n+1)) (b.1.getD 0 D9),b.2.1,b.2.2)
 else (AK p (b.2.2+1),b.2.1++[⟨b.1.getD 0 D9,Bu (b.1.getD 1 D9) (AK p (b.2.2+1))⟩],b.2.2+1)
def DW (p:UInt8) (k:Int) (ar:List Tm) (n:Nat):List Tm:=if k=2 then ar++[AK p (n+1)] else ar
def EM (k:Int) (n:Nat):Nat:=if k=2 then n+1 else n
def CT (p:UInt8):List Lm->List Tm->Nat->List Tm×List Pr×Nat
 | [],_,n=>([],[],n)
 | ⟨k,i,l⟩::r,ar,n=>
  ((En p k i ar n (CT p l (DW p k ar n) (EM k n))).1::(CT p r ar (En p k i ar n (CT p l (DW p k ar n) (EM k n))).2.2).1,
   (En p k i ar n (CT p l (DW p k ar n) (EM k n))).2.1++(CT p r ar (En p k i ar n (CT p l (DW p k ar n) (EM k n))).2.2).2.1,
   (CT p r ar (En p k i ar n (CT p l (DW p k ar n) (EM k n))).2.2).2.2)
def Az (p:UInt8) (t:Lm) (ar:List Tm) (n:Nat):Tm×List Pr×Nat:=En p t.kind t.idx ar n (CT p t.subs (DW p t.kind ar n) (EM t.kind n))
theorem LW (p:UInt8) (ar:List Tm) (n:Nat):CT p [] ar n=([],[],n):=by simp[CT]
theorem Kt (p:UInt8) (t:Lm) (r:List Lm) (ar:List Tm) (n:Nat):CT p (t::r) ar n=((Az p t ar n).1::(CT p r ar (Az p t ar n).2.2).1,(Az p t ar n).2.1++(CT p r ar (Az p t ar n).2.2).2.1,(CT p r ar (Az p t ar n).2.2).2.2):=by
 obtain⟨k,i,l⟩:=t;simp only[CT,Az]
theorem Jo (p:UInt8) (i:Int) (ar:List Tm) (n:Nat):Az p ⟨1,i,[]⟩ ar n=(ar.getD (ar.length-1-i.toNat) D9,[],n):=by simp[Az,En]
theorem IL (p:UInt8) (i:Int) (b:Lm) (ar:List Tm) (n:Nat):Az p ⟨2,i,[b]⟩ ar n=(Bu (AK p (n+1)) (Az p b (ar++[AK p (n+1)]) (n+1)).1,(Az p b (ar++[AK p (n+1)]) (n+1)).2.1,(Az p b (ar++[AK p (n+1)]) (n+1)).2.2):=by
 rw[Az];simp only[En,DW,EM,Am (show ¬(2:Int)=1 by decide),if_true,Kt,LW];simp
theorem Jp (p:UInt8) (i:Int) (f x:Lm) (ar:List Tm) (n:Nat):Az p ⟨3,i,[f,x]⟩ ar n=
  (AK p ((Az p x ar (Az p f ar n).2.2).2.2+1),(Az p f ar n).2.1++(Az p x ar (Az p f ar n).2.2).2.1++[⟨(Az p f ar n).1,Bu (Az p x ar (Az p f ar n).2.2).1 (AK p ((Az p x ar (Az p f ar n).2.2).2.2+1))⟩],(Az p x ar (Az p f ar n).2.2).2.2+1):=by
 rw[Az];simp only[En,DW,EM,Am (show ¬(3:Int)=1 by decide),Am (show ¬(3:Int)=2 by decide),Kt,LW];simp
def CU (s:ByteArray):ByteArray:=if s.data.toList.head? = some 84 then ⟨(86::s.data.toList.tail).toArray⟩ else s
theorem Fh (n:Nat):CU (Ar 84 n)=Ar 86 n:=by simp[CU,Ar]
theorem GM:CU ⟨#[102]⟩=⟨#[102]⟩:=by simp[CU]
theorem GN:CU ⟨#[]⟩=⟨#[]⟩:=by simp[CU]
def DX (s:ByteArray):Prop:=s=⟨#[]⟩∨s=⟨#[102]⟩∨∃n,s=Ar 84 n
theorem NU (p:UInt8) (n:Nat):Av (Ar p n)=Ig p.toNat:=by
 unfold Av Ih Ar;have h:0<(⟨(p::Lib.decDigits n).toArray⟩:ByteArray).size:=by simp[ByteArray.size]
 rw[dif_pos h];rfl
theorem NV:Ew DX CU where
 inj:=by
  rintro a b (rfl|rfl|⟨n,rfl⟩) (rfl|rfl|⟨m,rfl⟩) h
  ·rfl
  ·rw[GN,GM]at h; simp at h
  ·rw[GN,Fh]at h; simp[Ar] at h
  ·rw[GN,GM]at h; simp at h
  ·rfl
  ·rw[GM,Fh]at h; simp[Ar] at h
  ·rw[GN,Fh]at h; simp[Ar] at h
  ·rw[GM,Fh]at h; simp[Ar] at h
  ·rw[Fh,Fh]at h;simp[Ar]at h ⊢;exact h
 var:=by
  rintro a (rfl|rfl|⟨n,rfl⟩)
  ·rw[GN]
  ·rw[GM]
  ·rw[Fh,NU,NU]; rfl
 lt:=by
  have c:∀l:List UInt8,(⟨l.toArray⟩:ByteArray).toList=l:=λl=>by rw[GW]
  have h0:(⟨#[]⟩:ByteArray).toList=[]:=c [];have h1:(⟨#[102]⟩:ByteArray).toList=[102]:=c [102];rintro a b (rfl|rfl|⟨n,rfl⟩) (rfl|rfl|⟨m,rfl⟩)
  ·rfl
  ·rw[GN,GM]
  ·rw[GN,Fh];unfold CC Ar;simp only[c,h0,h1];simp[Op.bytesLess]
  ·rw[GN,GM]
  ·rfl
  ·rw[GM,Fh];unfold CC Ar;simp only[c,h0,h1];simp[Op.bytesLess]
  ·rw[GN,Fh];unfold CC Ar;simp only[c,h0,h1];simp[Op.bytesLess]
  ·rw[GM,Fh];unfold CC Ar;simp only[c,h0,h1];simp[Op.bytesLess]
  ·rw[Fh,Fh];unfold CC Ar;rw[c,c,c,c];simp[Op.bytesLess]
theorem NW (n:Nat):Cd CU (AK 84 n)=AK 86 n:=by simp[Cd,AK,Fh,Cy]
theorem QU (a b:Tm):Cd CU (Bu a b)=Bu (Cd CU a) (Cd CU b):=by simp[Cd,Bu,GM,Gp,Cy]
theorem Xo:Cd CU D9=D9:=by simp[Cd,D9,GN,Cy]
theorem NX (l:List Tm) (i:Nat):(l.map (Cd CU)).getD i D9=Cd CU (l.getD i D9):=by
 rw[GD,GD,List.getElem?_map];cases l[i]? with
 |none=>exact Xo.symm
 |some x=>rfl
theorem Xp (l:List Lm):∀(ar:List Tm) (n:Nat),CT 86 l (ar.map (Cd CU)) n=((CT 84 l ar n).1.map (Cd CU),(CT 84 l ar n).2.1.map (Gn CU),(CT 84 l ar n).2.2):=by
 induction l using Lm.indL with
 |h0=>intro ar n; simp[CT]
 |h k i l r a b=>
  intro ar n;have e1:DW 86 k (ar.map (Cd CU)) n=(DW 84 k ar n).map (Cd CU):=by
   unfold DW;split
   ·simp[NW]
   ·rfl
  have e2:En 86 k i (ar.map (Cd CU)) n (CT 86 l (DW 86 k (ar.map (Cd CU)) n) (EM k n))=(Cd CU (En 84 k i ar n (CT 84 l (DW 84 k ar n) (EM k n))).1,(En 84 k i ar n (CT 84 l (DW 84 k ar n) (EM k n))).2.1.map (Gn CU),(En 84 k i ar n (CT 84 l (DW 84 k ar n) (EM k n))).2.2):=by
   rw[e1,a];unfold En;split
   ·simp only[NX,GH,H4]
   ·split
    ·simp only[NX,QU,NW]
    ·simp only[NX,NW,Db,CB,H4,Gn,QU]
  simp only[CT];rw[e2,b];simp
theorem QW (t:Lm) (n:Nat):Az 86 t [] n=(Cd CU (Az 84 t [] n).1,(Az 84 t [] n).2.1.map (Gn CU),(Az 84 t [] n).2.2):=by
 have h:=Xp [t] [] n;rw[H4,Kt,Kt]at h;simp only[LW,List.append_nil] at h;have h1:=Dt (λx=>x.1.getD 0 D9) h;have h2:=Dt (λx=>x.2.1) h;have h3:=Dt (λx=>x.2.2) h;simp at h1 h2 h3;exact Prod.ext h1 (Prod.ext h2 h3)
theorem LX (n:Nat):AW DX [AK 84 n]:=AW.one.2 ⟨Ae (Ae ⟨n,rfl⟩),AW.nil⟩
theorem QY {a b:Tm} (c:AW DX [a]) (hb:AW DX [b]):AW DX [Bu a b]:=AW.one.2 ⟨Ae (Ad rfl),AW.cons.2 ⟨(AW.one.1 c).1,(AW.one.1 c).2,hb⟩⟩
theorem LZ (h:AW DX l) (i:Nat):AW DX [l.getD i D9]:=by
 rw[GD];cases hq:l[i]? with
 |none=>exact AW.one.2 ⟨Ad rfl,AW.nil⟩
 |some x=>exact AW.all.1 h x (List.mem_of_getElem? hq)
theorem Xq {x:Tm} (h:AW DX l) (hx:AW DX [x]):AW DX (l++[x]):=AW.all.2 λt ht=>by
 rcases BN.1 ht with h1|h1
 ·exact AW.all.1 h t h1
 ·rw[GC.1 h1]; exact hx
theorem Xr (l:List Lm):∀(ar:List Tm) (n:Nat),AW DX ar->AW DX (CT 84 l ar n).1/\Hd DX (CT 84 l ar n).2.1:=by
 induction l using Lm.indL with
 |h0=>intro ar n _; simp only[CT]; exact⟨AW.nil,λp hp=>by simp at hp⟩
 |h k i l r b c=>
  intro ar n a;have d:AW DX (DW 84 k ar n):=by
   unfold DW;split
   ·exact Xq a (LX _)
   ·exact a
  have h1:=b _ (EM k n) d;have h2:AW DX [(En 84 k i ar n (CT 84 l (DW 84 k ar n) (EM k n))).1]/\Hd DX (En 84 k i ar n (CT 84 l (DW 84 k ar n) (EM k n))).2.1:=by
   unfold En;split
   ·exact⟨LZ a _,λp hp=>by simp at hp⟩
   ·split
    ·exact⟨QY (LX _) (LZ h1.1 _),h1.2⟩
    ·refine⟨LX _,λp hp=>?_⟩;rcases BN.1 hp with h|h
     ·exact h1.2 p h
     ·rw[GC.1 h];exact⟨LZ h1.1 _,QY (LZ h1.1 _) (LX _)⟩
  have h3:=c ar (En 84 k i ar n (CT 84 l (DW 84 k ar n) (EM k n))).2.2 a;simp only[CT];refine⟨AW.cons.2 ⟨(AW.one.1 h2.1).1,(AW.one.1 h2.1).2,h3.1⟩,λp hp=>?_⟩;rcases BN.1 hp with h|h
  ·exact h2.2 p h
  ·exact h3.2 p h
theorem Xs (t:Lm) (n:Nat):AW DX [(Az 84 t [] n).1]/\Hd DX (Az 84 t [] n).2.1:=by
 have h:=Xr [t] [] n AW.nil;rw[Kt]at h;simp only[LW,List.append_nil] at h;exact h
def Bj:List Lm->Bool
 | []=>false
 | ⟨k,_,l⟩::r=>((k==4)||Bj l)||Bj r
theorem IM (t:Lm) (r:List Lm):Bj (t::r)=(Bj [t]||Bj r):=by
 obtain⟨k,i,l⟩:=t;simp[Bj]
theorem L0:∀l:List Lm,Bj l=l.any λt=>Bj [t]
 | []=>by simp[Bj]
 |t::r=>by rw[IM,L0 r]; rfl
theorem Ea (k i:Int) (l:List Lm):Bj [⟨k,i,l⟩]=((k==4)||Bj l):=by simp[Bj]
def Ma (n:Nat):List UInt8:=if n<10 then [UInt8.ofNat (48+n)] else [UInt8.ofNat (48+n / 10),UInt8.ofNat (48+n % 10)]
theorem Xt (h:n<100):Lib.decDigits n=Ma n:=by
 unfold Ma;split
 ·rename_i h1; exact Lib.decDigits_one h1
 ·rename_i h1; exact Lib.decDigits_two h1 h
theorem QZ:∀n<100,Ff ⟨(84::Ma n).toArray⟩=true/\Ff ⟨(86::Ma n).toArray⟩=true:=by decide +kernel
theorem Xu {p:UInt8} (hp:p=84∨p=86) (h:n<100):Ff (Ar p n)=true:=by
 unfold Ar;rw[Xt h];rcases hp with rfl|rfl
 ·exact(QZ n h).1
 ·exact(QZ n h).2
theorem Mb {p:UInt8} (hp:p=84∨p=86) (h:n<100):As [AK p n]=0:=by simp[AK,As,Xu hp h]
theorem Q7 {a b:Tm} (c:As [a]=0) (hb:As [b]=0):As [Bu a b]=0:=by
 have h1:Ff ⟨#[102]⟩=true:=by decide
 have h2:Av ⟨#[102]⟩=false:=by decide
 have h3:As [a,b]=0:=by rw[Nw,Aq c,hb]
 simp[Bu,As,h1,h2,h3]
theorem NY (a b:Tm):Ah [Bu a b]=1+(Ah [a]+Ah [b]):=by
 have:=Gf [a] [b];simp only[Dj,Gy] at this;simp only[Bu,Ah,this];omega
theorem Mc (p:UInt8) (n:Nat):Ah [AK p n]=1:=by simp[AK,Ah]
theorem Ik (k i:Int) (l:List Lm):Ai [⟨k,i,l⟩]=1+Ai l:=by simp[Ai]
theorem Md (a b:Lm):Ai [a,b]=Ai [a]+Ai [b]:=Ki [a] [b]
def Me (ar:List Tm):Prop:=∀a∈ar,As [a]=0/\Ah [a]=1
theorem Me.snoc {p:UInt8} (hp:p=84∨p=86) (h:n<100) {ar:List Tm} (b:Me ar):Me (ar++[AK p n]):=λa h1=>by
 rcases BN.1 h1 with h2|h2
 ·exact b a h2
 ·rw[GC.1 h2]; exact⟨Mb hp h,Mc p n⟩
structure Xv (t:Lm) (n:Nat) (r:Tm×List Pr×Nat):Prop where
 cnt:r.2.2<=n+Ai [t]
 le:n<=r.2.2
 few:2*r.2.1.length+1<=Ai [t]
 err:As [r.1]=0
 size:Ah [r.1]<=2*Ai [t]
 eqs:∀q∈r.2.1,(As [q.l]=0/\Ah [q.l]<=2*Ai [t])/\As [q.r]=0/\Ah [q.r]<=2*Ai [t]+2
theorem NZ {p:UInt8} (hp:p=84∨p=86) (t:Lm):∀(ar:List Tm) (n:Nat),Au ar.length 0 [t]=0->Bj [t]=false->Me ar->n+Ai [t]<100->Xv t n (Az p t ar n):=by
 induction t using Lm.ind with
 |h k i l j=>
  intro ar n he hc g hn;rcases Jn he with ⟨x,e,h1,h2⟩|⟨b,e,hb⟩|⟨f,a,e,v,hx⟩|⟨x,e,_,_⟩
  ·cases e;rw[Jo];have m:ar.length-1-i.toNat<ar.length:=(by omega);have y:ar.getD (ar.length-1-i.toNat) D9=ar[ar.length-1-i.toNat]:=by
    rw[GD,GA m]; rfl
   have h3:=g _ (Bv m);have hz:Ai [(⟨1,i,[]⟩:Lm)]=1:=(by simp[Ai]);rw[y];exact⟨by rw[hz]; simp,by simp,by rw[hz]; simp,h3.1,by rw[hz,h3.2]; simp,λq hq=>by simp at hq⟩
  ·cases e;rw[IL];have z:Bj [b]=false:=by rw[Ea] at hc; simpa using hc
   have hz:=Ik 2 0 [b];have A:((ar++[AK p (n+1)]).length:Int)=(ar.length:Int)+1:=(by simp);have h:=j b (by simp) (ar++[AK p (n+1)]) (n+1) (by rw[A]; exact hb) z (g.snoc hp (by omega)) (by omega);refine⟨by have:=h.cnt; simp only; omega,by have:=h.le; simp only; omega,by have:=h.few; simp only; omega,Q7 (Mb hp (by omega)) h.err,by rw[NY,Mc,hz]; have:=h.size; omega,λq hq=>?_⟩;obtain⟨⟨c,o⟩,d,r⟩:=h.eqs q hq;exact⟨⟨c,by omega⟩,d,by omega⟩
  ·cases e;rw[Jp];have s:Bj [f]=false/\Bj [a]=false:=by
    rw[Ea,IM]at hc;simpa using hc
   have hz:Ai [(⟨3,0,[f,a]⟩:Lm)]=1+(Ai [f]+Ai [a]):=(by rw[Ik,Md]);have h1:=j f (by simp) ar n v s.1 g (by omega);have hm:=h1.cnt;have h2:=j a (by simp) ar (Az p f ar n).2.2 hx s.2 g (by omega);have u:(Az p a ar (Az p f ar n).2.2).2.2+1<100:=by have:=h2.cnt; omega
   have ad:1<=Ai [f]:=by obtain⟨k,x,l⟩:=f; simp[Ai]
   have ae:1<=Ai [a]:=by obtain⟨k,x,l⟩:=a; simp[Ai]
   refine⟨by have:=h2.cnt; simp only; omega,by have:=h2.le; have:=h1.le; simp only; omega,by have:=h1.few; have:=h2.few; simp only[Ej,List.length_singleton]; omega,Mb hp u,by rw[Mc]; omega,λq hq=>?_⟩;rcases BN.1 hq with hq|hq
   ·rcases BN.1 hq with hq|hq
    ·obtain⟨⟨c,o⟩,d,r⟩:=h1.eqs q hq;exact⟨⟨c,by omega⟩,d,by omega⟩
    ·obtain⟨⟨c,o⟩,d,r⟩:=h2.eqs q hq;exact⟨⟨c,by omega⟩,d,by omega⟩
   ·rw[GC.1 hq];refine⟨⟨h1.err,by have:=h1.size; simp only; omega⟩,Q7 h2.err (Mb hp u),?_⟩;simp only;rw[NY,Mc];have:=h2.size;omega
  ·cases e;rw[Ea]at hc;simp at hc
theorem Xw {ls:List Pr} (hl:ls.length<=40) (h:∀p∈ls,FL p.l=0/\FL p.r=0):Gj ls=0:=by
 unfold Gj;rw[Am (by omega)];have key:∀k,Fg ls k=0:=λk=>by
  induction k with
  |zero=>rfl
  |succ k a=>
   rw[Fg,Aq a];cases hq:ls[k]? with
   |none=>rfl
   |some p=>have h1:=h p (List.mem_of_getElem? hq);simp[LB,h1.1,h1.2]
 exact key _
theorem Ra (h:As [t]=0) (hz:Ah [t]<=200):FL t=0:=by
 unfold FL;rw[Am (by omega)];exact h
theorem Mf {p:UInt8} (hp:p=84∨p=86) {t:Lm} (he:Au 0 0 [t]=0) (hc:Bj [t]=false) (hz:Ai [t]<=60):Gj (Az p t [] 0).2.1=0:=by
 have h:=NZ hp t [] 0 he hc (λa b=>by simp at b) (by omega);refine Xw (by have:=h.few; omega) λq hq=>?_;obtain⟨⟨c,q2⟩,d,q4⟩:=h.eqs q hq;exact⟨Ra c (by omega),Ra d (by omega)⟩
structure Ex (B:Nat) (w w':World):Prop where
 os:w'.os=w.os
 tape:w'.tape=w.tape
 output:w'.output=w.output
 size:w.heap.size<=w'.heap.size
 block:∀k,k<w.heap.size->k≠B->w'.heap[k]? = w.heap[k]?
theorem Ex.refl (B:Nat) (w:World):Ex B w w:=⟨rfl,rfl,rfl,Af _,λ_ _ _=>rfl⟩
theorem Ex.trans {b c:World} (h:Ex B a b) (k:Ex B b c):Ex B a c:=
 ⟨k.os.trans h.os,k.tape.trans h.tape,k.output.trans h.output,AJ h.size k.size,λi hi d=>(k.block i (Ce hi h.size) d).trans (h.block i hi d)⟩
theorem Ex.drewN (h:Ex B a w) (n:Nat):Ex B a (w.drewN n):=⟨h.os,h.tape,h.output,h.size,h.block⟩
theorem Ex.drew (h:Ex B a w):Ex B a w.drew:=⟨h.os,h.tape,h.output,h.size,h.block⟩
theorem Ex.set (h:Ex B a w) (i:Nat) (v:Value):Ex B a (w.setCell (zD B i) v):=
 ⟨h.os,h.tape,h.output,by simpa [World.setCell] using h.size,λk hk b=>(Ak _ _ _ _ (by simpa using b)).trans (h.block k hk b)⟩
theorem Ex.alloc (h:Ex B a w) (o:Obj):Ex B a (w.alloc o):=
 ⟨h.os,h.tape,h.output,by have:=h.size; simp; omega,λk hk b=>(BL _ _ _ (Ce hk h.size)).trans (h.block k hk b)⟩
theorem Ab.ex (h:Ab w b cs T) (he:Ex B w w') (a:b≠B):Ab w' b cs T:=by
 unfold Ab at *;rw[he.block b (Ab.lt h) a]; exact h
theorem Ex.mid (h:Ex B w w1):∃a,Below a.heap.size a w1/\a.heap.size=w.heap.size/\Ex B w a:=by
 by_cases b:B<w.heap.size
 ·have c:B<w1.heap.size:=Ce b h.size;refine⟨{ w with heap:=w.heap.setIfInBounds B w1.heap[B]},⟨h.os,h.tape,h.output,by simpa using h.size,λk hk=>?_⟩,by simp,⟨rfl,rfl,rfl,by simp,λk hk d=>?_⟩⟩
  ·simp at hk;by_cases e:k=B
   ·subst e;simp[Array.getElem?_setIfInBounds,b,c]
   ·rw[h.block k hk e];simp[Array.getElem?_setIfInBounds,Ne.symm e]
  ·simp[Array.getElem?_setIfInBounds,Ne.symm d]
 ·exact⟨w,⟨h.os,h.tape,h.output,h.size,λk hk=>h.block k hk (by omega)⟩,rfl,Ex.refl _ _⟩
theorem Cp.ex {N:Nat} (h:Cp w N T Y v l xs) (he:Ex B w w') (hB:B<N) (c:¬Y B):Cp w' N T Y v l xs:=
 ⟨h.own.kept (w' := w') (row := some B) ⟨he.os, he.tape, he.output, he.size, λj d f => he.block j d (λe => f (by rw [e]))⟩ (Ae (λe => by have := (h.own.lt B e).1; omega)),
  h.row.imp λa l g=>((g.mono (Y:=λb=>(Y b∨(N<=b/\some b≠v.ownBlock))/\b<w.heap.size) λb h1 h2=>⟨h1,h2⟩).kept λb hb=>he.block b hb.2 (λe=>by
   rcases hb.1 with h1|h1
   ·rw[e]at h1; exact c h1
   ·omega)).mono λb hb _=>hb.1⟩
theorem Ex.grown {row:Option Nat} (h:Ex B a w) (b:w.grownBy w' row) (c:∀k,row=some k->a.heap.size<=k):Ex B a w':=
 ⟨b.os.trans h.os,b.tape.trans h.tape,b.output.trans h.output,AJ h.size b.size,λk hk d=>(b.block k (Ce hk h.size) (λe=>by have:=c k e.symm; omega)).trans (h.block k hk d)⟩
theorem Ex.setNew (h:Ex B a w) (hb:a.heap.size<=b) (i:Nat) (v:Value):Ex B a (w.setCell (zD b i) v):=
 ⟨h.os,h.tape,h.output,by simpa [World.setCell] using h.size,λk hk c=>(Ak _ _ _ _ (by simp; omega)).trans (h.block k hk c)⟩
def GO (w:World) (F:Nat) (sv:Value) (t:Tm) (n:Nat) (e:Ending) (w':World):Prop:=
 ∃(s':ByteArray) (a':Option Addr) (l' c':Nat) (m:Int),e=.returned (.agg #[.string s',.slice a' l' c'])/\Ab w' F #[zA m,sv] 144/\Ex F w w'/\(Ah [t]<=n->m=(n:Int)-Ah [t]/\s'=t.name/\l'=t.args.length/\Sl w' (λb=>w.heap.size<=b) a' t.args)/\(n<Ah [t]->m=-1)
theorem Xx (F:Nat) (g:Value) (t:Tm) (n:Nat) (a:Option Addr) (c:Nat) (w:World) (af:F<w.heap.size) (h:Calls prog 122 #[zC F,.agg (zG t a c),.func (.func 123) #[zC F] #[]] ((w.alloc (zh t a c)).alloc zd) λe w'=>GO ((w.alloc (zh t a c)).alloc zd) F g t n e w'):
  Calls prog 123 #[zC F,.agg (zG t a c)] w λe w'=>GO w F g t n e w':=by
 have ag:=@hmq prog;have H:=Aa h;clear h;go_in;go_wp2_with fail;refine H.o.mono ?_;rintro e w1 ⟨s',i,l',c',m,rfl,j,d,k,l⟩;have f:Hid (Ab w1 (w.heap.size+1) ze 61):=Aa (by have h:=(Ab.new (w.alloc (zh t a c)) ze 61).ex d (by simp; omega);simpa using h);have q:=Aa ((((Ex.refl F w).alloc (zh t a c)).alloc zd).trans d);have r:=Aa j;have s:=Aa k;have u:=Aa l;clear j d k l;have x:=f.o.c0;have y:=f.o.c1;have rf:=f.o.frozen;go_wp2_with fail;refine Ao (v:=.agg #[.string s',.slice i l' c']) (by simp[results,results123,go_sem,AL,AE,x,y]) rfl ?_;refine⟨s',i,l',c',m,rfl,(r.o.setOther _ _ (by omega)).setOther _ _ (by omega),(q.o.setNew (by omega) _ _).setNew (by omega) _ _,λh=>?_,u.o⟩;obtain⟨h1,h2,h3,z⟩:=s.o h;refine⟨h1,h2,h3,(z.kept λb hb=>?_).mono λb hb _=>by simp at hb; omega⟩;simp at hb;rw[Ak _ _ _ _ (by simp; omega),Ak _ _ _ _ (by simp; omega)]
theorem Sl.ex {a:Option Addr} (h:Sl w X a l) (he:Ex F w w') (c:∀b,X b->b≠F):Sl w' X a l:=
 ((h.mono (Y:=λb=>X b/\b<w.heap.size) λb h1 h2=>⟨h1,h2⟩).kept λb hb=>he.block b hb.2 (c b hb.1)).mono λb hb _=>hb.1
def Jq (w:World) (F O:Nat) (s:ByteArray) (u:Value) (cF:Array Value) (wr:World):Prop:=
 Ex F w wr/\Ab wr (w.heap.size+1) ze 61/\Ab wr O #[.string s,u] 61/\Ab wr F cF 144/\O<wr.heap.size
theorem Mg {s:ByteArray} {u:Value} {i g:Array Value} {a:Obj} (af:F<w.heap.size) (hO:w.heap.size+2<=O) (h:Jq w F O s u i wr) (hu:∀k,u.ownBlock=some k->O+1<=k)
  (d:Ex F wr w1) (j:Ab w1 F g 144) (c:(w1.alloc a).grownBy w3 u.ownBlock):Jq w F O s v g (w3.setCell (zD O 1) v):=by
 obtain⟨h1,h2,h3,h4,h5⟩:=h;have f:∀b,b<O+1->some b≠u.ownBlock:=λb hb e=>by have:=hu b e.symm; omega
 have ag:=d.size;have l:=c.size;simp at l;refine⟨(((h1.trans d).alloc a).grown c (λk hk=>by have:=hu k hk; omega)).setNew (by omega) _ _,?_,?_,?_,by simp[World.setCell]; omega⟩
 ·exact(((h2.ex d (by omega)).alloc a).grown c (f _ (by omega))).setOther _ _ (by omega)
 ·exact(((h3.ex d (by omega)).alloc a).grown c (f _ (by omega))).set 1 _
 ·exact((j.alloc a).grown c (f _ (by omega))).setOther _ _ (by omega)
theorem Rb {u:Value} {L:List Tm} {a:Obj} {s':ByteArray} {d c1 g cap:Nat} (ai:F<O) (hOr:O<wr.heap.size) (e:Cp wr (O+1) 61 (λ_=>False) u L xs)
  (f:Ex F wr w1) (ht:TV w1 (λb=>wr.heap.size<=b) (.agg #[.string s',.slice c d c1]) t)
  (i:w3.ownsRow (O+1) 61 2 (.slice (some (zD g 0)) (L.length+1) cap) (L.length+1) (xs++[.string s',.slice c d c1])) (j:(w1.alloc a).grownBy w3 u.ownBlock) (k:u.ownBlock=some g∨g=(w1.alloc a).heap.size):
  Cp (w3.setCell (zD O 1) (.slice (some (zD g 0)) (L.length+1) cap)) (O+1) 61 (λ_=>False) (.slice (some (zD g 0)) (L.length+1) cap) (L++[t]) (xs++[.string s',.slice c d c1]):=by
 obtain⟨wm,l,aj,m⟩:=f.mid;have n:=e.ex m (by omega) (λh=>h);exact(n.push (w1:=w1) (w2:=w1.alloc a) (w3:=w3) (by omega) (λ_ h=>h.elim) l (ht.mono λb h _=>Ae (by omega)) a rfl i j k).setCell (by omega) (λh=>h) _
def Rc (w:World) (F O:Nat) (s:ByteArray) (sv:Value) (l:List Tm) (n:Nat) (i:Value) (wr:World):Prop:=
 ∃(k:Nat) (u:Value),k<=l.length/\i=zA k/\
  ((∃(m:Nat) (xs:List Value),(m:Int)=(n:Int)-1-Ah (l.take k)/\Jq w F O s u #[zA m,sv] wr/\Cp wr (O+1) 61 (λ_=>False) u (l.take k) xs)∨
   (n<1+Ah l/\Jq w F O s u #[zA (-1),sv] wr/\∃a9 l9 c9,u=.slice a9 l9 c9))
theorem Mh (F:Nat) (A:Value) (t:Tm):∀(n:Nat) (v:Value) (w:World) (X:Nat->Prop),TV w X v t->(∀b,X b->b≠F)->n<=1000000->Ab w F #[zA n,A] 144->
  Calls prog 122 #[zC F,v,.func (.func 123) #[zC F] #[]] w λe w'=>GO w F A t n e w':=by
 induction t using Tm.ind with
 |h s l ih=>
  intro n v w X hv aC hn hF;obtain⟨a,c,rfl,U⟩:=hv;have IH:=Aa ih;clear ih;obtain⟨i0,aD,aE,aF,aG⟩:=Dw Tryz.infoTerm;have f0:∀o,(w.alloc o).cell? (zD F 0)=some (zA n):=λo=>(hF.alloc o).cell 0;have ff:∀o,(w.alloc o).frozen? (zD F 0)=false:=λo=>(hF.alloc o).frozen 0;have aH:F<w.heap.size:=hF.lt;go_in;go_wp2_with fail;have E3:Hid (Jq w F (w.heap.size+1+1) s zB #[zA ((n:Int)-1),A] ((((w.setCell (zD F 0) (zA ((n:Int)-1))).alloc (zp #[.string s,.slice a l.length c] 61)).alloc zd).alloc (zp #[.string s,zB] 61))):=by
   refine⟨((((Ex.refl F w).set 0 _).alloc _).alloc _).alloc _,?_,?_,(((hF.set 0 _).alloc _).alloc _).alloc _,by simp[World.setCell]⟩
   ·have h:=(Ab.new ((w.setCell (zD F 0) (zA ((n:Int)-1))).alloc (zp #[.string s,.slice a l.length c] 61)) ze 61).alloc (zp #[.string s,zB] 61);simpa [World.setCell] using h
   ·have h:=Ab.new (((w.setCell (zD F 0) (zA ((n:Int)-1))).alloc (zp #[.string s,.slice a l.length c] 61)).alloc zd) #[.string s,zB] 61;simpa [World.setCell] using h
  generalize ((((w.setCell (zD F 0) (zA ((n:Int)-1))).alloc (zp #[.string s,.slice a l.length c] 61)).alloc zd).alloc (zp #[.string s,zB] 61))=w3 at *;generalize aK:w.heap.size+1+1=O at *;have hO:w.heap.size+2<=O:=by omega
  clear aK;clear f0 ff;have HS:=Aa U;have hl:=U.1;have V:=Aa aC;have hz:Ah [(⟨s,l⟩:Tm)]=1+Ah l:=by simp[Ah]
  clear U aC;go_loopw [23] (λi wr=>Rc w F O s A l n i wr) (λi wr=>l.length-(intOf i).toNat);case atStart=>
   refine⟨0,zB,Bp _,rfl,?_⟩;by_cases aL:n=0
   ·subst aL;exact Ae ⟨by omega,E3.o,none,0,0,rfl⟩
   ·refine Ad ⟨n-1,[],by simp[Ah]; omega,?_,Cp.start _ _ _ _⟩;rw[show((n-1:Nat):Int)=(n:Int)-1 by omega];exact E3.o
  case round=>
   obtain⟨k,u,hk,rfl,ak⟩:=hrel;rcases ak with ⟨m,xs,hm,H,al⟩|⟨aM,H,a9,I,c9,rfl⟩
   ·have d:=Aa H;have z:=Aa al;have ar:=Aa hm;clear H al;by_cases D:k<l.length
    ·obtain⟨b,o,r,c',rfl,d0,d1,hx⟩:=(HS.o.ex d.o.1 V.o).get (Ac _ _) (λ_ _ h=>h) k D;obtain⟨av,cv,ev,aN⟩:=hx;simp at ev;obtain⟨rfl,rfl⟩:=ev;have aO:m<=1000000:=(by omega);have G:Hid (O≠F):=Aa (by omega);have an:Hid (F<O+1):=Aa (by omega);have hlen:=Ie l;have W:(l.take k).length=k:=by simp; omega
     have aU:k<=1000000:=by have h1:=Ie (l.take k); rw[W] at h1; omega
     have N:Hid ((l.take k).length+1<=maxLen/\((l.take k).length+1)*40<=140737488355328):=Aa (by rw[W];exact⟨by unfold maxLen; omega,by omega⟩);clear W;have P:Hid (Calls prog 123 #[zC F,.agg (zG l[k] r c')] (wr.alloc (zh l[k] r c')).drew λe y=>GO (wr.alloc (zh l[k] r c')).drew F A l[k] m e y):=Xx F A l[k] m r c' _ (by have:=d.o.1.size; simp; omega) (IH.o l[k] (Bv D) m _ _ X ⟨r,c',rfl,((aN.later ((Ac _ _).alloc (Af _) (zh l[k] r c'))).later ((Ac _ _).drew)).later (((Ac _ _).alloc (Af _) _).alloc (by simp) _)⟩ V.o aO (by exact((((d.o.2.2.2.1.alloc _).drewN 1).alloc _).alloc _)));have f0:∀o,(wr.alloc o).cell? (zD F 0)=some (zA m):=λo=>(d.o.2.2.2.1.alloc o).cell 0;have Y:∀o,(wr.alloc o).cell? (zD O 1)=some u:=λo=>(d.o.2.2.1.alloc o).cell 1;have aV:¬(m:Int)<0:=(by omega);by_cases hle:Ah [l[k]]<=m
     ·have Z:Hid (Calls prog 123 #[zC F,.agg (zG l[k] r c')] (wr.alloc (zh l[k] r c')).drew λe y=>∃q c1,e=.returned (.agg (zG l[k] q c1))/\Ab y F #[zA ((m:Int)-Ah [l[k]]),A] 144/\Ex F wr y/\Sl y (λb=>wr.heap.size<=b) q l[k].args):=P.o.mono λe y hp=>by
       obtain⟨s1,q,l1,c1,m1,h1,h2,h3,h4,_⟩:=hp;obtain⟨rfl,rfl,rfl,h5⟩:=h4 hle;exact⟨q,c1,h1,h2,(((Ex.refl F wr).alloc _).drew).trans h3,h5.mono λb hb _=>by simp at hb; omega⟩
      clear P;go_wp2_with fail;go_region_law (first
       | (go_simp; go_at_call 123; refine Z.o.mono ?_; rintro e w1 ⟨q,c1,rfl,J,f,aI⟩; have a6:∀o,(w1.alloc o).cell? (zD O 1)=some u:=λo=>((Ab.ex d.o.2.2.1 f G.o).alloc o).cell 1; have a7:w1.cell? (zD O 1)=some u:=(Ab.ex d.o.2.2.1 f G.o).cell 1)
       | (refine step_append_lies _ rfl _ _ 59 rfl (O+1) 61 i0 _ 2 40 underlying59 aD aE aF aG rfl (by decide) u (l.take k).length xs rfl (by exact(Cp.ex (B:=F) z.o f an.o (λh=>h)).own.alloc _) (zD w1.heap.size 0) 1 1 [.string l[k].name,.slice q l[k].args.length c1] rfl rfl (cell_two_new _ _ _ _) (λx hx=>by simp at hx; rcases hx with rfl|rfl<;>rfl) (by decide) N.o.1 N.o.2 (by have:=f.size; have:=d.o.2.2.2.2; simp; omega) _ rfl ?_; intro g cap w3 R C T ah; have E:=Aa (((Ab.ex d.o.2.2.1 f G.o).alloc _).grown C (z.o.ne (DC _))); have a8:w3.cell? (zD O 1)=some u:=E.o.cell 1; have aA:=E.o.frozen 1))
      all_goals
       have HK:=Aa (Mg (v:=.slice (some (zD g 0)) ((l.take k).length+1) cap) aH hO d.o (λj hj=>(z.o.own.lt j hj).1) f J C);have aP:=Aa (Rb (by omega) d.o.2.2.2.2 z.o f ⟨q,c1,rfl,aI⟩ R C T);clear R C T a6 a7 a8 aA E J f aI ah;go_wp2_with fail;go_roundw
       case rel=>
        have aB:(l.take k).length=k:=by simp; omega
        have h1:=HK.o;have h2:=aP.o;have aJ:=ar.o;simp only[aB] at h1 h2;refine⟨k+1,.slice (some (zD g 0)) (k+1) cap,by omega,by go_num,Ad ⟨m-Ah [l[k]],xs++[.string l[k].name,.slice q l[k].args.length c1],by rw[Id l k D]; omega,?_,?_⟩⟩
        ·rw[show((m-Ah [l[k]]:Nat):Int)=(m:Int)-Ah [l[k]] by omega];exact h1
        ·rw[CI D];exact h2
       case measure=>simp[intOf]; omega
     ·have Z:Hid (Calls prog 123 #[zC F,.agg (zG l[k] r c')] (wr.alloc (zh l[k] r c')).drew λe y=>∃s1 q l1 c1,e=.returned (.agg #[.string s1,.slice q l1 c1])/\Ab y F #[zA (-1),A] 144/\Ex F wr y):=P.o.mono λe y hp=>by
       obtain⟨s1,q,l1,c1,m1,h1,h2,h3,_,h4⟩:=hp;obtain rfl:=h4 (by omega);exact⟨s1,q,l1,c1,h1,h2,(((Ex.refl F wr).alloc _).drew).trans h3⟩
      clear P;go_wp2_with fail;go_region_law (first
       | (go_simp; go_at_call 123; refine Z.o.mono ?_; rintro e w1 ⟨s1,q,l1,c1,rfl,J,f⟩; have a6:∀o,(w1.alloc o).cell? (zD O 1)=some u:=λo=>((Ab.ex d.o.2.2.1 f G.o).alloc o).cell 1; have a7:w1.cell? (zD O 1)=some u:=(Ab.ex d.o.2.2.1 f G.o).cell 1)
       | (refine step_append_lies _ rfl _ _ 59 rfl (O+1) 61 i0 _ 2 40 underlying59 aD aE aF aG rfl (by decide) u (l.take k).length xs rfl (by exact(Cp.ex (B:=F) z.o f an.o (λh=>h)).own.alloc _) (zD w1.heap.size 0) 1 1 [.string s1,.slice q l1 c1] rfl rfl (cell_two_new _ _ _ _) (λx hx=>by simp at hx; rcases hx with rfl|rfl<;>rfl) (by decide) N.o.1 N.o.2 (by have:=f.size; have:=d.o.2.2.2.2; simp; omega) _ rfl ?_; intro g cap w3 R C T ah; have E:=Aa (((Ab.ex d.o.2.2.1 f G.o).alloc _).grown C (z.o.ne (DC _))); have a8:w3.cell? (zD O 1)=some u:=E.o.cell 1; have aA:=E.o.frozen 1))
      all_goals
       have HK:=Aa (Mg (v:=.slice (some (zD g 0)) ((l.take k).length+1) cap) aH hO d.o (λj hj=>(z.o.own.lt j hj).1) f J C);clear R C T a6 a7 a8 aA E J f ah;go_wp2_with fail;go_roundw
       case rel=>
        have aB:(l.take k).length=k:=by simp; omega
        have h0:=HK.o;have aJ:=ar.o;simp only[aB] at h0;refine⟨k+1,.slice (some (zD g 0)) (k+1) cap,by omega,by go_num,Ae ⟨?_,h0,_,_,_,rfl⟩⟩;have h1:=Id l k D;have h2:=Ji l (k+1);omega
       case measure=>simp[intOf]; omega
    ·have aQ:l.take k=l:=Bz (by omega);rw[aQ]at z ar;obtain⟨a9,c9,aR,aq⟩:=z.o.sl;subst aR;have S9:=Aa aq;clear aq;have L:=d.o.2.1.c0;have M:=d.o.2.1.c1;have rf:=d.o.2.1.frozen;have o0:=d.o.2.2.1.c0;have Y:=d.o.2.2.1.c1;go_wp2_with fail;refine Ao (v:=.agg #[.string s,.slice a9 l.length c9]) (by simp[results,results122,go_sem,AL,AE,L,M]) rfl ?_;have aJ:=ar.o;refine⟨s,a9,l.length,c9,m,rfl,(d.o.2.2.2.1.setOther _ _ (by omega)).setOther _ _ (by omega),(d.o.1.setNew (by omega) _ _).setNew (by omega) _ _,λh=>⟨by rw[hz]; omega,rfl,rfl,(S9.o.kept λb hb=>?_).mono λb hb _=>?_⟩,λh=>by omega⟩
     ·have aS:O+1<=b:=hb.elim False.elim id;rw[Ak _ _ _ _ (by simp; omega),Ak _ _ _ _ (by simp; omega)]
     ·have aS:O+1<=b:=hb.elim False.elim id;omega
   ·have d:=Aa H;clear H;have f0:∀o,(wr.alloc o).cell? (zD F 0)=some (zA (-1)):=λo=>(d.o.2.2.2.1.alloc o).cell 0;by_cases D:k<l.length
    ·obtain⟨b,o,r,c',rfl,d0,d1,hx⟩:=(HS.o.ex d.o.1 V.o).get (Ac _ _) (λ_ _ h=>h) k D;clear hx;have o0:∀o,(wr.alloc o).cell? (zD O 0)=some (.string s):=λo=>(d.o.2.2.1.alloc o).cell 0;have Y:∀o,(wr.alloc o).cell? (zD O 1)=some (.slice a9 I c9):=λo=>(d.o.2.2.1.alloc o).cell 1;have L:=d.o.2.1.c0;have M:=d.o.2.1.c1;have rf:=d.o.2.1.frozen;have aT:w.heap.size+1<wr.heap.size:=d.o.2.1.lt;go_wp2_with fail;refine Ao (v:=.agg #[.string s,.slice a9 I c9]) (by simp[results,results122,go_sem,AL,AE,L,M,aT,EI]) rfl ?_;exact⟨s,a9,I,c9,-1,rfl,((d.o.2.2.2.1.setOther _ _ (by omega)).setOther _ _ (by omega)).alloc _,((d.o.1.setNew (by omega) _ _).setNew (by omega) _ _).alloc _,λh=>by omega,λ_=>rfl⟩
    ·have L:=d.o.2.1.c0;have M:=d.o.2.1.c1;have rf:=d.o.2.1.frozen;have o0:=d.o.2.2.1.c0;have Y:=d.o.2.2.1.c1;go_wp2_with fail;refine Ao (v:=.agg #[.string s,.slice a9 I c9]) (by simp[results,results122,go_sem,AL,AE,L,M]) rfl ?_;exact⟨s,a9,I,c9,-1,rfl,(d.o.2.2.2.1.setOther _ _ (by omega)).setOther _ _ (by omega),(d.o.1.setNew (by omega) _ _).setNew (by omega) _ _,λh=>by omega,λ_=>rfl⟩
def Rd (ls:List Bd):Prop:=∀k (h:k<ls.length),AF (ls.take k) ls[k].nm=none
def DY (w:World) (X:Nat->Prop):List Bd->List (ByteArray×Value)->Prop
 | [],L=>L=[]
 |d::r,L=>∃a c L',L=(d.nm,.agg (zG d.t a c))::L'/\Sl w X a d.t.args/\DY w X r L'
theorem DY.imp (b:∀a l,Sl w X a l->Sl w' Y a l):∀ {l:List Bd} {L:List (ByteArray×Value)},DY w X l L->DY w' Y l L
 | [],L,h=>h
 |d::r,L,h=>by obtain⟨a,c,f,e,h1,h2⟩:=h; exact⟨a,c,f,e,b _ _ h1,DY.imp b h2⟩
theorem DY.push {a:Option Addr} {c:Nat} (b:Sl w X a d.t.args):∀ {l:List Bd} {L:List (ByteArray×Value)},DY w X l L->DY w X (l++[d]) (L++[(d.nm,.agg (zG d.t a c))])
 | [],L,h=>by
  have e:L=[]:=h;subst e;exact⟨a,c,[],rfl,b,rfl⟩
 |d'::r,L,h=>by obtain⟨f,c',L',e,h1,h2⟩:=h; subst e; exact⟨f,c',_,rfl,h1,DY.push b h2⟩
theorem DY.get (n:ByteArray):∀ {l:List Bd} {L:List (ByteArray×Value)},DY w X l L->(AF l n=none->BK L n=none)/\(∀t,AF l n=some t->∃a c,BK L n=some (.agg (zG t a c))/\Sl w X a t.args)
 | [],L,h=>by
  have e:L=[]:=h;subst e;exact⟨λ_=>rfl,λt h=>by simp[AF] at h⟩
 |d::r,L,h=>by
  obtain⟨a,c,L',rfl,h1,h2⟩:=h;obtain⟨g1,g2⟩:=DY.get n h2;by_cases hd:d.nm=n
  ·refine⟨λh=>by simp[AF,hd] at h,λt h=>?_⟩;rw[AF,Aq hd]at h;cases h;exact⟨a,c,by simp[BK,hd],h1⟩
  ·refine⟨λh=>?_,λt h=>?_⟩
   ·rw[AF,Am hd]at h;simp only[BK,hd,if_false];exact g1 h
   ·rw[AF,Am hd]at h;simp only[BK,hd,if_false];exact g2 t h
def Xy (w:World) (X:Nat->Prop) (ls:List Bd) (v:Value) (wr:World):Prop:=∃(k:Nat) (L:List (ByteArray×Value)),v=zA k/\k<=ls.length/\BI wr w.heap.size L/\DY wr (λb=>X b/\b<w.heap.size) (ls.take k) L/\Below w.heap.size w wr
theorem Re (ls:List Bd) (ho:Rd ls) (u:Value) (w:World) (X:Nat->Prop) (hu:BV w X u ls):
  Calls prog 89 #[u] w λe w'=>∃L,e=.returned (.map (some w.heap.size))/\BI w' w.heap.size L/\DY w' (λb=>X b/\b<w.heap.size) ls L/\Below w.heap.size w w':=by
 have H:=Aa hu;obtain⟨a,c,rfl,hl,g⟩:=hu;clear g;have av:=@run_makeMap prog;go_in;go_wp2_with fail;go_loopw [9] (λv wr=>Xy w X ls v wr) (λv wr=>ls.length-(intOf v).toNat);case atStart=>exact⟨0,[],rfl,Bp _,BI.new w,rfl,(Ac _ _).alloc (Af _) _⟩
 case round=>
  obtain⟨k,L,rfl,hk,n,hP,hb⟩:=hrel;have z:=Aa n;have r:=Aa hP;have s:=Aa hb;by_cases x:k<ls.length
  ·obtain⟨b,o,i,c',rfl,d0,d1,d2,A⟩:=((H.o.mono (Y:=λb=>X b/\b<w.heap.size) λb h1 h2=>⟨h1,h2⟩).later hb).get k x;have ak:(k:Int)<(ls.length:Int):=(by omega);have I:=Aa A;have B:=(hP.get ls[k].nm).1 (ho k x);have f:ls.take (k+1)=ls.take k++[ls[k]]:=CI x;have J:=Aa f;have M:=n.lt;clear hb A n hP f;generalize ls[k]=d at *;obtain⟨w2,ao,C,D,E,F,g,y⟩:=LE (P:=prog) (w:=wr.alloc (zp #[.string d.nm,.string d.t.name,.slice i d.t.args.length c'] 93)) underlying131 underlying9 (z.o.kept (BL _ _ _ M)) d.nm (.agg (zG d.t i c')) B;have N:=Aa C;have ar:Hid (Below w.heap.size w w2):=by
    have h0:=s.o.alloc s.o.size (.cells #[.string d.nm,.string d.t.name,.slice i d.t.args.length c'] 93);exact⟨E.trans h0.os,F.trans h0.tape,g.trans h0.output,by rw[D]; exact h0.size,λj m=>(y j (by omega)).trans (h0.block j m)⟩
   have O:Hid (DY w2 (λb=>X b/\b<w.heap.size) (ls.take (k+1)) (L++[(d.nm,.agg (zG d.t i c'))])):=Aa (by have G:∀q l,Sl wr (λb=>X b/\b<w.heap.size) q l->Sl w2 (λb=>X b/\b<w.heap.size) q l:=λq l h=>h.kept λj m=>(y j (by have:=m.2; omega)).trans (BL _ _ _ (by have:=m.2; omega));rw[J.o];exact DY.push (G _ _ I.o) (r.o.imp G));clear C D E F g y B;go_wp2_with fail;go_roundw
   case rel=>exact⟨k+1,_,by go_num,by omega,N.o,O.o,ar.o⟩
   case measure=>simp[intOf]; omega
  ·have f:ls.take k=ls:=Bz (by omega);rw[f]at r;clear hP f;go_wp2_with fail;go_ret;exact⟨L,rfl,z.o,r.o,s.o⟩
theorem N0 (r:Nat) (w:World):
  Calls prog 88 #[.map (some r)] w λe w'=>e=.returned (.func (.func 108) #[] #[zC w.heap.size])/\w'=w.alloc (zp #[.map (some r)] 131):=by
 have aa:=@hmq prog;go_in;go_wp2_with fail;go_ret;exact⟨rfl,rfl⟩
theorem Rf (ls:List Bd) (n:ByteArray) (B r:Nat) (L:List (ByteArray×Value)) (w:World) (X:Nat->Prop) (h:Ab w B #[.map (some r)] 131) (i:BI w r L) (hP:DY w X ls L):
  Calls prog 108 #[.string n,zC B] w λe w'=>Below w.heap.size w w'/\((∃t a c,AF ls n=some t/\e=.returned (.tuple #[.agg (zG t a c),.bool true])/\Sl w X a t.args)∨(AF ls n=none/\e=.returned (.tuple #[.agg ze,.bool false]))):=by
 have c0:∀o,(w.alloc o).cell? (zD B 0)=some (.map (some r)):=λo=>(h.alloc o).cell 0;have hlt:B<w.heap.size:=h.lt;have hz:∀w',(zeroValue 61).run prog w'=.ok (.agg ze) w':=λw'=>zeroValue61 w';have j:=λo:Obj=>i.kept (BL w o _ i.lt);cases b:AF ls n with
 |none=>
  have d:=(hP.get n).1 b;have l:∀o,(Instr.lookup 131 (.map (some r)) (.string n) true).run prog (w.alloc o)=.ok (.tuple #[.agg ze,.bool false]) (w.alloc o):=λo=>by
   rw[Ii (P:=prog) underlying131 underlying9 (hz _) (j o) n,d]; rfl
  have m:=Aa b;clear b d j hP i h;go_in;go_wp2_with fail;have f:=((Ab.new w ze 61).alloc zd).cell 0;have g:=((Ab.new w ze 61).alloc zd).cell 1;simp at f g;refine Ao (v:=.tuple #[.agg ze,.bool false]) (by simp[results,results108,go_sem,f,g]) rfl ?_;exact⟨((Ac _ _).alloc (Af _) _).alloc (by simp) _,Ae ⟨by trivial,rfl⟩⟩
 |some t=>
  obtain⟨a,c,d,k⟩:=(hP.get n).2 t b;have l:∀o,(Instr.lookup 131 (.map (some r)) (.string n) true).run prog (w.alloc o)=.ok (.tuple #[.agg (zG t a c),.bool true]) (w.alloc o):=λo=>by
   rw[Ii (P:=prog) underlying131 underlying9 (hz _) (j o) n,d]; rfl
  have m:=Aa b;have q:=Aa k;clear b d k j hP i h;go_in;go_wp2_with fail;have f:=((Ab.new w (zG t a c) 61).alloc (zh t a c)).cell 0;have g:=((Ab.new w (zG t a c) 61).alloc (zh t a c)).cell 1;simp at f g;refine Ao (v:=.tuple #[.agg (zG t a c),.bool true]) (by simp[results,results108,go_sem,f,g]) rfl ?_;exact⟨((Ac _ _).alloc (Af _) _).alloc (by simp) _,Ad ⟨t,a,c,rfl,rfl,q.o⟩⟩
def fN (ls:List Bd) (s:ByteArray) (bs:List Tm):Tm:=if Av s=true then (match AF ls s with|some x=>x|none=>⟨s,bs⟩) else ⟨s,bs⟩
def fL (ls:List Bd):List Tm->List Tm
 | []=>[]
 | ⟨s,a⟩::r=>fN ls s (fL ls a)::fL ls r
def fT (ls:List Bd) (t:Tm):Tm:=fN ls t.name (fL ls t.args)
def Ey (w:World) (B r:Nat) (X:Nat->Prop) (ls:List Bd) (L:List (ByteArray×Value)):Prop:=Ab w B #[.map (some r)] 131/\BI w r L/\DY w X ls L
theorem Ey.ex (h:Ey w B r X ls L) (he:Ex F w w') (c:B≠F) (d:r≠F) (e:∀b,X b->b≠F):Ey w' B r X ls L:=
 ⟨h.1.ex he c,h.2.1.kept (he.block r h.2.1.lt d),h.2.2.imp λa l f=>f.ex he e⟩
theorem Ey.later (h:Ey w B r X ls L) (hb:Below w.heap.size w w'):Ey w' B r X ls L:=
 ⟨h.1.below hb h.1.lt,h.2.1.below hb h.2.1.lt,h.2.2.imp λa l b=>b.later hb⟩
theorem Rg (h:Below a.drew.heap.size a.drew w1):Below a.heap.size a w1:=((Ac a.heap.size a).drew).trans h
theorem Rh {o:Obj} (h:Below (a.alloc o).drew.heap.size (a.alloc o).drew w1):Below a.heap.size a w1:=(((Ac a.heap.size a).alloc (Af _) o).drew).trans (h.mono (by simp))
theorem Ri (h:Below (a.alloc (zp cs T)).drew.heap.size (a.alloc (zp cs T)).drew w1):Ab w1 a.heap.size cs T:=((Ab.new a cs T).drewN 1).below h (by simp)
theorem Ku {W:World} {d:Value} {s':ByteArray} {l' c':Nat} {v0 v1:Value} (hF:F<w.heap.size) (hW:w.heap.size+2<=W.heap.size) (h1:Ab a F #[zA m,d] 144) (hx:Ex F w a) (hy:Ah [t]<=n->m=(n:Int)-Ah [t]/\s'=t.name/\l'=t.args.length/\Sl a (λb=>W.heap.size<=b) c t.args) (e:n<Ah [t]->m=-1):
  GO w F d t n (.returned (.agg #[.string s',.slice c l' c'])) ((a.setCell (zD (w.heap.size+1) 0) v0).setCell (zD (w.heap.size+1) 1) v1):=by
 refine⟨s',c,l',c',m,rfl,(h1.setOther _ _ (by omega)).setOther _ _ (by omega),(hx.setNew (by omega) _ _).setNew (by omega) _ _,λh=>?_,e⟩;obtain⟨e1,e2,e3,f⟩:=hy h;refine⟨e1,e2,e3,(f.kept λb hb=>?_).mono λb hb _=>by omega⟩;rw[Ak _ _ _ _ (by simp; omega),Ak _ _ _ _ (by simp; omega)]
theorem Ex.ofBelow (h:Below w.heap.size w w'):Ex B w w':=⟨h.os,h.tape,h.output,h.size,λk hk _=>h.block k hk⟩
theorem Hf {u x:Value} {i j:Nat} (h:w.cell? (zD F i)=some u/\w.cell? (zD T j)=some v) (h1:b≠F) (h2:b≠T):(w.setCell (zD b k) x).cell? (zD F i)=some u/\(w.setCell (zD b k) x).cell? (zD T j)=some v:=
 ⟨(AE _ _ _ _ (λe=>h1 (by injection e))).trans h.1,(AE _ _ _ _ (λe=>h2 (by injection e))).trans h.2⟩
theorem Rj (F B r:Nat) (ls:List Bd) (L:List (ByteArray×Value)) (t:Tm) (n:Nat) (a:Option Addr) (c:Nat) (w:World) (X:Nat->Prop) (hn:n<=1000000) (a1:∀b,X b->b≠F) (aA:B≠F) (aB:r≠F) (hs:Sl w X a t.args) (hF:Ab w F #[zA n,.func (.func 108) #[] #[zC B]] 144) (hE:Ey w B r X ls L)
  (h:∀w',Sl w' X a t.args->Ab w' F #[zA n,.func (.func 108) #[] #[zC B]] 144->Ey w' B r X ls L->Calls prog 122 #[zC F,.agg (zG t a c),.func (.func 107) #[zC F] #[]] w' λe T=>GO w' F (.func (.func 108) #[] #[zC B]) ⟨t.name,fL ls t.args⟩ n e T):
  Calls prog 107 #[zC F,.agg (zG t a c)] w λe w'=>GO w F (.func (.func 108) #[] #[zC B]) (fT ls t) n e w':=by
 have aC:=@hmq prog;have H:=Aa h;have HS:=Aa hs;have HF:=Aa hF;have HE:=Aa hE;have aD:F<w.heap.size:=hF.lt;clear h hs hF hE;have ar:=Aa (((Ac w.heap.size w).alloc (Af _) (zh t a c)).alloc (by simp) zd);have f1:∀o o',((w.alloc o).alloc o').cell? (zD F 1)=some (.func (.func 108) #[] #[zC B]):=λo o'=>((HF.o.alloc o).alloc o').cell 1;cases hv:Av t.name with
 |false=>have HV:=Aa hv;have HT:Hid (fT ls t=⟨t.name,fL ls t.args⟩):=Aa (by unfold fT fN;rw[hv];rfl);clear hv;go_in;go_wp2_with (go_at_call 109; refine(DU _ _).mono ?_; rintro e w' ⟨rfl,rfl⟩; rw[HV.o]);have E:Hid (Ab ((w.alloc (zh t a c)).alloc zd) (w.heap.size+1) ze 61):=Aa (by have h:=Ab.new (w.alloc (zh t a c)) ze 61;simpa using h);have V:=Aa (((Ex.refl F w).alloc (zh t a c)).alloc zd);have C:Hid (w.heap.size+2<=((w.alloc (zh t a c)).alloc zd).heap.size):=Aa (by simp);refine(H.o _ (HS.o.later ar.o) (by exact(HF.o.alloc _).alloc _) (HE.o.later ar.o)).mono ?_;rintro e w9 ⟨s',G,l',c',m,rfl,k,d,q,s⟩;have f:=Aa (E.o.ex d (by omega));have I:=Aa (V.o.trans d);have J:=Aa k;have M:=Aa q;have N:=Aa s;have aw:=Aa (V.o.size);clear k d q s;have O:=f.o.c0;have P:=f.o.c1;have rf:=f.o.frozen;go_wp2_with fail;refine Ao (v:=.agg #[.string s',.slice G l' c']) (by simp[results,results107,go_sem,AL,AE,O,P]) rfl ?_;rw[HT.o];exact Ku (by omega) C.o J.o I.o M.o N.o
 |true=>
  have HV:=Aa hv;clear hv;have E:Hid (Ab ((w.alloc (zh t a c)).alloc zd) (w.heap.size+1) ze 61):=Aa (by have h:=Ab.new (w.alloc (zh t a c)) ze 61;simpa using h);have V:=Aa (((Ex.refl F w).alloc (zh t a c)).alloc zd);have C:Hid (w.heap.size+2<=((w.alloc (zh t a c)).alloc zd).heap.size):=Aa (by simp);have E0:=Aa (HE.o.later ar.o);have u:=Aa ((HF.o.alloc (zh t a c)).alloc zd);have S0:=Aa (HS.o.later ar.o);have z:=Aa ((Ab.new w (zG t a c) 61).alloc zd);have g1:=u.o.cell 1;have g0:=z.o.cell 0;simp only[BP,BQ,BU] at g1 g0;cases W:AF ls t.name with
  |some x=>
   have HT:Hid (fT ls t=x):=Aa (by unfold fT fN;rw[HV.o,W];rfl);have az:Hid (∀w',Below ((w.alloc (zh t a c)).alloc zd).heap.size ((w.alloc (zh t a c)).alloc zd) w'->Calls prog 108 #[.string t.name,zC B] w' λe T=>∃D U,e=.returned (.tuple #[.agg (zG x D U),.bool true])/\Below w'.heap.size w' T/\Sl T (λb=>X b/\b<w.heap.size) D x.args):=λw' hb=>by
    have E1:Ey w B r (λb=>X b/\b<w.heap.size) ls L:=⟨HE.o.1,HE.o.2.1,HE.o.2.2.imp λa l hs=>hs.mono λb h1 h2=>⟨h1,h2⟩⟩;obtain⟨h1,h2,h3⟩:=(E1.later ar.o).later hb;refine(Rf ls t.name B r L w' _ h1 h2 h3).mono λe T hp=>?_;obtain⟨au,hc⟩:=hp;rcases hc with ⟨y,ay,cy,hy,he,a8⟩|⟨hy,_⟩
    ·rw[W]at hy; cases hy; exact⟨ay,cy,he,au,a8.later au⟩
    ·rw[W]at hy; cases hy
   have av:Hid (∀w',Below ((w.alloc (zh t a c)).alloc zd).heap.size ((w.alloc (zh t a c)).alloc zd) w'->w'.cell? (zD F 1)=some (.func (.func 108) #[] #[zC B])/\w'.cell? (zD w.heap.size 0)=some (.string t.name)):=λw' hb=>⟨(u.o.below hb u.o.lt).cell 1,(z.o.below hb z.o.lt).cell 0⟩;have Y:((w.alloc (zh t a c)).alloc zd).heap.size≠F:=by have:=C.o; omega
   have Z:((w.alloc (zh t a c)).alloc zd).heap.size≠w.heap.size:=by have:=C.o; omega
   clear W f1;go_in;go_wp2_with (go_at_call 109; refine(DU _ _).mono ?_; rintro e w' ⟨rfl,rfl⟩; rw[HV.o]);generalize ((w.alloc (zh t a c)).alloc zd)=j at *;go_region_held3 (λw'=>w'.cell? (zD F 1)=some (.func (.func 108) #[] #[zC B])/\w'.cell? (zD w.heap.size 0)=some (.string t.name)) (first|exact R|exact⟨g1,g0⟩|exact Hf R Y Z|exact Hf (Hf R Y Z) Y Z|go_keep)
    ((go_at_call 108; refine(az.o _ (by first|exact(Ac _ _).drew|exact((Ac _ _).alloc (Af _) _).drew)).mono ?_; rintro e w1 ⟨D,U,rfl,ao,a6⟩; have a7:=Aa a6; clear a6; (first|(have A:=Rg ao; have R:=av.o _ A)|(have A:=Rh ao; have xb:=Aa (Ri ao); have x0:=xb.o.cell 0; have x1:=xb.o.cell 1; have xf:=xb.o.frozen; have R:=av.o _ A))))
   ·generalize hz:(w1.alloc (Obj.cells #[Value.string x.name,Value.slice D x.args.length U] 61))=wz at *;have g:Below j.heap.size j wz:=by rw[<-hz]; exact A.alloc A.size _
    have aw:Hid (Sl wz (λb=>X b/\b<w.heap.size) D x.args):=by rw[<-hz]; exact a7.o.later ((Ac _ _).alloc (Af _) _)
    have q0:wz.cell? (zD w1.heap.size 0)=some (.string x.name):=by rw[<-hz]; exact(Ab.new w1 _ _).cell 0
    have q1:wz.cell? (zD w1.heap.size 1)=some (.slice D x.args.length U):=by rw[<-hz]; exact(Ab.new w1 _ _).cell 1
    have aq:Hid (w.heap.size+2<=wz.heap.size):=AJ C.o g.size;have i:=Aa g;clear g hz;go_wp2_with fail;refine(Mh F _ x n _ wz (λb=>X b/\b<w.heap.size) ⟨D,U,rfl,aw.o⟩ (λb hb=>a1 b hb.1) hn (u.o.below i.o u.o.lt)).mono ?_;rintro e w9 ⟨s',G,l',c',m,rfl,k,d,q,s⟩;have f:=Aa ((E.o.below i.o E.o.lt).ex d (by omega));have I:=Aa ((V.o.trans (Ex.ofBelow i.o)).trans d);have J:=Aa k;have M:=Aa q;have N:=Aa s;clear k d q s;have O:=f.o.c0;have P:=f.o.c1;have rf:=f.o.frozen;go_wp2_with fail;refine Ao (v:=.agg #[.string s',.slice G l' c']) (by simp[results,results107,go_sem,AL,AE,O,P]) rfl ?_;rw[HT.o];exact Ku (by omega) aq.o J.o I.o M.o N.o
   ·generalize hz:((w1.setCell { block:=j.heap.size,off:=0} (Value.string x.name)).setCell { block:=j.heap.size,off:=1} (Value.slice D x.args.length U))=wz at *;have g:Below j.heap.size j wz:=by rw[<-hz]; exact(A.setCell (Af _) _).setCell (Af _) _
    have aw:Hid (Sl wz (λb=>X b/\b<w.heap.size) D x.args):=(by rw[<-hz];refine a7.o.kept λb hb=>?_;have au:=hb.2;have aE:=C.o;rw[Ak _ _ _ _ (by simp; omega),Ak _ _ _ _ (by simp; omega)]);have q0:wz.cell? (zD j.heap.size 0)=some (.string x.name):=by rw[<-hz]; simp[AL,AE,x0,x1]
    have q1:wz.cell? (zD j.heap.size 1)=some (.slice D x.args.length U):=by rw[<-hz]; simp[AL,AE,x0,x1]
    have aq:Hid (w.heap.size+2<=wz.heap.size):=AJ C.o g.size;have i:=Aa g;clear g hz;go_wp2_with fail;refine(Mh F _ x n _ wz (λb=>X b/\b<w.heap.size) ⟨D,U,rfl,aw.o⟩ (λb hb=>a1 b hb.1) hn (u.o.below i.o u.o.lt)).mono ?_;rintro e w9 ⟨s',G,l',c',m,rfl,k,d,q,s⟩;have f:=Aa ((E.o.below i.o E.o.lt).ex d (by omega));have I:=Aa ((V.o.trans (Ex.ofBelow i.o)).trans d);have J:=Aa k;have M:=Aa q;have N:=Aa s;clear k d q s;have O:=f.o.c0;have P:=f.o.c1;have rf:=f.o.frozen;go_wp2_with fail;refine Ao (v:=.agg #[.string s',.slice G l' c']) (by simp[results,results107,go_sem,AL,AE,O,P]) rfl ?_;rw[HT.o];exact Ku (by omega) aq.o J.o I.o M.o N.o
  |none=>
   have HT:Hid (fT ls t=⟨t.name,fL ls t.args⟩):=Aa (by unfold fT fN;rw[HV.o,W];rfl);have az:Hid (∀w',Below ((w.alloc (zh t a c)).alloc zd).heap.size ((w.alloc (zh t a c)).alloc zd) w'->Calls prog 108 #[.string t.name,zC B] w' λe T=>e=.returned (.tuple #[.agg ze,.bool false])/\Below w'.heap.size w' T):=λw' hb=>by
    obtain⟨h1,h2,h3⟩:=E0.o.later hb;refine(Rf ls t.name B r L w' X h1 h2 h3).mono λe T hp=>?_;obtain⟨au,hc⟩:=hp;rcases hc with ⟨x,_,_,hx,_⟩|⟨_,he⟩
    ·rw[W]at hx; cases hx
    ·exact⟨he,au⟩
   have av:Hid (∀w',Below ((w.alloc (zh t a c)).alloc zd).heap.size ((w.alloc (zh t a c)).alloc zd) w'->w'.cell? (zD F 1)=some (.func (.func 108) #[] #[zC B])/\w'.cell? (zD w.heap.size 0)=some (.string t.name)):=λw' hb=>⟨(u.o.below hb u.o.lt).cell 1,(z.o.below hb z.o.lt).cell 0⟩;have Y:((w.alloc (zh t a c)).alloc zd).heap.size≠F:=by have:=C.o; omega
   have Z:((w.alloc (zh t a c)).alloc zd).heap.size≠w.heap.size:=by have:=C.o; omega
   clear W f1;go_in;go_wp2_with (go_at_call 109; refine(DU _ _).mono ?_; rintro e w' ⟨rfl,rfl⟩; rw[HV.o]);generalize ((w.alloc (zh t a c)).alloc zd)=j at *;go_region_held3 (λw'=>w'.cell? (zD F 1)=some (.func (.func 108) #[] #[zC B])/\w'.cell? (zD w.heap.size 0)=some (.string t.name)) (first|exact R|exact⟨g1,g0⟩|exact Hf R Y Z|exact Hf (Hf R Y Z) Y Z|go_keep)
    ((go_at_call 108; refine(az.o _ (by first|exact(Ac _ _).drew|exact((Ac _ _).alloc (Af _) _).drew)).mono ?_; rintro e w1 ⟨rfl,ao⟩; (first|(have A:=Rg ao; have R:=av.o _ A)|(have A:=Rh ao; have xb:=Aa (Ri ao); have x0:=xb.o.cell 0; have x1:=xb.o.cell 1; have xf:=xb.o.frozen; have R:=av.o _ A))))
   ·generalize hz:(w1.alloc (Obj.cells #[Value.string { data:=#[]},Value.slice none 0 0] 61))=wz at *;have g:Below j.heap.size j wz:=by rw[<-hz]; exact A.alloc A.size _
    have t0:wz.cell? (zD w.heap.size 0)=some (.string t.name):=(z.o.below g z.o.lt).cell 0;have t1:wz.cell? (zD w.heap.size 1)=some (.slice a t.args.length c):=(z.o.below g z.o.lt).cell 1;have aq:Hid (w.heap.size+2<=wz.heap.size):=AJ C.o g.size;have i:=Aa g;clear g;go_wp2_with fail;refine(H.o _ (S0.o.later i.o) (u.o.below i.o u.o.lt) (E0.o.later i.o)).mono ?_;rintro e w9 ⟨s',G,l',c',m,rfl,k,d,q,s⟩;have f:=Aa ((E.o.below i.o E.o.lt).ex d (by omega));have I:=Aa ((V.o.trans (Ex.ofBelow i.o)).trans d);have J:=Aa k;have M:=Aa q;have N:=Aa s;clear k d q s;have O:=f.o.c0;have P:=f.o.c1;have rf:=f.o.frozen;go_wp2_with fail;refine Ao (v:=.agg #[.string s',.slice G l' c']) (by simp[results,results107,go_sem,AL,AE,O,P]) rfl ?_;rw[HT.o];exact Ku (by omega) aq.o J.o I.o M.o N.o
   ·generalize hz:((w1.setCell { block:=j.heap.size,off:=0} (Value.string { data:=#[]})).setCell { block:=j.heap.size,off:=1} (Value.slice none 0 0))=wz at *;have g:Below j.heap.size j wz:=by rw[<-hz]; exact(A.setCell (Af _) _).setCell (Af _) _
    have t0:wz.cell? (zD w.heap.size 0)=some (.string t.name):=(z.o.below g z.o.lt).cell 0;have t1:wz.cell? (zD w.heap.size 1)=some (.slice a t.args.length c):=(z.o.below g z.o.lt).cell 1;have aq:Hid (w.heap.size+2<=wz.heap.size):=AJ C.o g.size;have i:=Aa g;clear g;go_wp2_with fail;refine(H.o _ (S0.o.later i.o) (u.o.below i.o u.o.lt) (E0.o.later i.o)).mono ?_;rintro e w9 ⟨s',G,l',c',m,rfl,k,d,q,s⟩;have f:=Aa ((E.o.below i.o E.o.lt).ex d (by omega));have I:=Aa ((V.o.trans (Ex.ofBelow i.o)).trans d);have J:=Aa k;have M:=Aa q;have N:=Aa s;clear k d q s;have O:=f.o.c0;have P:=f.o.c1;have rf:=f.o.frozen;go_wp2_with fail;refine Ao (v:=.agg #[.string s',.slice G l' c']) (by simp[results,results107,go_sem,AL,AE,O,P]) rfl ?_;rw[HT.o];exact Ku (by omega) aq.o J.o I.o M.o N.o
theorem N4 (ls:List Bd):∀l:List Tm,fL ls l=l.map (fT ls)
 | []=>by simp[fL]
 | ⟨s,a⟩::r=>by rw[fL,N4 ls r]; rfl
theorem Xz (F B r:Nat) (ls:List Bd) (L:List (ByteArray×Value)) (aF:B≠F) (aG:r≠F) (t:Tm):∀(n:Nat) (v:Value) (w:World) (X:Nat->Prop),TV w X v t->(∀b,X b->b≠F)->n<=1000000->Ab w F #[zA n,.func (.func 108) #[] #[zC B]] 144->Ey w B r X ls L->
  Calls prog 122 #[zC F,v,.func (.func 107) #[zC F] #[]] w λe w'=>GO w F (.func (.func 108) #[] #[zC B]) ⟨t.name,fL ls t.args⟩ n e w':=by
 induction t using Tm.ind with
 |h s l ih=>
  intro n v w X hv aH hn hF hE;obtain⟨a,c,rfl,hs⟩:=hv;(try dsimp only[zG]);(try dsimp only[zH]);(try dsimp only[zE]);(try dsimp only);generalize aQ:Value.func (.func 108) #[] #[zC B]=G at *;obtain⟨M,W⟩:∃M,fL ls l=M:=⟨_,rfl⟩;rw[W];have aR:M.length=l.length:=by rw[<-W,N4]; simp
  have aS:Hid (∀k (h:k<M.length) (h':k<l.length),M[k]=fT ls l[k]):=λk h h'=>by subst W; simp[N4]
  have HE:=Aa hE;clear hE W;have IH:=Aa ih;clear ih;obtain⟨i0,aI,aJ,aK,aL⟩:=Dw Tryz.infoTerm;have f0:∀o,(w.alloc o).cell? (zD F 0)=some (zA n):=λo=>(hF.alloc o).cell 0;have ff:∀o,(w.alloc o).frozen? (zD F 0)=false:=λo=>(hF.alloc o).frozen 0;have aM:F<w.heap.size:=hF.lt;go_in;go_wp2_with fail;have E3:Hid (Jq w F (w.heap.size+1+1) s zB #[zA ((n:Int)-1),G] ((((w.setCell (zD F 0) (zA ((n:Int)-1))).alloc (zp #[.string s,.slice a l.length c] 61)).alloc zd).alloc (zp #[.string s,zB] 61))):=by
   refine⟨((((Ex.refl F w).set 0 _).alloc _).alloc _).alloc _,?_,?_,(((hF.set 0 _).alloc _).alloc _).alloc _,by simp[World.setCell]⟩
   ·have h:=(Ab.new ((w.setCell (zD F 0) (zA ((n:Int)-1))).alloc (zp #[.string s,.slice a l.length c] 61)) ze 61).alloc (zp #[.string s,zB] 61);simpa [World.setCell] using h
   ·have h:=Ab.new (((w.setCell (zD F 0) (zA ((n:Int)-1))).alloc (zp #[.string s,.slice a l.length c] 61)).alloc zd) #[.string s,zB] 61;simpa [World.setCell] using h
  generalize ((((w.setCell (zD F 0) (zA ((n:Int)-1))).alloc (zp #[.string s,.slice a l.length c] 61)).alloc zd).alloc (zp #[.string s,zB] 61))=w3 at *;generalize aT:w.heap.size+1+1=O at *;have hO:w.heap.size+2<=O:=by omega
  clear aT;clear f0 ff;have HS:=Aa hs;have hl:=hs.1;have I:=Aa aH;have hz:Ah [(⟨s,M⟩:Tm)]=1+Ah M:=by simp[Ah]
  clear hs aH;go_loopw [23] (λi wr=>Rc w F O s G M n i wr) (λi wr=>l.length-(intOf i).toNat);case atStart=>
   refine⟨0,zB,Bp _,rfl,?_⟩;by_cases aU:n=0
   ·subst aU;exact Ae ⟨by omega,E3.o,none,0,0,rfl⟩
   ·refine Ad ⟨n-1,[],by simp[Ah]; omega,?_,Cp.start _ _ _ _⟩;rw[show((n-1:Nat):Int)=(n:Int)-1 by omega];exact E3.o
  case round=>
   obtain⟨k,u,hk,rfl,an⟩:=hrel;rcases an with ⟨m,xs,hm,J,ao⟩|⟨aV,J,a9,N,c9,rfl⟩
   ·have d:=Aa J;have A:=Aa ao;have P:=Aa hm;clear J ao;by_cases R:k<l.length
    ·obtain⟨b,o,q,c',rfl,d0,d1,hx⟩:=(HS.o.ex d.o.1 I.o).get (Ac _ _) (λ_ _ h=>h) k R;obtain⟨av,cv,ev,aW⟩:=hx;simp at ev;obtain⟨rfl,rfl⟩:=ev;have Y:k<M.length:=(by omega);obtain⟨y,hy⟩:∃y,fT ls l[k]=y:=⟨_,rfl⟩;have az:Hid (M[k]=y):=Aa (by rw[aS.o k Y R,hy]);have aN:m<=1000000:=(by omega);have H:Hid (O≠F):=Aa (by omega);have ar:Hid (F<O+1):=Aa (by omega);have hlen:=Ie M;have a6:(M.take k).length=k:=by simp; omega
     have bh:k<=1000000:=by have h1:=Ie (M.take k); rw[a6] at h1; omega
     have Z:Hid ((M.take k).length+1<=maxLen/\((M.take k).length+1)*40<=140737488355328):=Aa (by rw[a6];exact⟨by unfold maxLen; omega,by omega⟩);clear a6;have ay:Hid (Calls prog 107 #[zC F,.agg (zG l[k] q c')] (wr.alloc (zh l[k] q c')).drew λe C=>GO (wr.alloc (zh l[k] q c')).drew F G y m e C):=(by have aX:Ey (wr.alloc (zh l[k] q c')).drew B r X ls L:=((HE.o.ex d.o.1 aF aG I.o).later ((Ac _ _).alloc (Af _) _)).later ((Ac _ _).drew);have aY:Ab (wr.alloc (zh l[k] q c')).drew F #[zA m,G] 144:=(d.o.2.2.2.1.alloc _).drewN 1;have aZ:Sl (wr.alloc (zh l[k] q c')).drew X q l[k].args:=(aW.later ((Ac _ _).alloc (Af _) _)).later ((Ac _ _).drew);have ba:=IH.o l[k] (Bv R) m;rw[<-hy];clear P d A;subst aQ;exact Rj F B r ls L l[k] m q c' _ X aN I.o aF aG aZ aY aX (λw' h1 h2 h3=>ba _ w' X ⟨q,c',rfl,h1⟩ I.o aN h2 h3));have f0:∀o,(wr.alloc o).cell? (zD F 0)=some (zA m):=λo=>(d.o.2.2.2.1.alloc o).cell 0;have o1:∀o,(wr.alloc o).cell? (zD O 1)=some u:=λo=>(d.o.2.2.1.alloc o).cell 1;have bj:¬(m:Int)<0:=(by omega);by_cases hle:Ah [y]<=m
     ·have a7:Hid (Calls prog 107 #[zC F,.agg (zG l[k] q c')] (wr.alloc (zh l[k] q c')).drew λe C=>∃z c1,e=.returned (.agg (zG y z c1))/\Ab C F #[zA ((m:Int)-Ah [y]),G] 144/\Ex F wr C/\Sl C (λb=>wr.heap.size<=b) z y.args):=ay.o.mono λe C hp=>by
       obtain⟨s1,z,l1,c1,m1,h1,h2,h3,h4,_⟩:=hp;obtain⟨rfl,rfl,rfl,h5⟩:=h4 hle;exact⟨z,c1,h1,h2,(((Ex.refl F wr).alloc _).drew).trans h3,h5.mono λb hb _=>by simp at hb; omega⟩
      clear ay;go_wp2_with fail;go_region_law (first
       | (go_simp; go_at_call 107; refine a7.o.mono ?_; rintro e w1 ⟨z,c1,rfl,T,f,aO⟩; have a8:∀o,(w1.alloc o).cell? (zD O 1)=some u:=λo=>((Ab.ex d.o.2.2.1 f H.o).alloc o).cell 1; have aA:w1.cell? (zD O 1)=some u:=(Ab.ex d.o.2.2.1 f H.o).cell 1)
       | (refine step_append_lies _ rfl _ _ 59 rfl (O+1) 61 i0 _ 2 40 underlying59 aI aJ aK aL rfl (by decide) u (M.take k).length xs rfl (by exact(Cp.ex (B:=F) A.o f ar.o (λh=>h)).own.alloc _) (zD w1.heap.size 0) 1 1 [.string y.name,.slice z y.args.length c1] rfl rfl (cell_two_new _ _ _ _) (λx hx=>by simp at hx; rcases hx with rfl|rfl<;>rfl) (by decide) Z.o.1 Z.o.2 (by have:=f.size; have:=d.o.2.2.2.2; simp; omega) _ rfl ?_; intro g cap w3 ad D ah ai; have E:=Aa (((Ab.ex d.o.2.2.1 f H.o).alloc _).grown D (A.o.ne (DC _))); have aB:w3.cell? (zD O 1)=some u:=E.o.cell 1; have aC:=E.o.frozen 1))
      all_goals
       have HK:=Aa (Mg (v:=.slice (some (zD g 0)) ((M.take k).length+1) cap) aM hO d.o (λj hj=>(A.o.own.lt j hj).1) f T D);have bb:=Aa (Rb (by omega) d.o.2.2.2.2 A.o f ⟨z,c1,rfl,aO⟩ ad D ah);clear ad D ah a8 aA aB aC E T f aO ai;go_wp2_with fail;go_roundw
       case rel=>
        have aD:(M.take k).length=k:=by simp; omega
        have h1:=HK.o;have h2:=bb.o;have aP:=P.o;simp only[aD] at h1 h2;have aE:min k l.length=k:=(by omega);simp only[aE];refine⟨k+1,.slice (some (zD g 0)) (k+1) cap,by omega,by go_num,Ad ⟨m-Ah [y],xs++[.string y.name,.slice z y.args.length c1],by rw[Id M k Y,az.o]; omega,?_,?_⟩⟩
        ·rw[show((m-Ah [y]:Nat):Int)=(m:Int)-Ah [y] by omega];exact h1
        ·rw[CI Y,az.o];exact h2
       case measure=>simp[intOf]; omega
     ·have a7:Hid (Calls prog 107 #[zC F,.agg (zG l[k] q c')] (wr.alloc (zh l[k] q c')).drew λe C=>∃s1 z l1 c1,e=.returned (.agg #[.string s1,.slice z l1 c1])/\Ab C F #[zA (-1),G] 144/\Ex F wr C):=ay.o.mono λe C hp=>by
       obtain⟨s1,z,l1,c1,m1,h1,h2,h3,_,h4⟩:=hp;obtain rfl:=h4 (by omega);exact⟨s1,z,l1,c1,h1,h2,(((Ex.refl F wr).alloc _).drew).trans h3⟩
      clear ay;go_wp2_with fail;go_region_law (first
       | (go_simp; go_at_call 107; refine a7.o.mono ?_; rintro e w1 ⟨s1,z,l1,c1,rfl,T,f⟩; have a8:∀o,(w1.alloc o).cell? (zD O 1)=some u:=λo=>((Ab.ex d.o.2.2.1 f H.o).alloc o).cell 1; have aA:w1.cell? (zD O 1)=some u:=(Ab.ex d.o.2.2.1 f H.o).cell 1)
       | (refine step_append_lies _ rfl _ _ 59 rfl (O+1) 61 i0 _ 2 40 underlying59 aI aJ aK aL rfl (by decide) u (M.take k).length xs rfl (by exact(Cp.ex (B:=F) A.o f ar.o (λh=>h)).own.alloc _) (zD w1.heap.size 0) 1 1 [.string s1,.slice z l1 c1] rfl rfl (cell_two_new _ _ _ _) (λx hx=>by simp at hx; rcases hx with rfl|rfl<;>rfl) (by decide) Z.o.1 Z.o.2 (by have:=f.size; have:=d.o.2.2.2.2; simp; omega) _ rfl ?_; intro g cap w3 ad D ah ai; have E:=Aa (((Ab.ex d.o.2.2.1 f H.o).alloc _).grown D (A.o.ne (DC _))); have aB:w3.cell? (zD O 1)=some u:=E.o.cell 1; have aC:=E.o.frozen 1))
      all_goals
       have HK:=Aa (Mg (v:=.slice (some (zD g 0)) ((M.take k).length+1) cap) aM hO d.o (λj hj=>(A.o.own.lt j hj).1) f T D);clear ad D ah a8 aA aB aC E T f ai;go_wp2_with fail;go_roundw
       case rel=>
        have aD:(M.take k).length=k:=by simp; omega
        have h0:=HK.o;have aP:=P.o;simp only[aD] at h0;have aE:min k l.length=k:=(by omega);simp only[aE];refine⟨k+1,.slice (some (zD g 0)) (k+1) cap,by omega,by go_num,Ae ⟨?_,h0,_,_,_,rfl⟩⟩;have h1:=Id M k Y;rw[az.o]at h1;have h2:=Ji M (k+1);omega
       case measure=>simp[intOf]; omega
    ·have bc:M.take k=M:=Bz (by omega);rw[bc]at A P;obtain⟨a9,c9,bd,aw⟩:=A.o.sl;subst bd;have S9:=Aa aw;clear aw;have U:=d.o.2.1.c0;have V:=d.o.2.1.c1;have rf:=d.o.2.1.frozen;have o0:=d.o.2.2.1.c0;have o1:=d.o.2.2.1.c1;go_wp2_with fail;refine Ao (v:=.agg #[.string s,.slice a9 M.length c9]) (by simp[results,results122,go_sem,AL,AE,U,V,aR]) rfl ?_;have aP:=P.o;refine⟨s,a9,M.length,c9,m,rfl,(d.o.2.2.2.1.setOther _ _ (by omega)).setOther _ _ (by omega),(d.o.1.setNew (by omega) _ _).setNew (by omega) _ _,λh=>⟨by rw[hz]; omega,rfl,rfl,(S9.o.kept λb hb=>?_).mono λb hb _=>?_⟩,λh=>by omega⟩
     ·have bf:O+1<=b:=hb.elim False.elim id;rw[Ak _ _ _ _ (by simp; omega),Ak _ _ _ _ (by simp; omega)]
     ·have bf:O+1<=b:=hb.elim False.elim id;omega
   ·have d:=Aa J;clear J;have f0:∀o,(wr.alloc o).cell? (zD F 0)=some (zA (-1)):=λo=>(d.o.2.2.2.1.alloc o).cell 0;by_cases R:k<l.length
    ·obtain⟨b,o,q,c',rfl,d0,d1,hx⟩:=(HS.o.ex d.o.1 I.o).get (Ac _ _) (λ_ _ h=>h) k R;clear hx;have o0:∀o,(wr.alloc o).cell? (zD O 0)=some (.string s):=λo=>(d.o.2.2.1.alloc o).cell 0;have o1:∀o,(wr.alloc o).cell? (zD O 1)=some (.slice a9 N c9):=λo=>(d.o.2.2.1.alloc o).cell 1;have U:=d.o.2.1.c0;have V:=d.o.2.1.c1;have rf:=d.o.2.1.frozen;have bg:w.heap.size+1<wr.heap.size:=d.o.2.1.lt;go_wp2_with fail;refine Ao (v:=.agg #[.string s,.slice a9 N c9]) (by simp[results,results122,go_sem,AL,AE,U,V,bg,EI]) rfl ?_;exact⟨s,a9,N,c9,-1,rfl,((d.o.2.2.2.1.setOther _ _ (by omega)).setOther _ _ (by omega)).alloc _,((d.o.1.setNew (by omega) _ _).setNew (by omega) _ _).alloc _,λh=>by omega,λ_=>rfl⟩
    ·have U:=d.o.2.1.c0;have V:=d.o.2.1.c1;have rf:=d.o.2.1.frozen;have o0:=d.o.2.2.1.c0;have o1:=d.o.2.2.1.c1;go_wp2_with fail;refine Ao (v:=.agg #[.string s,.slice a9 N c9]) (by simp[results,results122,go_sem,AL,AE,U,V]) rfl ?_;exact⟨s,a9,N,c9,-1,rfl,(d.o.2.2.2.1.setOther _ _ (by omega)).setOther _ _ (by omega),(d.o.1.setNew (by omega) _ _).setNew (by omega) _ _,λh=>by omega,λ_=>rfl⟩
theorem XD (F B r:Nat) (ls:List Bd) (L:List (ByteArray×Value)) (t:Tm) (n:Nat) (a:Option Addr) (c:Nat) (w:World) (X:Nat->Prop) (d:n<=1000000) (f:∀b,X b->b≠F) (g:B≠F) (h:r≠F) (i:Sl w X a t.args) (hF:Ab w F #[zA n,.func (.func 108) #[] #[zC B]] 144) (j:Ey w B r X ls L):
  Calls prog 107 #[zC F,.agg (zG t a c)] w λe w'=>GO w F (.func (.func 108) #[] #[zC B]) (fT ls t) n e w':=
 Rj F B r ls L t n a c w X d f g h i hF j (λw' h1 h2 h3=>Xz F B r ls L g h t n _ w' X ⟨a,c,rfl,h1⟩ f d h2 h3)
theorem N5 (B r:Nat) (ls:List Bd) (L:List (ByteArray×Value)) (t:Tm) (n:Nat) (a:Option Addr) (c:Nat) (w:World) (X:Nat->Prop) (G:n<=1000000) (i:Sl w X a t.args) (d:Ey w B r X ls L):
  Calls prog 87 #[.agg (zG t a c),zA n,.func (.func 108) #[] #[zC B]] w λe w'=>Below w.heap.size w w'/\
   ((Ah [fT ls t]<=n/\∃g c',e=.returned (.tuple #[.agg #[.string (fT ls t).name,.slice g (fT ls t).args.length c'],.bool true])/\Sl w' (λb=>w.heap.size<=b) g (fT ls t).args)∨(n<Ah [fT ls t]/\e=.returned (.tuple #[.agg ze,.bool false]))):=by
 have al:=@hmq prog;have H:=Aa (i.mono (Y:=λb=>X b/\b<w.heap.size) λb h1 h2=>⟨h1,h2⟩);have I:Hid (Ey w B r (λb=>X b/\b<w.heap.size) ls L):=⟨d.1,d.2.1,d.2.2.imp λa l i=>i.mono λb h1 h2=>⟨h1,h2⟩⟩;have an:B<w.heap.size:=d.1.lt;have ao:r<w.heap.size:=d.2.1.lt;clear i d;go_in;go_wp2_with fail;have f:Hid (Below w.heap.size w (((w.alloc (zh t a c)).alloc zd).alloc (zp #[zA n,.func (.func 108) #[] #[zC B]] 144))):=((((Ac w.heap.size w).alloc (Af _) _).alloc (by simp) _).alloc (by simp; omega) _);have J:Hid (Ab (((w.alloc (zh t a c)).alloc zd).alloc (zp #[zA n,.func (.func 108) #[] #[zC B]] 144)) (w.heap.size+1+1) #[zA n,.func (.func 108) #[] #[zC B]] 144):=Aa (by have h:=Ab.new ((w.alloc (zh t a c)).alloc zd) #[zA n,.func (.func 108) #[] #[zC B]] 144;simpa using h);have M:Hid (Ab (((w.alloc (zh t a c)).alloc zd).alloc (zp #[zA n,.func (.func 108) #[] #[zC B]] 144)) (w.heap.size+1) ze 61):=Aa (by have h:=(Ab.new (w.alloc (zh t a c)) ze 61).alloc (zp #[zA n,.func (.func 108) #[] #[zC B]] 144);simpa using h);have z3:(((w.alloc (zh t a c)).alloc zd).alloc (zp #[zA n,.func (.func 108) #[] #[zC B]] 144)).heap.size=w.heap.size+3:=by simp
 generalize (((w.alloc (zh t a c)).alloc zd).alloc (zp #[zA n,.func (.func 108) #[] #[zC B]] 144))=w3 at *;refine(XD (w.heap.size+1+1) B r ls L t n a c w3 (λb=>X b/\b<w.heap.size) G (λb hb=>by have:=hb.2; omega) (by omega) (by omega) (H.o.later f.o) J.o (I.o.later f.o)).mono ?_;rintro e j ⟨s',g,l',c',m,rfl,y,q,hy,x⟩;have z:=Aa y;have s:=Aa q;have u:=Aa (M.o.ex q (by omega));have aq:=q.size;clear y q;have A:=u.o.c0;have C:=u.o.c1;have rf:=u.o.frozen;have D:w.heap.size+1<j.heap.size:=u.o.lt;have E:Hid (Below w.heap.size w j):=⟨s.o.os.trans f.o.os,s.o.tape.trans f.o.tape,s.o.output.trans f.o.output,by omega,λk hk=>(s.o.block k (by omega) (by omega)).trans (f.o.block k hk)⟩;by_cases hle:Ah [fT ls t]<=n
 ·obtain⟨rfl,rfl,rfl,F⟩:=hy hle;have N:=Aa F;clear hy x F;have f0:∀o,(j.alloc o).cell? (zD (w.heap.size+1+1) 0)=some (zA ((n:Int)-Ah [fT ls t])):=λo=>(z.o.alloc o).cell 0;have hlt:¬((n:Int)-Ah [fT ls t])<0:=by omega
  go_wp2_with fail;refine Ao (v:=.tuple #[.agg #[.string (fT ls t).name,.slice g (fT ls t).args.length c'],.bool true]) (by simp[results,results87,go_sem,AL,AE,A,C,D,EI]) rfl ?_;refine⟨((E.o.setCell (by simp) _).setCell (by simp) _).alloc (by simp[World.setCell]; omega) _,Ad ⟨hle,g,c',rfl,((N.o.kept λb hb=>?_).later ((Ac _ _).alloc (Af _) _)).mono λb hb _=>by omega⟩⟩;rw[Ak _ _ _ _ (by simp; omega),Ak _ _ _ _ (by simp; omega)]
 ·obtain rfl:=x (by omega);clear hy x;have f0:∀o,(j.alloc o).cell? (zD (w.heap.size+1+1) 0)=some (zA (-1)):=λo=>(z.o.alloc o).cell 0;go_wp2_with fail;refine Ao (v:=.tuple #[.agg ze,.bool false]) (by simp[results,results87,go_sem,AL,AE,A,C,D,EI]) rfl ?_;exact⟨((E.o.setCell (by simp) _).setCell (by simp) _).alloc (by simp[World.setCell]; omega) _,Ae ⟨by omega,rfl⟩⟩
theorem Fv {s:ByteArray} {x:Tm}:∀ {ls:List Bd},AF ls s=some x->∃d,d∈ls/\d.nm=s/\d.t=x
 | [],h=>by cases h
 |d::r,h=>by
  rw[AF]at h;split at h
  ·rename_i e;exact⟨d,by simp,e,by simpa using h⟩
  ·obtain⟨d',h1,h2,h3⟩:=Fv h;exact⟨d',by simp[h1],h2,h3⟩
theorem GP {s:ByteArray} {a r:List Tm} (h:As (⟨s,a⟩::r)=0):(Av s=true->a=[])/\As a=0/\As r=0:=by
 rw[As]at h;split at h
 ·split at h
  ·cases h
  ·rename_i h1 h2;split at h
   ·rename_i h3;refine⟨λb=>?_,h3,h⟩;cases a with
    |nil=>rfl
    |cons x y=>simp[b] at h2
   ·rename_i h3; exact absurd h h3
 ·cases h
theorem Rk {s:ByteArray} {a r:List Tm} (h:As (⟨s,a⟩::r)=0):Ff s=true:=by
 rw[As]at h;split at h
 ·assumption
 ·cases h
theorem Kv {l:List Bd} (b:Eu l) (hd:d∈l):AF l d.nm=some d.t:=by
 induction l with
 |nil=>cases hd
 |cons a r c=>
  obtain⟨h1,h2⟩:=Lp.1 b;rcases Ct.1 hd with rfl|hd
  ·simp[AF]
  ·rw[AF,Am (h1 d hd)];exact c h2 hd
theorem XF (a b:List Bd) (n:ByteArray):AF (a++b) n=(AF a n).or (AF b n):=by
 induction a with
 |nil=>simp[AF]
 |cons d r c=>
  rw[Dj,AF,AF];split
  ·rfl
  ·exact c
theorem FN (l:List Bd) (n:ByteArray):Ag l ⟨n,[]⟩=(AF l n).getD ⟨n,[]⟩:=by
 cases h:AF l n with
 |none=>rw[Hc (Ae h)]; simp[An]
 |some t=>rw[IJ h]; rfl
theorem Rl (h:d∈ls):∃t,AF ls d.nm=some t:=by
 induction ls with
 |nil=>cases h
 |cons a r b=>
  rw[AF];split
  ·exact⟨_,rfl⟩
  ·rename_i c;rcases Ct.1 h with rfl|h
   ·exact absurd rfl c
   ·exact b h
theorem Mi:∀(b:List Tm) (acc:List ByteArray) (n:ByteArray),n∈AU acc b->n∈acc∨∃k∈b,k.name=n/\Av n=true
 | [],acc,n,h=>Ad (by simpa [AU] using h)
 |k::r,acc,n,h=>by
  have e:AU acc (k::r)=AU (CO acc k.name) r:=rfl;rw[e]at h;rcases Mi r _ n h with h1|⟨c,h1,h2⟩
  ·cases a:Av k.name with
   |false=>rw[LH a] at h1; exact Ad h1
   |true=>
    cases hi:Ch k.name acc with
    |true=>rw[Ko a hi] at h1; exact Ad h1
    |false=>
     rw[Kn a hi]at h1;rcases BN.1 h1 with h1|h1
     ·exact Ad h1
     ·have e2:n=k.name:=(by simpa using h1);exact Ae ⟨k,by simp,e2.symm,by rw[e2]; exact a⟩
  ·exact Ae ⟨c,by simp[h1],h2⟩
theorem Rm:∀(b:List Tm) (acc:List ByteArray),(∀n∈acc,n∈AU acc b)/\∀k∈b,Av k.name=true->k.name∈AU acc b
 | [],acc=>⟨λn h=>by simpa [AU] using h,λk h=>by cases h⟩
 |k::r,acc=>by
  have e:AU acc (k::r)=AU (CO acc k.name) r:=rfl;rw[e];obtain⟨h1,h2⟩:=Rm r (CO acc k.name);have g:∀n∈acc,n∈CO acc k.name:=λn a=>by
   cases c:Av k.name with
   |false=>rw[LH c]; exact a
   |true=>
    cases hi:Ch k.name acc with
    |true=>rw[Ko c hi]; exact a
    |false=>rw[Kn c hi]; simp[a]
  refine⟨λn a=>h1 n (g n a),λd hk' f=>?_⟩;rcases Ct.1 hk' with rfl|hk'
  ·refine h1 _ ?_;cases hi:Ch d.name acc with
   |true=>rw[Ko f hi];unfold Ch at hi;obtain⟨y,hy,e2⟩:=Fc.1 hi;have e3:y=d.name:=Gg (by simpa using e2);rw[<-e3]; exact hy
   |false=>rw[Kn f hi]; simp
  ·exact h2 d hk' f
def top (m:Nat):Nat:=if m<3 then 1 else 2*m-1
theorem Mj {s:ByteArray} (h:Ff s=true):As [(⟨s,[]⟩:Tm)]=0:=by simp[As,h]
theorem XG {s:ByteArray} (h:Ff s=true) (a:Av s=false) (b:As l=0):As [(⟨s,l⟩:Tm)]=0:=by simp[As,h,a,b]
section
variable {P:Program} {ops:Array Oper} {Q:Exit->Act->World->Prop} {md:Region.Mode}
end
def Ml (w5 w6:World) (t5 t6:Tm) (a5 a6:Option Addr) (c5 c6:Nat) (w':World):Prop:=
 Ab w' w5.heap.size (zG t5 a5 c5) 61/\Ab w' w6.heap.size (zG t6 a6 c6) 61
def N6 (w5 w6:World) (t5 t6:Tm) (a5 a6:Option Addr) (c5 c6:Nat) (b:Nat) (w':World):Prop:=
 Ml w5 w6 t5 t6 a5 a6 c5 c6 w'/\Ab w' b #[.string ⟨#[102]⟩,.string ⟨#[103]⟩] 9
theorem Ml.alloc {b:World} {d:Nat} (h:Ml a b t5 t6 a5 c c5 d w') (o:Obj):Ml a b t5 t6 a5 c c5 d (w'.alloc o):=⟨h.1.alloc o,h.2.alloc o⟩
theorem N6.alloc {c:World} {d:Option Addr} {e:Nat} (h:N6 a c t5 t6 a5 d c5 e b w') (o:Obj):N6 a c t5 t6 a5 d c5 e b (w'.alloc o):=⟨h.1.alloc o,h.2.alloc o⟩
def Ay (x:ByteArray) (l:List Tm):Prop:=∃k∈Aw l,k.name=x
theorem Dz {s:ByteArray} {r:List Tm}:Ay x (⟨s,l⟩::r)↔s=x∨Ay x l∨Ay x r:=by
 unfold Ay;rw[Aw];constructor
 ·rintro⟨k,hk,e⟩;rcases Ct.1 hk with rfl|hk
  ·exact Ad e
  ·rcases BN.1 hk with hk|hk
   ·exact Ae (Ad ⟨k,hk,e⟩)
   ·exact Ae (Ae ⟨k,hk,e⟩)
 ·rintro(e|⟨k,hk,e⟩|⟨k,hk,e⟩)
  ·exact⟨⟨s,l⟩,by simp,e⟩
  ·exact⟨k,by simp[hk],e⟩
  ·exact⟨k,by simp[hk],e⟩
theorem FP:¬Ay x []:=by
 rintro⟨k,hk,_⟩;simp[Aw]at hk
theorem Cm {r:List Tm}:Ay x (t::r)↔Ay x [t]∨Ay x r:=by
 obtain⟨s,l⟩:=t;rw[Dz,Dz];have h0:¬Ay x []:=FP;constructor
 ·rintro(h|h|h)
  ·exact Ad (Ad h)
  ·exact Ad (Ae (Ad h))
  ·exact Ae h
 ·rintro((h|h|h)|h)
  ·exact Ad h
  ·exact Ae (Ad h)
  ·exact absurd h h0
  ·exact Ae (Ae h)
theorem Mm {a b:List Tm}:Ay x (a++b)↔Ay x a∨Ay x b:=by
 induction a with
 |nil=>have h0:¬Ay x []:=FP;simp[h0]
 |cons t r c=>rw[Dj,Cm,Cm (r:=r),c,or_assoc]
def Ci (s:List Bd):Prop:=Eu s/\(∀d∈s,Av d.nm=true/\As [d.t]=0)/\∀d∈s,∀e∈s,¬Ay e.nm [d.t]
theorem Kw:Ci []:=⟨by simp[Eu],by simp,by simp⟩
theorem EY (h:∀d∈s,Av d.nm=true) {n:ByteArray} (a:Av n=false) (l:List Tm):Ag s ⟨n,l⟩=⟨n,An s l⟩:=by
 refine Hc (Ae ?_);cases b:AF s n with
 |none=>rfl
 |some x=>obtain⟨d,hd,e,_⟩:=Fv b;have h1:=h d hd;rw[e,a]at h1;cases h1
theorem Qb:∀l:List Tm,(∀e∈s,¬Ay e.nm l)->An s l=l:=by
 intro l;induction l using Tm.indL with
 |h0=>intro _; simp[An]
 |h n l r a b=>
  intro h;rw[Bs,b λe he ho=>h e he (Dz.2 (Ae (Ae ho)))];congr 1
  rw[Hc (Ae ?_),a λe he ho=>h e he (Dz.2 (Ae (Ad ho)))];cases c:AF s n with
  |none=>rfl
  |some x=>obtain⟨d,hd,e,_⟩:=Fv c;exact absurd (Dz.2 (Ad e.symm)) (h d hd)
theorem N8 (c:∀d∈s,Av d.nm=true) (hy:Av y=true):∀l:List Tm,As l=0->Ay y (An s l)->(Ay y l/\AF s y=none)∨∃d∈s,Ay d.nm l/\Ay y [d.t]:=by
 intro l;induction l using Tm.indL with
 |h0=>intro _ h; simp only[An] at h; exact absurd h FP
 |h n l r f g=>
  intro he h;obtain⟨g1,g2,g3⟩:=GP he;rw[Bs,Cm]at h;rcases h with h|h
  ·cases a:Av n with
   |false=>
    rw[EY c a,Dz]at h;rcases h with h|h|h
    ·rw[h,hy]at a; cases a
    ·rcases f g2 h with ⟨h1,h2⟩|⟨d,hd,h1,h2⟩
     ·exact Ad ⟨Dz.2 (Ae (Ad h1)),h2⟩
     ·exact Ae ⟨d,hd,Dz.2 (Ae (Ad h1)),h2⟩
    ·exact absurd h FP
   |true=>
    have e:=g1 a;subst e;rw[FN]at h;cases b:AF s n with
    |none=>
     rw[b]at h;rcases Dz.1 h with h|h|h
     ·subst h; exact Ad ⟨Dz.2 (Ad rfl),b⟩
     ·exact absurd h FP
     ·exact absurd h FP
    |some x=>rw[b]at h;obtain⟨d,hd,e1,e2⟩:=Fv b;refine Ae ⟨d,hd,Dz.2 (Ad e1.symm),?_⟩;rw[e2]; exact h
  ·rcases g g3 h with ⟨h1,h2⟩|⟨d,hd,h1,h2⟩
   ·exact Ad ⟨Dz.2 (Ae (Ae h1)),h2⟩
   ·exact Ae ⟨d,hd,Dz.2 (Ae (Ae h1)),h2⟩
theorem Ci.vars (h:Ci s):∀d∈s,Av d.nm=true:=λd hd=>(h.2.1 d hd).1
theorem Ci.gone (h:Ci s) (he:As l=0):∀e∈s,¬Ay e.nm (An s l):=by
 intro e hm ho;rcases N8 h.vars (h.vars e hm) l he ho with ⟨_,h2⟩|⟨d,hd,_,h2⟩
 ·obtain⟨t,ht⟩:=Rl hm;rw[ht]at h2; cases h2
 ·exact h.2.2 d hd e hm h2
theorem Ci.idem (h:Ci s) (he:As l=0):An s (An s l)=An s l:=Qb _ (h.gone he)
theorem IR (h:Ci s):∀l:List Tm,As l=0->As (An s l)=0:=by
 intro l;induction l using Tm.indL with
 |h0=>intro _; simp[An,As]
 |h n l r c f=>
  intro he;obtain⟨g1,g2,g3⟩:=GP he;have b:=Rk he;rw[Bs];have key:As [Ag s ⟨n,l⟩]=0:=by
   cases a:Av n with
   |false=>rw[EY h.vars a]; exact XG b a (c g2)
   |true=>
    have e:=g1 a;subst e;rw[FN];cases g:AF s n with
    |none=>exact Mj b
    |some x=>obtain⟨d,hd,_,e2⟩:=Fv g;have h3:=(h.2.1 d hd).2;rw[e2]at h3;exact h3
  rw[Nw,Aq key];exact f g3
theorem Rn {P:List Tm->List Tm->Prop} (h:P [t] (An s [t])):P [t] [Ag s t]:=by
 rw[Bs]at h;simpa [An] using h
theorem EZ (h:Ci s) (he:As [t]=0):As [Ag s t]=0:=Rn (P:=λ_ b=>As b=0) (IR h [t] he)
theorem Ci.goneT (h:Ci s) (he:As [t]=0):∀e∈s,¬Ay e.nm [Ag s t]:=Rn (P:=λ_ b=>∀e∈s,¬Ay e.nm b) (h.gone he)
theorem XH {a b:List Bd} (hp:a.Perm b) (c:Eu b) (n:ByteArray):AF a n=AF b n:=by
 have e:Eu a:=c.perm hp;cases h1:AF b n with
 |some x=>obtain⟨d,hd,e1,e2⟩:=Fv h1;have h2:=Kv e (hp.symm.subset hd);rw[e1,e2]at h2;exact h2
 |none=>
  cases h2:AF a n with
  |none=>rfl
  |some x=>obtain⟨d,hd,e1,e2⟩:=Fv h2;have h3:=Kv c (hp.subset hd);rw[e1,h1]at h3;cases h3
theorem XI (x:ByteArray) (t:Tm) (s:List Bd) (n:ByteArray):AF (s.map (BJ x t)) n=(AF s n).map (Ag [⟨x,t⟩]):=by
 induction s with
 |nil=>rfl
 |cons d r a=>
  rw[CB,AF,AF];by_cases e:d.nm=n
  ·rw[Aq e,Aq (show(BJ x t d).nm=n from e)]; rfl
  ·rw[Am e,Am (show ¬(BJ x t d).nm=n from e)]; exact a
def CJ (s:List Bd) (x:ByteArray) (t:Tm):List Bd:=Gm (s.map (BJ x t)++[⟨x,t⟩])
theorem Kx (h:Eu s) (hx:∀d∈s,d.nm≠x):Eu (s.map (BJ x t)++[⟨x,t⟩]):=by
 refine Ns.2 ⟨Ib.2 h,by simp,λa c b hb=>?_⟩;obtain⟨d,hd,rfl⟩:=Cx.1 c;have e:b=⟨x,t⟩:=by simpa using hb
 rw[e];exact hx d hd
theorem Mn (h:Eu s) (hx:∀d∈s,d.nm≠x) (n:ByteArray):Ag (CJ s x t) ⟨n,[]⟩=Ag [⟨x,t⟩] (Ag s ⟨n,[]⟩):=by
 rw[FN (CJ s x t)];unfold CJ;rw[XH (EU _) (Kx h hx),XF,XI,FN s];cases hf:AF s n with
 |some u=>rfl
 |none=>show(AF [⟨x,t⟩] n).getD _=Ag [⟨x,t⟩] ⟨n,[]⟩;rw[FN]
theorem Ro (hx:Av x=true):∀d∈[(⟨x,t⟩:Bd)],Av d.nm=true:=λd hd=>by
 have e:d=⟨x,t⟩:=by simpa using hd
 rw[e]; exact hx
theorem Ci.add (h:Ci s) (hx:Av x=true) (g:∀d∈s,d.nm≠x) (he:As [t]=0) (ht:∀e∈s,¬Ay e.nm [t]) (ho:¬Ay x [t]):Ci (CJ s x t):=by
 have c:Ci [(⟨x,t⟩:Bd)]:=by
  refine⟨by simp[Eu],λd hd=>?_,λd hd e hm=>?_⟩
  ·have e:d=⟨x,t⟩:=(by simpa using hd);rw[e]; exact⟨hx,he⟩
  ·have e1:d=⟨x,t⟩:=(by simpa using hd);have e2:e=⟨x,t⟩:=(by simpa using hm);rw[e1,e2]; exact ho
 have hp:=EU (s.map (BJ x t)++[⟨x,t⟩]);have b:∀d∈CJ s x t,(∃d0∈s,d=BJ x t d0)∨d=⟨x,t⟩:=λd hd=>by
  rcases BN.1 (hp.subset hd) with hd|hd
  ·obtain⟨d0,h0,rfl⟩:=Cx.1 hd;exact Ad ⟨d0,h0,rfl⟩
  ·exact Ae (by simpa using hd)
 have i:∀d0∈s,∀y,Av y=true->(y=x∨∃e∈s,e.nm=y)->¬Ay y [Ag [⟨x,t⟩] d0.t]:=λd0 h0 y hy f hoc=>by
  have h1:Ay y (An [⟨x,t⟩] [d0.t]):=by rw[Bs]; simpa [An] using hoc
  rcases N8 c.vars hy [d0.t] (h.2.1 d0 h0).2 h1 with ⟨h2,h3⟩|⟨d,hd,h2,h3⟩
  ·rcases f with rfl|⟨e,hm,rfl⟩
   ·simp[AF]at h3
   ·exact h.2.2 d0 h0 e hm h2
  ·have e1:d=⟨x,t⟩:=(by simpa using hd);subst e1;rcases f with rfl|⟨e,hm,rfl⟩
   ·exact ho h3
   ·exact ht e hm h3
 refine⟨(Kx h.1 g).perm hp,λd hd=>?_,λd hd e hm=>?_⟩
 ·rcases b d hd with ⟨d0,h0,rfl⟩|rfl
  ·exact⟨(h.2.1 d0 h0).1,EZ c (h.2.1 d0 h0).2⟩
  ·exact⟨hx,he⟩
 ·have hy:e.nm=x∨∃a∈s,a.nm=e.nm:=by
   rcases b e hm with ⟨a,h0,rfl⟩|rfl
   ·exact Ae ⟨a,h0,rfl⟩
   ·exact Ad rfl
  have j:Av e.nm=true:=by
   rcases hy with h1|⟨a,h0,h1⟩
   ·rw[h1]; exact hx
   ·rw[<-h1]; exact(h.2.1 a h0).1
  rcases b d hd with ⟨d0,h0,rfl⟩|rfl
  ·exact i d0 h0 e.nm j hy
  ·rcases hy with h1|⟨a,h0,h1⟩
   ·rw[h1]; exact ho
   ·rw[<-h1]; exact ht a h0
theorem Jr (h:Ci s) (hx:Av x=true) (b:∀d∈s,d.nm≠x) (c:Ci (CJ s x t)):∀l:List Tm,As l=0->An (CJ s x t) l=An [⟨x,t⟩] (An s l):=by
 intro l;induction l using Tm.indL with
 |h0=>intro _; simp[An]
 |h n l r f g=>
  intro he;obtain⟨g1,g2,g3⟩:=GP he;rw[Bs,Bs,Bs,g g3];congr 1
  cases a:Av n with
  |false=>rw[EY c.vars a,EY h.vars a,EY (Ro hx) a,f g2]
  |true=>have e:=g1 a;subst e;exact Mn h.1 b n
def Mo (s:ByteArray) (l:List Tm):Prop:=(Av s=true/\l=[])∨(s=⟨#[102]⟩/\l.length=2)
def AX (l:List Tm):Prop:=∀k∈Aw l,Mo k.name k.args
theorem AX.cons {r:List Tm}:AX (t::r)↔Mo t.name t.args/\AX t.args/\AX r:=by
 obtain⟨s,l⟩:=t;unfold AX;simp only[Aw,Ct,BN];constructor
 ·intro h;exact⟨h ⟨s,l⟩ (Ad rfl),λk hk=>h k (Ae (Ad hk)),λk hk=>h k (Ae (Ae hk))⟩
 ·rintro⟨h1,h2,h3⟩ k (rfl|hk|hk)
  ·exact h1
  ·exact h2 k hk
  ·exact h3 k hk
theorem AX.nil:AX []:=λk hk=>by simp[Aw] at hk
theorem AX.one:AX [t]↔Mo t.name t.args/\AX t.args:=by
 rw[AX.cons];exact⟨λh=>⟨h.1,h.2.1⟩,λh=>⟨h.1,h.2,AX.nil⟩⟩
theorem AX.all:∀ {l:List Tm},AX l↔∀t∈l,AX [t]
 | []=>by simp[AX.nil]
 |t::r=>by
  rw[AX.cons,AX.all (l:=r)];simp only[Ct,forall_eq_or_imp,AX.one];exact⟨λh=>⟨⟨h.1,h.2.1⟩,h.2.2⟩,λh=>⟨h.1.1,h.1.2,h.2⟩⟩
def Gq (s:List Bd):Prop:=∀d∈s,AX [d.t]
def IU (l:List Pr):Prop:=∀p∈l,AX [p.l]/\AX [p.r]
theorem Rp {n:ByteArray} {x:Tm}:∀ {s:List Bd},Gq s->AF s n=some x->AX [x]
 | [],_,h=>by cases h
 |d::r,h,e=>by
  simp only[AF] at e;split at e
  ·cases e; exact h d (by simp)
  ·exact Rp (λe he=>h e (by simp[he])) e
theorem XJ (c:Gq s) (l:List Tm):AX l->AX (An s l):=by
 induction l using Tm.indL with
 |h0=>intro _; simp only[An]; exact AX.nil
 |h n l r d e=>
  intro h;obtain⟨h1,h2,h3⟩:=AX.cons.1 h;simp only[An];have key:AX [Gk s n l (An s l)]:=by
   have hq:AX [(⟨n,An s l⟩:Tm)]:=by
    refine AX.one.2 ⟨?_,d h2⟩;rcases h1 with ⟨a,b⟩|⟨a,b⟩
    ·refine Ad ⟨a,?_⟩;have:l=[]:=b;subst this;simp[An]
    ·exact Ae ⟨a,by rw[show(⟨n,An s l⟩:Tm).args=An s l from rfl,Jl]; exact b⟩
   unfold Gk;cases f:AF s n with
   |none=>exact hq
   |some x=>
    simp only;split
    ·exact Rp c f
    ·exact hq
  exact AX.cons.2 ⟨(AX.one.1 key).1,(AX.one.1 key).2,e h3⟩
theorem Js (a:Gq s) (ht:AX [t]):AX [Ag s t]:=by
 have h:=XJ a [t] ht;rw[Bs]at h;simp only[An] at h;exact h
def Rq:UO->Prop
 | .go s l=>Gq s/\IU l
 | .stop _ s=>Gq s
theorem Rr (lim:Bool) (a:Gq s) {l:List Pr} (b:IU l) (x:ByteArray) (ht:AX [t]):Rq (Cu lim s l x t):=by
 have hp:Gq (s.map (BJ x t)):=λd hd=>by
  obtain⟨d0,c,rfl⟩:=Cx.1 hd;exact Js (λe he=>by rw[GC.1 he]; exact ht) (a d0 c)
 unfold Cu;split
 ·exact a
 ·split
  ·exact a
  ·refine⟨λd hd=>?_,b⟩;rcases BN.1 ((EU _).subset hd) with h|h
   ·exact hp d h
   ·rw[GC.1 h]; exact ht
theorem Rs:∀ {a b:List Tm},AX a->AX b->IU (AD a b)
 | [],_,_,_=>λp hp=>by simp[AD] at hp
 |t::r,[],_,_=>λp hp=>by simp[AD] at hp
 |t::r,u::q,c,hb=>λp hp=>by
  obtain⟨d,a2,a3⟩:=AX.cons.1 c;obtain⟨e,f,g⟩:=AX.cons.1 hb;simp only[AD] at hp;rcases Ct.1 hp with rfl|hp
  ·exact⟨AX.one.2 ⟨d,a2⟩,AX.one.2 ⟨e,f⟩⟩
  ·exact Rs a3 g p hp
theorem XK (lim:Bool) (c:Gq s) {l:List Pr} (d:IU l) {a b:Tm} (e:AX [a]) (hb:AX [b]):Rq (Br lim s l a b):=by
 unfold Br;split
 ·exact c
 ·split
  ·split
   ·exact⟨c,d⟩
   ·exact Rr lim c d _ hb
  ·split
   ·exact Rr lim c d _ e
   ·split
    ·refine⟨c,λp hp=>?_⟩;rcases BN.1 hp with h|h
     ·exact Rs (AX.one.1 e).2 (AX.one.1 hb).2 p h
     ·exact d p h
    ·exact c
theorem Ky (lim:Bool):∀(n:Nat) {s:List Bd} (a:Gq s) {l:List Pr} (b:IU l) {R:Int×List Bd},A0 lim n s l=some R->Gq R.2
 |0,_,_,_,_,_,h=>by cases h
 |n+1,s,a,[],b,R,h=>by
  simp only[A0,Em] at h;cases h;exact a
 |n+1,s,a,p::l,b,R,h=>by
  have hp:=b p (by simp);have c:IU l:=λq hq=>b q (by simp[hq]);have k:=XK lim a c (Js a hp.1) (Js a hp.2);rw[A0,EL]at h;revert h k;cases Br lim s l (Ag s p.l) (Ag s p.r) with
  |stop e s'=>intro h k; cases h; exact k
  |go s' l'=>intro h k; exact Ky lim n k.1 k.2 h
theorem Mp {p:UInt8} (hp:p=84∨p=86) (n:Nat):AX [AK p n]:=AX.one.2 ⟨Ad ⟨by show Av (Ar p n)=true; rw[NU]; rcases hp with rfl|rfl<;>decide,rfl⟩,AX.nil⟩
theorem Rt {a b:Tm} (c:AX [a]) (hb:AX [b]):AX [Bu a b]:=AX.one.2 ⟨Ae ⟨rfl,rfl⟩,AX.cons.2 ⟨(AX.one.1 c).1,(AX.one.1 c).2,hb⟩⟩
theorem Mq {p:UInt8} (hp:p=84∨p=86) (t:Lm):∀(ar:List Tm) (n:Nat),Au ar.length 0 [t]=0->Bj [t]=false->AX ar->AX [(Az p t ar n).1]/\IU (Az p t ar n).2.1:=by
 induction t using Lm.ind with
 |h k i l d=>
  intro ar n he hc c;rcases Jn he with ⟨x,e,h1,h2⟩|⟨b,e,hb⟩|⟨f,a,e,m,hx⟩|⟨x,e,_,_⟩
  ·cases e;rw[Jo];have g:ar.length-1-i.toNat<ar.length:=(by omega);have o:ar.getD (ar.length-1-i.toNat) D9=ar[ar.length-1-i.toNat]:=by
    rw[GD,GA g]; rfl
   rw[o];exact⟨AX.all.1 c _ (Bv g),λq hq=>by simp at hq⟩
  ·cases e;rw[IL];have r:Bj [b]=false:=by rw[Ea] at hc; simpa using hc
   have s:((ar++[AK p (n+1)]).length:Int)=(ar.length:Int)+1:=(by simp);have u:AX (ar++[AK p (n+1)]):=AX.all.2 λt ht=>by
    rcases BN.1 ht with h1|h1
    ·exact AX.all.1 c t h1
    ·rw[GC.1 h1]; exact Mp hp _
   have h:=d b (by simp) (ar++[AK p (n+1)]) (n+1) (by rw[s]; exact hb) r u;exact⟨Rt (Mp hp _) h.1,h.2⟩
  ·cases e;rw[Jp];have j:Bj [f]=false/\Bj [a]=false:=by
    rw[Ea,IM]at hc;simpa using hc
   have h1:=d f (by simp) ar n m j.1 c;have h2:=d a (by simp) ar (Az p f ar n).2.2 hx j.2 c;refine⟨Mp hp _,λq hq=>?_⟩;rcases BN.1 hq with hq|hq
   ·rcases BN.1 hq with hq|hq
    ·exact h1.2 q hq
    ·exact h2.2 q hq
   ·rw[GC.1 hq];exact⟨h1.1,Rt h2.1 (Mp hp _)⟩
  ·cases e;rw[Ea]at hc;simp at hc
def BH (s:ByteArray):List ByteArray->Nat
 | []=>0
 |n::r=>if n=s then 0 else BH s r+1
theorem Mr {s:ByteArray}:∀ {l:List ByteArray},s∈l->BH s l<l.length
 | [],h=>by cases h
 |n::r,h=>by
  rw[BH];split
  ·simp
  ·rename_i a;have:=Mr (l:=r) ((Ct.1 h).resolve_left λe=>a e.symm);simp; omega
theorem Ru {s:ByteArray}:∀ {l:List ByteArray} (r:List ByteArray),s∈l->BH s (l++r)=BH s l
 | [],_,h=>by cases h
 |n::q,r,h=>by
  simp only[Dj,BH];split
  ·rfl
  ·rename_i a;rw[Ru r ((Ct.1 h).resolve_left λe=>a e.symm)]
theorem Rv {s:ByteArray}:∀ {l:List ByteArray},s∉l->BH s (l++[s])=l.length
 | [],_=>by simp[BH]
 |n::q,h=>by
  simp only[Dj,BH];rw[Am (λe=>h (by simp[e])),Rv (l:=q) (λe=>h (by simp[e]))];rfl
def Hg (ns:List ByteArray) (s:ByteArray) (l:List Tm) (bs:List Ty):Ty:=if l.length=0 then ⟨(BH s ns:Nat),[]⟩ else ⟨0,bs⟩
def DZ (ns:List ByteArray):List Tm->List Ty
 | []=>[]
 | ⟨s,l⟩::r=>Hg ns s l (DZ ns l)::DZ ns r
def Cq (ns:List ByteArray) (t:Tm):Ty:=Hg ns t.name t.args (DZ ns t.args)
theorem GQ (a:List ByteArray) (t:Tm) (r:List Tm):DZ a (t::r)=Cq a t::DZ a r:=by
 obtain⟨s,l⟩:=t;simp only[DZ,Cq]
theorem Il (a:List ByteArray):DZ a []=[]:=by simp[DZ]
theorem Rw {D:ByteArray->Prop} {f:ByteArray->ByteArray} (a:Ew D f) {s:ByteArray} (b:D s):∀ {l:List ByteArray},(∀y∈l,D y)->BH (f s) (l.map f)=BH s l
 | [],_=>rfl
 |n::r,h=>by
  simp only[CB,BH];rw[Rw a b (l:=r) λy hy=>h y (by simp[hy])];by_cases e:n=s
  ·rw[Aq e,Aq (by rw[e])]
  ·rw[Am e,Am λe2=>e (a.inj _ _ (h n (by simp)) b e2)]
theorem XL {D:ByteArray->Prop} {f:ByteArray->ByteArray} (b:Ew D f) {a:List ByteArray} (c:∀y∈a,D y) (l:List Tm):AW D l->DZ (a.map f) (Cy f l)=DZ a l:=by
 induction l using Tm.indL with
 |h0=>intro _; simp[Cy,DZ]
 |h s l r d e=>intro h;obtain⟨h1,h2,h3⟩:=AW.cons.1 h;simp only[Cy,DZ];rw[d h2,e h3];unfold Hg;rw[NS,Rw b h1 c]
theorem XM {D:ByteArray->Prop} {f:ByteArray->ByteArray} (a:Ew D f) (ht:AW D [t]):Cq (AU [] (Aw [Cd f t])) (Cd f t)=Cq (AU [] (Aw [t])) t:=by
 have b:=QE a ht;rw[b.1];have h:=XL a b.2 [t] ht;rw[Gp,GQ,GQ,Jm,H4,Il]at h;exact(List.cons.inj h).1
theorem XN {s:ByteArray} (a:Av s=true):s∈CO acc s:=by
 unfold CO;rw[a];cases h:Ch s acc with
 |true=>simp; exact Ks.1 h
 |false=>simp
theorem XP {s:ByteArray} (h:y∈acc):y∈CO acc s:=by
 unfold CO;split
 ·simp[h]
 ·exact h
theorem XQ (a:List Tm):∀acc,∃r,AU acc a=acc++r:=by
 induction a with
 |nil=>intro acc; exact⟨[],by simp[AU]⟩
 |cons k q b=>
  intro acc;obtain⟨r,c⟩:=b (CO acc k.name);rw[show AU acc (k::q)=AU (CO acc k.name) q from rfl,c];unfold CO;split
  ·exact⟨[k.name]++r,by simp⟩
  ·exact⟨r,rfl⟩
theorem XU (e:∀d∈ls,Av d.nm=true):∀l:List Tm,AX l->fL ls l=An ls l:=by
 intro l;induction l using Tm.indL with
 |h0=>intro _; simp[fL,An]
 |h s a r f g=>
  intro h;obtain⟨h1,h2,h3⟩:=AX.cons.1 h;rw[fL,An,f h2,g h3];congr 1
  unfold fN Gk;rcases h1 with ⟨e1,e2⟩|⟨e1,e2⟩
  ·have b:Av s=true:=e1;have i:a=[]:=e2;rw[b,i];cases AF ls s<;>rfl
  ·have b:s=⟨#[102]⟩:=e1;have c:Av s=false:=by rw[b]; decide
   rw[c];cases j:AF ls s with
   |none=>rfl
   |some x=>obtain⟨d,hd,e3,_⟩:=Fv j;have:=e d hd;rw[e3,c]at this;cases this
theorem XV (b:∀d∈ls,Av d.nm=true) (h:AX [t]):fT ls t=Ag ls t:=by
 have h1:=XU b [t] h;obtain⟨s,a⟩:=t;rw[fL,An]at h1;exact(List.cons.inj h1).1
def Hh:List (ByteArray×Value)->ByteArray->Value->List (ByteArray×Value)
 | [],_,_=>[]
 |p::r,n,v=>if p.1=n then (p.1,v)::r else p::Hh r n v
theorem Rx (n:ByteArray) (x:Value):∀(l:List MapEntry) (L:List (ByteArray×Value)) (i:Nat) (v:Value),l.map (λe=>(e.key,e.val))=L.map (λp=>(Value.string p.1,p.2))->BK L n=some v->
  ∃j e,Instr.findNow .string (.string n) l i=some (some (i+j,v))/\l[j]? = some e/\e.key=.string n/\(l.modify j λe=>{ e with key:=.string n,val:=x}).map (λe=>(e.key,e.val))=(Hh L n x).map (λp=>(Value.string p.1,p.2))
 | [],[],i,v,h,a=>by simp[BK] at a
 | [],p::L,i,v,h,a=>by simp at h
 |e::l,[],i,v,h,a=>by simp at h
 |e::l,p::L,i,v,h,a=>by
  simp only[CB,Gd,Fq] at h;obtain⟨⟨hk,he⟩,ht⟩:=h;by_cases b:p.1=n
  ·have c:Instr.sameNow .string (.string n) e.key=some true:=(by rw[hk,b];show some (n==n)=some true;rw[show(n==n)=true from (Ln _ _).2 rfl]);simp only[BK,b,if_true,Jf] at a;refine⟨0,e,by simp[Instr.findNow,c,he,a],rfl,by rw[hk,b],?_⟩;simp[Hh,b,ht]
  ·have c:Instr.sameNow .string (.string n) e.key=some false:=by
    rw[hk];show some (n==p.1)=some false;have hb:(n==p.1)=false:=by
     cases d:(n==p.1) with
     |false=>rfl
     |true=>exact absurd ((Ln _ _).1 d).symm b
    rw[hb]
   rw[BK,Am b]at a;obtain⟨j,e',h1,h2,h3,f⟩:=Rx n x l L (i+1) v ht a;refine⟨j+1,e',by simp[Instr.findNow,c,h1]; omega,by simpa using h2,h3,?_⟩;rw[Hh,Am b];simp[List.modify_succ_cons,f,hk,he]
theorem XY {T a c:TypeId} {z:Value} (hm:P.underlying T=some (.map a c)) (hk:P.underlying a=some .string) (hz:(zeroValue c).run P w=.ok z w) (h:BI w r L) (n:ByteArray):
  (Instr.lookup T (.map (some r)) (.string n) false).run P w=.ok ((BK L n).getD z) w:=by
 obtain⟨es,ab,hb,he,aa⟩:=h;obtain⟨h1,h2⟩:=LD n es.toList L 0 he;have hc:∀b,(Instr.checkKey b 10000 a (.string n)).run P w=.ok () w:=λb=>J6 (k:=.string n) hk (by simp[MapKept.IsKey]) b 9999;cases d:BK L n with
 |none=>simp[Instr.lookup,Fr hm,Gz hb,hc,H6 hk (h1 d),Result.andThen,hz]
 |some v=>obtain⟨j,e⟩:=h2 v d;simp[Instr.lookup,Fr hm,Gz hb,hc,H6 hk e,Result.andThen]
theorem XZ {T a f:TypeId} (hm:P.underlying T=some (.map a f)) (hk:P.underlying a=some .string) (h:BI w r L) (n:ByteArray) (v c:Value) (g:BK L n=some c):
  ∃w',(Instr.mapUpdate T (.map (some r)) (.string n) v).run P w=.ok () w'/\BI w' r (Hh L n v)/\w'.heap.size=w.heap.size/\w'.os=w.os/\w'.tape=w.tape/\w'.output=w.output/\(∀b,b≠r->w'.heap[b]? = w.heap[b]?):=by
 obtain⟨es,i,hb,he,l⟩:=h;obtain⟨j,m,h1,h2,h3,o⟩:=Rx n v es.toList L 0 c he g;have hc:(Instr.checkKey false 10000 a (.string n)).run P w=.ok () w:=J6 (k:=.string n) hk (by simp[MapKept.IsKey]) false 9999;have q:es[j]? = some m:=by simpa using h2
 rw[Ia]at h1;have s:(Instr.keyThatStays (.string n) (.string n)).run P w=.ok (.string n) w:=MapKept.run_keyThatStays (d:=.string) (by simp[MapKept.IsKey]);refine⟨{ w with heap:=w.heap.setIfInBounds r (.map (es.modify j λe=>{ e with key:=.string n,val:=v}) i)},?_,⟨_,_,(H9 hb).1,by rw[Array.toList_modify]; exact o,l.modify _ _ _⟩,by simp,rfl,rfl,rfl,λb t=>(H9 hb).2 b t⟩;simp[Instr.mapUpdate,Fr hm,Gz hb,hc,H6 hk h1,q,h3,s,MapKept.run_setObj_map _ hb,Result.andThen]
open Go.ChangeMaps (setBlock)
def DM (w:World) (b r:Nat) (L rem:List (ByteArray×Value)):Prop:=
 ∃es clk since seen c0,w.heap[b]? = some (.map es clk)/\es.toList.map (λe=>(e.key,e.val))=L.map (λp=>(Value.string p.1,p.2))/\Gh es clk/\
  w.heap[r]? = some (.mapIter (some b) since seen c0)/\(∀x∈es.toList,x.born<since)/\since<=c0/\since<=clk/\
  (leftOf es seen).toList.map (λe=>(e.key,e.val))=rem.map (λp=>(Value.string p.1,p.2))
def Ry (w:World) (b r:Nat):Nat:=
 match w.heap[b]?,w.heap[r]? with
 |some (.map es _),some (.mapIter _ _ seen _)=>(leftOf es seen).size
 |_,_=>0
theorem DM.left (h:DM w b r L rem):Ry w b r=rem.length:=by
 obtain⟨es,aa,since,seen,c0,hb,_,_,a,_,_,_,c⟩:=h;have:=Dt List.length c;simp only[GH,Array.length_toList] at this;simp only[Ry,hb,a];exact this
theorem DM.map (h:DM w b r L rem):BI w b L:=by
 obtain⟨es,a,since,seen,c0,hb,he,c,_⟩:=h;exact⟨es,a,hb,he,c⟩
theorem DM.ne (h:DM w b r L rem):r≠b:=by
 obtain⟨es,aa,since,seen,c0,hb,he,hs,a,_⟩:=h;intro e;rw[e,hb]at a;cases a
theorem DM.lt (h:DM w b r L rem):r<w.heap.size:=by
 obtain⟨es,aa,since,seen,c0,hb,he,hs,a,_⟩:=h;exact(Fp.1 a).1
theorem DM.kept (h:DM w b r L rem) (a:w'.heap[b]? = w.heap[b]?) (c:w'.heap[r]? = w.heap[r]?):DM w' b r L rem:=by
 obtain⟨es,d,since,seen,c0,hb,he,e,f,rest⟩:=h;exact⟨es,d,since,seen,c0,a.trans hb,he,e,c.trans f,rest⟩
theorem DM.below (h:DM w b r L rem) (hb:Below B w w') (h1:b<B) (h2:r<B):DM w' b r L rem:=h.kept (hb.block b h1) (hb.block r h2)
theorem BI.range {T c d:TypeId} (h:BI w b L) (hm:P.underlying T=some (.map c d)):
  ∃o,(Instr.range T (.map (some b))).run P w=.ok (zC w.heap.size) (w.alloc o)/\DM (w.alloc o) b w.heap.size L L:=by
 have f:=h.lt;obtain⟨es,a,hb,he,e⟩:=h;refine⟨_,run_range_map w T c d b es a hm hb,es,a,a,#[],a,(BL _ _ _ f).trans hb,he,e,IA w _,e.1,Af _,Af _,?_⟩;rw[<-he];congr 1
 simp[leftOf]
theorem X2 {l:List MapEntry} (h:l.map (λe=>(e.key,e.val))=L.map (λp=>(Value.string p.1,p.2))) {e:MapEntry} (he:e∈l):∃p∈L,e.key=.string p.1/\e.val=p.2:=by
 have:(e.key,e.val)∈L.map (λp=>(Value.string p.1,p.2)):=by rw[<-h]; exact Cx.2 ⟨e,he,rfl⟩
 obtain⟨p,hp,e2⟩:=Cx.1 this;simp only[Fq] at e2;exact⟨p,hp,e2.1.symm,e2.2.symm⟩
theorem N9 (seen:Array Nat) (e:MapEntry):∀(l:List MapEntry) (R:List (ByteArray×Value)),(l.map (·.born)).Nodup->e∈l->seen.contains e.born=false->(l.filter λx=>!seen.contains x.born).map (λe=>(e.key,e.val))=R.map (λp=>(Value.string p.1,p.2))->
  ∃p c,e.key=.string p.1/\e.val=p.2/\R.Perm (p::c)/\(l.filter λx=>!(seen.push e.born).contains x.born).map (λe=>(e.key,e.val))=c.map (λp=>(Value.string p.1,p.2))
 | [],R,_,he,_,_=>by cases he
 |a::l,R,k,he,f,b=>by
  simp only[CB,List.nodup_cons] at k;obtain⟨m,n⟩:=k;by_cases g:a.born=e.born
  ·have r:e=a:=by
    rcases Ct.1 he with h|h
    ·exact h
    ·exact absurd (Cx.2 ⟨e,h,g.symm⟩) m
   subst r;have s:(!seen.contains e.born)=true:=by rw[f]; rfl
   rw[GI (by simpa using s)]at b;match R,b with
   |p::c,b=>
    simp only[CB,Gd,Fq] at b;refine⟨p,c,b.1.1,b.1.2,List.Perm.refl _,?_⟩;rw[G7 (by simp),<-b.2];congr 1
    refine List.filter_congr λx hx=>?_;have t:x.born≠e.born:=λh=>m (Cx.2 ⟨x,hx,h⟩);simp[t]
  ·have o:e∈l:=by
    rcases Ct.1 he with h|h
    ·exact absurd (by rw[h]) g
    ·exact h
   by_cases d:seen.contains a.born=true
   ·rw[G7 (by simpa using d)]at b;obtain⟨p,c,h1,h2,h3,i⟩:=N9 seen e l R n o f b;refine⟨p,c,h1,h2,h3,?_⟩;rw[G7 (by simp at d ⊢; exact λh=>absurd d h),i]
   ·have j:seen.contains a.born=false:=(by simpa using d);rw[GI (by simpa using j)]at b;match R,b with
    |q::u,b=>simp only[CB,Gd] at b;obtain⟨p,c,h1,h2,h3,i⟩:=N9 seen e l u n o f b.2;refine⟨p,q::c,h1,h2,(List.Perm.cons q h3).trans (List.Perm.swap p q c),?_⟩;rw[GI (by simp at j ⊢; exact⟨j,g⟩),CB,CB,i,b.1]
theorem DM.next (h:DM w b r L rem) (ty:TypeId):
  (rem=[]/\(Instr.next (zC r) false ty).run P w=.ok (.tuple #[.bool false]) w)∨
  ∃p d w',rem.Perm (p::d)/\(Instr.next (zC r) false ty).run P w=.ok (.tuple #[.bool true,.string p.1,p.2]) w'/\DM w' b r L d/\
   w'.heap.size=w.heap.size/\w'.os=w.os/\w'.tape=w.tape/\w'.output=w.output/\(∀j,j≠r->w'.heap[j]? = w.heap[j]?)/\(Instr.entry (zC r)).run P w'=.ok (.tuple #[.string p.1,p.2]) w':=by
 have s:=h.ne;obtain⟨es,a,since,seen,c0,hb,he,i,k,hold,t,l,m⟩:=h;rcases run_next_at (P:=P) w ty r b since c0 seen es a k hb hold t with ⟨h0,f⟩|⟨e,u,w1,c,f⟩
 ·refine Ad ⟨?_,f⟩;have:=Dt List.length m;simp only[GH,Array.length_toList,h0] at this;exact GV.1 this.symm
 ·obtain⟨n,v⟩:=mem_left u;have y:(es.toList.filter λx=>!seen.contains x.born).map (λe=>(e.key,e.val))=rem.map (λp=>(Value.string p.1,p.2)):=by
   rw[<-m]; unfold leftOf; rw[Array.toList_filter]
  obtain⟨p,d,hk,o,z,A⟩:=N9 seen e es.toList rem i.2 n v y;have ar:w1.heap[r]? = some (.mapIter (some b) since seen c0):=by rcases c with rfl|rfl<;>exact k
  have B:w1.heap[b]? = some (.map es a):=by rcases c with rfl|rfl<;>exact hb
  have g:=H9 (o':=.mapIter (some b) since (seen.push e.born) a) ar;have q:(setBlock w1 r (.mapIter (some b) since (seen.push e.born) a)).heap[b]? = some (.map es a):=(g.2 b (λe1=>s e1.symm)).trans B;rw[hk,o]at f;refine Ae ⟨p,d,_,z,f,⟨es,a,since,seen.push e.born,a,q,he,i,g.1,hold,l,l,?_⟩,?_,?_,?_,?_,?_,?_⟩
  ·rw[<-A]; unfold leftOf; rw[Array.toList_filter]
  ·rcases c with rfl|rfl<;>simp[setBlock]
  ·rcases c with rfl|rfl<;>rfl
  ·rcases c with rfl|rfl<;>rfl
  ·rcases c with rfl|rfl<;>rfl
  ·intro j C;have:=g.2 j C;rcases c with rfl|rfl<;>exact this
  ·have:=run_entry_at (P:=P) _ r b since seen es a e g.1 q n i.2;rw[hk,o]at this;exact this
def IV:List (ByteArray×Value)->ByteArray->List (ByteArray×Value)
 | [],_=>[]
 |p::r,n=>if p.1=n then r else p::IV r n
theorem Rz (n:ByteArray) (q:MapEntry->Bool):∀(l:List MapEntry) (L:List (ByteArray×Value)) (i:Nat),l.map (λe=>(e.key,e.val))=L.map (λp=>(Value.string p.1,p.2))->(∀e∈l,e.key=.string n->q e=false)->
  (BK L n=none->IV L n=L)/\(∀v,BK L n=some v->∃j,Instr.findNow .string (.string n) l i=some (some (i+j,v))/\j<l.length/\(l.eraseIdx j).map (λe=>(e.key,e.val))=(IV L n).map (λp=>(Value.string p.1,p.2))/\(l.eraseIdx j).filter q=l.filter q)
 | [],[],i,h,_=>⟨λ_=>rfl,λv b=>by simp[BK] at b⟩
 | [],p::L,i,h,_=>by simp at h
 |e::l,[],i,h,_=>by simp at h
 |e::l,p::L,i,h,hq=>by
  simp only[CB,Gd,Fq] at h;obtain⟨⟨hk,he⟩,ht⟩:=h;obtain⟨g,k⟩:=Rz n q l L (i+1) ht λe he=>hq e (by simp[he]);by_cases a:p.1=n
  ·have d:Instr.sameNow .string (.string n) e.key=some true:=(by rw[hk,a];show some (n==n)=some true;rw[show(n==n)=true from (Ln _ _).2 rfl]);refine⟨λh=>by simp[BK,a] at h,λv b=>?_⟩;simp only[BK,a,if_true,Jf] at b;refine⟨0,by simp[Instr.findNow,d,he,b],by simp,?_,?_⟩
   ·simp[IV,a,ht]
   ·rw[List.eraseIdx_cons_zero,G7 (by rw[hq e (by simp) (by rw[hk,a])]; simp)]
  ·have d:Instr.sameNow .string (.string n) e.key=some false:=by
    rw[hk];show some (n==p.1)=some false;have hb:(n==p.1)=false:=by
     cases m:(n==p.1) with
     |false=>rfl
     |true=>exact absurd ((Ln _ _).1 m).symm a
    rw[hb]
   refine⟨λh=>?_,λv b=>?_⟩
   ·rw[BK,Am a]at h;rw[IV,Am a,g h]
   ·rw[BK,Am a]at b;obtain⟨j,h1,h2,h3,f⟩:=k v b;refine⟨j+1,by simp[Instr.findNow,d,h1]; omega,by simpa using h2,?_,?_⟩
    ·rw[IV,Am a]; simp[h3,hk,he]
    ·rw[List.eraseIdx_cons_succ];cases c:q e with
     |true=>rw[GI c,GI c,f]
     |false=>rw[G7 (by simp[c]),G7 (by simp[c]),f]
theorem DM.drop {T a m ty:TypeId} (h:DM w b r L rem) (hm:P.underlying T=some (.map a m)) (hk:P.underlying a=some .string) (n:ByteArray) (o:∀p∈rem,p.1≠n) (v:Value) (q:BK L n=some v):
  ∃w',(Builtin.delete_ #[T,a] ty #[.map (some b),.string n]).run P w=.ok (.tuple #[]) w'/\DM w' b r (IV L n) rem/\w'.heap.size=w.heap.size/\w'.os=w.os/\w'.tape=w.tape/\w'.output=w.output/\(∀j,j≠b->w'.heap[j]? = w.heap[j]?):=by
 have s:=h.ne;obtain⟨es,d,since,seen,c0,hb,he,f,t,hold,u,y,z⟩:=h;have g:(es.toList.filter λx=>!seen.contains x.born).map (λe=>(e.key,e.val))=rem.map (λp=>(Value.string p.1,p.2)):=(by rw[<-z]; unfold leftOf; rw[Array.toList_filter]);have hq:∀e∈es.toList,e.key=.string n->(!seen.contains e.born)=false:=λe A B=>by
  cases hc:seen.contains e.born with
  |true=>rfl
  |false=>obtain⟨p,hp,h1,_⟩:=X2 g (List.mem_filter.2 ⟨A,by rw[hc]; rfl⟩);rw[B]at h1;exact absurd (Value.string.inj h1).symm (o p hp)
 obtain⟨j,h1,h2,h3,C⟩:=(Rz n (λx=>!seen.contains x.born) es.toList L 0 he hq).2 v q;rw[Ia]at h1;have hc:∀b,(Instr.checkKey b 10000 a (.string n)).run P w=.ok () w:=λb=>J6 (k:=.string n) hk (by simp[MapKept.IsKey]) b 9999;have c:(es.eraseIdxIfInBounds j).toList=es.toList.eraseIdx j:=by
  unfold Array.eraseIdxIfInBounds;rw[dif_pos (by simpa using h2)];simp
 have l:∀x∈(es.eraseIdxIfInBounds j).toList,x∈es.toList:=λx hx=>by rw[c] at hx; exact(List.eraseIdx_sublist _ _).subset hx
 refine⟨setBlock w b (.map (es.eraseIdxIfInBounds j) d),?_,⟨es.eraseIdxIfInBounds j,d,since,seen,c0,(H9 hb).1,by rw[c]; exact h3,⟨λx hx=>f.1 x (l x hx),?_⟩,((H9 hb).2 r s).trans t,λx hx=>hold x (l x hx),u,y,?_⟩,by simp[setBlock],rfl,rfl,rfl,λi hi=>(H9 hb).2 i hi⟩
 ·simp[Builtin.delete_,Fr hm,Gz hb,hc,H6 hk h1,MapKept.run_setObj_map _ hb,Result.andThen,setBlock]
 ·rw[c];exact f.2.sublist ((List.eraseIdx_sublist _ _).map _)
 ·unfold leftOf;rw[Array.toList_filter,c,C];exact g

import Derived.Test.YthaililgaompeaaGreatDoorZITopNewmanOwn
import Derived.Deep.LoopGhost
import Derived.Sort.KeysCollected
import Derived.Sort.Walk0
import Derived.Maps.Range
import Derived.Maps.Own
import Derived.StringKeys
import Derived.Test.YthaililgaompeaaGreatDoorIterL
import Derived.Test.YthaililgaompeaaGreatDoorW113
import Derived.Deep.RegionHeld3
import Derived.Deep.RegionLaw
import Derived.Defers
import Derived.Recover
import Derived.Laws.Pointers
namespace Go.Proofs.YthaililgaompeaaGreatDoor
set_option linter.all false
set_option maxRecDepth 20000
set_option maxHeartbeats 8000000
open Go.RowKit Go.Proofs.Tryz
variable {s s' sf:List Bd} {l ls:List Pr} {e left:Int} {n x:ByteArray} {a a' b b' t:Tm} {B S T k o q:Nat} {w w':World} {Q:Nat->Prop}
def Eg (s:List Bd) (l k:List Pr):Prop:=l.map (λp=>(Ai s p.l,Ai s p.r))=k.map (λp=>(Ai s p.l,Ai s p.r))
theorem Eg.later (ha:Gk s s'):∀ {l k:List Pr},Af (AB l)=0->Af (AB k)=0->Eg s l k->Eg s' l k
 | [],[],_,_,_=>rfl
 | [],_::_,_,_,h=>by simp[Eg] at h
 |_::_,[],_,_,h=>by simp[Eg] at h
 |p::l,q::k,b,hk,h=>by
  unfold Eg at h;rw[Bo,Bo]at h;injection h with h1 h2
  injection h1 with h3 c
  obtain⟨d,a⟩:=CA.1 b;obtain⟨a,e⟩:=CA.1 a;obtain⟨f1,f2⟩:=CA.1 hk;obtain⟨f2,f3⟩:=CA.1 f2;have f:Eg s' l k:=Eg.later ha e f3 h2;unfold Eg;rw[Bo,Bo,f,<-ha.T d,<-ha.T a,<-ha.T f1,<-ha.T f2,h3,c]
theorem FR.congr (h:FR s l e sf):∀ {k:List Pr},Bz s->Af (AB l)=0->Af (AB k)=0->Eg s l k->FR s k e sf:=by
 induction h with
 |done s=>
  intro k _ _ _ hk;cases k with
  |nil=>exact FR.done s
  |cons q k=>simp[Eg] at hk
 | @step s s' sf p l' rest e h1 h2 i=>
  intro k hs he hk h;cases k with
  |nil=>simp[Eg] at h
  |cons q k=>
   unfold Eg at h;rw[Bo,Bo]at h;injection h with h3 c
   injection h3 with b h6
   obtain⟨d,a⟩:=CA.1 he;obtain⟨a,f⟩:=CA.1 a;obtain⟨f1,f2⟩:=CA.1 hk;obtain⟨f2,f3⟩:=CA.1 f2;obtain⟨g1,g2,g3,_⟩:=UQ hs (DG hs d) (DG hs a) (hs.goneT d) (hs.goneT a) h1;refine FR.step (by rw[<-b,<-h6]; exact h1) (i g1 (by rw[HH]; exact Jb.2 ⟨g3,f⟩) (by rw[HH]; exact Jb.2 ⟨g3,f3⟩) ?_);have g:Eg s' rest k:=Eg.later g2 f f3 c;unfold Eg at g ⊢;rw[CI,CI,g]
 | @stop s p rest e h1=>
  intro k hs he hk h;cases k with
  |nil=>simp[Eg] at h
  |cons q k=>
   unfold Eg at h;rw[Bo,Bo]at h;injection h with h3 c
   injection h3 with b h6
   exact FR.stop (by rw[<-b,<-h6]; exact h1)
structure Zp where
 nm:ByteArray
 t:Tm
 b:Nat
 o:Nat
def CC (Z:List Zp) (s:List Bd):Prop:=Bz s/\(∀z∈Z,Aj z.nm=true/\Af [z.t]=0/\Ai s ⟨z.nm,[]⟩=Ai s z.t)/\(∀d∈s,∃z∈Z,z.nm=d.nm)/\∀z∈Z,∃d∈s,d.nm=z.nm
theorem jK:CC [] []:=⟨Ly,by simp,by simp,by simp⟩
theorem CC.unbound {Z:List Zp} (h:CC Z s) (a:∀z∈Z,z.nm≠n):∀d∈s,d.nm≠n:=λd hd e=>by
 obtain⟨z,hz,b⟩:=h.2.2.1 d hd;exact a z hz (b.trans e)
theorem CC.fresh {Z:List Zp} (h:CC Z s) (a:∀d∈s,d.nm≠n):∀z∈Z,z.nm≠n:=λz hz e=>by
 obtain⟨d,hd,b⟩:=h.2.2.2 z hz;exact a d hd (b.trans e)
theorem CC.errs {Z:List Zp} (h:CC Z s):∀z∈Z,Af [z.t]=0:=λz hz=>(h.2.1 z hz).2.1
theorem CC.stands {Z:List Zp} (h:CC Z s) (he:Af [t]=0) (hv:Aj t.name=true) {z:Zp} (hz:z∈Z) (a:z.nm=t.name):Ai s z.t=Ai s t:=by
 rw[Ki he hv,<-a];exact(h.2.1 z hz).2.2.symm
def EE (s:List Bd) (t:Tm):Prop:=Af [t]=0/\(Aj t.name=true->∀d∈s,d.nm≠t.name)
theorem UT (h:∀d∈s,d.nm≠n):As s n=none:=by
 induction s with
 |nil=>rfl
 |cons d r a=>rw[As,Ah (h d (by simp))]; exact a λe he=>h e (by simp[he])
theorem EE.var (h:EE s t) (hv:Aj t.name=true):Ai s t=⟨t.name,[]⟩:=by
 rw[Ki h.1 hv,Gd,UT (h.2 hv)];rfl
theorem Kl (hs:Bz s) (hv:Aj t.name=false):Ai s t=⟨t.name,At s t.args⟩:=by
 obtain⟨n,l⟩:=t;exact Ff hs.vars hv l
theorem EE.name (hs:Bz s) (h:EE s t):(Ai s t).name=t.name:=by
 cases hv:Aj t.name with
 |true=>rw[h.var hv]
 |false=>rw[Kl hs hv]
theorem PL (s:List Bd):∀l:List Tm,(At s l).length=l.length
 | []=>by simp[At]
 |t::r=>by rw[AY,Bg,PL s r,Bg]
theorem CC.add {Z:List Zp} (h:CC Z s) (hx:Aj x=true) (a:∀d∈s,d.nm≠x) (he:Af [t]=0) (ho:¬Ax x [Ai s t]) (b o:Nat):CC (Z++[⟨x,t,b,o⟩]) (CU s x (Ai s t)):=by
 have hs:=h.1;have c:=DG hs he;have h1:=hs.add hx a c (hs.goneT he) ho;have aa:∀y,Af [y]=0->Ai (CU s x (Ai s t)) y=Ai [⟨x,Ai s t⟩] (Ai s y):=λy hy=>by
  have h2:=Kb hs hx a h1 [y] hy;rw[AY,AY,AY]at h2;injection h2
 refine⟨h1,λz hz=>?_,λd hd=>?_,λz hz=>?_⟩
 ·rcases Ba.1 hz with hz|hz
  ·obtain⟨g1,g2,g3⟩:=h.2.1 z hz;exact⟨g1,g2,by rw[M8 hs.1 a,g3,aa _ g2]⟩
  ·have e:z=⟨x,t,b,o⟩:=(by simpa using hz);subst e;refine⟨hx,he,?_⟩;show Ai (CU s x (Ai s t)) ⟨x,[]⟩=Ai (CU s x (Ai s t)) t;rw[M8 hs.1 a,aa t he,Gd s x,UT a,LD (s:=[⟨x,Ai s t⟩]) (t:=Ai s t) (λd hd=>by
    have e:d=⟨x,Ai s t⟩:=(by simpa using hd);rw[e]; exact ho)]
   simp[Gd,As]
 ·have h8:=(G8 (s.map (Dr x (Ai s t))++[⟨x,Ai s t⟩])).subset hd;rcases Ba.1 h8 with h8|h8
  ·obtain⟨d',f,rfl⟩:=Bk.1 h8;obtain⟨z,hz,e⟩:=h.2.2.1 d' f;exact⟨z,by simp[hz],e⟩
  ·have e:d=⟨x,Ai s t⟩:=(by simpa using h8);exact⟨⟨x,t,b,o⟩,by simp,by rw[e]⟩
 ·have ab:∀d,d∈s.map (Dr x (Ai s t))++[⟨x,Ai s t⟩]->d∈CU s x (Ai s t):=λd hd=>(G8 _).symm.subset hd;rcases Ba.1 hz with hz|hz
  ·obtain⟨d,hd,e⟩:=h.2.2.2 z hz;exact⟨Dr x (Ai s t) d,ab _ (GX _ (Bk.2 ⟨d,hd,rfl⟩)),e⟩
  ·have e:z=⟨x,t,b,o⟩:=(by simpa using hz);exact⟨⟨x,Ai s t⟩,ab _ (by simp),by rw[e]⟩
theorem UU (hx:Aj x=true) (h:Ax x [t]):Bb x (AN [] (Ap [t]))=true:=by
 by_cases hi:Bb x (AN [] (Ap [t]))=true
 ·exact hi
 ·exact absurd h (Lz hx hi)
theorem UV (h:¬Ax x [t]):¬Bb x (AN [] (Ap [t]))=true:=λhi=>by
 unfold Bb at hi;rw[D6]at hi;obtain⟨n,a,e⟩:=hi;rcases J6 _ _ _ a with a|⟨k,hk,b,_⟩
 ·cases a
 ·exact h ⟨k,hk,by rw[b]; first|exact(Ew (by simpa using e)).symm|exact Ew (by simpa using e)⟩
theorem jL (hs:Bz s) (ha:Ai s a'=Ai s a) (hb:Ai s b'=Ai s b) (fa:EE s a') (c:EE s b') (hv:Aj a'.name=true) (d:b'.name=a'.name):FR s [⟨a,b⟩] 0 s:=by
 refine FR.step (s':=s) (l':=[]) ?_ (FR.done s);show Ef s (Ai s a) (Ai s b)=_;rw[<-ha,<-hb];unfold Ef;rw[fa.name hs,c.name hs,Ao hv,Ao d.symm]
theorem UW (hs:Bz s) (ha:Ai s a'=Ai s a) (hb:Ai s b'=Ai s b) (fa:EE s a') (c:EE s b') (h:(Aj a'.name=true/\b'.name≠a'.name/\Ax a'.name [Ai s b'])∨(Aj a'.name=false/\Aj b'.name=true/\Ax b'.name [Ai s a'])):FR s [⟨a,b⟩] 6 s:=by
 refine FR.stop ?_;show Ef s (Ai s a) (Ai s b)=_;rw[<-ha,<-hb];unfold Ef;rw[fa.name hs,c.name hs];rcases h with ⟨h1,h2,h3⟩|⟨h1,h2,h3⟩
 ·rw[Ao h1,Ah (EI h2)];unfold FM;rw[Ao (UU h1 h3)]
 ·rw[Ah (by rw[h1]; simp),Ao h2];unfold FM;rw[Ao (UU h2 h3)]
theorem UX (hs:Bz s) (ha:Ai s a'=Ai s a) (hb:Ai s b'=Ai s b) (fa:EE s a') (c:EE s b') {u:Tm} (h:(Aj a'.name=true/\b'.name≠a'.name/\x=a'.name/\u=b')∨(Aj a'.name=false/\Aj b'.name=true/\x=b'.name/\u=a')) (ho:¬Ax x [Ai s u]):FR s [⟨a,b⟩] 0 (CU s x (Ai s u)):=by
 refine FR.step (s':=CU s x (Ai s u)) (l':=[]) ?_ (FR.done _);show Ef s (Ai s a) (Ai s b)=_;rw[<-ha,<-hb];unfold Ef;rw[fa.name hs,c.name hs];rcases h with ⟨h1,h2,rfl,rfl⟩|⟨h1,h2,rfl,rfl⟩
 ·rw[Ao h1,Ah (EI h2)];unfold FM;rw[Ah (UV ho)]
 ·rw[Ah (by rw[h1]; simp),Ao h2];unfold FM;rw[Ah (UV ho)]
theorem UY (hs:Bz s) (ha:Ai s a'=Ai s a) (hb:Ai s b'=Ai s b) (c:Aj a'.name=false) (d:Aj b'.name=false) (h:¬(a'.name=b'.name/\a'.args.length=b'.args.length)):FR s [⟨a,b⟩] 5 s:=by
 refine FR.stop ?_;show Ef s (Ai s a) (Ai s b)=_;rw[<-ha,<-hb,Kl hs c,Kl hs d];unfold Ef;rw[Ah (by rw[c]; simp),Ah (by rw[d]; simp),Ah (by simpa [PL] using h)]
theorem UZ (s:List Bd):∀(a b:List Tm),(AE (At s a) (At s b))=(AE a b).map λp=>⟨Ai s p.l,Ai s p.r⟩
 | [],_=>by simp[At,AE]
 |_::_,[]=>by simp[At,AY,AE]
 |x::a,y::b=>by rw[AY,AY,AE,AE,UZ s a b]; rfl
theorem U0 (hs:Bz s) (ha:Ai s a'=Ai s a) (hb:Ai s b'=Ai s b) (c:Af [a']=0) (d:Af [b']=0) (f:Aj a'.name=false) (g:Aj b'.name=false) (j:a'.name=b'.name) (k:a'.args.length=b'.args.length) (h:FR s (AE a'.args b'.args) e sf):FR s [⟨a,b⟩] e sf:=by
 refine FR.step (s':=s) (l':=AE (At s a'.args) (At s b'.args)) ?_ ?_
 ·show Ef s (Ai s a) (Ai s b)=_;rw[<-ha,<-hb,Kl hs f,Kl hs g];unfold Ef;rw[Ah (by rw[f]; simp),Ah (by rw[g]; simp),Ao (by simpa [PL] using⟨j,k⟩)]
 ·rw[List.append_nil];have i:=Kc (Gi c) (Gi d);have m:Af (AB (AE (At s a'.args) (At s b'.args)))=0:=Kc (Ja hs _ (Gi c)) (Ja hs _ (Gi d));refine h.congr hs i m ?_;unfold Eg;rw[UZ,KJ];refine List.map_congr_left λp hp=>?_;obtain⟨f1,f2⟩:=Nl i p hp;show(Ai s p.l,Ai s p.r)=(Ai s (Ai s p.l),Ai s (Ai s p.r));rw[(Kk hs).T f1,(Kk hs).T f2]
theorem U1:∀ {a b:List Tm} {k:Nat} (h:k<a.length) (h2:k<b.length),AE (a.take (k+1)) (b.take (k+1))=AE (a.take k) (b.take k)++[⟨a[k],b[k]⟩]
 |x::a,y::b,0,_,_=>by simp[AE]
 |x::a,y::b,k+1,h,h2=>by
  rw[GY,GY,AE,U1 (k:=k) (by simpa using h) (by simpa using h2)];rfl
theorem U2:∀(a b:List Tm) (k:Nat),AE a b=AE (a.take k) (b.take k)++AE (a.drop k) (b.drop k)
 |a,b,0=>by simp[AE]
 | [],b,k+1=>by simp[AE]
 |x::a,[],k+1=>by simp[AE]
 |x::a,y::b,k+1=>by
  rw[GY,GY,Ma,Ma,AE,AE,U2 a b k];rfl
theorem U3 {a b:List Tm} (h:k<a.length) (h2:k<b.length) (h0:FR s (AE (a.take k) (b.take k)) 0 s') (h1:FR s' [⟨a[k],b[k]⟩] e sf):FR s (AE (a.take (k+1)) (b.take (k+1))) e sf:=by
 rw[U1 h h2];exact h0.append_ok rfl h1
theorem jM {a b:List Tm} (k:Nat) (he:e≠0) (h:FR s (AE (a.take k) (b.take k)) e sf):FR s (AE a b) e sf:=by
 rw[U2 a b k];exact h.append_err he _
theorem U4 (h:k<l.length) (h0:FR s (l.take k) 0 s') (h1:FR s' [⟨l[k].l,l[k].r⟩] e sf):FR s (l.take (k+1)) e sf:=by
 rw[Ci h];exact h0.append_ok rfl h1
theorem jN (k:Nat) (he:e≠0) (h:FR s (l.take k) e sf):FR s l e sf:=by
 have h1:=h.append_err he (l.drop k);rwa [DM] at h1
def DI (w:World) (X:Nat->Prop) (b o:Nat) (t:Tm):Prop:=Fa w X b o t/\X b
theorem DI.exq {X:Nat->Prop} {b:Nat} (h:DI w X b o t) (he:Ak Q w w') (d:∀b,X b->¬Q b):DI w' X b o t:=by
 obtain⟨⟨a,c,h1,h2,h3,f⟩,g⟩:=h;have e:=he.block b f (d b g);exact⟨⟨a,c,(Ce e).trans h1,(Ce e).trans h2,h3.exq he d,B7 f he.size⟩,g⟩
theorem DI.sub {X:Nat->Prop} {b:Nat} (h:DI w X b o t):∃a c,w.cell? ⟨b,o+1,none⟩=some (.slice a t.args.length c)/\t.args.length<=9223372036854775807/\∀k (hk:k<t.args.length),∃b' o',a=some (zD b' o')/\DI w X b' (o'+k*2) t.args[k]:=by
 obtain⟨⟨a,c,h1,h2,h3,h4⟩,_⟩:=h;refine⟨a,c,h2,h3.1,λk hk=>?_⟩;obtain⟨b',o',a',c',rfl,d0,d1,hx⟩:=h3.get (Ag _ _) (λ_ _ h=>h) k hk;obtain⟨a2,c2,d,hx⟩:=hx;cases d;have e:X b':=by
  obtain⟨_,h1⟩:=h3;rcases h1 with h1|⟨b2,o2,e',h1⟩
  ·rw[h1]at hk; simp at hk
  ·cases e'; exact(Ip _ _ _ h1 k hk).1
 exact⟨b',o',rfl,⟨a',c',d0,d1,hx,DR d0⟩,e⟩
def Ig (z:Zp):ByteArray×Value:=(z.nm,.pointer (some ⟨z.b,z.o,none⟩))
def CH (w:World) (S q:Nat) (X:Nat->Prop) (Z:List Zp) (left:Int):Prop:=
 Ac w S #[.map (some q),zA left] 171/\AO w q (Z.map Ig)/\(∀z∈Z,DI w X z.b z.o z.t)/\∀b,X b->b≠S/\b≠q
def Cn (S q:Nat):Nat->Prop:=λb=>b=S∨b=q
theorem CH.ne {X:Nat->Prop} {Z:List Zp} (h:CH w S q X Z left):S≠q:=λe=>by
 obtain⟨es,aa,h1,_⟩:=h.2.1;have h2:=h.1;unfold Ac at h2;rw[e,h1]at h2; cases h2
theorem CH.X {X:Nat->Prop} {Z:List Zp} (h:CH w S q X Z left):∀b,X b->¬Cn S q b:=λb hb hq=>by
 rcases hq with e|e
 ·exact(h.2.2.2 b hb).1 e
 ·exact(h.2.2.2 b hb).2 e
theorem CH.later {X:Nat->Prop} {Z:List Zp} (h:CH w S q X Z left) (hb:Below w.heap.size w w'):CH w' S q X Z left:=
 ⟨h.1.below hb h.1.lt,h.2.1.below hb h.2.1.lt,λz hz=>(h.2.2.1 z hz).exq (Ak.ofBelow (Q:=Cn S q) hb) h.X,h.2.2.2⟩
theorem CH.spend {X:Nat->Prop} {Z:List Zp} (h:CH w S q X Z left) (n:Int):CH (w.setCell (zD S 1) (zA n)) S q X Z n:=
 ⟨by have:=h.1.set 1 (zA n); simpa using this,h.2.1.kept (An _ _ _ _ (by simpa using h.ne.symm)),λz hz=>(h.2.2.1 z hz).exq ((Ak.refl (Cn S q) w).set (Ae rfl) 1 _) h.X,h.2.2.2⟩
theorem U7 {Z:List Zp}:(AG (Z.map Ig) n=none/\∀z∈Z,z.nm≠n)∨∃z∈Z,z.nm=n/\AG (Z.map Ig) n=some (.pointer (some ⟨z.b,z.o,none⟩)):=by
 induction Z with
 |nil=>exact Ae ⟨rfl,by simp⟩
 |cons y r c=>
  by_cases a:y.nm=n
  ·exact Ad ⟨y,by simp,a,by simp[AG,Ig,a]⟩
  ·rcases c with ⟨h1,h2⟩|⟨z,hz,h1,h2⟩
   ·refine Ae ⟨by rw[Bo,AG,Ah (by simpa [Ig] using a)]; exact h1,λz hz=>?_⟩;rcases Bh.1 hz with rfl|hz
    ·exact a
    ·exact h2 z hz
   ·exact Ad ⟨z,by simp[hz],h1,by rw[Bo,AG,Ah (by simpa [Ig] using a)]; exact h2⟩
def jO (w:World) (S q:Nat) (X:Nat->Prop) (Z:List Zp) (left:Int) (t:Tm) (e:Ending) (w':World):Prop:=
 ∃(b o:Nat) (t':Tm) (n:Int),e=.returned (.pointer (some (zD b o)))/\CH w' S q X Z n/\DI w' X b o t'/\Ak (Cn S q) w w'/\n<=left/\(-1<=n∨n=left)/\Af [t']=0/\∀s,CC Z s->Ai s t'=Ai s t/\(0<=n->EE s t')
def jP (w:World) (S q:Nat) (X:Nat->Prop) (Z:List Zp) (left:Int) (t:Tm) (g:Nat) (tv:Value) (wr:World):Prop:=
 ∃(b o:Nat) (t':Tm) (n:Int),g=(n+1).toNat/\tv=.pointer (some (zD b o))/\CH wr S q X Z n/\DI wr X b o t'/\Ak (Cn S q) w wr/\n<=left/\(-1<=n∨n=left)/\Af [t']=0/\∀s,CC Z s->Ai s t'=Ai s t
theorem Nm (S q:Nat) (X:Nat->Prop) (Z:List Zp) (J:∀z∈Z,Af [z.t]=0) (left:Int) (t:Tm) (b o:Nat) (w:World) (A:CH w S q X Z left) (hl:-100<=left) (ay:left<=100000) (ht:DI w X b o t) (he:Af [t]=0):
  Calls prog 132 #[zC S,.pointer (some (zD b o))] w λe w'=>jO w S q X Z left t e w':=by
 have L:=Aa A;have M:=Aa ht;have N:=Aa he;clear A ht;go_enter func132,ntmps132;go_wp2_with fail;go_loopg [1] (left+1).toNat (λg O wr=>jP w S q X Z left t g O wr)
 case atStart=>exact⟨b,o,t,left,rfl,rfl,L.o,M.o,Ak.refl _ _,Int.le_refl _,Ad rfl,N.o,λ_ _=>rfl⟩
 case round=>
  obtain⟨a,c,t1,n,rfl,rfl,j,B,C,m,r,ab,D⟩:=hrel;have aa:=Aa j;have u:=Aa B;have k:=Aa C;have l:=Aa D;have s1:wr.cell? (zD S 1)=some (zA n):=j.1.cell 1;have R:=j.1.c0;obtain⟨⟨a1,c1,T,p1,az,a6⟩,a7⟩:=B;clear j C D;by_cases a8:0<=n
  ·cases d:Aj t1.name with
   |false=>have f:Hid (∀s,CC Z s->Ai s t1=Ai s t/\(0<=n->EE s t1)):=λs hs=>⟨l.o s hs,λ_=>⟨ab,λh=>by rw[d] at h; cases h⟩⟩;go_wp2_with (go_at_call 65; refine(BR _ _).mono ?_; rintro e wr ⟨rfl,rfl⟩; rw[d]);refine Aq (v:=.pointer (some (zD a c))) (by simp[results,results132,go_sem]) rfl ?_;exact⟨a,c,t1,n,rfl,aa.o,u.o,k.o,m,r,ab,f.o⟩
   |true=>
    have hz:∀w',(zeroValue 164).run prog w'=.ok (.pointer none) w':=λw'=>zeroValue164 w';have E:=Aa (And.intro R T);rcases U7 (Z:=Z) (n:=t1.name) with ⟨i,F⟩|⟨z,x,G,i⟩
    ·have f:Hid (∀s,CC Z s->Ai s t1=Ai s t/\(0<=n->EE s t1)):=λs hs=>⟨l.o s hs,λ_=>⟨ab,λ_=>hs.unbound F⟩⟩;have U:(Instr.lookup 169 (.map (some q)) (.string t1.name) true).run prog wr.drew=.ok (.tuple #[.pointer none,.bool false]) wr.drew:=(by rw[El (P:=prog) underlying169 underlying9 (hz _) (show AO wr.drew q (Z.map Ig) from aa.o.2.1) t1.name,i]; rfl);clear i F;go_wp2_with (go_at_call 65; refine(BR _ _).mono ?_; rintro e wr ⟨rfl,rfl⟩; rw[d]);go_region_held3 (λw'=>w'.cell? (zD S 0)=some (.map (some q))/\w'.cell? (zD a c)=some (.string t1.name)) (first|exact E.o|go_keep) (fail);go_wp2_with fail;refine Aq (v:=.pointer (some (zD a c))) (by simp[results,results132,go_sem]) rfl ?_;have y:Below wr.heap.size wr wr.drew:=(Ag _ _).drew;exact⟨a,c,t1,n,rfl,aa.o.later y,u.o.exq (Ak.ofBelow (Q:=Cn S q) y) aa.o.X,k.o.drew,m,r,ab,f.o⟩
    ·have f:Hid (∀s,CC Z s->Ai s z.t=Ai s t):=λs hs=>(hs.stands ab d x G).trans (l.o s hs);have H:=Aa x;have U:(Instr.lookup 169 (.map (some q)) (.string t1.name) true).run prog wr.drew=.ok (.tuple #[.pointer (some ⟨z.b,z.o,none⟩),.bool true]) wr.drew:=(by rw[El (P:=prog) underlying169 underlying9 (hz _) (show AO wr.drew q (Z.map Ig) from aa.o.2.1) t1.name,i]; rfl);have aA:wr.drew.cell? (zD S 1)=some (zA n):=s1;have aB:wr.drew.frozen? (zD S 1)=false:=aa.o.1.frozen 1;clear i x G;go_wp2_with (go_at_call 65; refine(BR _ _).mono ?_; rintro e wr ⟨rfl,rfl⟩; rw[d]);go_region_held3 (λw'=>w'.cell? (zD S 0)=some (.map (some q))/\w'.cell? (zD a c)=some (.string t1.name)) (first|exact E.o|go_keep) (fail);have av:IntKind.i64.wrap (n-1)=n-1:=by rw[Fm]; omega
     go_wp2_with fail;have y:Below wr.heap.size wr wr.drew:=(Ag _ _).drew;have I:Ak (Cn S q) wr (wr.setCell (zD S 1) (zA (n-1))).drew:=((Ak.refl (Cn S q) wr).set (Ae rfl) 1 _).drew;go_roundg ((n-1)+1).toNat
     case rel=>exact⟨z.b,z.o,z.t,n-1,rfl,rfl,(aa.o.spend (n-1)).later ((Ag _ _).drew),(aa.o.2.2.1 z H.o).exq I aa.o.X,k.o.trans I,by omega,by omega,J z H.o,f.o⟩
     case measure=>omega
  ·go_wp2_with fail;refine Aq (v:=.pointer (some (zD a c))) (by simp[results,results132,go_sem]) rfl ?_;exact⟨a,c,t1,n,rfl,aa.o,u.o,k.o,m,r,ab,λs hs=>⟨l.o s hs,λh=>absurd h (by omega)⟩⟩
theorem EE.knot (hs:Bz s) (h:EE s t):Ai s t=⟨t.name,At s t.args⟩:=by
 cases hv:Aj t.name with
 |false=>exact Kl hs hv
 |true=>
  rw[h.var hv];have e:t.args=[]:=by rw[Ki h.1 hv]
  rw[e];simp[At]
theorem U8 {s:List Bd} {x:ByteArray}:∀ {l:List Tm},Ax x (At s l)↔∃k,∃h:k<l.length,Ax x [Ai s l[k]]
 | []=>by
  simp only[At];exact⟨λh=>absurd h Gh,λ⟨k,h,_⟩=>absurd h (by simp)⟩
 |t::r=>by
  rw[AY,BM,U8 (l:=r)];constructor
  ·rintro(h|⟨k,hk,h⟩)
   ·exact⟨0,by simp,h⟩
   ·exact⟨k+1,by simpa using hk,h⟩
  ·rintro⟨k,hk,h⟩;cases k with
   |zero=>exact Ae h
   |succ k=>exact Ad ⟨k,by simpa using hk,h⟩
theorem LK:∀ {l:List Tm},Af l=0->∀k (h:k<l.length),Af [l[k]]=0
 |t::r,he,0,_=>(CA.1 he).1
 |t::r,he,k+1,h=>LK (CA.1 he).2 k (by simpa using h)
def jQ (w:World) (S q:Nat) (X:Nat->Prop) (Z:List Zp) (left:Int) (t:Tm) (x:ByteArray) (e:Ending) (w':World):Prop:=
 ∃(r:Bool) (n:Int),e=.returned (.bool r)/\CH w' S q X Z n/\Ak (Cn S q) w w'/\n<left/\-2<=n/\(n<0->r=true)/\(0<=n->∀s,CC Z s->(∀d∈s,d.nm≠x)->(r=true↔Ax x [Ai s t]))
def jR (w:World) (S q:Nat) (X:Nat->Prop) (Z:List Zp) (left:Int) (b1 o1:Nat) (t1:Tm) (x:ByteArray) (i:Value) (wr:World):Prop:=
 ∃(k:Nat) (n:Int),k<=t1.args.length/\i=zA k/\DI wr X b1 o1 t1/\CH wr S q X Z n/\Ak (Cn S q) w wr/\n<left/\0<=n/\∀s,CC Z s->(∀d∈s,d.nm≠x)->∀j (h:j<t1.args.length),j<k->¬Ax x [Ai s t1.args[j]]
theorem jS (S q:Nat) (X:Nat->Prop) (Z:List Zp) (hZ:∀z∈Z,Af [z.t]=0) (x:ByteArray) (m:Nat):∀(left:Int) (t:Tm) (b o:Nat) (w:World),left.toNat=m->0<=left->left<=100000->CH w S q X Z left->DI w X b o t->Af [t]=0->
  Calls prog 151 #[zC S,.pointer (some (zD b o)),.string x] w λe w'=>jQ w S q X Z left t x e w':=by
 induction m using Nat.strongRecOn with
 |_ m C=>
  intro left t b o w hm h0 h1 D hP he;have IH:=Aa C;have HS:=Aa D;have HP:=Aa hP;clear C D hP;go_enter func151,ntmps151;go_wp2_with fail;refine(Nm S q X Z hZ left t b o w HS.o (by omega) h1 HP.o he).mono ?_;rintro e w1 ⟨b1,o1,t1,n,rfl,aa,c,d,aO,aP,aG,E⟩;have aQ:=Aa aa;have aR:=Aa c;have aS:=Aa d;have F:=Aa E;have s1:w1.cell? (zD S 1)=some (zA n):=aa.1.cell 1;have f1:w1.frozen? (zD S 1)=false:=aa.1.frozen 1;have ar:IntKind.i64.wrap (n-1)=n-1:=by rw[Fm]; omega
  have f:Ak (Cn S q) w1 (w1.setCell (zD S 1) (zA (n-1))):=(Ak.refl (Cn S q) w1).set (Ae rfl) 1 _;have g:=Aa (d.trans f);have l:=Aa (aa.spend (n-1));have G:=Aa (c.exq f aa.X);have aH:=Aa aa.X;obtain⟨⟨a1,c1,p0,p1,H,aT⟩,aU⟩:=G.o;have aV:=H.1;clear aa d E c H f;by_cases hlt:n-1<0
  ·go_wp2_with fail;refine Aq (v:=.bool true) (by simp[results,results151,go_sem]) rfl ?_;exact⟨true,n-1,rfl,l.o,g.o,by omega,by omega,λ_=>rfl,λh=>absurd h (by omega)⟩
  ·have a:Hid (∀s,CC Z s->Ai s t1=Ai s t/\Ai s t1=⟨t1.name,At s t1.args⟩):=λs hs=>⟨(F.o s hs).1,((F.o s hs).2 (by omega)).knot hs.1⟩;cases r:(t1.name.toList==x.toList) with
   |true=>have hx:t1.name=x:=Ew (by simpa using r);go_wp2_with fail;refine Aq (v:=.bool true) (by simp[results,results151,go_sem]) rfl ?_;refine⟨true,n-1,rfl,l.o,g.o,by omega,by omega,λ_=>rfl,λ_ s hs _=>⟨λ_=>?_,λ_=>rfl⟩⟩;rw[<- (a.o s hs).1,(a.o s hs).2,<-hx];exact Dg.2 (Ae rfl)
   |false=>
    have HX:Hid (t1.name≠x):=λe=>by rw[e] at r; simp at r
    have I:Hid (∀s,CC Z s->(Ax x [Ai s t]↔∃k,∃h:k<t1.args.length,Ax x [Ai s t1.args[k]])):=λs hs=>by
     rw[<- (a.o s hs).1,(a.o s hs).2,Dg,U8];exact⟨λh=>h.elim (λe=>absurd e HX.o) (λh=>h.elim id λh=>absurd h Gh),λh=>Ad (Ae h)⟩
    have aI:Af t1.args=0:=Gi aG;go_wp2_with fail;go_loopw [36] (λi wr=>jR w S q X Z left b1 o1 t1 x i wr) (λi wr=>t1.args.length-(intOf i).toNat);case atStart=>exact⟨0,n-1,Be _,rfl,G.o,l.o,g.o,by omega,by omega,λ_ _ _ j _ h=>absurd h (by omega)⟩
    case round=>
     obtain⟨k,u,hk,rfl,y,J,L,aW,aJ,M⟩:=hrel;have aK:=Aa y;have N:=Aa J;have O:=Aa L;have P:=Aa M;obtain⟨a',c',q1,_,ab⟩:=y.sub;clear y J L M p0 p1;by_cases A:k<t1.args.length
     ·obtain⟨b',o',rfl,hx⟩:=ab k A;have aX:(k:Int)<(t1.args.length:Int):=(by omega);have aL:=Aa (IH.o u.toNat (by omega) u t1.args[k] b' (o'+k*2) wr rfl aJ (by omega) N.o hx (LK aI k A));have aY:=Aa hx;clear ab hx;go_wp2_with fail;refine aL.o.mono ?_;rintro e w5 ⟨r5,n5,rfl,R,B,aZ,ba,aM,T⟩;have U:=Aa R;have V:=Aa (O.o.trans B);have aN:=Aa (aK.o.exq B aH.o);have W:=Aa T;clear R B T;cases r5 with
      |true=>go_wp2_with fail;refine Aq (v:=.bool true) (by simp[results,results151,go_sem]) rfl ?_;refine⟨true,n5,rfl,U.o,V.o,by omega,by omega,λ_=>rfl,λh5 s hs hu=>⟨λ_=>?_,λ_=>rfl⟩⟩;exact(I.o s hs).2 ⟨k,A,(W.o h5 s hs hu).1 (by simp)⟩
      |false=>
       have Y:0<=n5:=by
        by_cases h:n5<0
        ·have:=aM h; cases this
        ·omega
       go_wp2_with fail;go_roundw
       case rel => exact ⟨k + 1, n5, by omega, by go_num, aN.o, U.o, V.o, by omega, Y, λs hs hu j h hj => by
        by_cases e:j=k
        ·subst e;intro hoc;have:=(W.o Y s hs hu).2 hoc;cases this
        ·exact P.o s hs hu j h (by omega)⟩
       case measure=>simp[intOf]; omega
     ·clear ab;go_wp2_with fail;refine Aq (v:=.bool false) (by simp[results,results151,go_sem]) rfl ?_;refine⟨false,u,rfl,N.o,O.o,by omega,by omega,λh=>absurd h (by omega),λ_ s hs hu=>⟨(λh=>absurd h (by simp)),λh=>?_⟩⟩;obtain⟨j,hj,hoc⟩:=(I.o s hs).1 h;exact absurd hoc (P.o s hs hu j hj (by omega))
def jT (w:World) (S q:Nat) (X:Nat->Prop) (Z:List Zp) (s:List Bd) (left:Int) (x:ByteArray) (u:Tm) (b o:Nat) (e:Ending) (w':World):Prop:=
 ∃(code n:Int) (Z':List Zp),e=.returned (zA code)/\CH w' S q X Z' n/\(∀z∈Z',Af [z.t]=0)/\Ak (Cn S q) w w'/\n<=left/\-2<=n/\(n<0->code≠0)/\
  ((u.name=x/\code=0/\Z'=Z)∨(u.name≠x/\code=6/\Z'=Z/\(0<=n->Ax x [Ai s u]))∨(u.name≠x/\code=0/\Z'=Z++[⟨x,u,b,o⟩]/\¬Ax x [Ai s u]))
theorem U9 (S q:Nat) (X:Nat->Prop) (Z:List Zp) (s:List Bd) (g:CC Z s) (x:ByteArray) (hx:∀d∈s,d.nm≠x) (left:Int) (u:Tm) (b o:Nat) (w:World) (h0:0<=left) (h1:left<=100000) (B:CH w S q X Z left) (hP:DI w X b o u) (he:Af [u]=0):
  Calls prog 133 #[zC S,.string x,.pointer (some (zD b o))] w λe w'=>jT w S q X Z s left x u b o e w':=by
 have C:=Aa B;have D:=Aa hP;have i:=Aa g;have a:=Aa g.errs;have j:=Aa hx;obtain⟨⟨a1,c1,p0,p1,O,a6⟩,a7⟩:=hP;clear B g O hx;cases l:(u.name.toList==x.toList) with
 |true=>have m:u.name=x:=Ew (by simpa using l);go_enter func133,ntmps133;go_wp2_with fail;refine Aq (v:=zA 0) (by simp[results,results133,go_sem]) rfl ?_;exact⟨0,left,Z,rfl,C.o,a.o,Ak.refl _ _,Int.le_refl _,by omega,λh=>absurd h (by omega),Ae ⟨m,rfl,rfl⟩⟩
 |false=>
  have E:Hid (u.name≠x):=λe=>by rw[e] at l; simp at l
  go_enter func133,ntmps133;go_wp2_with fail;refine(jS S q X Z a.o x left.toNat left u b o w rfl h0 h1 C.o D.o he).mono ?_;rintro e w1 ⟨r,n,rfl,aa,ab,a8,F,R,y⟩;have T:=Aa aa;have U:=Aa ab;have G:=Aa y;cases r with
  |true=>clear aa ab y;go_wp2_with fail;refine Aq (v:=zA 6) (by simp[results,results133,go_sem]) rfl ?_;exact⟨6,n,Z,rfl,T.o,a.o,U.o,by omega,F,λ_=>by decide,Ad (Ae ⟨E.o,rfl,rfl,λh=>(G.o h s i.o j.o).1 (by simp)⟩)⟩
  |false=>
   have V:0<=n:=by
    by_cases h:n<0
    ·have:=R h; cases this
    ·omega
   have W:Hid (¬Ax x [Ai s u]):=λhoc=>by
    have:=(G.o V s i.o j.o).2 hoc;cases this
   have c:AG (Z.map Ig) x=none:=by
    rcases U7 (Z:=Z) (n:=x) with ⟨c,_⟩|⟨z,hz,e,_⟩
    ·exact c
    ·exact absurd e (i.o.fresh j.o z hz)
   have s0:w1.cell? (zD S 0)=some (.map (some q)):=aa.1.cell 0;obtain⟨H,hrun,I,J,L,M,N,A⟩:=Iw (P:=prog) underlying169 underlying9 aa.2.1 x (.pointer (some (zD b o))) c;have f:Ak (Cn S q) w1 H:=⟨L,M,N,by rw[J]; exact Al _,λk hk m=>A k (λe=>m (Ad e))⟩;have Y:=Aa (ab.trans f);have ay:Hid (CH H S q X (Z++[⟨x,u,b,o⟩]) n):=by
    refine⟨?_,by rw[CI]; exact I,λz hz=>?_,aa.2.2.2⟩
    ·have h2:=aa.1;unfold Ac at h2 ⊢;rw[A S aa.ne]; exact h2
    ·rcases Ba.1 hz with hz|hz
     ·exact(aa.2.2.1 z hz).exq f aa.X
     ·have e:z=⟨x,u,b,o⟩:=(by simpa using hz);subst e;exact(D.o.exq ab aa.X).exq f aa.X
   have az:Hid (∀z∈Z++[(⟨x,u,b,o⟩:Zp)],Af [z.t]=0):=λz hz=>by
    rcases Ba.1 hz with hz|hz
    ·exact a.o z hz
    ·have e:z=⟨x,u,b,o⟩:=(by simpa using hz);subst e; exact he
   clear aa ab y I J L M N A f c;go_wp2_with fail;refine Aq (v:=zA 0) (by simp[results,results133,go_sem]) rfl ?_;exact⟨0,n,_,rfl,ay.o,az.o,Y.o,by omega,F,λh=>absurd h (by omega),Ad (Ad ⟨E.o,rfl,rfl,W.o⟩)⟩
def jU (w:World) (S q:Nat) (X:Nat->Prop) (Z:List Zp) (left:Int) (t:Tm) (before:Nat) (e:Ending) (w':World):Prop:=
 ∃(c:Nat) (n:Int),e=.returned (zA c)/\CH w' S q X Z n/\Ak (Cn S q) w w'/\n<=left/\(-1<=n∨n=left)/\before<c/\c<=2001/\(n<0->2000<c)/\∀s,CC Z s->c<=2000->c=before+Ab [Ai s t]
def jV (w:World) (S q:Nat) (X:Nat->Prop) (Z:List Zp) (left:Int) (b1 o1:Nat) (t1:Tm) (before:Nat) (cv i:Value) (wr:World):Prop:=
 ∃(k c:Nat) (n:Int),k<=t1.args.length/\i=zA k/\cv=zA c/\DI wr X b1 o1 t1/\CH wr S q X Z n/\Ak (Cn S q) w wr/\n<=left/\(-1<=n∨n=left)/\before<c/\c<=2001/\(n<0->2000<c)/\∀s,CC Z s->c<=2000->c=before+1+Ab (At s (t1.args.take k))
theorem Va (S q:Nat) (X:Nat->Prop) (Z:List Zp) (W:∀z∈Z,Af [z.t]=0) (m:Nat):∀(before:Nat) (left:Int) (t:Tm) (b o:Nat) (w:World),2001-before=m->before<=2000→-100<=left->left<=100000->CH w S q X Z left->DI w X b o t->Af [t]=0->
  Calls prog 134 #[zC S,.pointer (some (zD b o)),zA before] w λe w'=>jU w S q X Z left t before e w':=by
 induction m using Nat.strongRecOn with
 |_ m r=>
  intro before left t b o w hm aS h0 h1 u hP he;have Y:=Aa r;have HS:=Aa u;have HP:=Aa hP;clear r u hP;go_enter func134,ntmps134;go_wp2_with fail;refine(Nm S q X Z W left t b o w HS.o h0 h1 HP.o he).mono ?_;rintro e w1 ⟨b1,o1,t1,n,rfl,ab,x,y,A,B,aF,C⟩;have D:=Aa ab;have aG:=Aa x;have E:=Aa y;have F:=Aa C;have aH:=Aa ab.X;have s1:w1.cell? (zD S 1)=some (zA n):=ab.1.cell 1;obtain⟨⟨a1,c1,p0,p1,G,aT⟩,aU⟩:=x;have aV:=G.1;clear ab y C G;by_cases hlt:n<0
  ·go_wp2_with fail;refine Aq (v:=zA 2001) (by simp[results,results134,go_sem]) rfl ?_;exact⟨2001,n,rfl,D.o,E.o,A,B,by omega,by omega,λ_=>by omega,λ_ _ h=>absurd h (by omega)⟩
  ·have aI:Hid (∀s,CC Z s->Ab [Ai s t]=1+Ab (At s t1.args)):=λs hs=>by
    rw[<- (F.o s hs).1,((F.o s hs).2 (by omega)).knot hs.1,LC]
   have aw:IntKind.i64.wrap ((before:Int)+1)=(before:Int)+1:=by rw[Fm]; omega
   have aJ:Af t1.args=0:=Gi aF;go_wp2_with fail;go_loopw [7,24] (λH i wr=>jV w S q X Z left b1 o1 t1 before H i wr) (λH i wr=>t1.args.length-(intOf i).toNat);case atStart=>exact⟨0,before+1,n,Be _,rfl,by go_num,aG.o,D.o,E.o,A,B,by omega,by omega,λh=>absurd h (by omega),λs _ _=>by simp[At,Ab]⟩
   case round=>
    obtain⟨k,c,a,hk,rfl,rfl,d,I,J,L,M,N,O,P,R⟩:=hrel;have aK:=Aa d;have f:=Aa I;have g:=Aa J;have T:=Aa R;obtain⟨a',c',q1,_,aa⟩:=d.sub;clear d I J R p0 p1;by_cases j:k<t1.args.length
    ·have aW:(k:Int)<(t1.args.length:Int):=(by omega);by_cases aX:2000<c
     ·have ah:(2000:Int)<(c:Int):=(by omega);clear aa;go_wp2_with fail;refine Aq (v:=zA c) (by simp[results,results134,go_sem]) rfl ?_;exact⟨c,a,rfl,f.o,g.o,L,M,N,O,P,λ_ _ h=>absurd h (by omega)⟩
     ·have ah:¬(2000:Int)<(c:Int):=(by omega);obtain⟨b',o',rfl,hx⟩:=aa k j;have aL:=Aa (Y.o (2001-c) (by omega) c a t1.args[k] b' (o'+k*2) wr rfl (by omega) (by omega) (by omega) f.o hx (LK aJ k j));clear aa hx;go_wp2_with fail;refine aL.o.mono ?_;rintro e w5 ⟨c5,n5,rfl,U,l,aY,aZ,ba,aM,aN,V⟩;have aO:=Aa U;have aP:=Aa (g.o.trans l);have aQ:=Aa (aK.o.exq l aH.o);have aR:=Aa V;clear U l V;go_wp2_with fail;go_roundw
      case rel => exact ⟨k + 1, c5, n5, by omega, by go_num, rfl, aQ.o, aO.o, aP.o, by omega, by omega, by omega, aM, aN, λs hs h => by
       have h6:=T.o s hs (by omega);have h7:=aR.o s hs h;rw[Ci j,K0,Ej,AY];simp only[At];omega⟩
      case measure=>simp[intOf]; omega
    ·clear aa;go_wp2_with fail;refine Aq (v:=zA c) (by simp[results,results134,go_sem]) rfl ?_;refine⟨c,a,rfl,f.o,g.o,L,M,N,O,P,λs hs h=>?_⟩;have h6:=T.o s hs h;rw[BH (by omega)]at h6;rw[aI.o s hs];omega
def jW (w:World) (S q:Nat) (X:Nat->Prop) (s:List Bd) (left:Int) (a b:Tm) (e:Ending) (w':World):Prop:=
 ∃(code n:Int) (Z':List Zp),e=.returned (zA code)/\CH w' S q X Z' n/\(∀z∈Z',Af [z.t]=0)/\Ak (Cn S q) w w'/\n<left/\-2<=n/\(n<0->code≠0)/\(0<=n->∃s',CC Z' s'/\FR s [⟨a,b⟩] code s')
def jX (w:World) (S q:Nat) (X:Nat->Prop) (s:List Bd) (left:Int) (b1 o1 b2 o2:Nat) (a1 a2:Tm) (i:Value) (wr:World):Prop:=
 ∃(k:Nat) (n:Int) (Z':List Zp) (s':List Bd),k<=a1.args.length/\i=zA k/\DI wr X b1 o1 a1/\DI wr X b2 o2 a2/\CH wr S q X Z' n/\Ak (Cn S q) w wr/\n<left/\0<=n/\CC Z' s'/\FR s (AE (a1.args.take k) (a2.args.take k)) 0 s'
theorem jY (S q:Nat) (X:Nat->Prop) (m:Nat):∀(left:Int) (Z:List Zp) (s:List Bd) (a b:Tm) (ba oa bb ob:Nat) (w:World),left.toNat=m->0<=left->left<=100000->CC Z s->CH w S q X Z left->DI w X ba oa a->DI w X bb ob b->Af [a]=0->Af [b]=0->
  Calls prog 118 #[zC S,.pointer (some (zD ba oa)),.pointer (some (zD bb ob))] w λe w'=>jW w S q X s left a b e w':=by
 induction m using Nat.strongRecOn with
 |_ m ih=>
  intro left Z s a b ba oa bb ob w hm h0 h1 hC hS bk bl b8 b9;have IH:=Aa ih;have HS:=Aa hS;have f:=Aa hC;have N:=Aa hC.errs;have bA:=Aa bk;have bB:=Aa bl;clear ih hS bk bl hC;go_enter func118,ntmps118;go_wp2_with fail;refine(Nm S q X Z N.o left a ba oa w HS.o (by omega) h1 bA.o b8).mono ?_;rintro e w1 ⟨g,l,a1,n1,rfl,aQ,bm,aR,bX,bY,O,bn⟩;have bC:=Aa aQ;have bD:=Aa bm;have bE:=Aa aR;have u:=Aa (bn s f.o);have aS:=Aa (bB.o.exq aR aQ.X);clear aQ bm aR bn;go_wp2_with fail;refine(Nm S q X Z N.o n1 b bb ob w1 bC.o (by omega) (by omega) aS.o b9).mono ?_;rintro e w2 ⟨j,n,a2,c,rfl,A,bo,aT,bZ,ca,P,bp⟩;have x:=Aa (bp s f.o);have aM:Ak (Cn S q) w2 (w2.setCell (zD S 1) (zA (c-1))):=(Ak.refl (Cn S q) w2).set (Ae rfl) 1 _;have H:=Aa ((bE.o.trans aT).trans aM);have I:=Aa (A.spend (c-1));have ar:=Aa ((bD.o.exq aT A.X).exq aM A.X);have au:=Aa (bo.exq aM A.X);have y:=Aa A.X;have s1:w2.cell? (zD S 1)=some (zA c):=A.1.cell 1;have f1:w2.frozen? (zD S 1)=false:=A.1.frozen 1;have bq:IntKind.i64.wrap (c-1)=c-1:=by rw[Fm]; omega
  obtain⟨⟨x1,c1,p0,p1,aA,bF⟩,bG⟩:=ar.o;obtain⟨⟨x2,c2,r0,r1,aB,bH⟩,bI⟩:=au.o;have cb:=aA.1;have bJ:=aB.1;clear A bo aT bp aM aA aB;by_cases hlt:c-1<0
  ·go_wp2_with fail;refine Aq (v:=zA 8) (by simp[results,results118,go_sem]) rfl ?_;exact⟨8,c-1,Z,rfl,I.o,N.o,H.o,by omega,by omega,λ_=>by decide,λh=>absurd h (by omega)⟩
  ·have F:Hid (EE s a1):=u.o.2 (by omega);have G:Hid (EE s a2):=x.o.2 (by omega);have hs:Bz s:=f.o.1;have z:=Aa hs;clear hs;cases ab:Aj a1.name with
   |true=>
    go_wp2_with (go_at_call 65; refine(BR _ _).mono ?_; rintro e w9 ⟨rfl,rfl⟩; rw[ab]);refine(U9 S q X Z s f.o a1.name (F.o.2 ab) (c-1) a2 j n _ (by omega) (by omega) I.o au.o P).mono ?_;rintro e B ⟨code,n5,J,rfl,C,D,r,br,R,T,hcs⟩;have L:=Aa C;have U:=Aa D;have M:=Aa (H.o.trans r);clear C D r;go_wp2_with fail;refine Aq (v:=zA code) (by simp[results,results118,go_sem]) rfl ?_;refine⟨code,n5,J,rfl,L.o,U.o,M.o,by omega,R,T,λE=>?_⟩;rcases hcs with ⟨g1,rfl,rfl⟩|⟨g1,rfl,rfl,g2⟩|⟨g1,rfl,rfl,g2⟩
    ·exact⟨s,f.o,jL z.o u.o.1 x.o.1 F.o G.o ab g1⟩
    ·exact⟨s,f.o,UW z.o u.o.1 x.o.1 F.o G.o (Ae ⟨ab,g1,g2 E⟩)⟩
    ·exact⟨_,f.o.add ab (F.o.2 ab) P g2 j n,UX z.o u.o.1 x.o.1 F.o G.o (Ae ⟨ab,g1,rfl,rfl⟩) g2⟩
   |false=>
    cases d:Aj a2.name with
    |true=>
     go_wp2_with (go_at_call 65; refine(BR _ _).mono ?_; rintro e w9 ⟨rfl,rfl⟩; first|rw[ab]|rw[d]);refine(U9 S q X Z s f.o a2.name (G.o.2 d) (c-1) a1 g l _ (by omega) (by omega) I.o ar.o O).mono ?_;rintro e B ⟨code,n5,J,rfl,C,D,r,br,R,T,hcs⟩;have L:=Aa C;have U:=Aa D;have M:=Aa (H.o.trans r);clear C D r;go_wp2_with fail;refine Aq (v:=zA code) (by simp[results,results118,go_sem]) rfl ?_;refine⟨code,n5,J,rfl,L.o,U.o,M.o,by omega,R,T,λE=>?_⟩;rcases hcs with ⟨g1,rfl,rfl⟩|⟨g1,rfl,rfl,g2⟩|⟨g1,rfl,rfl,g2⟩
     ·rw[g1,d]at ab; cases ab
     ·exact⟨s,f.o,UW z.o u.o.1 x.o.1 F.o G.o (Ad ⟨ab,d,g2 E⟩)⟩
     ·exact⟨_,f.o.add d (G.o.2 d) O g2 g l,UX z.o u.o.1 x.o.1 F.o G.o (Ad ⟨ab,d,rfl,rfl⟩) g2⟩
    |false=>
     have V:=Aa (And.intro p0 (And.intro p1 (And.intro r0 r1)));cases aU:(a1.name.toList==a2.name.toList) with
     |false=>
      have hne:a1.name≠a2.name:=λe=>by rw[e] at aU; simp at aU
      go_wp2_with (go_at_call 65; refine(BR _ _).mono ?_; rintro e w9 ⟨rfl,rfl⟩; first|rw[ab]|rw[d]);generalize w2.setCell (zD S 1) (zA (c-1))=w3 at *;refine D9 (S:=(λw'=>w'.cell? (zD g l)=some (.string a1.name)/\w'.cell? ⟨g,l+1,none⟩=some (.slice x1 a1.args.length c1)/\w'.cell? (zD j n)=some (.string a2.name)/\w'.cell? ⟨j,n+1,none⟩=some (.slice x2 a2.args.length c2))) (by kernel_rfl) V.o λhHeld=>?_;refine tkz 0 ?_ (hy:=by intro w' aa;obtain⟨k1,k2,k3,t⟩:=aa;go_simp<;>with_reducible rfl);refine tkz 1 ?_ (hy:=by intro w' aa;obtain⟨k1,k2,k3,t⟩:=aa;go_simp<;>with_reducible rfl);refine tkz 2 ?_ (hy:=by intro w' aa;obtain⟨k1,k2,k3,t⟩:=aa;go_simp<;>with_reducible rfl);refine tkz 3 ?_ (hy:=by intro w' aa;obtain⟨k1,k2,k3,t⟩:=aa;go_simp<;>with_reducible rfl);refine tkz 4 ?_ (hy:=by intro w' aa;obtain⟨k1,k2,k3,t⟩:=aa;go_simp<;>with_reducible rfl);refine tkz 5 ?_ (hy:=by intro w' aa;obtain⟨k1,k2,k3,t⟩:=aa;go_simp<;>with_reducible rfl);refine tkz 6 ?_ (hy:=by intro w' aa;obtain⟨k1,k2,k3,t⟩:=aa;go_simp<;>with_reducible rfl);refine tkz 7 ?_ (hy:=by intro w' aa;obtain⟨k1,k2,k3,t⟩:=aa;go_simp<;>with_reducible rfl);refine tkz 8 ?_ (hy:=by intro w' aa;obtain⟨k1,k2,k3,t⟩:=aa;go_simp<;>with_reducible rfl);refine tkz 9 ?_ (hy:=by intro w' aa;obtain⟨k1,k2,k3,t⟩:=aa;go_simp<;>with_reducible rfl);refine tkv 10 ?_;refine tkv 11 ?_;refine tkv 12 ?_;refine tkv 13 ?_;refine tkv 14 ?_;refine tkv 15 ?_;refine tkv 16 ?_;refine tkv 17 ?_;refine tkv 18 ?_;refine tkv 19 ?_;refine tkv 20 ?_;refine tkz 21 ?_ (hy:=by intro w' aa;obtain⟨k1,k2,k3,t⟩:=aa;go_simp<;>with_reducible rfl);refine tkz 22 ?_ (hy:=by intro w' aa;obtain⟨k1,k2,k3,t⟩:=aa;go_simp<;>with_reducible rfl);refine dnq ?_;go_wp2_with fail;refine Aq (v:=zA 5) (by simp[results,results118,go_sem]) rfl ?_;exact⟨5,c-1,Z,rfl,I.o.later ((Ag _ _).drew),N.o,H.o.drew,by omega,by omega,λ_=>by decide,λ_=>⟨s,f.o,UY z.o u.o.1 x.o.1 ab d (λh=>hne h.1)⟩⟩
     |true=>
      have hne:a1.name=a2.name:=Ew (by simpa using aU);by_cases hm:a1.args.length=a2.args.length;case neg=>
       have bK:((a1.args.length:Int)==(a2.args.length:Int))=false:=FY.2 (by omega);have cc:((a1.args.length:Int) !=(a2.args.length:Int))=true:=(by simp[bne,bK]);have HM:=Aa hm;clear hm;go_wp2_with (go_at_call 65; refine(BR _ _).mono ?_; rintro e w9 ⟨rfl,rfl⟩; first|rw[ab]|rw[d]);generalize w2.setCell (zD S 1) (zA (c-1))=w3 at *;go_region_held3 (λw'=>w'.cell? (zD g l)=some (.string a1.name)/\w'.cell? ⟨g,l+1,none⟩=some (.slice x1 a1.args.length c1)/\w'.cell? (zD j n)=some (.string a2.name)/\w'.cell? ⟨j,n+1,none⟩=some (.slice x2 a2.args.length c2)) (first|exact V.o|go_keep) (fail);go_wp2_with fail;refine Aq (v:=zA 5) (by simp[results,results118,go_sem]) rfl ?_;exact⟨5,c-1,Z,rfl,I.o.later ((Ag _ _).drew),N.o,H.o.drew,by omega,by omega,λ_=>by decide,λ_=>⟨s,f.o,UY z.o u.o.1 x.o.1 ab d (λh=>HM.o h.2)⟩⟩
      case pos=>
       have W:=Aa hm;rw[<-hm]at r1 bJ V;clear hm;go_wp2_with (go_at_call 65; refine(BR _ _).mono ?_; rintro e w9 ⟨rfl,rfl⟩; first|rw[ab]|rw[d]);generalize w2.setCell (zD S 1) (zA (c-1))=w3 at *;go_region_held3 (λw'=>w'.cell? (zD g l)=some (.string a1.name)/\w'.cell? ⟨g,l+1,none⟩=some (.slice x1 a1.args.length c1)/\w'.cell? (zD j n)=some (.string a2.name)/\w'.cell? ⟨j,n+1,none⟩=some (.slice x2 a1.args.length c2)) (first|exact V.o|go_keep) (fail);have bL:=Aa (Gi O);have bM:=Aa (Gi P);go_wp2_with fail;go_loopw [82] (λi wr=>jX w S q X s left g l j n a1 a2 i wr) (λi wr=>a1.args.length-(intOf i).toNat);case atStart=>exact⟨0,c-1,Z,s,Be _,rfl,ar.o.exq ((Ak.refl (Cn S q) _).drew) y.o,au.o.exq ((Ak.refl (Cn S q) _).drew) y.o,I.o.later ((Ag _ _).drew),H.o.drew,by omega,by omega,f.o,by simpa [AE] using FR.done s⟩
       case round=>
        obtain⟨k,n3,Z3,s3,hk,rfl,Y,aI,bs,bt,br,R,bu,bw⟩:=hrel;have bN:=Aa Y;have bO:=Aa aI;have bx:=Aa bs;have bz:=Aa bt;have aV:=Aa bu;have aW:=Aa bw;obtain⟨y1,d1,q1,_,af⟩:=Y.sub;obtain⟨y2,d2,q2,_,ag⟩:=aI.sub;rw[<-W.o]at q2;have aX:=Y.1.lt;have aY:=aI.1.lt;have aJ:=Y.2;have aK:=aI.2;clear Y aI bs bt bu bw p0 p1 r0 r1 V;by_cases aN:k<a1.args.length
        ·have al:k<a2.args.length:=by have:=W.o; omega
         have cd:(k:Int)<(a1.args.length:Int):=(by omega);obtain⟨aZ,bc,rfl,b0⟩:=af k aN;obtain⟨bd,bf,rfl,b3⟩:=ag k al;have bg:=Aa (And.intro q1 q2);have hD:Below wr.heap.size wr wr.drew:=(Ag _ _).drew;have bP:=Aa (IH.o n3.toNat (by omega) n3 Z3 s3 a1.args[k] a2.args[k] aZ (bc+k*2) bd (bf+k*2) wr.drew rfl R (by omega) aV.o (bx.o.later hD) (b0.exq (Ak.ofBelow (Q:=Cn S q) hD) y.o) (b3.exq (Ak.ofBelow (Q:=Cn S q) hD) y.o) (LK bL.o k aN) (LK bM.o k al));have bQ:Hid (∀B,Ak (Cn S q) wr.drew B->B.cell? ⟨g,l+1,none⟩=some (.slice (some (zD aZ bc)) a1.args.length d1)/\B.cell? ⟨j,n+1,none⟩=some (.slice (some (zD bd bf)) a1.args.length d2)):=λB E=>⟨(Ce (E.block g aX (y.o _ aJ))).trans bg.o.1,(Ce (E.block j aY (y.o _ aK))).trans bg.o.2⟩;clear af ag b0 b3 hD;go_wp2_with fail;go_region_held3 (λw'=>w'.cell? ⟨g,l+1,none⟩=some (.slice (some (zD aZ bc)) a1.args.length d1)/\w'.cell? ⟨j,n+1,none⟩=some (.slice (some (zD bd bf)) a1.args.length d2)) (first|exact bg.o|exact aL|go_keep)
          ((go_at_call 118; refine bP.o.mono ?_; rintro e B ⟨code,n5,J,rfl,C,D,r,cf,bR,T,b4⟩; have aL:=bQ.o B r))
         have L:=Aa C;have U:=Aa D;have M:=Aa ((bz.o.drew).trans r);have bS:=Aa ((bN.o.exq ((Ak.refl (Cn S q) _).drew) y.o).exq r y.o);have bT:=Aa ((bO.o.exq ((Ak.refl (Cn S q) _).drew) y.o).exq r y.o);have b5:=Aa b4;clear C D r b4 aL;by_cases bh:code=0
         ·subst bh;have b6:0<=n5:=by
           by_cases h:n5<0
           ·exact absurd rfl (T h)
           ·omega
          obtain⟨s5,aO,aP⟩:=b5.o b6;have bU:=Aa aO;have bV:=Aa (U3 aN al aW.o aP);clear aO aP;go_wp2_with fail;go_roundw
          case rel=>exact⟨k+1,n5,J,s5,by omega,by go_num,bS.o,bT.o,L.o,M.o,by omega,b6,bU.o,bV.o⟩
          case measure=>simp[intOf]; omega
         ·have bj:(code==0)=false:=FY.2 bh;have bW:(code !=0)=true:=(by simp[bne,bj]);have b7:=Aa bh;go_wp2_with fail;refine Aq (v:=zA code) (by simp[results,results118,go_sem]) rfl ?_;refine⟨code,n5,J,rfl,L.o,U.o,M.o,by omega,bR,λ_=>b7.o,λE=>?_⟩;obtain⟨s5,aO,aP⟩:=b5.o E;exact⟨s5,aO,U0 z.o u.o.1 x.o.1 O P ab d hne W.o (jM (k+1) b7.o (U3 aN al aW.o aP))⟩
        ·clear af ag;go_wp2_with fail;refine Aq (v:=zA 0) (by simp[results,results118,go_sem]) rfl ?_;refine⟨0,n3,Z3,rfl,bx.o,aV.o.errs,bz.o,by omega,by omega,λh=>absurd h (by omega),λ_=>⟨s3,aV.o,U0 z.o u.o.1 x.o.1 O P ab d hne W.o ?_⟩⟩;have h6:=aW.o;rwa [BH (by omega),BH (by have:=W.o; omega)] at h6
theorem QV.at {w:World} {X:Nat->Prop} {a:Option Addr} {n c:Nat} {l:List Pr} (h:QV w X (.slice a n c) l) (i:Nat) (hi:i<l.length):∃b o,a=some (zD b o)/\DI w X b (o+i*4) l[i].l/\DI w X b (o+i*4+2) l[i].r:=by
 obtain⟨a2,c2,e,hl,h⟩:=h;simp at e;obtain⟨rfl,rfl,rfl⟩:=e;rcases h with h|⟨b,o,f,d,h⟩
 ·subst h; simp at hi
 ·obtain⟨a1,c1,a2,c2,h1,h2,h3,g,j,h6⟩:=h i hi;exact⟨b,o,f,⟨⟨a1,c1,h1,h2,j,DR h1⟩,d⟩,⟨⟨a2,c2,h3,g,h6,DR h3⟩,d⟩⟩
theorem QV.exq {X:Nat->Prop} {v:Value} (h:QV w X v l) (he:Ak Q w w') (a:∀b,X b->¬Q b):QV w' X v l:=
 ((h.mono (Y:=λb=>X b/\b<w.heap.size) λb h1 h2=>⟨h1,h2⟩).kept λb hb=>he.block b hb.2 (a b hb.1)).mono λb hb _=>hb.1
def jZ (w:World) (S q:Nat) (X:Nat->Prop) (Z:List Zp) (left:Int) (ls:List Pr) (e:Ending) (w':World):Prop:=
 ∃(r:Bool) (n:Int),e=.returned (.bool r)/\CH w' S q X Z n/\Ak (Cn S q) w w'/\(left<0->ls≠[]->r=false)/\∀s,CC Z s->r=true->∀p∈ls,Ab [Ai s p.l]<=2000/\Ab [Ai s p.r]<=2000
def kA (w:World) (S q:Nat) (X:Nat->Prop) (Z:List Zp) (left:Int) (ls:List Pr) (i:Value) (wr:World):Prop:=
 ∃(k:Nat) (n:Int),k<=ls.length/\i=zA k/\CH wr S q X Z n/\Ak (Cn S q) w wr/\n<=left/\-100<=n/\(0<k->0<=left)/\∀s,CC Z s->∀j (h:j<ls.length),j<k->Ab [Ai s ls[j].l]<=2000/\Ab [Ai s ls[j].r]<=2000
theorem kB (S q:Nat) (X:Nat->Prop) (Z:List Zp) (g:∀z∈Z,Af [z.t]=0) (left:Int) (h0:-100<=left) (h1:left<=100000) (ls:List Pr) (m:∀p∈ls,Af [p.l]=0/\Af [p.r]=0) (v:Value) (w:World) (d:CH w S q X Z left) (hv:QV w X v ls):
  Calls prog 119 #[zC S,v] w λe w'=>jZ w S q X Z left ls e w':=by
 have R:=Aa d;have T:=Aa hv;have u:=Aa d.X;have U:=Aa m;obtain⟨a,c,rfl,⟨aJ,aK⟩,_⟩:=hv;clear d m;go_enter func119,ntmps119;go_wp2_with fail;go_loopw [8] (λi wr=>kA w S q X Z left ls i wr) (λi wr=>ls.length-(intOf i).toNat);case atStart=>exact⟨0,left,Be _,rfl,R.o,Ak.refl _ _,Int.le_refl _,h0,λh=>absurd h (by omega),λ_ _ j _ h=>absurd h (by omega)⟩
 case round=>
  obtain⟨k,n,hk,rfl,x,y,aL,V,W,A⟩:=hrel;have B:=Aa x;have aa:=Aa y;have C:=Aa A;clear x y A;by_cases D:k<ls.length
  ·obtain⟨b,o,rfl,E,F⟩:=(T.o.exq aa.o u.o).at k D;have aM:(k:Int)<(ls.length:Int):=(by omega);have Y:=Aa E;have aD:=Aa F;have G:=U.o ls[k] (AM D);clear E F;go_wp2_with fail;refine(Va S q X Z g 2001 0 n ls[k].l b (o+k*4) wr rfl (by omega) V (by omega) B.o Y.o G.1).mono ?_;rintro e w5 ⟨c5,n5,rfl,H,ab,aN,aO,aP,aQ,aE,I⟩;have J:=Aa H;have L:=Aa (aa.o.trans ab);have aF:=Aa (aD.o.exq ab u.o);have aG:=Aa I;clear H ab I;by_cases aR:2000<c5
   ·have ad:(2000:Int)<(c5:Int):=(by omega);go_wp2_with fail;refine Aq (v:=.bool false) (by simp[results,results119,go_sem]) rfl ?_;exact⟨false,n5,rfl,J.o,L.o,λ_ _=>rfl,λ_ _ h=>absurd h (by simp)⟩
   ·have ad:¬(2000:Int)<(c5:Int):=(by omega);have aH:0<=n5:=by
     by_cases h:n5<0
     ·have:=aE h; omega
     ·omega
    go_wp2_with fail;refine(Va S q X Z g 2001 0 n5 ls[k].r b (o+k*4+2) w5 rfl (by omega) (by omega) (by omega) J.o aF.o G.2).mono ?_;rintro e w6 ⟨f,n6,rfl,M,N,aS,aT,aU,aV,aW,a1⟩;have O:=Aa M;have P:=Aa (L.o.trans N);have aI:=Aa a1;clear M N a1;by_cases aX:2000<f
    ·have ae:(2000:Int)<(f:Int):=(by omega);go_wp2_with fail;refine Aq (v:=.bool false) (by simp[results,results119,go_sem]) rfl ?_;exact⟨false,n6,rfl,O.o,P.o,λ_ _=>rfl,λ_ _ h=>absurd h (by simp)⟩
    ·have ae:¬(2000:Int)<(f:Int):=(by omega);go_wp2_with fail;go_roundw
     case rel => exact ⟨k + 1, n6, by omega, by go_num, O.o, P.o, by omega, by omega, λ_ => by omega, λs hs j h hj => by
      by_cases e:j=k
      ·subst e;have g1:=aG.o s hs (by omega);have g2:=aI.o s hs (by omega);omega
      ·exact C.o s hs j h (by omega)⟩
     case measure=>simp[intOf]; omega
  ·go_wp2_with fail;refine Aq (v:=.bool true) (by simp[results,results119,go_sem]) rfl ?_;refine⟨true,n,rfl,B.o,aa.o,λhl hne=>?_,λs hs _ p hp=>?_⟩
   ·have:0<ls.length:=Gq.2 hne;have:=W (by omega);omega
   ·obtain⟨j,hj,rfl⟩:=Hi hp;exact C.o s hs j hj (by omega)
def kC (w:World) (ls:List Pr) (e:Ending) (w':World):Prop:=
 ∃code:Int,e=.returned (zA code)/\Below w.heap.size w w'/\(code≠0->∃n sf,BG false n [] ls=some (code,sf)/\Bm sf=false)
def kD (w:World) (S q:Nat) (X:Nat->Prop) (ls:List Pr) (i:Value) (wr:World):Prop:=
 ∃(k:Nat) (n:Int) (Z:List Zp) (s:List Bd),k<=ls.length/\i=zA k/\CH wr S q X Z n/\Ak (Cn S q) w wr/\n<=100000/\0<=n/\CC Z s/\FR [] (ls.take k) 0 s
theorem kE (ls:List Pr) (B:Af (AB ls)=0) (v:Value) (w:World) (X:Nat->Prop) (hv:QV w X v ls):
  Calls prog 100 #[v] w λe w'=>kC w ls e w':=by
 have HV:=Aa (hv.mono (Y:=λb=>X b/\b<w.heap.size) λb h1 h2=>⟨h1,h2⟩);have C:=Aa (Nl B);obtain⟨a,c,rfl,⟨bg,bh⟩,_⟩:=hv;have bj:=@run_makeMap prog;go_enter func100,ntmps100;go_wp2_with fail;have BP:Below w.heap.size w ((w.alloc (.map #[] 0)).alloc (zh #[.map (some w.heap.size),zA 100000] 171)):=((Ag _ _).alloc (Al _) _).alloc (by simp) _;have D:Ac ((w.alloc (.map #[] 0)).alloc (zh #[.map (some w.heap.size),zA 100000] 171)) (w.heap.size+1) #[.map (some w.heap.size),zA 100000] 171:=(by have h1:=Ac.new (w.alloc (.map #[] 0)) #[.map (some w.heap.size),zA 100000] 171;rw[Cp]at h1;exact h1);have E:AO ((w.alloc (.map #[] 0)).alloc (zh #[.map (some w.heap.size),zA 100000] 171)) w.heap.size []:=(AO.new w).kept (Ay _ _ _ (by simp));generalize (w.alloc (.map #[] 0)).alloc (zh #[.map (some w.heap.size),zA 100000] 171)=w2 at *;have y:CH w2 (w.heap.size+1) w.heap.size (λb=>X b/\b<w.heap.size) [] 100000:=⟨D,E,by simp,λb hb=>⟨by omega,by omega⟩⟩;have aM:=Aa (HV.o.later BP);have ab:=Aa y.X;have aN:=Aa y;have aO:=Aa BP;have F:w.heap.size<=w2.heap.size:=BP.size;have z:Hid (∀w',Ak (Cn (w.heap.size+1) w.heap.size) w2 w'->Below w.heap.size w w'):=λw' h=>aO.o.trans (h.below F (λb hb=>by rcases hb with e|e<;>omega));clear y BP D E;go_loopw [10] (λi wr=>kD w2 (w.heap.size+1) w.heap.size (λb=>X b/\b<w.heap.size) ls i wr) (λi wr=>ls.length-(intOf i).toNat);case atStart=>exact⟨0,100000,[],[],Be _,rfl,aN.o,Ak.refl _ _,by omega,by omega,jK,by simpa using FR.done []⟩
 case round=>
  obtain⟨k,n,Z,s,hk,rfl,G,H,aP,aQ,a1,I⟩:=hrel;have aR:=Aa G;have j:=Aa H;have aS:=Aa a1;have J:=Aa I;clear G H a1 I;by_cases aa:k<ls.length
  ·have A:=aM.o.exq j.o ab.o;have aT:=Aa A;obtain⟨b,o,rfl,L,M⟩:=A.at k aa;have bk:(k:Int)<(ls.length:Int):=(by omega);have N:=C.o ls[k] (AM aa);have m:Below wr.heap.size wr wr.drew:=(Ag _ _).drew;have HW:=Aa (jY (w.heap.size+1) w.heap.size (λb=>X b/\b<w.heap.size) n.toNat n Z s ls[k].l ls[k].r b (o+k*4) b (o+k*4+2) wr.drew rfl aQ aP aS.o (aR.o.later m) (L.exq (Ak.ofBelow (Q:=Cn (w.heap.size+1) w.heap.size) m) ab.o) (M.exq (Ak.ofBelow (Q:=Cn (w.heap.size+1) w.heap.size) m) ab.o) N.1 N.2);have O:Hid (w.heap.size<=wr.heap.size):=Bf F j.o.size;clear L M m A;go_wp2_with fail;go_region_held3 (λw'=>w.heap.size<=w'.heap.size) (first|exact O.o|exact an|go_keep)
    ((go_at_call 118; refine HW.o.mono ?_; rintro e P ⟨code,n5,R,rfl,T,U,q,bl,bm,aU,V⟩; have an:w.heap.size<=P.heap.size:=Bf O.o q.size))
   have W:=Aa T;have aV:=Aa U;have aH:=Aa ((j.o.drew).trans q);have aW:=Aa ((aT.o.exq ((Ak.refl (Cn (w.heap.size+1) w.heap.size) _).drew) ab.o).exq q ab.o);have aI:=Aa V;clear T U q V;by_cases t:code=0
   ·subst t;have u:0<=n5:=by
     by_cases h:n5<0
     ·exact absurd rfl (aU h)
     ·omega
    obtain⟨x,d,f⟩:=aI.o u;have aX:=Aa d;have aY:=Aa (U4 aa J.o f);clear d f;go_wp2_with fail;go_roundw
    case rel=>exact⟨k+1,n5,R,x,by omega,by go_num,W.o,aH.o,by omega,u,aX.o,aY.o⟩
    case measure=>simp[intOf]; omega
   ·have ao:(code==0)=false:=FY.2 t;have aZ:(code !=0)=true:=(by simp[bne,ao]);have ba:=Aa t;clear t;go_wp2_with fail;refine(kB (w.heap.size+1) w.heap.size (λb=>X b/\b<w.heap.size) R aV.o n5 (by omega) (by omega) ls C.o _ P W.o aW.o).mono ?_;rintro e w6 ⟨r,n6,rfl,bb,aJ,aq,aK⟩;have aL:=Aa (aH.o.trans aJ);have bc:=Aa aK;clear bb aJ aK;cases r with
    |true=>
     have u:0<=n5:=by
      by_cases h:n5<0
      ·have:=aq h (λe=>by rw[e] at aa; simp at aa);cases this
      ·omega
     obtain⟨x,d,f⟩:=aI.o u;have bd:=Aa (FR.ends (jN (k+1) ba.o (U4 aa J.o f)) B (bc.o x d rfl));clear d f;go_wp2_with fail;refine Aq (v:=zA code) (by simp[results,results100,go_sem]) rfl ?_;obtain⟨⟨g,hg⟩,bf⟩:=bd.o;exact⟨code,rfl,z.o _ aL.o,λ_=>⟨g,x,hg,bf⟩⟩
    |false=>go_wp2_with fail;refine Aq (v:=zA 0) (by simp[results,results100,go_sem]) rfl ?_;exact⟨0,rfl,z.o _ aL.o,λh=>absurd rfl h⟩
  ·go_wp2_with fail;refine Aq (v:=zA 0) (by simp[results,results100,go_sem]) rfl ?_;exact⟨0,rfl,z.o _ j.o,λh=>absurd rfl h⟩
theorem Vb {lim:Bool}:∀(n m:Nat) (s:List Bd) (l:List Pr) (r a:Int×List Bd),BG lim n s l=some r->BG lim m s l=some a->r=a
 |0,_,_,_,_,_,h,_=>by cases h
 |_+1,0,_,_,_,_,_,h=>by cases h
 |n+1,m+1,s,l,r,a,h,h'=>by
  rw[BG]at h h';cases b:G9 lim s l with
  |stop e s'=>rw[b]at h h';cases h; cases h'; rfl
  |go s' l'=>rw[b]at h h';exact Vb n m s' l' r a h h'
def Ih:Value->Option (DataW Unit×List MemPlace):=λ_=>some (.nil,[])
theorem kG {L:List (ByteArray×Value)} (h:AO w q L) (d:(L.map (·.1)).Pairwise (·≠·)) (f:∀p∈L,p.1.size<=maxLen) (hl:L.length<=maxLen):
  ∃a:DataW Unit,w.ownsMap prog 9 Ih q L.length a/\(strKeys a).Perm (L.map (λp=>p.1.data.toList))/\Go.Maps.size a=L.length:=by
 obtain⟨es,ab,hb,he,g⟩:=h;have hlen:es.toList.length=L.length:=by have:=Cb List.length he; simpa using this
 have aa:∀i (h1:i<es.toList.length) (h2:i<L.length),es.toList[i].key=.string L[i].1:=λi h1 h2=>by
  have b:(es.toList.map (λe=>(e.key,e.val)))[i]? = (L.map (λp=>(Value.string p.1,p.2)))[i]? := by rw[he]
  rw[List.getElem?_map,List.getElem?_map,F1 h1,F1 h2]at b;simp only[Option.map_some,Gr,IK] at b;exact b.1
 have l:∀x∈es.toList,∃p∈L,x.key=.string p.1:=λx hx=>by
  obtain⟨i,hi,rfl⟩:=Hi hx;have h2:i<L.length:=by omega
  exact⟨L[i],AM h2,aa i hi h2⟩
 have k:∀x∈es.toList,∀s:ByteArray,x.key=.string s->s.size<=maxLen->WideElems.rd prog 9 Ih x=some (.string s.data.toList,.nil):=λx hx s hs hz=>by
  unfold WideElems.rd Ih;rw[hs,Go.WideMaps.keyOf_string_mk underlying9 hz];rfl
 have F:WideElems.Fit prog 9 Ih es ab:=by
  refine⟨by rw[<-L8]; omega,(MapKept.stamped_iff es ab).2 ⟨g.1,g.2,?_⟩,λx hx=>?_⟩
  ·rw[Md];intro i j hi hj m e;rw[aa i hi (by omega),aa j hj (by omega)]at e;rw[Jz,Md]at d;have:=d i j (by omega) (by omega) m;exact this (by simpa using e)
  ·obtain⟨p,hp,e⟩:=l x hx;exact⟨_,k x hx p.1 e (f p hp)⟩
 refine⟨.map ((es.toList.map (WideElems.rg prog 9 Ih)).foldr DataW.insert []),⟨es,ab,hb,F,by rw[<-L8]; omega,rfl⟩,?_,?_⟩
 ·have h1:(strKeys (DataW.map ((es.toList.map (WideElems.rg prog 9 Ih)).foldr DataW.insert []):DataW Unit)).Perm ((es.toList.map (WideElems.rg prog 9 Ih)).map λp=>strOf p.1):=(WideShapes.sorted_perm _).map _;refine h1.trans ?_;have h2:(es.toList.map (WideElems.rg prog 9 Ih)).map (λp=>strOf p.1)=L.map (λp=>p.1.data.toList):=(by refine List.ext_getElem (by simp; omega) λi h3 c=>?_;simp only[EZ] at h3 c;simp only[List.getElem_map];unfold WideElems.rg;rw[k _ (AM h3) L[i].1 (aa i h3 c) (f _ (AM c))];rfl);rw[h2]
 ·rw[Maps.size_eq,Go.length_sorted];simpa using hlen
open Go.RowKit Go.Maps Go.Sort Go.Shelf
theorem kH (m:Nat):AnyZ.SortsIn prog Tryz.sortedK_ren Fence.wide m:=
 ⟨λblk off cap a W hH aa ab=>CP.2 (AnyM.slices_Sort_string Tryz.sortK blk off cap a W hH aa ab),
  λp cap W=>CP.2 (AnyM.slices_Sort_string_none Tryz.sortK p cap W)⟩
theorem kI (a:Option Nat) (W:World):CallsIn Fence.wide 5 prog 140 #[.map a] W λe w'=>e=.returned (.func (.func 154) #[] #[zC W.heap.size])/\w'=W.alloc (zh #[.map a] 174):=
 AnyZ.keys_in Tryz.keysK Fence.wide 5 trivial rfl a W
theorem kJ {H:Type} (b d:Nat) (a:DataW H) (R:Value->Option (DataW H×List MemPlace)) (w:World) (ab:w.ownsMap prog 9 R b d a) (f:Maps.size a<=maxLen) (aa:Maps.size a*16<=140737488355328):
  CallsIn Fence.wide 5 prog 139 #[.func (.func 154) #[] #[zC w.heap.size]] (w.alloc (zh #[.map (some b)] 174)) λe w'=>∃(v:Value) (c:List (List UInt8)),e=.returned v/\c.Perm (strKeys a)/\
   w'.ownsRow (w.alloc (zh #[.map (some b)] 174)).heap.size 9 1 v c.length ((c.mergeSort (λx y=>decide (x<=y))).map encStr)/\(v=zB↔c=[])/\Below (w.alloc (zh #[.map (some b)] 174)).heap.size (w.alloc (zh #[.map (some b)] 174)) w':=by
 have g:=ab.lt;have h:SeqGives Fence.wide 2 prog 154 #[zC w.heap.size] encStr (λc=>c.Perm (strKeys a)) (Maps.size a) (w.alloc (zh #[.map (some b)] 174)):=
  AnyZ.keys_gives (ρ:=Tryz.keysK_ren) { Tryz.keysK with} Fence.wide _ trivial rfl (by omega) w.heap.size b d a _ (by simp) (by simp) (by
   obtain⟨es,clock,hb,Ft,hs,i⟩:=ab;exact⟨es,clock,(Ay _ _ b g).trans hb,Ft,hs,i⟩)
 exact AnyZ.sorted_in Tryz.sortedK Fence.wide 5 trivial trivial trivial trivial rfl (by omega) (kH _) (enters_of func153 (by kernel_rfl) rfl) 154 #[zC w.heap.size] trivial (enters_of func154 (by kernel_rfl) rfl) _ _ f aa _ h
theorem Vc:Py:=by
 intro q L w j k m hlen;refine⟨CP.1 (kI (some q) w),?_⟩;obtain⟨n,o,ab,aa⟩:=kG j k (λp hp=>by have:=m p hp; unfold maxLen; omega) (by unfold maxLen; omega);refine(CP.1 (kJ q L.length n Ih w o (by rw[aa]; unfold maxLen; omega) (by rw[aa]; omega))).mono ?_;rintro e w' ⟨v,d,rfl,hp,g,_,hb⟩;have r:(w.alloc (zh #[.map (some q)] 174)).heap.size=w.heap.size+1:=by simp
 rw[r]at g hb;have i:=List.mergeSort_perm d (λx y=>decide (x<=y));have s:(d.mergeSort (λx y=>decide (x<=y))).Pairwise (λa b=>decide (a<=b)=true):=List.pairwise_mergeSort (λa b c h1 h2=>by simp at *; exact List.le_trans h1 h2) (λa b=>by simp; exact List.le_total a b) d;generalize d.mergeSort (λx y=>decide (x<=y))=ms at *;refine⟨v,ms.map (λl=>⟨l.toArray⟩),rfl,?_,?_,?_,hb⟩
 ·have h1:ms.Perm (L.map (λp=>p.1.data.toList)):=(i.trans hp).trans ab;have h2:=h1.map (λl:List UInt8=>(⟨l.toArray⟩:ByteArray));simpa [Function.comp_def] using h2
 ·rw[Jz];refine s.imp fun {a b} h=>?_;unfold B8;have t:(⟨b.toArray⟩:ByteArray).toList=b:=by rw[Jp]
  have u:(⟨a.toArray⟩:ByteArray).toList=a:=by rw[Jp]
  rw[t,u,bytesLess_eq];have h2:a<=b:=by simpa using h
  simpa using h2
 ·have h1:=LV.of_own (f:=Value.string) (l:=ms.map (λl:List UInt8=>(⟨l.toArray⟩:ByteArray))) (w:=w') (N:=w.heap.size+1) (T:=9) (v:=v) (by
   have h2:ms.length=d.length:=i.length_eq;rw[EZ,h2,KJ];exact g)
  exact h1
theorem Nn (h:Av t=0):Af [t]=0/\Ab [t]<=2000:=by
 unfold Av at h;split at h
 ·cases h
 ·exact⟨h,by omega⟩
theorem Vd:∀(l:List Pr),(∀p∈l,Ab [p.l]<=2000/\Ab [p.r]<=2000)->Ab (AB l)<=4000*l.length
 | [],_=>by simp[AB,Ab]
 |p::l,h=>by
  have h1:=h p (by simp);have h2:=Vd l λq hq=>h q (by simp[hq]);have e1:=Fw p.l (p.r::AB l);have e2:=Fw p.r (AB l);rw[AB];simp only[Bg];omega
theorem Ve:∀(l:List Pr),(∀p∈l,Af [p.l]=0/\Af [p.r]=0)->Af (AB l)=0
 | [],_=>by simp[AB,Af]
 |p::l,h=>by
  rw[AB];exact CA.2 ⟨(h p (by simp)).1,CA.2 ⟨(h p (by simp)).2,Ve l λq hq=>h q (by simp[hq])⟩⟩
theorem LL (h:Cs ls=0):Af (AB ls)=0/\ls.length<=40/\UI ((Ap (At [] (AB ls))).map (·.name)) [] ls/\((Ap (At [] (AB ls))).map (·.name)).length<=400000:=by
 have h1:=Yb h;have h2:=Rk h;have he:Af (AB ls)=0:=Ve ls λp hp=>⟨(Nn (h1 p hp).1).1,(Nn (h1 p hp).2).1⟩;have hs:∀p∈ls,Ab [p.l]<=2000/\Ab [p.r]<=2000:=λp hp=>⟨(Nn (h1 p hp).1).2,(Nn (h1 p hp).2).2⟩;refine⟨he,h2,UI.start he hs h2,?_⟩;rw[EZ,Mj,I9 _ (by simp)];have:=Vd ls hs;omega
theorem kK (hp:Cs ls=0) (R:Int×List Bd) (g0:Nat) (hrun:BG false g0 [] ls=some R) (u:Value) (w:World) (X:Nat->Prop) (hu:QV w X u ls):
  Calls prog 101 #[u] w λe w'=>Nh R w e w':=by
 obtain⟨he,g,d,f⟩:=LL hp;obtain⟨a,c,rfl,_,hc⟩:=hu.mono (Y:=λb=>b<w.heap.size) λ_ _ h=>h;rcases hc with rfl|⟨b,o,rfl,hb,aa⟩
 ·exact CP.1 (Uy (Aa Vc) 6 (by omega) 0 0 a [] c (Ae rfl) (by simp) _ f d R g0 hrun w (Be _) (Ae rfl) (λj u h=>by simp[C0] at h) (by simp))
 ·obtain⟨xs,ab,i,k⟩:=Up ls b o aa;subst ab;have l:xs.length<=40:=by simpa using g
  have:=Uy (Aa Vc) 6 (by omega) b o (some (zD b o)) xs c (Ad rfl) l _ f d R g0 hrun w (Nat.le_of_lt hb) (Ad hb) i k;rw[EZ];exact CP.1 this
def kL (ls:List Pr) (R:Int×List Bd) (w:World) (e:Ending) (w':World):Prop:=
 (Cs ls≠0/\Below w.heap.size w w'/\e=.returned (.tuple #[zB,zA (Cs ls)]))∨(Cs ls=0/\Nh R w e w')
theorem kM (hp:Cs ls=0) (R:Int×List Bd) (g0:Nat) (hrun:BG false g0 [] ls=some R) (u:Value) (w:World) (X:Nat->Prop) (hu:QV w X u ls):
  Calls prog 75 #[u] w λe w'=>Nh R w e w':=by
 have c:=Aa hu;have d:=Aa hrun;have f:=Aa hp;clear hu hrun hp;go_enter func75,ntmps75;go_wp2_with fail;refine(kE ls (LL f.o).1 u w X c.o).mono ?_;rintro e k ⟨code,rfl,g,h⟩;have aa:=Aa g;have l:=Aa h;clear g h;by_cases ab:code=0
 ·subst ab;go_wp2_with fail;refine(kK f.o R g0 d.o u k X (c.o.later aa.o)).mono ?_;rintro e w2 ⟨hb2,hc⟩;have a:=Aa (aa.o.trans (hb2.mono aa.o.size));have m:=Aa hc;clear hb2 hc;rcases m.o with ⟨h1,rfl⟩|⟨h1,h2,rfl⟩|⟨h1,h2,v,rfl,h3⟩
  ·go_wp2_with fail;refine Aq (v:=.tuple #[zB,zA 8]) (by simp[results,results75,go_sem]) rfl ?_;exact⟨a.o,Ae ⟨h1,rfl⟩⟩
  ·go_wp2_with fail;refine Aq (v:=.tuple #[zB,zA R.1]) (by simp[results,results75,go_sem]) rfl ?_;exact⟨a.o,Ad (Ae ⟨h1,h2,rfl⟩)⟩
  ·have n:=Aa h3;clear h3;go_wp2_with fail;refine Aq (v:=.tuple #[v,zA 0]) (by simp[results,results75,go_sem]) rfl ?_;exact⟨a.o,Ad (Ad ⟨h1,h2,v,rfl,n.o.mono λb hb _=>Bf aa.o.size hb⟩)⟩
 ·obtain⟨n9,sf,i,j⟩:=l.o ab;have q:=Vb _ _ _ _ _ _ d.o i;subst q;have r:(code==0)=false:=FY.2 ab;have ao:(code !=0)=true:=by simp[bne,r]
  have s:=Aa j;have t:=Aa ab;clear i j ab;go_wp2_with fail;refine Aq (v:=.tuple #[zB,zA code]) (by simp[results,results75,go_sem]) rfl ?_;exact⟨aa.o,Ad (Ae ⟨s.o,t.o,rfl⟩)⟩
theorem Vf (ls:List Pr) (R:Int×List Bd) (g0:Nat) (hrun:Cs ls=0->BG false g0 [] ls=some R) (u:Value) (w:World) (X:Nat->Prop) (hu:QV w X u ls):
  Calls prog 48 #[u] w λe w'=>kL ls R w e w':=by
 have c:=Aa hu;have f:=Aa hrun;clear hu hrun;by_cases hp:Cs ls=0
 ·have a:=Aa hp;go_enter func48,ntmps48;go_wp2_with (go_at_call 74; refine(R7 ls u w X c.o).mono ?_; rintro e w1 ⟨rfl,ab⟩; rw[a.o]; have aa:=Aa ab; clear ab);refine(kM a.o R g0 (f.o a.o) u w1 X (c.o.later aa.o)).mono ?_;rintro e w2 ⟨hb2,hc⟩;have d:=Aa (aa.o.trans (hb2.mono aa.o.size));have g:=Aa hc;clear hb2 hc;rcases g.o with ⟨h1,rfl⟩|⟨h1,h2,rfl⟩|⟨h1,h2,v,rfl,h3⟩
  ·go_wp2_with fail;refine Aq (v:=.tuple #[zB,zA 8]) (by simp[results,results48,go_sem]) rfl ?_;exact Ad ⟨a.o,d.o,Ae ⟨h1,rfl⟩⟩
  ·go_wp2_with fail;refine Aq (v:=.tuple #[zB,zA R.1]) (by simp[results,results48,go_sem]) rfl ?_;exact Ad ⟨a.o,d.o,Ad (Ae ⟨h1,h2,rfl⟩)⟩
  ·have h:=Aa h3;clear h3;go_wp2_with fail;refine Aq (v:=.tuple #[v,zA 0]) (by simp[results,results48,go_sem]) rfl ?_;exact Ad ⟨a.o,d.o,Ad (Ad ⟨h1,h2,v,rfl,h.o.mono λb hb _=>Bf aa.o.size hb⟩)⟩
 ·have ae:(Cs ls==0)=false:=FY.2 hp;have a:=Aa hp;clear hp;go_enter func48,ntmps48;go_wp2_with (go_at_call 74; refine(R7 ls u w X c.o).mono ?_; rintro e w1 ⟨rfl,ab⟩; have aa:=Aa ab; clear ab);refine Aq (v:=.tuple #[zB,zA (Cs ls)]) (by simp[results,results48,go_sem]) rfl ?_;exact Ae ⟨a.o,aa.o,rfl⟩
theorem kN (s:ByteArray):∀f m i k,(rd s f m i k).err=0->k<=200->(rd s f m i k).k<=200:=by
 intro f;induction f with
 |zero=>intro m i k h; simp[rd,BO] at h
 |succ f b=>
  intro m i k h hk;match m with
  |none=>
   unfold rd at h ⊢;split at h
   ·exfalso; revert h; simp only[BO]; split<;>omega
   ·rename_i h1;rw[Ah h1];split at h
    ·exfalso; revert h; simp[BO]
    ·rename_i h2;rw[Ah h2];split at h
     ·exfalso; revert h; simp[BO]
     ·rename_i h3;rw[Ah h3];split at h
      ·rename_i a;rw[Ao a];split at h
       ·exfalso; revert h; simp[BO]
       ·rename_i c;rw[Ah c];exact b _ _ _ h (by omega)
      ·rename_i a;rw[Ah a];show k+1<=200;omega
  |some (nm,acc)=>
   unfold rd at h ⊢;split at h
   ·rename_i h1;exact absurd h h1
   ·rename_i h1;rw[Ah h1];simp only[ne_eq,Decidable.not_not] at h1;have h3:=b none (i+1) k h1 hk;split at h
    ·exfalso; revert h; simp[BO]
    ·rename_i h2;rw[Ah h2];split at h
     ·rename_i a;rw[Ao a];exact h3
     ·rename_i a;rw[Ah a];split at h
      ·rename_i c;rw[Ao c];exact b _ _ _ h h3
      ·exfalso; revert h; simp[BO]
theorem kO {c:World} {a:Option Addr} {l:List Tm} {v0 v1:Value} (hs:Sl c (λb=>T+1<=b) a l) (hT:w.heap.size<T):Sl ((c.setCell (zD w.heap.size 0) v0).setCell (zD w.heap.size 1) v1) (λb=>w.heap.size<=b) a l:=
 (hs.kept λb hb=>by rw[An _ _ _ _ (by simp; omega),An _ _ _ _ (by simp; omega)]).mono λb hb _=>by omega
def GJ (s:ByteArray):Rd:=
 if 4000<s.size then BO 3
 else if (rd s (2*s.size+1) none 0 0).err≠0 then BO (rd s (2*s.size+1) none 0 0).err
 else if (rd s (2*s.size+1) none 0 0).pos=s.size then rd s (2*s.size+1) none 0 0
 else BO 12
def Vg (w:World) (r:Rd) (e:Ending) (w':World):Prop:=
 ∃v,e=.returned (.tuple #[v,zA r.err])/\(r.err=0->TV w' (λb=>w.heap.size<=b) v r.t)/\(r.err≠0->v=.agg zd)/\Below w.heap.size w w'
theorem PM {r:Rd} {z:Int} (h:r=BO z) (hz:z≠0) (hb:Below w.heap.size w w'):Vg w r (.returned (.tuple #[.agg zd,zA z])) w':=by
 subst h;exact⟨_,rfl,λh=>absurd h hz,λ_=>rfl,hb⟩
theorem Ex.below {a:World} (h:Ex B a w') (h0:Below w.heap.size w a) (hB:w.heap.size<=B):Below w.heap.size w w':=
 ⟨h.os.trans h0.os,h.tape.trans h0.tape,h.output.trans h0.output,Bf h0.size h.size,λk hk=>(h.block k (B7 hk h0.size) (by omega)).trans (h0.block k hk)⟩
theorem Vh {l r:Tm} {a1 a2:Option Addr} {c1 c2:Nat} (h:Ac w B #[.string l.name,.slice a1 l.args.length c1,.string r.name,.slice a2 r.args.length c2] T) (h1:Sl w (λ_=>True) a1 l.args) (h2:Sl w (λ_=>True) a2 r.args):QV w (λ_=>True) (.slice (some (zD B 0)) 1 1) [⟨l,r⟩]:=by
 refine⟨some (zD B 0),1,rfl,by simp,Ad ⟨B,0,rfl,trivial,λi hi=>?_⟩⟩;have e:i=0:=by simp at hi; omega
 subst e;exact⟨a1,c1,a2,c2,h.cell 0,h.cell 1,h.cell 2,h.cell 3,h1,h2⟩

import Derived.Test.YtgbcafaibocebaaGreatDoorW161
import Derived.Test.YtgbcafaibocebaaGreatDoorW12
import Derived.Deep.RegionHeld
import Derived.Deep.RegionHeld3
import Derived.Deep.DeepCutAuto
import Derived.Deep.AppendLies
namespace Go.Proofs.YtgbcafaibocebaaGreatDoor
set_option linter.all false
set_option maxRecDepth 20000
set_option maxHeartbeats 8000000
open Go.RowKit
def DA (P:World->Prop) (w:World):Prop:=∀w',Below w.heap.size w w'->P w'
theorem DA.now {P:World->Prop} {w:World} (h:DA P w):P w:=h w (Af _ _)
theorem DA.later {P:World->Prop} {w w':World} (h:DA P w) (hb:Below w.heap.size w w'):DA P w':=λaa ab=>h aa (hb.trans (ab.mono hb.size))
theorem DA.alloc {P:World->Prop} {w:World} (h:DA P w) (o:Obj):DA P (w.alloc o):=h.later ((Af _ _).alloc (Ai _) o)
def YB (X:Nat->Prop) (n N b:Nat):Prop:=b<N/\(X b∨n<=b)
structure GQ (Y:Nat->Prop) (rs:List Pr) (t:Tm) (ps:List (List Int)) (aa:Option Addr) (ca B3 g7:Nat) (fv:Nat->Value) (u:Value) (W0 wr:World):Prop where
 k1:Ac wr B3 (zF t aa ca) 33
 s1:Sl wr Y aa t.args
 pl:∀i (h:i<ps.length),wr.cell? (zD g7 i)=some (fv i)/\PV wr Y (fv i) ps[i]
 qv:QV wr Y u rs
 bl:Below W0.heap.size W0 wr
theorem Xf {X:Nat->Prop} {n:Nat} {rs:List Pr} {t:Tm} {ps:List (List Int)} {aa:Option Addr} {ca B3 g7:Nat} {fv:Nat->Value} {u:Value} {W0:World} (h:DA (GQ (YB X n W0.heap.size) rs t ps aa ca B3 g7 fv u W0) W0):DA (GQ (λb=>b<W0.heap.size) rs t ps aa ca B3 g7 fv u W0) W0:=λw' hb=>
 ⟨(h w' hb).k1,(h w' hb).s1.mono λb hx _=>hx.1,λi hi=>⟨((h w' hb).pl i hi).1,((h w' hb).pl i hi).2.mono λb hx _=>hx.1⟩,(h w' hb).qv.mono λb hx _=>hx.1,(h w' hb).bl⟩
theorem Qn (x:Tm):∀(p:List Int) (t y:Tm),AV t p=some y->Ab [x]<=Ab [AP x p t]
 | [],t,y,_=>by simp[AP]
 |i::r,t,y,h=>by
  obtain⟨k,hk,rfl,h2⟩:=MI h;have ih:=Qn x r _ y h2;obtain⟨s,l⟩:=t;have e:Ab [AP x ((k:Int)::r) ⟨s,l⟩]=1+Ab (BR (AP x r) (k:Int) 0 l):=by rw[AP]; simp[Ab]
  have h3:=De (BR (AP x r) (k:Int) 0 l) k (by rw[Hg]; exact hk);have h4:=Df (BR (AP x r) (k:Int) 0 l) (k+1);rw[MH _ _ _ _ _ hk,Ar (by simp)]at h3;omega
theorem Xg {Y:Nat->Prop} {rs:List Pr} {t:Tm} {ps:List (List Int)} {aa:Option Addr} {ca B3 g7:Nat} {fv:Nat->Value} {u:Value} {W0:World} (h:GQ Y rs t ps aa ca B3 g7 fv u W0 W0) (a:g7<W0.heap.size):DA (GQ Y rs t ps aa ca B3 g7 fv u W0) W0:=λw' hb=>
 ⟨h.k1.below hb h.k1.lt,h.s1.later hb,λi hi=>⟨(hb.cell (p:=(zD g7 i)) a).trans (h.pl i hi).1,(h.pl i hi).2.later hb⟩,h.qv.later hb,hb⟩
def MX (Y:Nat->Prop) (t x:Tm) (W0:World) (v:Value) (l:List Tm) (o:Value) (wc:World):Prop:=
 ∃(B9:Nat) (a9:Option Addr) (c9:Nat) (xs:List Value),o=zC B9/\Ac wc B9 (zF x a9 c9) 33/\Sl wc Y a9 x.args/\W0.heap.size<=B9/\some B9≠v.ownBlock/\AK wc W0.heap.size 33 Y v l xs/\Below W0.heap.size W0 wc
theorem Xh {Y:Nat->Prop} {t x:Tm} {W0 w w1:World} {v:Value} {l:List Tm} {xs:List Value} {a9:Option Addr} {c9:Nat} (b:AK w W0.heap.size 33 Y v l xs) (a:Below W0.heap.size W0 w) (hb:Below w.heap.size w w1) (hs:Sl w1 Y a9 x.args):
  MX Y t x W0 v l (zC w1.heap.size) (w1.alloc (.cells (zF x a9 c9) 33)):=by
 have hb2:=hb.alloc hb.size (.cells (zF x a9 c9) 33);have h1:=a.size;have h2:=hb.size;refine⟨w1.heap.size,a9,c9,xs,rfl,Ac.new w1 _ _,hs.later ((Af _ _).alloc (Ai _) _),by omega,λe=>?_,b.below hb2,a.trans (hb2.mono a.size)⟩;have:=(b.own.lt _ e.symm).2;omega
theorem Xi {Y:Nat->Prop} {t x:Tm} {W0 w w1:World} (d:∀b,Y b->b<W0.heap.size) {v:Value} {l:List Tm} {xs:List Value} {a9:Option Addr} {c9:Nat} (c:AK w W0.heap.size 33 Y v l xs) (a:Below W0.heap.size W0 w) (hb:Below w.heap.size w w1) (hz:Ac w1 w.heap.size #[.string ⟨#[]⟩,zB] 33) (hs:Sl w1 Y a9 x.args):
  Below w.heap.size w ((w1.setCell (zD w.heap.size 0) (.string x.name)).setCell (zD w.heap.size 1) (.slice a9 x.args.length c9))/\MX Y t x W0 v l (zC w.heap.size) ((w1.setCell (zD w.heap.size 0) (.string x.name)).setCell (zD w.heap.size 1) (.slice a9 x.args.length c9)):=by
 have hb2:Below w.heap.size w ((w1.setCell (zD w.heap.size 0) (.string x.name)).setCell (zD w.heap.size 1) (.slice a9 x.args.length c9)):=(hb.setCell (by simp) _).setCell (by simp) _;have h1:=a.size;refine⟨hb2,w.heap.size,a9,c9,xs,rfl,(hz.set 0 _).set 1 _,hs.kept λb hb=>?_,h1,λe=>?_,c.below hb2,a.trans (hb2.mono a.size)⟩
 ·have hlt:b<W0.heap.size:=d b hb;rw[Aq _ _ _ _ (by simp; omega),Aq _ _ _ _ (by simp; omega)]
 ·have:=(c.own.lt _ e.symm).2;omega
theorem Xj (w:World) (a b:Value) (T:Nat):∀j u,([a,b]:List Value)[j]? = some u->(w.alloc (.cells #[a,b] T)).cell? (((zD w.heap.size 0):Addr).add j)=some u:=λj u h=>by
 have hb:=Ac.new w #[a,b] T;have h1:((zD w.heap.size 0):Addr).add j=(zD w.heap.size j):=by
  by_cases h0:j=0
  ·subst h0; simp[Addr.add]
  ·simp[Addr.add,h0]
 rw[h1,hb.cell j];simpa using h
theorem Xk {w w1:World} {N:Nat} {Y:Nat->Prop} {v:Value} {l:List Tm} {xs:List Value} (h:AK w N 33 Y v l xs) (e:N<=w.heap.size) (f:∀b,Y b->b<N) (hb:Below w.heap.size w w1) (t:Tm) (a:Option Addr) (c:Nat) (ht:Sl w1 (λb=>Y b∨w.heap.size<=b) a t.args) (hn:l.length<=1000000):
  ∃g cap w3,(Builtin.append_ #[31,31] 31 #[v,.slice (some (zD w1.heap.size 0)) 1 1]).run Tryz.prog (w1.alloc (.cells (zF t a c) 33))=.ok (.slice (some (zD g 0)) (l.length+1) cap) w3/\AK w3 N 33 Y (.slice (some (zD g 0)) (l.length+1) cap) (l++[t]) (xs++[.string t.name,.slice a t.args.length c])/\(w1.alloc (.cells (zF t a c) 33)).grownBy w3 v.ownBlock/\(v.ownBlock=some g∨g=(w1.alloc (.cells (zF t a c) 33)).heap.size):=by
 obtain⟨i0,hi,ab,i,j⟩:=CE Tryz.infoTerm;have af:=hb.size;obtain⟨g,cap,w3,k,ho,d,aa,hlt⟩:=run_append_lies (P:=Tryz.prog) (w:=w1.alloc (.cells (zF t a c) 33)) 31 31 N 33 i0 _ 2 40 Tryz.underlying31 hi ab i j rfl (by decide) v l.length xs ((h.below hb).own.alloc _)
  (zD w1.heap.size 0) 1 1 [.string t.name,.slice a t.args.length c] rfl (Xj _ _ _ _) (λy hy=>by simp at hy; rcases hy with rfl|rfl<;>rfl) (by decide) (by unfold maxLen; omega) (by omega) (by simp; omega) _ rfl
 exact⟨g,cap,w3,k,h.push e f hb ⟨a,c,rfl,ht⟩ _ rfl ho d aa,d,aa⟩

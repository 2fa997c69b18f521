import Derived.Test.YtlkeafenklamjaaGreatDoorW161
import Derived.Test.YtlkeafenklamjaaGreatDoorW12
import Derived.Deep.RegionHeld
import Derived.Deep.RegionHeld3
import Derived.Deep.DeepCutAuto
import Derived.Deep.AppendLies
namespace Go.Proofs.YtlkeafenklamjaaGreatDoor
set_option linter.all false
set_option maxRecDepth 20000
set_option maxHeartbeats 8000000
open Go.RowKit
def Dr (P:World->Prop) (w:World):Prop:=∀w',Below w.heap.size w w'->P w'
theorem Dr.now {P:World->Prop} {w:World} (h:Dr P w):P w:=h w (Af _ _)
theorem Dr.later {P:World->Prop} {w w':World} (h:Dr P w) (hb:Below w.heap.size w w'):Dr P w':=λw'' hb'=>h w'' (hb.trans (hb'.mono hb.size))
theorem Dr.alloc {P:World->Prop} {w:World} (h:Dr P w) (o:Obj):Dr P (w.alloc o):=h.later ((Af _ _).alloc (Aj _) o)
def YB (X:Nat->Prop) (n N b:Nat):Prop:=b<N/\(X b∨n<=b)
structure Gs (Y:Nat->Prop) (rs:List Pr) (t:Tm) (ps:List (List Int)) (aa:Option Addr) (ca B3 g7:Nat) (fv:Nat->Value) (u:Value) (W0 wr:World):Prop where
 k1:Ac wr B3 #[.string t.name,.slice aa t.args.length ca] 29
 s1:Sl wr Y aa t.args
 pl:∀i (h:i<ps.length),wr.cell? ⟨g7,i,none⟩=some (fv i)/\PV wr Y (fv i) ps[i]
 qv:QV wr Y u rs
 bl:Below W0.heap.size W0 wr
theorem WE {X:Nat->Prop} {n:Nat} {rs:List Pr} {t:Tm} {ps:List (List Int)} {aa:Option Addr} {ca B3 g7:Nat} {fv:Nat->Value} {u:Value} {W0:World} (h:Dr (Gs (YB X n W0.heap.size) rs t ps aa ca B3 g7 fv u W0) W0):Dr (Gs (λb=>b<W0.heap.size) rs t ps aa ca B3 g7 fv u W0) W0:=λw' hb=>
 ⟨(h w' hb).k1,(h w' hb).s1.mono λb hx _=>hx.1,λi hi=>⟨((h w' hb).pl i hi).1,((h w' hb).pl i hi).2.mono λb hx _=>hx.1⟩,(h w' hb).qv.mono λb hx _=>hx.1,(h w' hb).bl⟩
theorem PI (x:Tm):∀(p:List Int) (t y:Tm),AR t p=some y->Ab [x]<=Ab [AL x p t]
 | [],t,y,_=>by simp[AL]
 |i::r,t,y,h=>by
  obtain⟨k,hk,rfl,h2⟩:=L4 h
  have ih:=PI x r _ y h2
  obtain⟨s,l⟩:=t
  have e:Ab [AL x ((k:Int)::r) ⟨s,l⟩]=1+Ab (BN (AL x r) (k:Int) 0 l):=by rw[AL]; simp[Ab]
  have h3:=C4 (BN (AL x r) (k:Int) 0 l) k (by rw[GR]; exact hk)
  have h4:=C5 (BN (AL x r) (k:Int) 0 l) (k+1)
  rw[L3 _ _ _ _ _ hk,As (by simp)]at h3
  omega
theorem WF {Y:Nat->Prop} {rs:List Pr} {t:Tm} {ps:List (List Int)} {aa:Option Addr} {ca B3 g7:Nat} {fv:Nat->Value} {u:Value} {W0:World} (h:Gs Y rs t ps aa ca B3 g7 fv u W0 W0) (hg:g7<W0.heap.size):Dr (Gs Y rs t ps aa ca B3 g7 fv u W0) W0:=λw' hb=>
 ⟨h.k1.below hb h.k1.lt,h.s1.later hb,λi hi=>⟨(hb.cell (p:=⟨g7,i,none⟩) hg).trans (h.pl i hi).1,(h.pl i hi).2.later hb⟩,h.qv.later hb,hb⟩
def Mr (Y:Nat->Prop) (t x:Tm) (W0:World) (v:Value) (l:List Tm) (o:Value) (wc:World):Prop:=
 ∃(B9:Nat) (a9:Option Addr) (c9:Nat) (xs:List Value),o=.pointer (some ⟨B9,0,none⟩)/\Ac wc B9 #[.string x.name,.slice a9 x.args.length c9] 29/\Sl wc Y a9 x.args/\W0.heap.size<=B9/\some B9≠v.ownBlock/\AN wc W0.heap.size 29 Y v l xs/\Below W0.heap.size W0 wc
theorem WG {Y:Nat->Prop} {t x:Tm} {W0 w w1:World} {v:Value} {l:List Tm} {xs:List Value} {a9:Option Addr} {c9:Nat} (hr:AN w W0.heap.size 29 Y v l xs) (hB:Below W0.heap.size W0 w) (hb:Below w.heap.size w w1) (hs:Sl w1 Y a9 x.args):
  Mr Y t x W0 v l (.pointer (some ⟨w1.heap.size,0,none⟩)) (w1.alloc (.cells #[.string x.name,.slice a9 x.args.length c9] 29)):=by
 have hb2:=hb.alloc hb.size (.cells #[.string x.name,.slice a9 x.args.length c9] 29)
 have h1:=hB.size
 have h2:=hb.size
 refine⟨w1.heap.size,a9,c9,xs,rfl,Ac.new w1 _ _,hs.later ((Af _ _).alloc (Aj _) _),by omega,λe=>?_,hr.below hb2,hB.trans (hb2.mono hB.size)⟩
 have:=(hr.own.lt _ e.symm).2
 omega
theorem WH {Y:Nat->Prop} {t x:Tm} {W0 w w1:World} (hY:∀b,Y b->b<W0.heap.size) {v:Value} {l:List Tm} {xs:List Value} {a9:Option Addr} {c9:Nat} (hr:AN w W0.heap.size 29 Y v l xs) (hB:Below W0.heap.size W0 w) (hb:Below w.heap.size w w1) (hz:Ac w1 w.heap.size #[.string ⟨#[]⟩,.slice none 0 0] 29) (hs:Sl w1 Y a9 x.args):
  Below w.heap.size w ((w1.setCell ⟨w.heap.size,0,none⟩ (.string x.name)).setCell ⟨w.heap.size,1,none⟩ (.slice a9 x.args.length c9))/\Mr Y t x W0 v l (.pointer (some ⟨w.heap.size,0,none⟩)) ((w1.setCell ⟨w.heap.size,0,none⟩ (.string x.name)).setCell ⟨w.heap.size,1,none⟩ (.slice a9 x.args.length c9)):=by
 have hb2:Below w.heap.size w ((w1.setCell ⟨w.heap.size,0,none⟩ (.string x.name)).setCell ⟨w.heap.size,1,none⟩ (.slice a9 x.args.length c9)):=(hb.setCell (by simp) _).setCell (by simp) _
 have h1:=hB.size
 refine⟨hb2,w.heap.size,a9,c9,xs,rfl,(hz.set 0 _).set 1 _,hs.kept λb hb=>?_,h1,λe=>?_,hr.below hb2,hB.trans (hb2.mono hB.size)⟩
 ·have hlt:b<W0.heap.size:=hY b hb
  rw[Aq _ _ _ _ (by simp; omega),Aq _ _ _ _ (by simp; omega)]
 ·have:=(hr.own.lt _ e.symm).2
  omega
theorem WI (w:World) (a b:Value) (T:Nat):∀j u,([a,b]:List Value)[j]? = some u->(w.alloc (.cells #[a,b] T)).cell? ((⟨w.heap.size,0,none⟩:Addr).add j)=some u:=λj u h=>by
 have hb:=Ac.new w #[a,b] T
 have h1:(⟨w.heap.size,0,none⟩:Addr).add j=⟨w.heap.size,j,none⟩:=by
  by_cases h0:j=0
  ·subst h0; simp[Addr.add]
  ·simp[Addr.add,h0]
 rw[h1,hb.cell j]
 simpa using h
theorem WJ {w w1:World} {N:Nat} {Y:Nat->Prop} {v:Value} {l:List Tm} {xs:List Value} (h:AN w N 29 Y v l xs) (hN:N<=w.heap.size) (hY:∀b,Y b->b<N) (hb:Below w.heap.size w w1) (t:Tm) (a:Option Addr) (c:Nat) (ht:Sl w1 (λb=>Y b∨w.heap.size<=b) a t.args) (hn:l.length<=1000000):
  ∃g cap w3,(Builtin.append_ #[27,27] 27 #[v,.slice (some ⟨w1.heap.size,0,none⟩) 1 1]).run Tryz.prog (w1.alloc (.cells #[.string t.name,.slice a t.args.length c] 29))=.ok (.slice (some ⟨g,0,none⟩) (l.length+1) cap) w3/\AN w3 N 29 Y (.slice (some ⟨g,0,none⟩) (l.length+1) cap) (l++[t]) (xs++[.string t.name,.slice a t.args.length c])/\(w1.alloc (.cells #[.string t.name,.slice a t.args.length c] 29)).grownBy w3 v.ownBlock/\(v.ownBlock=some g∨g=(w1.alloc (.cells #[.string t.name,.slice a t.args.length c] 29)).heap.size):=by
 obtain⟨i0,hi,hz0,hz1,hz2⟩:=CT Tryz.infoTerm
 have aa:=hb.size
 obtain⟨g,cap,w3,hr,ho,hg,hat,hlt⟩:=run_append_lies (P:=Tryz.prog) (w:=w1.alloc (.cells #[.string t.name,.slice a t.args.length c] 29)) 27 27 N 29 i0 _ 2 40 Tryz.underlying27 hi hz0 hz1 hz2 rfl (by decide) v l.length xs ((h.below hb).own.alloc _)
  ⟨w1.heap.size,0,none⟩ 1 1 [.string t.name,.slice a t.args.length c] rfl (WI _ _ _ _) (λy hy=>by simp at hy; rcases hy with rfl|rfl<;>rfl) (by decide) (by unfold maxLen; omega) (by omega) (by simp; omega) _ rfl
 exact⟨g,cap,w3,hr,h.push hN hY hb ⟨a,c,rfl,ht⟩ _ rfl ho hg hat,hg,hat⟩
end Go.Proofs.YtlkeafenklamjaaGreatDoor

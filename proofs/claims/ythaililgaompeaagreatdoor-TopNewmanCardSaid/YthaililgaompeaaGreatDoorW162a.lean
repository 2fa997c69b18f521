import Derived.Test.YthaililgaompeaaGreatDoorW161
import Derived.Test.YthaililgaompeaaGreatDoorW12
import Derived.Deep.RegionHeld
import Derived.Deep.RegionHeld3
import Derived.Deep.DeepCutAuto
import Derived.Deep.AppendLies
namespace Go.Proofs.YthaililgaompeaaGreatDoor
set_option linter.all false
set_option maxRecDepth 20000
set_option maxHeartbeats 8000000
open Go.RowKit
variable {P:World->Prop} {w:World}
def IA (P:World->Prop) (w:World):Prop:=∀w',Below w.heap.size w w'->P w'
theorem IA.now (h:IA P w):P w:=h w (Ag _ _)
theorem IA.later {w':World} (h:IA P w) (hb:Below w.heap.size w w'):IA P w':=λaa ab=>h aa (hb.trans (ab.mono hb.size))
theorem IA.alloc (h:IA P w) (o:Obj):IA P (w.alloc o):=h.later ((Ag _ _).alloc (Al _) o)
structure tP (Y:Nat->Prop) (rs:List Pr) (t:Tm) (ps:List (List Int)) (aa:Option Addr) (ca B3 g7:Nat) (fv:Nat->Value) (u:Value) (W0 wr:World):Prop where
 k1:Ac wr B3 (zF t aa ca) 31
 s1:Sl wr Y aa t.args
 pl:∀i (h:i<ps.length),wr.cell? (zD g7 i)=some (fv i)/\PV wr Y (fv i) ps[i]
 qv:QV wr Y u rs
 bl:Below W0.heap.size W0 wr
theorem St (w:World) (a b:Value) (T:Nat):∀j u,([a,b]:List Value)[j]? = some u->(w.alloc (zh #[a,b] T)).cell? (((zD w.heap.size 0):Addr).add j)=some u:=λj u h=>by
 have hb:=Ac.new w #[a,b] T;have h1:((zD w.heap.size 0):Addr).add j=(zD w.heap.size j):=by
  by_cases h0:j=0
  ·subst h0; simp[Addr.add]
  ·simp[Addr.add,h0]
 rw[h1,hb.cell j];simpa using h
theorem ZH {w1:World} {N:Nat} {Y:Nat->Prop} {v:Value} {l:List Tm} {xs:List Value} (h:A1 w N 31 Y v l xs) (e:N<=w.heap.size) (f:∀b,Y b->b<N) (hb:Below w.heap.size w w1) (t:Tm) (a:Option Addr) (c:Nat) (ht:Sl w1 (λb=>Y b∨w.heap.size<=b) a t.args) (hn:l.length<=1000000):
  ∃g cap w3,(Builtin.append_ #[29,29] 29 #[v,.slice (some (zD w1.heap.size 0)) 1 1]).run Tryz.prog (w1.alloc (ze t a c))=.ok (.slice (some (zD g 0)) (l.length+1) cap) w3/\A1 w3 N 31 Y (.slice (some (zD g 0)) (l.length+1) cap) (l++[t]) (xs++[.string t.name,.slice a t.args.length c])/\(w1.alloc (ze t a c)).grownBy w3 v.ownBlock/\(v.ownBlock=some g∨g=(w1.alloc (ze t a c)).heap.size):=by
 obtain⟨i0,hi,ab,i,j⟩:=DO Tryz.infoTerm;have af:=hb.size;obtain⟨g,cap,w3,k,ho,d,aa,hlt⟩:=run_append_lies (P:=Tryz.prog) (w:=w1.alloc (ze t a c)) 29 29 N 31 i0 _ 2 40 Tryz.underlying29 hi ab i j rfl (by decide) v l.length xs ((h.below hb).own.alloc _)
  (zD w1.heap.size 0) 1 1 [.string t.name,.slice a t.args.length c] rfl (St _ _ _ _) (λy hy=>by simp at hy; rcases hy with rfl|rfl<;>rfl) (by decide) (by unfold maxLen; omega) (by omega) (by simp; omega) _ rfl
 exact⟨g,cap,w3,k,h.push e f hb ⟨a,c,rfl,ht⟩ _ rfl ho d aa,d,aa⟩

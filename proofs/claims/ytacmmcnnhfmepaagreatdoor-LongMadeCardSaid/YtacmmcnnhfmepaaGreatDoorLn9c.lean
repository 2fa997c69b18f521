import Derived.Test.YtacmmcnnhfmepaaGreatDoorL9
import Derived.Test.YtacmmcnnhfmepaaGreatDoorLn8
namespace Go.Proofs.YtacmmcnnhfmepaaGreatDoor
set_option linter.all false
set_option maxRecDepth 9999
set_option maxHeartbeats 0
open Go.RowKit
variable {W w:World} {A T:Nat}
def MT (inn:Bool) (m:Nat) (t:Lm) (X:Nat->Prop) (w:World) (e:Ending) (w':World):Prop:=
 Below w.heap.size w w'/\(((Bm inn m t).1=0/\∃a c,e=.returned (.tuple #[.agg #[zA (Bm inn m t).2.1.kind,zA (Bm inn m t).2.1.idx,.slice a (Bm inn m t).2.1.subs.length c],zA ((Bm inn m t).2.2:Int),zA 0])/\Ap w' (λb=>(X b/\b<w.heap.size)∨w.heap.size<=b) a (Bm inn m t).2.1.subs)∨
  ((Bm inn m t).1≠0/\e=.returned (.tuple #[.agg zJ,zA 0,zA (Bm inn m t).1])))
def Fb (w:World) (X:Nat->Prop) (b:Nat):Prop:=(X b/\b<w.heap.size)∨w.heap.size+2<=b
def JU (inn:Bool) (u:Int) (w:World) (X:Nat->Prop) (m:Nat) (t0:Lm) (i:Value) (wr:World):Prop:=
 ∃(d:Nat) (t:Lm) (a:Option Addr) (c:Nat),i=zA d/\EQ inn u m t0 d t/\Below w.heap.size w wr/\w.heap.size+2<=wr.heap.size/\Ab wr w.heap.size (zE t a c) 24/\Ab wr (w.heap.size+1) zJ 24/\Ap wr (Fb w X) a t.subs
theorem MU {X:Nat->Prop} {a:Option Addr} {l:List Lm} (h:Ap W (Fb w X) a l) (j:Nat) (hj:j=w.heap.size∨j=w.heap.size+1) (u u' d:Value):Ap (((W.setCell (zD j 0) u).setCell (zD j 1) u').setCell (zD j 2) d) (Fb w X) a l:=by
 refine h.kept λb hb=>?_;have c:b≠j:=by rcases hb with hb|hb<;>omega
 rw[Ak _ _ _ _ (by simpa using c),Ak _ _ _ _ (by simpa using c),Ak _ _ _ _ (by simpa using c)]
theorem DO (h:Below w.heap.size w W) (j:Nat) (a:w.heap.size<=j) (u u' b:Value):Below w.heap.size w (((W.setCell (zD j 0) u).setCell (zD j 1) u').setCell (zD j 2) b):=
 ((h.setCell (p:=(zD j 0)) (by simpa using a) _).setCell (p:=(zD j 1)) (by simpa using a) _).setCell (p:=(zD j 2)) (by simpa using a) _
theorem Us {b c d:Value} (h:Ab W A #[b,c,d] T) (u u' a:Value):Ab (((W.setCell (zD A 0) u).setCell (zD A 1) u').setCell (zD A 2) a) A #[u,u',a] T:=by
 have:=((h.set 0 u).set 1 u').set 2 a;simpa using this
theorem Ut {B:Nat} {cs:Array Value} (h:Ab W A cs T) (a:A≠B) (u u' b:Value):Ab (((W.setCell (zD B 0) u).setCell (zD B 1) u').setCell (zD B 2) b) A cs T:=((h.setOther 0 u a).setOther 1 u' a).setOther 2 b a

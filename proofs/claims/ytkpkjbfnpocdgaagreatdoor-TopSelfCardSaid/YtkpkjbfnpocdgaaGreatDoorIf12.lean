import Derived.Test.YtkpkjbfnpocdgaaGreatDoorZBTopSelfOwn
import Derived.Test.YtkpkjbfnpocdgaaGreatDoorW114
namespace Go.Proofs.YtkpkjbfnpocdgaaGreatDoor
open Go.RowKit
set_option linter.unusedSimpArgs false
set_option linter.unusedVariables false
set_option maxRecDepth 8000
def noY : Ty := ⟨0, []⟩
def outY (R : Int × List Bd) (x : Tm) : Int × Ty :=
 if R.1 = 6 then (11, noY) else if R.1 ≠ 0 then (R.1, noY) else if 2000 < sizeL [onT R.2 x] then (8, noY) else (0, ayT (varsP [] (preL [onT R.2 x])) (onT R.2 x))
theorem AsK.qv {E : Nat → Prop} {w : World} {N P T n : Nat} {q : Value} {cs : List Pc} (h : AsK E w N P T n q cs) : QV w (fun _ => True) q (cs.map (·.1)) := by
 have k : QRow w N (fun _ => False) q cs := ⟨h.own, fun x hx => ⟨(h.row x hx).1.mono fun b hb _ => Or.inr ⟨hb.1, hb.2.2.1⟩, (h.row x hx).2.mono fun b hb _ => Or.inr ⟨hb.1, hb.2.2.1⟩⟩⟩
 exact k.qv.mono fun _ _ _ => trivial
def PrP (O : Int × Ty) (w : World) (e : Ending) (w' : World) : Prop :=
 ∃ a c, e = .returned (.tuple #[.agg #[.int .i64 O.2.base, .slice a O.2.subs.length c], .int .i64 O.1]) ∧ SlY w' (fun b => w.heap.size ≤ b) a O.2.subs ∧ Below w.heap.size w w'
theorem askStart (w : World) (N T : Nat) (hN : N ≤ w.heap.size) : AsK (fun _ => False) (w.alloc (.cells #[.slice none 0 0, .int .i64 0] T)) N w.heap.size T 0 (.slice none 0 0) [] :=
 ⟨Blk.new _ _ _, World.ownsRow_nil _ N _ 4, fun x hx => by simp at hx, by simp [Value.ownBlock], Nat.le_trans hN (by simp), hN⟩
end Go.Proofs.YtkpkjbfnpocdgaaGreatDoor

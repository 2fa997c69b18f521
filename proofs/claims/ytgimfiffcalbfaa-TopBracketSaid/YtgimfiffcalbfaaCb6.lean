
/- Walks: where steps end, as the document says. -/
import Derived.Test.YtgimfiffcalbfaaCb5
namespace Go.Proofs.Ytgimfiffcalbfaa
open Go.RowKit
set_option linter.unusedSimpArgs false
set_option linter.unusedVariables false
set_option maxRecDepth 8000

/-- What it comes to at last. -/
def EnPost (w : World) (X : Nat → Prop) (m : Nat) (t : Tm) (e : Ending) (w' : World) : Prop :=
  Below w.heap.size w w' ∧ (((endC m t).1 = 0 ∧ ∃ v, e = .returned (.tuple #[v, .int .i64 ((endC m t).2.2 : Int), .int .i64 0]) ∧ TV w' (fun b => (X b ∧ b < w.heap.size) ∨ w.heap.size ≤ b) v (endC m t).2.1) ∨
    ((endC m t).1 ≠ 0 ∧ e = .returned (.tuple #[.agg #[.string ⟨#[]⟩, .slice none 0 0], .int .i64 0, .int .i64 (endC m t).1])))
def EnY (w : World) (X : Nat → Prop) (b : Nat) : Prop := (X b ∧ b < w.heap.size) ∨ w.heap.size + 2 ≤ b
def EnI (w : World) (X : Nat → Prop) (m : Nat) (t0 : Tm) (i : Value) (wr : World) : Prop :=
  ∃ (d : Nat) (t : Tm) (a : Option Addr) (c : Nat), i = .int .i64 (d : Int) ∧ OnWay m t0 d t ∧ Below w.heap.size w wr ∧ w.heap.size + 2 ≤ wr.heap.size ∧ Blk wr w.heap.size #[.string t.name, .slice a t.args.length c] 25 ∧ Blk wr (w.heap.size + 1) #[.string ⟨#[]⟩, .slice none 0 0] 25 ∧ Sl wr (EnY w X) a t.args

end Go.Proofs.Ytgimfiffcalbfaa

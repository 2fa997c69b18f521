
/- Walks: outermost working out. -/
import Derived.Test.YtccbocefgoccdaaW181
import Derived.Test.YtccbocefgoccdaaW185
import Derived.Test.YtccbocefgoccdaaEn3
import Derived.Deep.RegionHeld3
namespace Go.Proofs.Ytccbocefgoccdaa
open Go.RowKit Go.Shelf
set_option linter.unusedSimpArgs false
set_option linter.unusedVariables false
set_option maxRecDepth 8000

/-- So many steps are done. -/
def OtInv (rs : List Pr) (m : Nat) (t : Tm) (w : World) (fv i : Value) (wr : World) : Prop :=
  ∃ (j : Nat) (tc : Tm) (a : Option Addr) (c : Nat) (fs : List Int), j ≤ m ∧ i = .int .i64 (j : Int) ∧ endP rs false m t = shiftN j (endP rs false (m - j) tc) ∧ sizeL [tc] ≤ 2000 ∧ (atT tc fs).isSome = true ∧ leftOk rs fs tc ∧ Blk wr w.heap.size #[.string tc.name, .slice a tc.args.length c] 27 ∧ Sl wr (fun b => b ≠ w.heap.size ∧ b ≠ w.heap.size + 1) a tc.args ∧ PV wr (fun b => b ≠ w.heap.size ∧ b ≠ w.heap.size + 1) fv fs ∧ Blk wr (w.heap.size + 1) #[.string ⟨#[]⟩, .slice none 0 0] 27 ∧ Below w.heap.size w wr ∧ w.heap.size + 2 ≤ wr.heap.size

end Go.Proofs.Ytccbocefgoccdaa


/- Walks: whether bindings may be. -/
import Derived.Test.YtcjdbbdmighliacZRewriteEndsOwn
namespace Go.Proofs.Ytcjdbbdmighliac
open Go.RowKit
set_option linter.unusedSimpArgs false
set_option linter.unusedVariables false
set_option maxRecDepth 8000

def ScInv (ls : List Bd) (w : World) (v : Value) (wr : World) : Prop := ∃ k : Nat, v = .int .i64 (k : Int) ∧ k ≤ ls.length ∧ bmT ls k = 0 ∧ Below w.heap.size w wr

end Go.Proofs.Ytcjdbbdmighliac


/- Walks: bindings that are the same; two answers that are bindings. -/
import Derived.Test.YteojdfmdhgnmfaaGreatZTopEmbedOwn
import Derived.Test.YteojdfmdhgnmfaaGreatZBTopEmbedOwn
import Derived.Test.YteojdfmdhgnmfaaGreatW54
namespace Go.Proofs.YteojdfmdhgnmfaaGreat
open Go.RowKit
set_option linter.unusedSimpArgs false
set_option linter.unusedVariables false
set_option maxRecDepth 8000

def SmbInv (ls : List Bd) (w : World) (v : Value) (wr : World) : Prop := ∃ k : Nat, v = .int .i64 (k : Int) ∧ k ≤ ls.length ∧ Below w.heap.size w wr

end Go.Proofs.YteojdfmdhgnmfaaGreat


/- Walks: what stands for a pattern's variables, in a map. -/
import Derived.Test.YtakmclheffbeaaaDoorShp
import Derived.Test.YtakmclheffbeaaaDoorW91
import Derived.Test.YtakmclheffbeaaaDoorZGeneralSaysOwn
import Derived.Test.YtakmclheffbeaaaDoorW56
namespace Go.Proofs.YtakmclheffbeaaaDoor
open Go.RowKit
set_option linter.unusedSimpArgs false
set_option linter.unusedVariables false
set_option maxRecDepth 8000

/-- The map at q holds these bindings, whose terms lie in memory that Y lets. -/
def FtM (w : World) (q : Nat) (Y : Nat → Prop) (Z : List Bc) : Prop := MapAt w q (Z.map toP) ∧ ∀ x ∈ Z, Sl w Y x.2.1 x.1.t.args
theorem FtM.kept {w w' : World} {q : Nat} {Y : Nat → Prop} {Z : List Bc} (h : FtM w q Y Z) (hY : ∀ b, Y b → b < w.heap.size) (hk : ∀ b, b < w.heap.size → w'.heap[b]? = w.heap[b]?) : FtM w' q Y Z :=
  ⟨h.1.kept (hk q h.1.lt), fun x hx => (h.2 x hx).kept fun b hb => hk b (hY b hb)⟩
theorem FtM.below {w w' : World} {q : Nat} {Y : Nat → Prop} {Z : List Bc} (h : FtM w q Y Z) (hY : ∀ b, Y b → b < w.heap.size) (hb : Below w.heap.size w w') : FtM w' q Y Z := h.kept hY fun b hb' => hb.block b hb'
end Go.Proofs.YtakmclheffbeaaaDoor

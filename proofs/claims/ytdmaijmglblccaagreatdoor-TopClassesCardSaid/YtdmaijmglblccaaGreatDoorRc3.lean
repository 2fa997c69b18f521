/- Walks: texts in their order, each once (SortedTexts). -/
import Derived.Test.YtdmaijmglblccaaGreatDoorRc2
import Derived.Laws.CopyOwn
import Derived.Deep.RegionHeld3
namespace Go.Proofs.YtdmaijmglblccaaGreatDoor
open Go.RowKit
set_option linter.unusedSimpArgs false
set_option linter.unusedVariables false
set_option maxRecDepth 8000

/-- The texts so far. -/
structure SrI (l : List ByteArray) (wN : World) (i : Nat) (out : List ByteArray) (ov : Value) (wr : World) : Prop where
  own : wr.ownsRow wN.heap.size 9 1 ov out.length (out.map Value.string)
  asc : AscB out
  mem : ∀ s, s ∈ out ↔ s ∈ l.take i
  len : out.length ≤ i
  bl : Below wN.heap.size wN wr
end Go.Proofs.YtdmaijmglblccaaGreatDoor

import Derived.Test.YthnncjgjmohinaaGreatDoorZInferMadeOwn
import Derived.Deep.RegionHeld3
namespace Go.Proofs.YthnncjgjmohinaaGreatDoor
open Go.RowKit
set_option linter.unusedSimpArgs false
set_option linter.unusedVariables false
set_option maxRecDepth 8000
theorem below2M {w : World} (o o' : Obj) : Below w.heap.size w ((w.alloc o).alloc o') := ((Below.refl _ _).alloc (Nat.le_refl _) o).alloc (by simp) o'
end Go.Proofs.YthnncjgjmohinaaGreatDoor

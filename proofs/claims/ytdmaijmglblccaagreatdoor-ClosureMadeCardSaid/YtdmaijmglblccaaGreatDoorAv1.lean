
/- Walks: where terms of one symbol may end, by sets of states (auto.mayGo, auto.end). -/
import Derived.Test.YtdmaijmglblccaaGreatDoorAu13
import Derived.Test.YtdmaijmglblccaaGreatDoorAu3
import Derived.Test.YtdmaijmglblccaaGreatDoorZClosureMadeOwn
namespace Go.Proofs.YtdmaijmglblccaaGreatDoor
open Go.RowKit
set_option linter.unusedSimpArgs false
set_option linter.unusedVariables false
set_option maxRecDepth 8000

/-- Those of one symbol. -/
def grp (ms : List Mv) (s : ByteArray × Nat) : List Mv := ms.filter fun m => decide (m.name = s.1) && decide (m.frm.length = s.2)
end Go.Proofs.YtdmaijmglblccaaGreatDoor

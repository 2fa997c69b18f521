
/- Walks: may an automaton be, as the document says? -/
import Derived.Test.YtdmaijmglblccaaGreatDoorAu5
import Derived.BigQuiet
namespace Go.Proofs.YtdmaijmglblccaaGreatDoor
open Go.RowKit
set_option linter.unusedSimpArgs false
set_option linter.unusedVariables false
set_option maxRecDepth 8000

end Go.Proofs.YtdmaijmglblccaaGreatDoor

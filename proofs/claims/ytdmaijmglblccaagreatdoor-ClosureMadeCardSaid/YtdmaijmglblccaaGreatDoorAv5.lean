
/- Walks: where a term may end, by the table (auto.table.endOf). -/
import Derived.Test.YtdmaijmglblccaaGreatDoorAv4
import Derived.Test.YtdmaijmglblccaaGreatDoorAu14
namespace Go.Proofs.YtdmaijmglblccaaGreatDoor
open Go.RowKit
open Go.WideMaps
set_option linter.unusedSimpArgs false
set_option linter.unusedVariables false
set_option maxRecDepth 8000

end Go.Proofs.YtdmaijmglblccaaGreatDoor

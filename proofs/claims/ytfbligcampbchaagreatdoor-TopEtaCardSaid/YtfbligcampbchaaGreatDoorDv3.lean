
/- Walks: the code's develop, to its end. -/
import Derived.Test.YtfbligcampbchaaGreatDoorDv2
import Derived.Test.YtfbligcampbchaaGreatDoorZTopEtaOwn
namespace Go.Proofs.YtfbligcampbchaaGreatDoor
open Go.RowKit Go.Shelf
set_option linter.unusedSimpArgs false
set_option linter.unusedVariables false
set_option maxRecDepth 8000

end Go.Proofs.YtfbligcampbchaaGreatDoor

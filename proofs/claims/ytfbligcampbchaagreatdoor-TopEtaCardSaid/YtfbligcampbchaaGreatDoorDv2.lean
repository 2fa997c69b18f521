
/- Walks: the code's develop. -/
import Derived.Test.YtfbligcampbchaaGreatDoorDv1
import Derived.Test.YtfbligcampbchaaGreatDoorLn9c
import Derived.Test.YtfbligcampbchaaGreatDoorLn4
namespace Go.Proofs.YtfbligcampbchaaGreatDoor
open Go.RowKit Go.Shelf
set_option linter.unusedSimpArgs false
set_option linter.unusedVariables false
set_option maxRecDepth 8000

end Go.Proofs.YtfbligcampbchaaGreatDoor

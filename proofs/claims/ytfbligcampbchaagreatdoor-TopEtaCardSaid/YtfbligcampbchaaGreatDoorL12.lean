
/- Walks: lambda.Put. -/
import Derived.Test.YtfbligcampbchaaGreatDoorL10
import Derived.Test.YtfbligcampbchaaGreatDoorL11
namespace Go.Proofs.YtfbligcampbchaaGreatDoor
open Go.RowKit
set_option linter.unusedSimpArgs false
set_option linter.unusedVariables false
set_option maxRecDepth 8000

end Go.Proofs.YtfbligcampbchaaGreatDoor


/- Walks: whether two lambda terms are the same; whether one is a number. -/
import Derived.Test.YtmapeiecapiliaaL11
import Derived.Test.YtmapeiecapiliaaLn1
namespace Go.Proofs.Ytmapeiecapiliaa
open Go.RowKit
set_option linter.unusedSimpArgs false
set_option linter.unusedVariables false
set_option maxRecDepth 8000

end Go.Proofs.Ytmapeiecapiliaa


/- Walks: the document's steps, to the end. -/
import Derived.Test.YtmapeiecapiliaaLn9c
namespace Go.Proofs.Ytmapeiecapiliaa
open Go.RowKit
set_option linter.unusedSimpArgs false
set_option linter.unusedVariables false
set_option maxRecDepth 8000

end Go.Proofs.Ytmapeiecapiliaa

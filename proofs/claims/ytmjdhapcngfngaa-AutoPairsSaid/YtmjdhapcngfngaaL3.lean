
/- Walks: may a lambda term be, as the document says. -/
import Derived.Test.YtmjdhapcngfngaaL2
namespace Go.Proofs.Ytmjdhapcngfngaa
open Go.RowKit
set_option linter.unusedSimpArgs false
set_option linter.unusedVariables false
set_option maxRecDepth 8000

end Go.Proofs.Ytmjdhapcngfngaa

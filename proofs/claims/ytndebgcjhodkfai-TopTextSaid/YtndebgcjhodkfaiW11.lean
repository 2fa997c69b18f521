
/- Walks: two answers that are terms. -/
import Derived.Test.YtndebgcjhodkfaiW10
namespace Go.Proofs.Ytndebgcjhodkfai
open Go.RowKit
set_option linter.unusedSimpArgs false
set_option linter.unusedVariables false

end Go.Proofs.Ytndebgcjhodkfai

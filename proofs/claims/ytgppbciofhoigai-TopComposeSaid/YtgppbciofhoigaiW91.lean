
/- Walks: whether two terms are the same, as the program asks. -/
import Derived.Test.YtgppbciofhoigaiW90
namespace Go.Proofs.Ytgppbciofhoigai
open Go.RowKit
set_option linter.unusedSimpArgs false
set_option linter.unusedVariables false
set_option maxRecDepth 8000

end Go.Proofs.Ytgppbciofhoigai

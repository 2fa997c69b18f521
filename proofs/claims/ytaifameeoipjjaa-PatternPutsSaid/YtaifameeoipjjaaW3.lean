
/- Walks: which texts are names, and which of them are variables'. -/
import Derived.Test.YtaifameeoipjjaaW2
namespace Go.Proofs.Ytaifameeoipjjaa
open Go.RowKit
set_option linter.unusedSimpArgs false
set_option linter.unusedVariables false

end Go.Proofs.Ytaifameeoipjjaa

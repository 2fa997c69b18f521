
/- Walks: counting knots with a bound; what is wrong with a term. -/
import Derived.Test.YtaifameeoipjjaaZPatternPutsOwn
import Derived.Test.YtaifameeoipjjaaW3
namespace Go.Proofs.Ytaifameeoipjjaa
open Go.RowKit
set_option linter.unusedSimpArgs false
set_option linter.unusedVariables false

end Go.Proofs.Ytaifameeoipjjaa

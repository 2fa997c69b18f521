
/- Walks: all knots of a term. -/
import Derived.Test.YtaifameeoipjjaaW4
import Derived.Test.YtaifameeoipjjaaZPatternPutsOwn
namespace Go.Proofs.Ytaifameeoipjjaa
open Go.RowKit
set_option linter.unusedSimpArgs false
set_option linter.unusedVariables false

end Go.Proofs.Ytaifameeoipjjaa


/- Walks: letters, digits, names. -/
import Derived.Test.YtaifameeoipjjaaRows
import Derived.Test.YtaifameeoipjjaaZPatternPutsOwn
namespace Go.Proofs.Ytaifameeoipjjaa
open Go.RowKit
set_option linter.unusedSimpArgs false
set_option linter.unusedVariables false

end Go.Proofs.Ytaifameeoipjjaa

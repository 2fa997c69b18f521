
/- Walks: lists that are the same; whether a text is in a list. -/
import Derived.Test.YtaifameeoipjjaaRows
import Derived.Test.YtaifameeoipjjaaL
import Derived.Test.YtaifameeoipjjaaW2
import Derived.BigQuiet
namespace Go.Proofs.Ytaifameeoipjjaa
open Go.RowKit
set_option linter.unusedSimpArgs false
set_option linter.unusedVariables false

end Go.Proofs.Ytaifameeoipjjaa


/- Walks: how many knots a lambda term has. -/
import Derived.Test.YtmjdhapcngfngaaRows
import Derived.Test.YtmjdhapcngfngaaLm
import Derived.Test.YtmjdhapcngfngaaW1
namespace Go.Proofs.Ytmjdhapcngfngaa
open Go.RowKit
set_option linter.unusedSimpArgs false
set_option linter.unusedVariables false

end Go.Proofs.Ytmjdhapcngfngaa


/- Walks: two answers that are terms. -/
import Derived.Test.YtkfppicbningaaaZBTopRobinsonOwn
namespace Go.Proofs.Ytkfppicbningaaa
open Go.RowKit
set_option linter.unusedSimpArgs false
set_option linter.unusedVariables false

end Go.Proofs.Ytkfppicbningaaa

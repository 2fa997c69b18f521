
/- Walks: two answers that are terms. -/
import Derived.Test.YtmgggmlgmpfedaaZTopPathOwn
namespace Go.Proofs.Ytmgggmlgmpfedaa
open Go.RowKit
set_option linter.unusedSimpArgs false
set_option linter.unusedVariables false

end Go.Proofs.Ytmgggmlgmpfedaa


/- Walks: a term with another one at a place, as the document says. -/
import Derived.Test.YtdencaekailmcaaW9
import Derived.Test.YtdencaekailmcaaPutM
import Derived.Test.YtdencaekailmcaaSlq
namespace Go.Proofs.Ytdencaekailmcaa
open Go.RowKit
set_option linter.unusedSimpArgs false
set_option linter.unusedVariables false
set_option maxRecDepth 8000

end Go.Proofs.Ytdencaekailmcaa

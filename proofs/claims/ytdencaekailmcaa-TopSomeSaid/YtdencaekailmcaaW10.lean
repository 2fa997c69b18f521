/- Walks: two terms that are the same. -/
import Derived.Test.YtdencaekailmcaaW8
import Derived.Deep.RegionHeld3
namespace Go.Proofs.Ytdencaekailmcaa
open Go.RowKit
set_option linter.unusedSimpArgs false
set_option linter.unusedVariables false

end Go.Proofs.Ytdencaekailmcaa

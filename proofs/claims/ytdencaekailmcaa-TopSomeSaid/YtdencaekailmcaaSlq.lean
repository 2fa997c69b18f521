/- A slice without its first. -/
import Derived.Test.YtdencaekailmcaaW8
namespace Go.Proofs.Ytdencaekailmcaa
open Go.RowKit
set_option linter.unusedSimpArgs false
set_option linter.unusedVariables false

end Go.Proofs.Ytdencaekailmcaa

/- Terms that are told by numbers: plain. -/
import Derived.Test.YtdencaekailmcaaOr3
namespace Go.Proofs.Ytdencaekailmcaa
open Go.RowKit
set_option linter.unusedSimpArgs false
set_option linter.unusedVariables false

end Go.Proofs.Ytdencaekailmcaa

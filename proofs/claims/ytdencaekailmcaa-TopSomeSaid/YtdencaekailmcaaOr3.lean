/- Where those below a knot stand among all knots: plain. -/
import Derived.Test.YtdencaekailmcaaOr2
namespace Go.Proofs.Ytdencaekailmcaa
open Go.RowKit
set_option linter.unusedSimpArgs false
set_option linter.unusedVariables false

end Go.Proofs.Ytdencaekailmcaa

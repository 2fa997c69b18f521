/- Which term is above another one by weights: plain. -/
import Derived.Test.YtdencaekailmcaaOr1
namespace Go.Proofs.Ytdencaekailmcaa
open Go.RowKit
set_option linter.unusedSimpArgs false
set_option linter.unusedVariables false

end Go.Proofs.Ytdencaekailmcaa

/- Which term is above another one, by paths and by weights: plain. -/
import Derived.Test.YtdencaekailmcaaW90
import Derived.Test.YtdencaekailmcaaSrt
namespace Go.Proofs.Ytdencaekailmcaa
open Go.RowKit
set_option linter.unusedSimpArgs false
set_option linter.unusedVariables false

end Go.Proofs.Ytdencaekailmcaa


/- Walks: two answers that are terms. -/
import Derived.Test.YtpjdkdebjkpmmaiW10
namespace Go.Proofs.Ytpjdkdebjkpmmai
open Go.RowKit
set_option linter.unusedSimpArgs false
set_option linter.unusedVariables false

end Go.Proofs.Ytpjdkdebjkpmmai

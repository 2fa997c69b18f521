
/- Walks: what the document says of a term. -/
import Derived.Test.YtaifameeoipjjaaW5
namespace Go.Proofs.Ytaifameeoipjjaa
open Go.RowKit
set_option linter.unusedSimpArgs false
set_option linter.unusedVariables false

end Go.Proofs.Ytaifameeoipjjaa

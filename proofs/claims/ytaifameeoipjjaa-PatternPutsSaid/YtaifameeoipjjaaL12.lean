
/- Walks: lambda.Put. -/
import Derived.Test.YtaifameeoipjjaaL10
import Derived.Test.YtaifameeoipjjaaL11
namespace Go.Proofs.Ytaifameeoipjjaa
open Go.RowKit
set_option linter.unusedSimpArgs false
set_option linter.unusedVariables false
set_option maxRecDepth 8000

end Go.Proofs.Ytaifameeoipjjaa

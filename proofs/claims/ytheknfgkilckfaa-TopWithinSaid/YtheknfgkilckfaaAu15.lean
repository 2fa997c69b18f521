
/- Walks: is a term accepted? -/
import Derived.Test.YtheknfgkilckfaaAu14
namespace Go.Proofs.Ytheknfgkilckfaa
open Go.RowKit
set_option linter.unusedSimpArgs false
set_option linter.unusedVariables false
set_option maxRecDepth 8000

end Go.Proofs.Ytheknfgkilckfaa

/- What matching an instance finds: plain. -/
import Derived.Test.YtakmclheffbeaaaDoorPu0
import Derived.Test.YtakmclheffbeaaaDoorW98
import Derived.Test.YtakmclheffbeaaaDoorW84
import Derived.Test.YtakmclheffbeaaaDoorZGeneralMadeOwn
namespace Go.Proofs.YtakmclheffbeaaaDoor
open Go.RowKit
set_option linter.unusedSimpArgs false
set_option linter.unusedVariables false

end Go.Proofs.YtakmclheffbeaaaDoor

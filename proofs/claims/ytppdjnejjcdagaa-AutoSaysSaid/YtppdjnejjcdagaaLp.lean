
/- What a round that appends a lambda term does. -/
import Derived.Test.YtppdjnejjcdagaaRm
import Derived.Test.YtppdjnejjcdagaaL3
import Derived.Test.YtppdjnejjcdagaaZAutoSaysOwn
import Derived.Deep.RegionHeld
import Derived.Deep.RegionHeld3
import Derived.Deep.DeepCutAuto
namespace Go.Proofs.Ytppdjnejjcdagaa
open Go.RowKit
set_option linter.unusedSimpArgs false
set_option linter.unusedVariables false
set_option maxRecDepth 8000

end Go.Proofs.Ytppdjnejjcdagaa

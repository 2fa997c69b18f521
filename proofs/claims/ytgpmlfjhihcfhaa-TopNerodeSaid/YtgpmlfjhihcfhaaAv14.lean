
/- Plain: the first of some is told by which they are; the law AutoSays. -/
import Derived.Test.YtgpmlfjhihcfhaaZDTopNerodeOwn
import Derived.Test.YtgpmlfjhihcfhaaZHTopNerodeOwn
import Derived.Test.YtgpmlfjhihcfhaaZBTopNerodeOwn
import Derived.Test.YtgpmlfjhihcfhaaZETopNerodeOwn
namespace Go.Proofs.Ytgpmlfjhihcfhaa
open Go.RowKit
set_option linter.unusedSimpArgs false
set_option linter.unusedVariables false
set_option maxRecDepth 8000

end Go.Proofs.Ytgpmlfjhihcfhaa

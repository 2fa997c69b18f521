/- Plain: what is told to be accepted is accepted, and no accepted term is smaller; least terms are small. -/
import Derived.Test.YtgpmlfjhihcfhaaAv14
namespace Go.Proofs.Ytgpmlfjhihcfhaa
open Go.RowKit
set_option linter.unusedSimpArgs false
set_option linter.unusedVariables false
set_option maxRecDepth 8000

end Go.Proofs.Ytgpmlfjhihcfhaa

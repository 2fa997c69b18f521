/- Plain: the variable no longer stands in a bracket; how great a bracket may be; both runs end alike (towards TopBracket). -/
import Derived.Test.YtnccaligfnmfgaaDoorZCombFromOwn
import Derived.Test.YtnccaligfnmfgaaDoorOr2
namespace Go.Proofs.YtnccaligfnmfgaaDoor
set_option linter.unusedSimpArgs false
set_option linter.unusedVariables false

end Go.Proofs.YtnccaligfnmfgaaDoor

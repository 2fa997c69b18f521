
/- Walks: writing into a Builder that is part of a writer, with all else as it was. -/
import Derived.Test.YtnccaligfnmfgaaDoorW20
import Derived.Test.YtnccaligfnmfgaaDoorShelf
import Derived.Test.YtnccaligfnmfgaaDoorLt3
namespace Go.Proofs.YtnccaligfnmfgaaDoor
open Go.RowKit
set_option linter.unusedSimpArgs false
set_option linter.unusedVariables false

end Go.Proofs.YtnccaligfnmfgaaDoor

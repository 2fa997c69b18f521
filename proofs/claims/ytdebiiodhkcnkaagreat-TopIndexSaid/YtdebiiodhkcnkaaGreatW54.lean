import Derived.Test.YtdebiiodhkcnkaaGreatZTopIndexOwn
namespace Go.Proofs.YtdebiiodhkcnkaaGreat
open Go.RowKit
set_option linter.unusedSimpArgs false
set_option linter.unusedVariables false
set_option maxRecDepth 8000
end Go.Proofs.YtdebiiodhkcnkaaGreat

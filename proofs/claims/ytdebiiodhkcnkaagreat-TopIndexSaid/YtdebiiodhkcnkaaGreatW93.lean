import Derived.Test.YtdebiiodhkcnkaaGreatW92
namespace Go.Proofs.YtdebiiodhkcnkaaGreat
open Go.RowKit
set_option linter.unusedSimpArgs false
set_option linter.unusedVariables false
set_option maxRecDepth 8000
def mtB (p t : Tm) : Bool := (mtT p t []).isSome
end Go.Proofs.YtdebiiodhkcnkaaGreat

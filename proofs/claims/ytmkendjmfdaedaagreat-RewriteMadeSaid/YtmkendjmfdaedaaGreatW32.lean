import Derived.Test.YtmkendjmfdaedaaGreatW31
namespace Go.Proofs.YtmkendjmfdaedaaGreat
open Go.RowKit
set_option linter.unusedSimpArgs false
set_option linter.unusedVariables false
set_option maxRecDepth 8000
end Go.Proofs.YtmkendjmfdaedaaGreat

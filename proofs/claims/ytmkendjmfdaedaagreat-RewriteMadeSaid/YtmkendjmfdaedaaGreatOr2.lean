import Derived.Test.YtmkendjmfdaedaaGreatOr1
namespace Go.Proofs.YtmkendjmfdaedaaGreat
open Go.RowKit
set_option linter.unusedSimpArgs false
set_option linter.unusedVariables false
end Go.Proofs.YtmkendjmfdaedaaGreat

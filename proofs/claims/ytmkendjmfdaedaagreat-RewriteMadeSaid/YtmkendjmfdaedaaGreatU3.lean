import Derived.Test.YtmkendjmfdaedaaGreatU2
namespace Go.Proofs.YtmkendjmfdaedaaGreat
open Go.RowKit
set_option linter.unusedSimpArgs false
set_option linter.unusedVariables false
def occB (y : ByteArray) (l : List Tm) : Bool := (preL l).any fun k => k.name.toList == y.toList
end Go.Proofs.YtmkendjmfdaedaaGreat

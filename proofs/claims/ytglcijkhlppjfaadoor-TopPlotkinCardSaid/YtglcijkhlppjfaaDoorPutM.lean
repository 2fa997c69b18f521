/- What comes of putting a term at a place. -/
import Derived.Test.YtglcijkhlppjfaaDoorZTopPlotkinOwn
namespace Go.Proofs.YtglcijkhlppjfaaDoor

end Go.Proofs.YtglcijkhlppjfaaDoor

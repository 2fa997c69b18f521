
/- Walks: Text. -/
import Derived.Test.YtcdabjekppddjaaGreatDoorLt7
import Derived.Test.YtcdabjekppddjaaGreatDoorZCombSaysOwn
namespace Go.Proofs.YtcdabjekppddjaaGreatDoor
open Go.RowKit
set_option linter.unusedSimpArgs false
set_option linter.unusedVariables false
set_option maxRecDepth 8000

theorem Tb.raise {B B' : Nat} {w w' : World} (h : Tb B w) (hb : Below B w w') (hle : B ≤ B') : Tb B' w' := fun w'' h2 => h w'' (hb.trans (h2.mono hle))

end Go.Proofs.YtcdabjekppddjaaGreatDoor

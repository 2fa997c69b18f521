
/- Walks: general.Canon, general.General. -/
import Derived.Test.YtglcijkhlppjfaaDoorGn5
import Derived.Test.YtglcijkhlppjfaaDoorZTopPlotkinOwn
namespace Go.Proofs.YtglcijkhlppjfaaDoor
open Go.RowKit
set_option linter.unusedSimpArgs false
set_option linter.unusedVariables false
set_option maxRecDepth 8000

theorem may_partsZ {t : Tm} (h : mayE t = 0) : errL [t] = 0 ∧ sizeL [t] ≤ 200 := by
  unfold mayE at h
  split at h
  · cases h
  · exact ⟨h, by omega⟩
end Go.Proofs.YtglcijkhlppjfaaDoor

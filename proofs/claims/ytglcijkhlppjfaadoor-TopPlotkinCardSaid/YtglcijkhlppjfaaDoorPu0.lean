/- Small facts on terms and bindings: plain. -/
import Derived.Test.YtglcijkhlppjfaaDoorW64
import Derived.Test.YtglcijkhlppjfaaDoorZTopPlotkinOwn
namespace Go.Proofs.YtglcijkhlppjfaaDoor
open Go.RowKit
set_option linter.unusedSimpArgs false
set_option linter.unusedVariables false

theorem errL_name {s : ByteArray} {a r : List Tm} (h : errL (⟨s, a⟩ :: r) = 0) : nameB s = true := by
  rw [errL] at h
  split at h
  · assumption
  · cases h
end Go.Proofs.YtglcijkhlppjfaaDoor

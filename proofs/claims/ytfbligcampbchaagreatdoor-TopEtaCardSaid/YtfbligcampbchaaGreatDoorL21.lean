
/- Walks: how often what is bound is used. -/
import Derived.Test.YtfbligcampbchaaGreatDoorZCTopEtaOwn
namespace Go.Proofs.YtfbligcampbchaaGreatDoor
open Go.RowKit
set_option linter.unusedSimpArgs false
set_option linter.unusedVariables false
set_option maxRecDepth 8000

theorem usesM_one (i k x : Int) (l : List Lm) : usesM i [⟨k, x, l⟩] = if k = 1 then (if x = i then 1 else 0) else usesM (deepK i k) l := by simp [usesM]
end Go.Proofs.YtfbligcampbchaaGreatDoor

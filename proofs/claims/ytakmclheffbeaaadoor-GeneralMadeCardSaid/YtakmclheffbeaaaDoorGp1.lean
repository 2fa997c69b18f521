/- Plain: the least that two terms are cases of (PLOTKIN, REYNOLDS). -/
import Derived.Test.YtakmclheffbeaaaDoorZBGeneralMadeOwn
import Derived.Test.YtakmclheffbeaaaDoorW93
import Derived.Test.YtakmclheffbeaaaDoorTmQ
namespace Go.Proofs.YtakmclheffbeaaaDoor
open Go.RowKit
set_option linter.unusedSimpArgs false
set_option linter.unusedVariables false
set_option maxRecDepth 8000

theorem err_splitP {s : ByteArray} {l r : List Tm} (h : errL (⟨s, l⟩ :: r) = 0) : (varB s = true → l = []) ∧ errL l = 0 ∧ errL r = 0 := by
  obtain ⟨h1, h2⟩ := errL_two h
  refine ⟨fun hv => ?_, errL_parts0 h1, h2⟩
  simp only [errL] at h1
  repeat' split at h1
  all_goals first | (cases h1; done) | skip
  all_goals
    rename_i h3 _
    simp [hv] at h3
    exact h3
end Go.Proofs.YtakmclheffbeaaaDoor

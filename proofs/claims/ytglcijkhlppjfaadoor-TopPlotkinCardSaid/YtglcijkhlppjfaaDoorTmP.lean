/- What matching an instance finds: plain. -/
import Derived.Test.YtglcijkhlppjfaaDoorPu0
import Derived.Test.YtglcijkhlppjfaaDoorW98
import Derived.Test.YtglcijkhlppjfaaDoorW84
import Derived.Test.YtglcijkhlppjfaaDoorZTopPlotkinOwn
namespace Go.Proofs.YtglcijkhlppjfaaDoor
open Go.RowKit
set_option linter.unusedSimpArgs false
set_option linter.unusedVariables false

theorem eqL_refl : ∀ l : List Tm, eqL l l = true := by
  intro l
  induction l using Tm.indL with
  | h0 => simp [eqL]
  | h s l r ihl ihr => simp [eqL, ihl, ihr]
theorem sameB_refl (t : Tm) : sameB t t = true := by simp [sameB, eqL_refl]

theorem onT_sym {ls : List Bd} (h : bindsE ls = 0) {s : ByteArray} (hs : varB s = false) (l : List Tm) : onT ls ⟨s, l⟩ = ⟨s, onL ls l⟩ := by
  refine onT_deep (Or.inr ?_)
  cases hf : forT ls s with
  | none => rfl
  | some x => rw [(forT_var h hf).1] at hs; cases hs

end Go.Proofs.YtglcijkhlppjfaaDoor

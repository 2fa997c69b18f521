
/- Walks: Apply. -/
import Derived.Test.YtcjdbbdmighliacW62
import Derived.Test.YtcjdbbdmighliacW55
namespace Go.Proofs.Ytcjdbbdmighliac
open Go.RowKit
set_option linter.unusedSimpArgs false
set_option linter.unusedVariables false
set_option maxRecDepth 8000

def ApPost (w : World) (ls : List Bd) (t : Tm) (e : Ending) (w' : World) : Prop :=
  Below w.heap.size w w' ∧ ((bindsE ls ≠ 0 ∧ e = .returned (.tuple #[.agg #[.string ⟨#[]⟩, .slice none 0 0], .int .i64 (bindsE ls)])) ∨ (bindsE ls = 0 ∧ mayE t ≠ 0 ∧ e = .returned (.tuple #[.agg #[.string ⟨#[]⟩, .slice none 0 0], .int .i64 (mayE t)])) ∨
    (bindsE ls = 0 ∧ mayE t = 0 ∧ ((sizeL [fT ls t] ≤ 2000 ∧ ∃ a' c', e = .returned (.tuple #[.agg #[.string (fT ls t).name, .slice a' (fT ls t).args.length c'], .int .i64 0]) ∧ Sl w' (fun b => w.heap.size ≤ b) a' (fT ls t).args) ∨ (2000 < sizeL [fT ls t] ∧ e = .returned (.tuple #[.agg #[.string ⟨#[]⟩, .slice none 0 0], .int .i64 8])))))

end Go.Proofs.Ytcjdbbdmighliac

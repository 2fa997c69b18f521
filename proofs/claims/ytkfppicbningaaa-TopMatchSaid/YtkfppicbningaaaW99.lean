
/- The law on matching: it answers true. -/
import Derived.Test.YtkfppicbningaaaW98
import Derived.Test.YtkfppicbningaaaW86
namespace Go.Proofs.Ytkfppicbningaaa
open Go.RowKit
set_option linter.unusedSimpArgs false
set_option linter.unusedVariables false
set_option maxRecDepth 8000

theorem bv_nil (w : World) (X : Nat → Prop) : BV w X (.slice none 0 0) [] := ⟨none, 0, rfl, by simp, Or.inl rfl⟩

end Go.Proofs.Ytkfppicbningaaa

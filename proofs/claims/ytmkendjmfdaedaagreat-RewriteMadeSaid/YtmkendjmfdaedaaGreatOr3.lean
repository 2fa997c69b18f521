import Derived.Test.YtmkendjmfdaedaaGreatOr2
namespace Go.Proofs.YtmkendjmfdaedaaGreat
open Go.RowKit
set_option linter.unusedSimpArgs false
set_option linter.unusedVariables false
theorem preL_app : ∀ (a b : List Tm), preL (a ++ b) = preL a ++ preL b
 | [], b => by simp [preL]
 | ⟨s, l⟩ :: r, b => by
  have := preL_app r b
  simp [preL, this]
end Go.Proofs.YtmkendjmfdaedaaGreat

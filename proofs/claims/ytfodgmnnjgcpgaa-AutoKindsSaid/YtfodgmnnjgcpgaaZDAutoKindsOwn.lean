/- Several texts in one. -/
import Derived.Test.YtfodgmnnjgcpgaaZJAutoKindsOwn
import Derived.Test.YtfodgmnnjgcpgaaZAutoKindsOwn
/- Texts read as terms: what both readers do. -/
namespace Go.Proofs.Ytfodgmnnjgcpgaa
open Go.RowKit
set_option linter.unusedSimpArgs false
set_option linter.unusedVariables false

/-- What reading gives: an error (0: none), a term, where it ended, how many knots there were. -/
structure Rd where
  err : Int
  t : Tm
  pos : Nat
  k : Nat
end Go.Proofs.Ytfodgmnnjgcpgaa

/- What was written is read again. -/
namespace Go.Proofs.Ytfodgmnnjgcpgaa
open Go.RowKit
set_option linter.unusedSimpArgs false
set_option linter.unusedVariables false

end Go.Proofs.Ytfodgmnnjgcpgaa

/- No two terms have one text, nor two pairs of terms, with a sign between them: plain. -/
namespace Go.Proofs.Ytfodgmnnjgcpgaa
open Go.RowKit
set_option linter.unusedSimpArgs false
set_option linter.unusedVariables false

/-- What may stand behind a term. -/
def Beh (x : List UInt8) : Prop := x = [] ∨ ∃ c r, x = c :: r ∧ (c = 41 ∨ c = 44 ∨ c = 61)
/-- What ends a name. -/
def Ends (x : List UInt8) : Prop := x = [] ∨ ∃ c r, x = c :: r ∧ alnB (c.toNat : Int) = false
theorem Beh.ends {x : List UInt8} (h : Beh x) : Ends x := by
  rcases h with h | ⟨c, r, e, h⟩
  · exact Or.inl h
  · refine Or.inr ⟨c, r, e, ?_⟩
    rcases h with rfl | rfl | rfl <;> decide
end Go.Proofs.Ytfodgmnnjgcpgaa

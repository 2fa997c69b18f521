/- Texts read as terms: what both readers do. -/
import Derived.Test.YtdencaekailmcaaW3
import Derived.Test.YtdencaekailmcaaZTopSomeOwn
namespace Go.Proofs.Ytdencaekailmcaa
open Go.RowKit
set_option linter.unusedSimpArgs false
set_option linter.unusedVariables false

/-- What reading gives: an error (0: none), a term, where it ended, how many knots there were. -/
structure Rd where
  err : Int
  t : Tm
  pos : Nat
  k : Nat
end Go.Proofs.Ytdencaekailmcaa

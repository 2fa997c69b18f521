/- The law AutoKinds (under way). -/
import Derived.Test.YtfodgmnnjgcpgaaGd4
import Derived.Test.YtfodgmnnjgcpgaaGd9
import Derived.Test.YtfodgmnnjgcpgaaAx5
import Derived.Test.YtfodgmnnjgcpgaaZFAutoKindsOwn
namespace Go.Proofs.Ytfodgmnnjgcpgaa
open Go.RowKit
set_option linter.unusedSimpArgs false
set_option linter.unusedVariables false
set_option maxRecDepth 8000

/-- Both sides count alike. -/
theorem kinds_agree {A : Au} (hA : OkAu 8 40 A) {n : Nat} (hn : A.st = (n : Int)) {all : List Nat} (ha : EndsOk A.mv n all) {out : List Tm} (hg : GrdOk A noA out) : cntK (alkT A out) out = cntK (alkS A.mv (setN A.la) all) all := leastOf_eq hA hn rfl ha hg
/-- Both sides say alike whether one lies within the other. -/
theorem within_agree {A B : Au} {b : Bool} (h : b = true ↔ ∀ t, accB A t = true → accB B t = true) : b = wiB A B := by
  rw [Bool.eq_iff_iff, h, wiB_iff]
end Go.Proofs.Ytfodgmnnjgcpgaa

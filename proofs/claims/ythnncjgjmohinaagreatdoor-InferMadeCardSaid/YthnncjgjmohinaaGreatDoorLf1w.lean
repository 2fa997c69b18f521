import Derived.Test.YthnncjgjmohinaaGreatDoorLf0w
import Derived.Deep.RegionHeld
import Derived.Deep.RegionHeld3
import Derived.Deep.DeepCutAuto
namespace Go.Proofs.YthnncjgjmohinaaGreatDoor
open Go.RowKit
set_option linter.unusedSimpArgs false
set_option linter.unusedVariables false
set_option maxRecDepth 8000
def tpQ (m : Nat) : Nat := if m < 3 then 1 else 2 * m - 1
theorem tpQ_pos (m : Nat) : 1 ≤ tpQ m := by unfold tpQ; split <;> omega
theorem tpQ_step {m : Nat} (h : 3 ≤ m) : tpQ (m - 1) + 1 ≤ tpQ m := by unfold tpQ; split <;> split <;> omega
theorem tpQ_half {m : Nat} (h : 3 ≤ m) : 2 * tpQ (m / 2) + 1 ≤ tpQ m := by unfold tpQ; split <;> split <;> omega
theorem tpQ_le {m : Nat} (h : 1 ≤ m) : tpQ m + 1 ≤ 2 * m := by unfold tpQ; split <;> omega
end Go.Proofs.YthnncjgjmohinaaGreatDoor

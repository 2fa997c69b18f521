import Derived.Test.YtbnmlkaejdpigaaGreatDoorU6
namespace Go.Proofs.YtbnmlkaejdpigaaGreatDoor
open Go.RowKit
set_option linter.unusedSimpArgs false
set_option linter.unusedVariables false
theorem on_mem {t : List Bd} {l : List Tm} {x : Tm} (h : x ∈ l) : sizeL [onT t x] ≤ sizeL (onL t l) := by
 induction l with
 | nil => cases h
 | cons a r ih =>
  have hc := size_cons (onT t a) (onL t r)
  rw [onL_cons]
  rcases List.mem_cons.1 h with rfl | h
  ·omega
  ·have := ih h; omega
end Go.Proofs.YtbnmlkaejdpigaaGreatDoor

/- Plain: eta keeps a term that may be; how great a step is; no step. -/
import Derived.Test.YtagidfoiemgfcaaGreatDoorTe3
import Derived.Test.YtagidfoiemgfcaaGreatDoorHs1
import Derived.Test.YtagidfoiemgfcaaGreatDoorDv1
namespace Go.Proofs.YtagidfoiemgfcaaGreatDoor
open Go.RowKit
set_option linter.unusedSimpArgs false
set_option linter.unusedVariables false
set_option maxRecDepth 8000

theorem stepM_get {l : List Lm} {k : Nat} (h : k < l.length) (hs : stepM l = false) : stepM [l[k]] = false := by
  cases h1 : stepM [l[k]] with
  | false => rfl
  | true => rw [stepM_of h h1] at hs; exact hs
/-- Where there is no step, none is told. -/
theorem hnd_none (n : Nat) : ∀ (t : Lm), stepM [t] = false → hndT n t = [] := by
  induction n with
  | zero => intro t _; rfl
  | succ n ih =>
    rintro ⟨k, x, l⟩ h
    rw [stepM_one, Bool.or_eq_false_iff] at h
    rw [hndT]
    have h1 : hndH ⟨k, x, l⟩ = [] := by unfold hndH; rw [if_neg (by rw [h.1]; decide)]
    rw [h1, List.nil_append]
    apply List.eq_nil_iff_forall_not_mem.2
    intro p hp
    obtain ⟨q, hq, p', h2, _⟩ := hndR_mem hp
    rw [ih _ (stepM_get hq h.2)] at h2
    simp at h2
end Go.Proofs.YtagidfoiemgfcaaGreatDoor

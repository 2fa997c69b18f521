/- Plain: what a lambda term develops to. -/
import Derived.Test.YtclobmmdlhianaaGreatDoorZETopSubstitutionOwn
namespace Go.Proofs.YtclobmmdlhianaaGreatDoor
open Go.RowKit
set_option linter.unusedSimpArgs false
set_option linter.unusedVariables false
set_option maxRecDepth 8000

theorem hig_size (y : Int) (l : List Lm) : ∀ d, LfM l → sizeM (higM y d l) = sizeM l := by
  induction l using Lm.indL with
  | h0 => intro d _; simp [higM]
  | h k x l r ihl ihr =>
    intro d h
    obtain ⟨h1, h2, h3⟩ := (LfM_cons k x l r).1 h
    rw [higM]
    by_cases hk : k = 1
    · rw [if_pos hk, h1 hk]
      split <;> simp [sizeM, ihr d h3]
    · rw [if_neg hk]
      simp [sizeM, ihr d h3, ihl _ h2]
theorem higT_size {y d : Int} {t : Lm} (h : LfM [t]) : sizeM [higT y d t] = sizeM [t] := by
  have := hig_size y [t] d h
  rw [higM_map] at this
  exact this
end Go.Proofs.YtclobmmdlhianaaGreatDoor

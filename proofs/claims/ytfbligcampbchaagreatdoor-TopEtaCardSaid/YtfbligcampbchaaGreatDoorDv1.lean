/- Plain: what a lambda term develops to. -/
import Derived.Test.YtfbligcampbchaaGreatDoorZCTopEtaOwn
import Derived.Test.YtfbligcampbchaaGreatDoorL6
namespace Go.Proofs.YtfbligcampbchaaGreatDoor
open Go.RowKit
set_option linter.unusedSimpArgs false
set_option linter.unusedVariables false
set_option maxRecDepth 8000

theorem hig_size (y : Int) (l : List Lm) : ∀ d, LfM l → sizeM (higM y d l) = sizeM l := by
  induction l using Lm.indL with
  | h0 => intro d _; simp [higM]
  | h k x l r ihl ihr =>
    intro d h
    obtain ⟨h1, h2, h3⟩ := (LfM_cons k x l r).1 h
    rw [higM]
    by_cases hk : k = 1
    · rw [if_pos hk, h1 hk]
      split <;> simp [sizeM, ihr d h3]
    · rw [if_neg hk]
      simp [sizeM, ihr d h3, ihl _ h2]
theorem higT_size {y d : Int} {t : Lm} (h : LfM [t]) : sizeM [higT y d t] = sizeM [t] := by
  have := hig_size y [t] d h
  rw [higM_map] at this
  exact this
/-- How great a term becomes. -/
theorem ins_size (z : Lm) (hz : LfM [z]) (l : List Lm) : ∀ d, LfM l → sizeM (insM z d l) + usesM d l = sizeM l + usesM d l * sizeM [z] := by
  induction l using Lm.indL with
  | h0 => intro d _; simp [insM, usesM]
  | h k x l r ihl ihr =>
    intro d h
    obtain ⟨h1, h2, h3⟩ := (LfM_cons k x l r).1 h
    have h4 := ihr d h3
    have e0 : sizeM (⟨k, x, l⟩ :: r) = 1 + sizeM l + sizeM r := by simp [sizeM]
    rw [insM, usesM, e0]
    by_cases hk : k = 1
    · subst hk
      rw [h1 rfl]
      simp only [if_true]
      have e1 : ∀ (t : Lm) (r' : List Lm), sizeM (t :: r') = sizeM [t] + sizeM r' := fun t r' => sizeM_append [t] r'
      by_cases hx : x < d
      · rw [if_pos hx, if_neg (by omega), e1]
        simp [sizeM] at h4 ⊢
        omega
      · rw [if_neg hx]
        by_cases hd : x = d
        · rw [if_pos hd, if_pos hd, e1, higT_size hz]
          simp [sizeM, Nat.add_mul]
          omega
        · rw [if_neg hd, if_neg hd, e1]
          simp [sizeM] at h4 ⊢
          omega
    · rw [if_neg hk, if_neg hk]
      have h5 := ihl (deepK d k) h2
      have e1 : sizeM (⟨k, x, insM z (deepK d k) l⟩ :: insM z d r) = 1 + sizeM (insM z (deepK d k) l) + sizeM (insM z d r) := by simp [sizeM]
      rw [e1, Nat.add_mul]
      omega
theorem insT_size {z t : Lm} {d : Int} (hz : LfM [z]) (ht : LfM [t]) : sizeM [insT z d t] + usesM d [t] = sizeM [t] + usesM d [t] * sizeM [z] := by
  have := ins_size z hz [t] d ht
  rw [insM_map] at this
  exact this
end Go.Proofs.YtfbligcampbchaaGreatDoor

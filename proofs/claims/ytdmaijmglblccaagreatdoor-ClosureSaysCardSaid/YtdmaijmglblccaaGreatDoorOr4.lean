/- Terms that are told by numbers: plain. -/
import Derived.Test.YtdmaijmglblccaaGreatDoorOr3
namespace Go.Proofs.YtdmaijmglblccaaGreatDoor
open Go.RowKit
set_option linter.unusedSimpArgs false
set_option linter.unusedVariables false

theorem eqL_all : ∀ l k : List Tm, l.length = k.length → eqL l k = true → l = k := by
  intro l
  induction l using Tm.indL with
  | h0 => intro k h _; cases k with
    | nil => rfl
    | cons _ _ => simp at h
  | h s a r iha ihr =>
    intro k h he
    cases k with
    | nil => simp at h
    | cons u q =>
      obtain ⟨s', b⟩ := u
      rw [eqL_cons] at he
      simp only [Bool.and_eq_true] at he
      obtain ⟨h1, h2⟩ := he
      unfold sameB at h1
      simp only [Bool.and_eq_true, beq_iff_eq] at h1
      obtain ⟨h3, h4, h5⟩ := h1
      rw [ihr q (by simpa using h) h2, iha b h4 h5, bytes_inj h3]
theorem eqL_self : ∀ l : List Tm, eqL l l = true := by
  intro l
  induction l using Tm.indL with
  | h0 => simp [eqL]
  | h s a r iha ihr =>
    rw [eqL_cons, ihr]
    simp [sameB, iha]
theorem sameB_iff {a b : Tm} : sameB a b = true ↔ a = b := by
  constructor
  · intro h
    obtain ⟨s, l⟩ := a
    obtain ⟨s', k⟩ := b
    unfold sameB at h
    simp only [Bool.and_eq_true, beq_iff_eq] at h
    rw [bytes_inj h.1, eqL_all l k h.2.1 h.2.2]
  · rintro rfl
    unfold sameB
    simp [eqL_self]
end Go.Proofs.YtdmaijmglblccaaGreatDoor

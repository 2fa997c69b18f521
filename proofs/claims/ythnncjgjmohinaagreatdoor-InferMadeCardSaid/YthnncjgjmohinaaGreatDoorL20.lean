import Derived.Test.YthnncjgjmohinaaGreatDoorL5
namespace Go.Proofs.YthnncjgjmohinaaGreatDoor
open Go.RowKit
set_option linter.unusedSimpArgs false
set_option linter.unusedVariables false
set_option maxRecDepth 8000
def ShM : List Lm → Prop
 | [] => True
 | ⟨k, _, l⟩ :: r => l.length = subsK k ∧ ShM l ∧ ShM r
theorem ShM_nil : ShM [] := by simp [ShM]
theorem ShM_cons (k x : Int) (l r : List Lm) : ShM (⟨k, x, l⟩ :: r) ↔ l.length = subsK k ∧ ShM l ∧ ShM r := by simp [ShM]
theorem ShM.at : ∀ {l : List Lm} (k : Nat) (h : k < l.length), ShM l → ShM [l[k]]
 | [], k, h, _ => by simp at h
 | ⟨s, x, l⟩ :: r, 0, h, hb => by
  rw [ShM_cons] at hb
  exact (ShM_cons s x l []).2 ⟨hb.1, hb.2.1, ShM_nil⟩
 | ⟨s, x, l⟩ :: r, k + 1, h, hb => by
  rw [ShM_cons] at hb
  have := ShM.at (l := r) k (by simpa using h) hb.2.2
  simpa using this
def rdxT (t : Lm) : Bool := decide (t.kind = 3) && (match t.subs with | [] => false | y :: _ => decide (y.kind = 2))
def stepM : List Lm → Bool
 | [] => false
 | ⟨k, x, l⟩ :: r => rdxT ⟨k, x, l⟩ || stepM l || stepM r
theorem stepM_append (a b : List Lm) : stepM (a ++ b) = (stepM a || stepM b) := by
 induction a with
 | nil => simp [stepM]
 | cons t r ih => obtain ⟨k, x, l⟩ := t; simp only [List.cons_append, stepM, ih, Bool.or_assoc]
end Go.Proofs.YthnncjgjmohinaaGreatDoor

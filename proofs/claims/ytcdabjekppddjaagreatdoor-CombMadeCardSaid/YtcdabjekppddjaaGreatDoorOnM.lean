/- A term with what stands for its variables, as the document says. -/
import Derived.Test.YtcdabjekppddjaaGreatDoorZBCombMadeOwn
namespace Go.Proofs.YtcdabjekppddjaaGreatDoor
set_option linter.unusedSimpArgs false
set_option linter.unusedVariables false

/-- A knot with what stands for it, or above what has been made of those below. -/
def onN (l : List Bd) (s : ByteArray) (es0 bs : List Tm) : Tm :=
  match forT l s with
  | some x => if es0.isEmpty = true then x else ⟨s, bs⟩
  | none => ⟨s, bs⟩
def onL (l : List Bd) : List Tm → List Tm
  | [] => []
  | ⟨s, es0⟩ :: r => onN l s es0 (onL l es0) :: onL l r
def onT (l : List Bd) (t : Tm) : Tm := onN l t.name t.args (onL l t.args)

theorem onL_cons (l : List Bd) (t : Tm) (r : List Tm) : onL l (t :: r) = onT l t :: onL l r := by
  obtain ⟨s, es0⟩ := t
  simp only [onL, onT]
theorem onT_some {l : List Bd} {s : ByteArray} {x : Tm} (h : forT l s = some x) : onT l ⟨s, []⟩ = x := by simp [onT, onN, h]
theorem onT_deep {l : List Bd} {s : ByteArray} {es0 : List Tm} (h : es0 ≠ [] ∨ forT l s = none) : onT l ⟨s, es0⟩ = ⟨s, onL l es0⟩ := by
  unfold onT onN
  rcases h with h | h
  · cases forT l s with
    | none => rfl
    | some x => simp [h]
  · rw [h]
end Go.Proofs.YtcdabjekppddjaaGreatDoor

/- A term with what stands for its variables, as the document says. -/
import Derived.Test.YteghhdogmdpbpakGreatZTopEmbedOwn
namespace Go.Proofs.YteghhdogmdpbpakGreat
set_option linter.unusedSimpArgs false
set_option linter.unusedVariables false

/-- A knot with what stands for it, or above what has been made of those below. -/
def onN (l : List Bd) (s : ByteArray) (as bs : List Tm) : Tm :=
  match forT l s with
  | some x => if as.isEmpty = true then x else ⟨s, bs⟩
  | none => ⟨s, bs⟩
def onL (l : List Bd) : List Tm → List Tm
  | [] => []
  | ⟨s, as⟩ :: r => onN l s as (onL l as) :: onL l r
def onT (l : List Bd) (t : Tm) : Tm := onN l t.name t.args (onL l t.args)

theorem onL_cons (l : List Bd) (t : Tm) (r : List Tm) : onL l (t :: r) = onT l t :: onL l r := by
  obtain ⟨s, as⟩ := t
  simp only [onL, onT]
theorem onL_length (l : List Bd) : ∀ as, (onL l as).length = as.length
  | [] => by simp [onL]
  | t :: r => by rw [onL_cons]; simp [onL_length l r]
theorem onL_append (l : List Bd) (b : List Tm) : ∀ a, onL l (a ++ b) = onL l a ++ onL l b
  | [] => by simp [onL]
  | t :: r => by rw [List.cons_append, onL_cons, onL_cons, onL_append l b r]; rfl
theorem onL_take (l : List Bd) (as : List Tm) (k : Nat) (h : k < as.length) : onL l (as.take (k + 1)) = onL l (as.take k) ++ [onT l as[k]] := by
  rw [List.take_succ_eq_append_getElem h, onL_append, onL_cons]
  simp [onL]
theorem onT_some {l : List Bd} {s : ByteArray} {x : Tm} (h : forT l s = some x) : onT l ⟨s, []⟩ = x := by simp [onT, onN, h]
theorem onT_deep {l : List Bd} {s : ByteArray} {as : List Tm} (h : as ≠ [] ∨ forT l s = none) : onT l ⟨s, as⟩ = ⟨s, onL l as⟩ := by
  unfold onT onN
  rcases h with h | h
  · cases forT l s with
    | none => rfl
    | some x => simp [h]
  · rw [h]
theorem onL_size_take (l : List Bd) (as : List Tm) (k : Nat) (h : k < as.length) : sizeL (onL l (as.take (k + 1))) = sizeL (onL l (as.take k)) + sizeL [onT l as[k]] := by rw [onL_take l as k h, sizeL_append]
theorem onL_size_le (l : List Bd) (as : List Tm) (k : Nat) : sizeL (onL l (as.take k)) ≤ sizeL (onL l as) := by
  have := sizeL_append (onL l (as.take k)) (onL l (as.drop k))
  rw [← onL_append, List.take_append_drop] at this
  omega
end Go.Proofs.YteghhdogmdpbpakGreat

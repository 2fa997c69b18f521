
/- Walks: counting knots with a bound; what is wrong with a term. -/
import Derived.Test.YtmjdhapcngfngaaW1
import Derived.Test.YtmjdhapcngfngaaW3
namespace Go.Proofs.Ytmjdhapcngfngaa
open Go.RowKit
set_option linter.unusedSimpArgs false
set_option linter.unusedVariables false

/-- What is wrong, knot by knot: 0 nothing, 1 no name, 2 a variable with terms below it. -/
def errL : List Tm → Int
  | [] => 0
  | ⟨s, l⟩ :: r => if nameB s = true then (if (varB s && decide (0 < l.length)) = true then 2 else if errL l = 0 then errL r else errL l) else 1

theorem errL_cons (t : Tm) (r : List Tm) : errL (t :: r) = if errL [t] = 0 then errL r else errL [t] := by
  obtain ⟨s, l⟩ := t
  simp only [errL]
  split
  · split
    · simp
    · split <;> simp_all
  · simp

theorem errL_append (a b : List Tm) : errL (a ++ b) = if errL a = 0 then errL b else errL a := by
  induction a with
  | nil => simp [errL]
  | cons t r ih =>
    rw [List.cons_append, errL_cons, errL_cons t r, ih]
    by_cases h : errL [t] = 0 <;> simp [h]

theorem errL_take (l : List Tm) (k : Nat) (h : k < l.length) : errL (l.take (k + 1)) = if errL (l.take k) = 0 then errL [l[k]] else errL (l.take k) := by
  rw [List.take_succ_eq_append_getElem h, errL_append]

theorem errL_of_take {l : List Tm} {k : Nat} (h : errL (l.take k) ≠ 0) : errL l = errL (l.take k) := by
  have := errL_append (l.take k) (l.drop k)
  rw [List.take_append_drop, if_neg h] at this
  exact this

theorem name_pos {s : ByteArray} (h : nameB s = true) : 0 < s.size := by
  simp [nameB] at h; omega

/-- What is wrong with a term. -/
def mayE (t : Tm) : Int := if 200 < sizeL [t] then 3 else errL [t]

end Go.Proofs.Ytmjdhapcngfngaa

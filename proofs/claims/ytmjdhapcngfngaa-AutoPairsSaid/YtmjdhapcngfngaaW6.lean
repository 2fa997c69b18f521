
/- Walks: what the document says of a term. -/
import Derived.Test.YtmjdhapcngfngaaW5
namespace Go.Proofs.Ytmjdhapcngfngaa
open Go.RowKit
set_option linter.unusedSimpArgs false
set_option linter.unusedVariables false

def kErr (t : Tm) : Int := if nameB t.name = true then (if (varB t.name && decide (0 < t.args.length)) = true then 2 else 0) else 1
def errP : List Tm → Int
  | [] => 0
  | t :: r => if kErr t = 0 then errP r else kErr t
theorem errP_append (a b : List Tm) : errP (a ++ b) = if errP a = 0 then errP b else errP a := by
  induction a with
  | nil => simp [errP]
  | cons t r ih => simp only [List.cons_append, errP, ih]; by_cases h : kErr t = 0 <;> simp [h]
theorem errL_preL (l : List Tm) : errL l = errP (preL l) := by
  induction l using Tm.indL with
  | h0 => simp [errL, preL, errP]
  | h s l r ihl ihr =>
    simp only [errL, preL, errP, errP_append, ← ihl, ← ihr, kErr]
    by_cases h1 : nameB s = true
    · by_cases h2 : (varB s && decide (0 < l.length)) = true
      · simp only [h1, h2, if_true]; simp
      · simp only [h1, if_true]; rw [if_neg h2, if_neg h2]; simp
    · rw [if_neg h1, if_neg h1]; simp
theorem errP_take (l : List Tm) (k : Nat) (h : k < l.length) : errP (l.take (k + 1)) = if errP (l.take k) = 0 then kErr l[k] else errP (l.take k) := by
  rw [List.take_succ_eq_append_getElem h, errP_append]
  congr 1
  simp only [errP]
  by_cases h : kErr l[k] = 0 <;> simp [h]
theorem errP_of_take {l : List Tm} {k : Nat} (h : errP (l.take k) ≠ 0) : errP l = errP (l.take k) := by
  have := errP_append (l.take k) (l.drop k)
  rw [List.take_append_drop, if_neg h] at this
  exact this
theorem errP_at {l : List Tm} {k : Nat} (h : k < l.length) (h0 : errP (l.take k) = 0) (h1 : kErr l[k] ≠ 0) : errP l = kErr l[k] := by
  have e := errP_take l k h
  rw [if_pos h0] at e
  rw [← e]
  exact errP_of_take (by rw [e]; exact h1)

/-- What is wrong with the first, else with the second. -/
def twoE (t x : Tm) : Int := if mayE t = 0 then mayE x else mayE t

end Go.Proofs.Ytmjdhapcngfngaa

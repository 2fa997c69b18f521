
/- Walks: may a lambda term be? -/
import Derived.Test.YtmjdhapcngfngaaL1
import Derived.Test.YtmjdhapcngfngaaMem
namespace Go.Proofs.Ytmjdhapcngfngaa
open Go.RowKit
set_option linter.unusedSimpArgs false
set_option linter.unusedVariables false
set_option maxRecDepth 8000

/-- How many stand below a knot of a kind. -/
def subsK (k : Int) : Nat := if k = 2 then 1 else if k = 3 then 2 else 0
/-- What its number is below, with u binders around it and m unknowns. -/
def mostK (u m k : Int) : Int := if k = 1 then u else if k = 4 then 40 else if k = 5 then m else 1
/-- The binders around what stands below it. -/
def deepK (u k : Int) : Int := if k = 2 then u + 1 else u
/-- What is wrong with a knot. -/
def knE (u m k x : Int) (n : Nat) : Int := if k < 1 ∨ 5 < k then 2 else if n ≠ subsK k then 2 else if x < 0 ∨ mostK u m k ≤ x then 15 else 0
/-- What is wrong first. -/
def errM : Int → Int → List Lm → Int
  | _, _, [] => 0
  | u, m, ⟨k, x, l⟩ :: r => if knE u m k x l.length = 0 then (if errM (deepK u k) m l = 0 then errM u m r else errM (deepK u k) m l) else knE u m k x l.length
theorem errM_cons (u m : Int) (t : Lm) (r : List Lm) : errM u m (t :: r) = if errM u m [t] = 0 then errM u m r else errM u m [t] := by
  obtain ⟨k, x, l⟩ := t
  simp only [errM]
  split
  · split <;> simp_all
  · simp_all
theorem errM_append (u m : Int) (a b : List Lm) : errM u m (a ++ b) = if errM u m a = 0 then errM u m b else errM u m a := by
  induction a with
  | nil => simp [errM]
  | cons t r ih =>
    rw [List.cons_append, errM_cons, errM_cons u m t r, ih]
    by_cases h : errM u m [t] = 0 <;> simp [h]
theorem errM_take (u m : Int) (l : List Lm) (k : Nat) (h : k < l.length) : errM u m (l.take (k + 1)) = if errM u m (l.take k) = 0 then errM u m [l[k]] else errM u m (l.take k) := by
  rw [List.take_succ_eq_append_getElem h, errM_append]
theorem errM_of_take {u m : Int} {l : List Lm} {k : Nat} (h : errM u m (l.take k) ≠ 0) : errM u m l = errM u m (l.take k) := by
  have := errM_append u m (l.take k) (l.drop k)
  rw [List.take_append_drop, if_neg h] at this
  exact this
theorem errM_good {u m kd ix : Int} {l : List Lm} (h : knE u m kd ix l.length = 0) : errM u m [⟨kd, ix, l⟩] = errM (deepK u kd) m l := by
  simp only [errM, h, if_true]
  by_cases h0 : errM (deepK u kd) m l = 0 <;> simp [h0]
theorem errM_bad {u m kd ix : Int} {l : List Lm} (h : knE u m kd ix l.length ≠ 0) : errM u m [⟨kd, ix, l⟩] = knE u m kd ix l.length := by
  simp [errM, h]
/-- May a lambda term be, under so many binders? -/
def lamE (u m : Int) (t : Lm) : Int := if u < 0 ∨ 40 < u then 10 else if 200 < sizeM [t] then 3 else errM u m [t]

def KnInv2 (u m : Int) (l : List Lm) (w : World) (o : Value) (wr : World) : Prop := ∃ k : Nat, k ≤ l.length ∧ o = .int .i64 (k : Int) ∧ errM u m (l.take k) = 0 ∧ Below w.heap.size w wr

end Go.Proofs.Ytmjdhapcngfngaa

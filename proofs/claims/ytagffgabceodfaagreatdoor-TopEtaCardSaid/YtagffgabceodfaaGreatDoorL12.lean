
/- Walks: lambda.Put. -/
import Derived.Test.YtagffgabceodfaaGreatDoorL10
import Derived.Test.YtagffgabceodfaaGreatDoorL11
namespace Go.Proofs.YtagffgabceodfaaGreatDoor
open Go.RowKit
set_option linter.unusedSimpArgs false
set_option linter.unusedVariables false
set_option maxRecDepth 8000

/-- What lambda.Put says. -/
def putE (t z : Lm) (u : Int) : Int := if u < 0 ∨ 40 ≤ u then 10 else if lamE (u + 1) 0 t ≠ 0 then lamE (u + 1) 0 t else if lamE u 0 z ≠ 0 then lamE u 0 z else if 2000 < sizeM [insT z 0 t] then 8 else 0
theorem lamE_zero {u : Int} {t : Lm} (h : lamE u 0 t = 0) : sizeM [t] ≤ 200 ∧ BndM [t] ∧ LfM [t] := by
  unfold lamE at h
  split at h
  · cases h
  · split at h
    · cases h
    · rename_i h1 h2
      exact ⟨by omega, bnd_of_err [t] u 0 (by omega) (by omega) (by omega) h, lf_of_err [t] u 0 h⟩
/-- What lambda.Put answers. -/
def LPutPost (w : World) (t z : Lm) (u : Int) (e : Ending) (w' : World) : Prop :=
  Below w.heap.size w w' ∧ ((putE t z u = 0 ∧ ∃ a c, e = .returned (.tuple #[.agg #[.int .i64 (insT z 0 t).kind, .int .i64 (insT z 0 t).idx, .slice a (insT z 0 t).subs.length c], .int .i64 0]) ∧ SlM w' (fun b => w.heap.size ≤ b) a (insT z 0 t).subs) ∨ (putE t z u ≠ 0 ∧ e = .returned (.tuple #[.agg #[.int .i64 0, .int .i64 0, .slice none 0 0], .int .i64 (putE t z u)])))

end Go.Proofs.YtagffgabceodfaaGreatDoor

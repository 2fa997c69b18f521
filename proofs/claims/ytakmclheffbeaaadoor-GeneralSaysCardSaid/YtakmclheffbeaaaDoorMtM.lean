/- One term as a case of another one: plain. -/
import Derived.Test.YtakmclheffbeaaaDoorZBGeneralSaysOwn
import Derived.Test.YtakmclheffbeaaaDoorZGeneralSaysOwn
namespace Go.Proofs.YtakmclheffbeaaaDoor
open Go.RowKit
set_option linter.unusedSimpArgs false
set_option linter.unusedVariables false

/-- What stands for a pattern's variables, found knot by knot. -/
def mtL : List Tm → List Tm → List Bd → Option (List Bd)
  | [], _, h => some h
  | ⟨s, a⟩ :: r, ts, h => match ts with
    | [] => none
    | t :: ts' =>
      match (if varB s = true then (match forT h s with
          | some x => if sameB x t = true then some h else none
          | none => some (h ++ [⟨s, t⟩]))
        else if ((s.toList == t.name.toList) && (a.length == t.args.length)) = true then mtL a t.args h else none) with
      | some h' => mtL r ts' h'
      | none => none
def mtT (p t : Tm) (h : List Bd) : Option (List Bd) :=
  if varB p.name = true then (match forT h p.name with
      | some x => if sameB x t = true then some h else none
      | none => some (h ++ [⟨p.name, t⟩]))
    else if ((p.name.toList == t.name.toList) && (p.args.length == t.args.length)) = true then mtL p.args t.args h else none
end Go.Proofs.YtakmclheffbeaaaDoor

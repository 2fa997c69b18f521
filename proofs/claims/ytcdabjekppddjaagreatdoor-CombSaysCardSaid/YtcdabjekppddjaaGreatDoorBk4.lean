/- Plain: what a bracket is, and that, applied to a thing, it comes to the term with the thing in it (towards TopBracket). -/
import Derived.Test.YtcdabjekppddjaaGreatDoorBk3
import Derived.Test.YtcdabjekppddjaaGreatDoorOnM
namespace Go.Proofs.YtcdabjekppddjaaGreatDoor
set_option linter.unusedSimpArgs false
set_option linter.unusedVariables false

/-- A bracket's outcome, made such a term in any case. -/
def alw (p : Tm × Bool) : Tm := if p.2 = true then p.1 else apT ⟨kB, []⟩ p.1
/-- Such a term; or the term itself, where the variable doesn't stand in it. -/
def brR (v : ByteArray) : Nat → Tm → Tm × Bool
  | 0, t => (t, false)
  | n + 1, ⟨s, l⟩ => if s = v then (⟨iB, []⟩, true) else
    match l with
    | [f, x] => if (brR v n f).2 = false ∧ (brR v n x).2 = false then (⟨s, l⟩, false) else
        if (brR v n f).2 = false ∧ x.name = v then ((brR v n f).1, true) else
        (apT (apT ⟨sB, []⟩ (alw (brR v n f))) (alw (brR v n x)), true)
    | _ => (⟨s, l⟩, false)
end Go.Proofs.YtcdabjekppddjaaGreatDoor

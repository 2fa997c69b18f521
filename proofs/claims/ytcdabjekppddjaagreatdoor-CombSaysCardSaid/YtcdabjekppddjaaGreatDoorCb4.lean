/- Walks: the row that a term is, as the document says. -/
import Derived.Test.YtcdabjekppddjaaGreatDoorZCombSaysOwn
namespace Go.Proofs.YtcdabjekppddjaaGreatDoor
open Go.RowKit
set_option linter.unusedSimpArgs false
set_option linter.unusedVariables false
set_option maxRecDepth 8000

theorem Row.mono {w : World} {N N' T : Nat} {Y Y' : Nat → Prop} {v : Value} {l : List Tm} {xs : List Value} (h : Row w N T Y v l xs) (hY : ∀ b, Y b → Y' b) (hN : N' ≤ N) : Row w N' T Y' v l xs :=
  ⟨ownsRow_base h.own hN, h.row.imp fun a l hs => hs.mono fun b hb _ => hb.imp (hY b) fun h => ⟨by omega, h.2⟩⟩

end Go.Proofs.YtcdabjekppddjaaGreatDoor

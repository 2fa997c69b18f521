
/- Walks: what stands at a place, as the document says. -/
import Derived.Test.YtdencaekailmcaaZTopSomeOwn
import Derived.BigQuiet
import Derived.Deep.RegionHeld
namespace Go.Proofs.Ytdencaekailmcaa
open Go.RowKit
set_option linter.unusedSimpArgs false
set_option linter.unusedVariables false

theorem TV.back {w w' : World} {X : Nat → Prop} {v : Value} {t : Tm} {B : Nat} (h : TV w' X v t) (hb : Below B w w') (hX : ∀ b, X b → b < B) : TV w X v t := by
  obtain ⟨a, c, e, h⟩ := h
  exact ⟨a, c, e, h.back hb hX⟩

end Go.Proofs.Ytdencaekailmcaa

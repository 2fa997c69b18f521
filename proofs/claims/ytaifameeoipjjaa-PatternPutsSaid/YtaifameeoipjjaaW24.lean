
/- Walks: the places of a term, as the document says. -/
import Derived.Test.YtaifameeoipjjaaPl
import Derived.Test.YtaifameeoipjjaaZPatternPutsOwn
import Derived.Lib.Builder
namespace Go.Proofs.Ytaifameeoipjjaa
open Go.RowKit
set_option linter.unusedSimpArgs false
set_option linter.unusedVariables false

theorem PV.grownBy {w w' : World} {Z : Nat → Prop} {u : Value} {z : List Int} {r : Option Nat} (h : PV w Z u z) (hg : w.grownBy w' r) (hZ : ∀ b, Z b → some b ≠ r) : PV w' Z u z := by
  have h1 : PV w (fun b => Z b ∧ b < w.heap.size) u z := h.mono fun b h1 h2 => ⟨h1, h2⟩
  have h2 : PV w' (fun b => Z b ∧ b < w.heap.size) u z := h1.kept fun b hx => hg.block b hx.2 (hZ b hx.1)
  exact h2.mono fun b hx _ => hx.1

end Go.Proofs.Ytaifameeoipjjaa

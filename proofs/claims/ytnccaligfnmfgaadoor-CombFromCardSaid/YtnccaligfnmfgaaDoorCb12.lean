
/- Walks: one step, as the program does it. -/
import Derived.Test.YtnccaligfnmfgaaDoorCb11
import Derived.Test.YtnccaligfnmfgaaDoorCb5
namespace Go.Proofs.YtnccaligfnmfgaaDoor
open Go.RowKit
set_option linter.unusedSimpArgs false
set_option linter.unusedVariables false
set_option maxRecDepth 8000

theorem RoL.mono {w : World} {Y Y' : Nat → Prop} {B : Nat} {R : List Tm} (h : RoL w Y B R) (hY : ∀ b, Y b → Y' b) : RoL w Y' B R := by
  obtain ⟨al, cl, h1, h2, h3⟩ := h
  exact ⟨al, cl, h1, h2.mono fun b h _ => hY b h, h3⟩
end Go.Proofs.YtnccaligfnmfgaaDoor

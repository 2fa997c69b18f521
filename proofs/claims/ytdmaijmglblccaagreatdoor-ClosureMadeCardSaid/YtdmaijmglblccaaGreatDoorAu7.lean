
/- Walks: Either. -/
import Derived.Test.YtdmaijmglblccaaGreatDoorAu6
namespace Go.Proofs.YtdmaijmglblccaaGreatDoor
open Go.RowKit
set_option linter.unusedSimpArgs false
set_option linter.unusedVariables false
set_option maxRecDepth 8000

theorem AV.mono {w : World} {X Y : Nat → Prop} {v : Value} {A : Au} (h : AV w X v A) (hk : ∀ b, X b → b < w.heap.size → Y b) : AV w Y v A := by
  obtain ⟨am, cm, al, cl, e, h1, h2⟩ := h
  exact ⟨am, cm, al, cl, e, h1.mono hk, h2.mono hk⟩
theorem AV.ex {w w' : World} {O : Nat} {X : Nat → Prop} {v : Value} {A : Au} (h : AV w X v A) (he : Ex O w w') (hX : ∀ b, X b → b ≠ O) : AV w' X v A := by
  obtain ⟨am, cm, al, cl, e, h1, h2⟩ := h
  exact ⟨am, cm, al, cl, e, h1.ex he hX, h2.ex he hX⟩
end Go.Proofs.YtdmaijmglblccaaGreatDoor


/- Walks: rows made of rows: what closures tell of their places; the term of a row. -/
import Derived.Test.YtnccaligfnmfgaaDoorCb7
import Derived.Test.YtnccaligfnmfgaaDoorCb5
namespace Go.Proofs.YtnccaligfnmfgaaDoor
open Go.RowKit
set_option linter.unusedSimpArgs false
set_option linter.unusedVariables false
set_option maxRecDepth 8000

/-- A row R lies behind the closure over box B. -/
def RoL (w : World) (Y : Nat → Prop) (B : Nat) (R : List Tm) : Prop := ∃ al cl, Blk w B #[.slice al R.length cl] 29 ∧ Sl w Y al R.reverse ∧ R.length ≤ 100000
theorem RoL.later {w w' : World} {Y : Nat → Prop} {B : Nat} {R : List Tm} (h : RoL w Y B R) (hb : Below w.heap.size w w') : RoL w' Y B R := by
  obtain ⟨al, cl, h1, h2, h3⟩ := h
  exact ⟨al, cl, h1.below hb h1.lt, h2.later hb, h3⟩
theorem RoL.len {w : World} {Y : Nat → Prop} {B : Nat} {R : List Tm} (h : RoL w Y B R) : R.length ≤ 100000 := by
  obtain ⟨_, _, _, _, h⟩ := h
  exact h
end Go.Proofs.YtnccaligfnmfgaaDoor

/- Walks: one step, as the program does it. -/
import Derived.Test.YtcdabjekppddjaaGreatDoorCb11
import Derived.Test.YtcdabjekppddjaaGreatDoorCb5
namespace Go.Proofs.YtcdabjekppddjaaGreatDoor
open Go.RowKit
set_option linter.unusedSimpArgs false
set_option linter.unusedVariables false
set_option maxRecDepth 8000

theorem RoL.mono {w : World} {Y Y' : Nat → Prop} {B : Nat} {R : List Tm} (h : RoL w Y B R) (hY : ∀ b, Y b → Y' b) : RoL w Y' B R := by
  obtain ⟨al, cl, h1, h2, h3⟩ := h
  exact ⟨al, cl, h1, h2.mono fun b h _ => hY b h, h3⟩
/-- What is laid while the program looks for a step. -/
def CsI (w w1 : World) (B n : Nat) (wr : World) : Prop :=
  Below w.heap.size w wr ∧ Below w1.heap.size w1 wr ∧ Blk wr w1.heap.size #[.int .i64 (n : Int), ro1 B] 88 ∧ Blk wr (w.heap.size + 1) #[.string ⟨#[]⟩, .slice none 0 0] 24 ∧ w1.heap.size < wr.heap.size
theorem CsI.below {w w1 wr w2 : World} {B n : Nat} (h : CsI w w1 B n wr) (hb : Below wr.heap.size wr w2) (hw : w.heap.size + 2 ≤ w1.heap.size) : CsI w w1 B n w2 := by
  obtain ⟨h1, h2, h3, h4, h5⟩ := h
  have := hb.size
  exact ⟨h1.trans (hb.mono (by omega)), h2.trans (hb.mono (by omega)), h3.below hb (by omega), h4.below hb (by omega), by omega⟩
end Go.Proofs.YtcdabjekppddjaaGreatDoor

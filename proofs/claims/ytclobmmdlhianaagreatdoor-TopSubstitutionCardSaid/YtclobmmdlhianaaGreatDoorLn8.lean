
/- Walks: the document's outermost step. -/
import Derived.Test.YtclobmmdlhianaaGreatDoorLn4
import Derived.Test.YtclobmmdlhianaaGreatDoorL13
namespace Go.Proofs.YtclobmmdlhianaaGreatDoor
open Go.RowKit
set_option linter.unusedSimpArgs false
set_option linter.unusedVariables false
set_option maxRecDepth 8000

theorem LmSet.later {w wr w' : World} {Y : Nat → Prop} {O n c : Nat} {kd ix : Int} {a : Option Addr} {u : Value} {L : List Lm} (h : LmSet w Y O kd ix a n c u L wr) (hb : Below wr.heap.size wr w') : LmSet w Y O kd ix a n c u L w' := by
  obtain ⟨xs, h1, h2, h3, h4, h5, h6⟩ := h
  exact ⟨xs, h1.below hb, h2.trans (hb.mono h2.size), h3.below hb h3.lt, h4.below hb h4.lt, h5.below hb h5.lt, by have := hb.size; omega⟩
theorem LmSet.row {w wr : World} {Y : Nat → Prop} {O n c : Nat} {kd ix : Int} {a : Option Addr} {u : Value} {L : List Lm} (h : LmSet w Y O kd ix a n c u L wr) : Blk wr O #[.int .i64 kd, .int .i64 ix, u] 25 := by
  obtain ⟨xs, h1, h2, h3, h4, h5, h6⟩ := h
  exact h5
end Go.Proofs.YtclobmmdlhianaaGreatDoor

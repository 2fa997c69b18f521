
/- Walks: the document's outermost step. -/
import Derived.Test.YtlcbpfeeafibmaaGreatDoorLn4
import Derived.Test.YtlcbpfeeafibmaaGreatDoorL13
namespace Go.Proofs.YtlcbpfeeafibmaaGreatDoor
open Go.RowKit
set_option linter.unusedSimpArgs false
set_option linter.unusedVariables false
set_option maxRecDepth 8000

theorem repF_append (f : Lm → Lm) : ∀ a b : List Lm, repF f (a ++ b) = if stepM a = true then repF f a ++ b else a ++ repF f b
  | [], b => by simp [stepM]
  | y :: r, b => by
    have e : stepM (y :: r) = (stepM [y] || stepM r) := stepM_append [y] r
    rw [List.cons_append]
    cases h : stepM [y] with
    | true => rw [e, h]; simp [repF, h]
    | false =>
      rw [e, h, Bool.false_or]
      rw [repF, h, if_neg (by simp), repF_append f r b]
      by_cases h2 : stepM r = true
      · rw [if_pos h2, if_pos h2, repF, h, if_neg (by simp)]; rfl
      · rw [if_neg h2, if_neg h2]; rfl
theorem repF_take (f : Lm → Lm) (l : List Lm) (k : Nat) (h : k < l.length) : repF f (l.take (k + 1)) = repF f (l.take k) ++ [if stepM (l.take k) = false ∧ stepM [l[k]] = true then f l[k] else l[k]] := by
  rw [List.take_succ_eq_append_getElem h, repF_append]
  cases h1 : stepM (l.take k) with
  | true => simp
  | false =>
    rw [if_neg (by simp), repF_none f _ h1]
    cases h2 : stepM [l[k]] with
    | true => simp [repF, h2]
    | false => simp [repF, h2]
theorem LmSet.later {w wr w' : World} {Y : Nat → Prop} {O n c : Nat} {kd ix : Int} {a : Option Addr} {u : Value} {L : List Lm} (h : LmSet w Y O kd ix a n c u L wr) (hb : Below wr.heap.size wr w') : LmSet w Y O kd ix a n c u L w' := by
  obtain ⟨xs, h1, h2, h3, h4, h5, h6⟩ := h
  exact ⟨xs, h1.below hb, h2.trans (hb.mono h2.size), h3.below hb h3.lt, h4.below hb h4.lt, h5.below hb h5.lt, by have := hb.size; omega⟩
theorem LmSet.row {w wr : World} {Y : Nat → Prop} {O n c : Nat} {kd ix : Int} {a : Option Addr} {u : Value} {L : List Lm} (h : LmSet w Y O kd ix a n c u L wr) : Blk wr O #[.int .i64 kd, .int .i64 ix, u] 25 := by
  obtain ⟨xs, h1, h2, h3, h4, h5, h6⟩ := h
  exact h5
theorem LmSet.top {w wr : World} {Y : Nat → Prop} {O n c : Nat} {kd ix : Int} {a : Option Addr} {u : Value} {L : List Lm} (h : LmSet w Y O kd ix a n c u L wr) : Blk wr w.heap.size #[.int .i64 kd, .int .i64 ix, .slice a n c] 25 := by
  obtain ⟨xs, h1, h2, h3, h4, h5, h6⟩ := h
  exact h3

end Go.Proofs.YtlcbpfeeafibmaaGreatDoor

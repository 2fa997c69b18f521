
/- The law TopWithin, if AutoFrom is as it is said to be. -/
import Derived.Test.YtgpmlfjhihcfhaaAx5
import Derived.Test.YtgpmlfjhihcfhaaAu11
import Derived.Test.YtgpmlfjhihcfhaaAv17
namespace Go.Proofs.Ytgpmlfjhihcfhaa
open Go.RowKit
set_option linter.unusedSimpArgs false
set_option linter.unusedVariables false
set_option maxRecDepth 8000

theorem few_two {A B : Au} (hA : OkAu 8 40 A) (sA : smB A = true) (hB : OkAu 8 40 B) (sB : smB B = true) : fewL [A, B] = 0 := by
  unfold fewL
  rw [if_pos (eachL_ok (by simp [auE_zero.2 hA, auE_zero.2 hB])), if_pos (by simp [sA, sB])]
theorem within_good {A B : Au} {w w' : World} {e : Ending} (h : e = .returned (.tuple #[.bool (wiR A B), .int .i64 (fewL [A, B])]) ∧ Below w.heap.size w w') (h0 : fewL [A, B] = 0) (z : Bool) (hz : z = wiB A B) : e = .returned (.tuple #[.bool z, .int .i64 0]) ∧ Below w.heap.size w w' := by
  obtain ⟨h1, h2⟩ := h
  have e1 : wiR A B = wiB A B := if_pos h0
  rw [h0, e1, ← hz] at h1
  exact ⟨h1, h2⟩
/-- An automaton in a box, from now on. -/
theorem EvS.boxA {P : World → Prop} {w1 w2 : World} {Y : Nat → Prop} {A : Au} {am al : Option Addr} {cm cl T : Nat} (K : EvS P w1) (hb : Below w1.heap.size w1 w2) (ha : AV w2 Y (.agg #[.int .i64 A.st, .slice am A.mv.length cm, .slice al A.la.length cl]) A) : EvS (fun w => P w ∧ Blk w w2.heap.size #[.int .i64 A.st, .slice am A.mv.length cm, .slice al A.la.length cl] T ∧ AV w Y (.agg #[.int .i64 A.st, .slice am A.mv.length cm, .slice al A.la.length cl]) A) (w2.alloc (.cells #[.int .i64 A.st, .slice am A.mv.length cm, .slice al A.la.length cl] T)) :=
  ((K.later hb).alloc _).and ((evS_blk (Blk.new w2 _ _)).and ((evS_av ha).alloc _))

end Go.Proofs.Ytgpmlfjhihcfhaa

/- What a run answers; what is kept on the way. -/
import Derived.Test.YtaifameeoipjjaaLn7
import Derived.Test.YtaifameeoipjjaaLn8
namespace Go.Proofs.Ytaifameeoipjjaa
open Go.RowKit
set_option linter.unusedSimpArgs false
set_option linter.unusedVariables false
set_option maxRecDepth 8000

/-- What a run answers. -/
def RnPost (inn : Bool) (m : Nat) (t : Lm) (X : Nat → Prop) (w : World) (e : Ending) (w' : World) : Prop :=
  Below w.heap.size w w' ∧ (((endM inn m t).1 = 0 ∧ ∃ a c, e = .returned (.tuple #[.agg #[.int .i64 (endM inn m t).2.1.kind, .int .i64 (endM inn m t).2.1.idx, .slice a (endM inn m t).2.1.subs.length c], .int .i64 ((endM inn m t).2.2 : Int), .int .i64 0]) ∧ SlM w' (fun b => (X b ∧ b < w.heap.size) ∨ w.heap.size ≤ b) a (endM inn m t).2.1.subs) ∨
    ((endM inn m t).1 ≠ 0 ∧ e = .returned (.tuple #[.agg #[.int .i64 0, .int .i64 0, .slice none 0 0], .int .i64 0, .int .i64 (endM inn m t).1])))
def RuY (w : World) (X : Nat → Prop) (b : Nat) : Prop := (X b ∧ b < w.heap.size) ∨ w.heap.size + 2 ≤ b
def RuI (inn : Bool) (u : Int) (w : World) (X : Nat → Prop) (m : Nat) (t0 : Lm) (i : Value) (wr : World) : Prop :=
  ∃ (d : Nat) (t : Lm) (a : Option Addr) (c : Nat), i = .int .i64 (d : Int) ∧ OnWayM inn u m t0 d t ∧ Below w.heap.size w wr ∧ w.heap.size + 2 ≤ wr.heap.size ∧ Blk wr w.heap.size #[.int .i64 t.kind, .int .i64 t.idx, .slice a t.subs.length c] 24 ∧ Blk wr (w.heap.size + 1) #[.int .i64 0, .int .i64 0, .slice none 0 0] 24 ∧ SlM wr (RuY w X) a t.subs
theorem ruY_keep {w W : World} {X : Nat → Prop} {a : Option Addr} {l : List Lm} (h : SlM W (RuY w X) a l) (j : Nat) (hj : j = w.heap.size ∨ j = w.heap.size + 1) (u u' u'' : Value) : SlM (((W.setCell ⟨j, 0, none⟩ u).setCell ⟨j, 1, none⟩ u').setCell ⟨j, 2, none⟩ u'') (RuY w X) a l := by
  refine h.kept fun b hb => ?_
  have hne : b ≠ j := by rcases hb with hb | hb <;> omega
  rw [Below.heap_setCell _ _ _ _ (by simpa using hne), Below.heap_setCell _ _ _ _ (by simpa using hne), Below.heap_setCell _ _ _ _ (by simpa using hne)]
theorem bl_set3 {w W : World} (h : Below w.heap.size w W) (j : Nat) (hj : w.heap.size ≤ j) (u u' u'' : Value) : Below w.heap.size w (((W.setCell ⟨j, 0, none⟩ u).setCell ⟨j, 1, none⟩ u').setCell ⟨j, 2, none⟩ u'') :=
  ((h.setCell (p := ⟨j, 0, none⟩) (by simpa using hj) _).setCell (p := ⟨j, 1, none⟩) (by simpa using hj) _).setCell (p := ⟨j, 2, none⟩) (by simpa using hj) _
theorem blk_set3 {W : World} {A T : Nat} {x0 x1 x2 : Value} (h : Blk W A #[x0, x1, x2] T) (u u' u'' : Value) : Blk (((W.setCell ⟨A, 0, none⟩ u).setCell ⟨A, 1, none⟩ u').setCell ⟨A, 2, none⟩ u'') A #[u, u', u''] T := by
  have := ((h.set 0 u).set 1 u').set 2 u''
  simpa using this
theorem blk_set3o {W : World} {A B T : Nat} {cs : Array Value} (h : Blk W A cs T) (hn : A ≠ B) (u u' u'' : Value) : Blk (((W.setCell ⟨B, 0, none⟩ u).setCell ⟨B, 1, none⟩ u').setCell ⟨B, 2, none⟩ u'') A cs T := ((h.setOther 0 u hn).setOther 1 u' hn).setOther 2 u'' hn

end Go.Proofs.Ytaifameeoipjjaa

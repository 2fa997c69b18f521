/- Walks: one step, as the document says. -/
import Derived.Test.YtcdabjekppddjaaGreatDoorCb4
namespace Go.Proofs.YtcdabjekppddjaaGreatDoor
open Go.RowKit
set_option linter.unusedSimpArgs false
set_option linter.unusedVariables false
set_option maxRecDepth 8000

/-- Memory that what is made may lie in. -/
def StY (w : World) (X : Nat → Prop) (O : Nat) (b : Nat) : Prop := (X b ∧ b < w.heap.size) ∨ (w.heap.size + 2 ≤ b ∧ b ≠ O)
/-- What is laid while a step is made: the front's box, the box of what is made, the result's. -/
def StI (w w1 : World) (X : Nat → Prop) (h : Tm) (ah : Option Addr) (ch : Nat) (x : Tm) (wr : World) : Prop :=
  Below w.heap.size w wr ∧ Below w1.heap.size w1 wr ∧ Blk wr w1.heap.size #[.string h.name, .slice ah 0 ch] 24 ∧ Blk wr (w.heap.size + 1) #[.string ⟨#[]⟩, .slice none 0 0] 24 ∧ w1.heap.size + 1 < wr.heap.size ∧
  ∃ ax cx, Blk wr (w1.heap.size + 1) #[.string x.name, .slice ax x.args.length cx] 24 ∧ Sl wr (StY w X (w1.heap.size + 1)) ax x.args

theorem StI.below {w w1 wr w2 : World} {X : Nat → Prop} {h x : Tm} {ah : Option Addr} {ch : Nat} (hi : StI w w1 X h ah ch x wr) (hb : Below wr.heap.size wr w2) (hw : w.heap.size + 2 ≤ w1.heap.size) : StI w w1 X h ah ch x w2 := by
  obtain ⟨h1, h2, h3, h4, h5, ax, cx, h6, h7⟩ := hi
  have := h1.size
  have := hb.size
  exact ⟨h1.trans (hb.mono (by omega)), h2.trans (hb.mono (by omega)), h3.below hb (by omega), h4.below hb (by omega), by omega, ax, cx, h6.below hb (by omega), h7.later hb⟩
/-- Another one is stored. -/
theorem StI.put {w w1 wr : World} {X : Nat → Prop} {h x y : Tm} {ah ay : Option Addr} {ch cy : Nat} (hi : StI w w1 X h ah ch x wr) (hw : w.heap.size + 2 ≤ w1.heap.size) (hy : Sl wr (StY w X (w1.heap.size + 1)) ay y.args) :
    StI w w1 X h ah ch y ((wr.setCell ⟨w1.heap.size + 1, 0, none⟩ (.string y.name)).setCell ⟨w1.heap.size + 1, 1, none⟩ (.slice ay y.args.length cy)) := by
  obtain ⟨h1, h2, h3, h4, h5, ax, cx, h6, h7⟩ := hi
  refine ⟨(h1.setCell (p := ⟨w1.heap.size + 1, 0, none⟩) (by simp; omega) _).setCell (p := ⟨w1.heap.size + 1, 1, none⟩) (by simp; omega) _, (h2.setCell (p := ⟨w1.heap.size + 1, 0, none⟩) (by simp) _).setCell (p := ⟨w1.heap.size + 1, 1, none⟩) (by simp) _, (h3.setOther _ _ (by omega)).setOther _ _ (by omega), (h4.setOther _ _ (by omega)).setOther _ _ (by omega), by simp [World.setCell]; omega, ay, cy, (h6.set 0 _).set 1 _, ?_⟩
  refine hy.kept fun b hb => ?_
  have hne : b ≠ w1.heap.size + 1 := by rcases hb with hb | hb <;> omega
  rw [Below.heap_setCell _ _ _ _ (by simpa using hne), Below.heap_setCell _ _ _ _ (by simpa using hne)]
/-- What the row that a term is says of its step. -/
structure RwF (n : Nat) (t H : Tm) (L : List Tm) : Prop where
  args : H.args = []
  len : L.length < sizeL [t]
  isC : ∀ j (hj : j < L.length), isC L[j] = true ∧ sizeL [L[j]] < sizeL [t]
  work : ∀ x, workC H.name L = some x → stepN (n + 1) t = some x
  non : workC H.name L = none → (∀ j (hj : j < L.length), stepN n L[j] = none) → stepN (n + 1) t = none
  som : ∀ (y : Tm) (i : Nat) (hi : i < L.length), workC H.name L = none → (∀ j (hj : j < i), stepN n (L[j]'(by omega)) = none) → stepN n L[i] = some y → stepN (n + 1) t = some (apAll H (L.set i y))
theorem drew_below {w w2 : World} (h : Below w.heap.size w.drew w2) : Below w.heap.size w w2 := (below_drewN (Below.refl _ _) 1).trans h
end Go.Proofs.YtcdabjekppddjaaGreatDoor

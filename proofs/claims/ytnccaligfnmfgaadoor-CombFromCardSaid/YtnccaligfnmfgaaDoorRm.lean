/- Rows of lambda terms. -/
import Derived.Test.YtnccaligfnmfgaaDoorLm
import Derived.Test.YtnccaligfnmfgaaDoorZCombFromOwn
namespace Go.Proofs.YtnccaligfnmfgaaDoor
open Go.RowKit
set_option linter.unusedSimpArgs false
set_option linter.unusedVariables false

/-- These cells are these lambda terms. -/
def RowTM (w : World) (X : Nat → Prop) : List Lm → List Value → Prop
  | [], xs => xs = []
  | t :: l, xs => ∃ a c r, xs = .int .i64 t.kind :: .int .i64 t.idx :: .slice a t.subs.length c :: r ∧ SlM w X a t.subs ∧ RowTM w X l r
theorem RowTM.len {w : World} {X : Nat → Prop} : ∀ {l : List Lm} {xs : List Value}, RowTM w X l xs → xs.length = l.length * 3
  | [], xs, h => by simp [RowTM] at h; simp [h]
  | t :: l, xs, h => by
    obtain ⟨a, c, r, rfl, _, h⟩ := h
    simp only [List.length_cons]
    rw [RowTM.len h]; omega
theorem RowTM.append {w : World} {X : Nat → Prop} : ∀ {l k : List Lm} {xs ys : List Value}, RowTM w X l xs → RowTM w X k ys → RowTM w X (l ++ k) (xs ++ ys)
  | [], k, xs, ys, h, h' => by simp [RowTM] at h; subst h; simpa using h'
  | t :: l, k, xs, ys, h, h' => by
    obtain ⟨a, c, r, rfl, hs, h⟩ := h
    exact ⟨a, c, r ++ ys, rfl, hs, RowTM.append h h'⟩
theorem RowTM.imp {w w' : World} {X Y : Nat → Prop} (hs : ∀ a l, SlM w X a l → SlM w' Y a l) : ∀ {l : List Lm} {xs : List Value}, RowTM w X l xs → RowTM w' Y l xs
  | [], xs, h => h
  | t :: l, xs, h => by
    obtain ⟨a, c, r, e, h1, h⟩ := h
    exact ⟨a, c, r, e, hs _ _ h1, RowTM.imp hs h⟩
/-- The row so far, apart from what its terms are made of: old memory that Y lets, and new memory. -/
structure RowM (w : World) (N : Nat) (T : Nat) (Y : Nat → Prop) (v : Value) (l : List Lm) (xs : List Value) : Prop where
  own : w.ownsRow N T 3 v l.length xs
  row : RowTM w (fun b => Y b ∨ (N ≤ b ∧ some b ≠ v.ownBlock)) l xs

theorem RowM.below {w w' : World} {N T : Nat} {Y : Nat → Prop} {v : Value} {l : List Lm} {xs : List Value} (h : RowM w N T Y v l xs) (hb : Below w.heap.size w w') : RowM w' N T Y v l xs :=
  ⟨h.own.kept (w' := w') (row := none) ⟨hb.os, hb.tape, hb.output, hb.size, fun j hj _ => hb.block j hj⟩ (by rcases Option.eq_none_or_eq_some (Value.ownBlock v) with h | ⟨x, h⟩; exact Or.inl h; exact Or.inr (by rw [h]; simp)),
   h.row.imp fun a l h => h.later hb⟩

/-- A store into a block that is none of the row's. -/
theorem RowM.setCell {w : World} {N T : Nat} {Y : Nat → Prop} {v : Value} {l : List Lm} {xs : List Value} (h : RowM w N T Y v l xs) {b i : Nat} (hb : b < N) (hY : ¬ Y b) (u : Value) : RowM (w.setCell ⟨b, i, none⟩ u) N T Y v l xs :=
  ⟨ownsRow_setCell_below h.own (by simpa using hb) u, h.row.imp fun a k hs => hs.kept fun c hc => Below.heap_setCell _ _ _ _ (by
    simp
    rcases hc with hc | hc
    · intro e; subst e; exact hY hc
    · omega)⟩

end Go.Proofs.YtnccaligfnmfgaaDoor

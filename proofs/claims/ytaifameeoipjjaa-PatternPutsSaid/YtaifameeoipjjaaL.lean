/- Lists of things of one cell each. -/
import Derived.Test.YtaifameeoipjjaaZPatternPutsOwn
namespace Go.Proofs.Ytaifameeoipjjaa
open Go.RowKit
set_option linter.unusedSimpArgs false
set_option linter.unusedVariables false

/-- A list in memory, a cell each. -/
def LV {α : Type} (f : α → Value) (w : World) (X : Nat → Prop) (v : Value) (l : List α) : Prop :=
  ∃ a c, v = .slice a l.length c ∧ (l.length ≤ 9223372036854775807 ∧ l.length ≤ c) ∧ (l = [] ∨ ∃ b o, a = some ⟨b, o, none⟩ ∧ X b ∧ ∀ i (h : i < l.length), w.cell? ⟨b, o + i, none⟩ = some (f l[i]))

theorem LV.kept {α : Type} {f : α → Value} {w w' : World} {X : Nat → Prop} {v : Value} {l : List α} (h : LV f w X v l) (hk : ∀ b, X b → w'.heap[b]? = w.heap[b]?) : LV f w' X v l := by
  obtain ⟨a, c, e, hl, h⟩ := h
  refine ⟨a, c, e, hl, ?_⟩
  rcases h with h | ⟨b, o, e, hx, h⟩
  · exact Or.inl h
  · exact Or.inr ⟨b, o, e, hx, fun i hi => by rw [World.cell?_of_block (hk b hx)]; exact h i hi⟩

theorem LV.mono {α : Type} {f : α → Value} {w : World} {X Y : Nat → Prop} {v : Value} {l : List α} (h : LV f w X v l) (hk : ∀ b, X b → b < w.heap.size → Y b) : LV f w Y v l := by
  obtain ⟨a, c, e, hl, h⟩ := h
  refine ⟨a, c, e, hl, ?_⟩
  rcases h with h | ⟨b, o, e, hx, h⟩
  · exact Or.inl h
  · by_cases h0 : l = []
    · exact Or.inl h0
    · have hp : 0 < l.length := List.length_pos_iff.2 h0
      exact Or.inr ⟨b, o, e, hk b hx (World.block_lt_of_cell? w _ (h 0 hp)), h⟩

theorem LV.below {α : Type} {f : α → Value} {w w' : World} {X : Nat → Prop} {v : Value} {l : List α} {B : Nat} (h : LV f w X v l) (hb : Below B w w') (hX : ∀ b, X b → b < w.heap.size → b < B) : LV f w' X v l := by
  have h1 : LV f w (fun b => X b ∧ b < B) v l := h.mono fun b hx hs => ⟨hx, hX b hx hs⟩
  have h2 : LV f w' (fun b => X b ∧ b < B) v l := h1.kept fun b hx => hb.block b hx.2
  exact h2.mono fun b hx _ => hx.1

theorem LV.later {α : Type} {f : α → Value} {w w' : World} {X : Nat → Prop} {v : Value} {l : List α} (h : LV f w X v l) (hb : Below w.heap.size w w') : LV f w' X v l := h.below hb (fun _ _ h => h)
theorem LV.alloc {α : Type} {f : α → Value} {w : World} {X : Nat → Prop} {v : Value} {l : List α} (h : LV f w X v l) (o : Obj) : LV f (w.alloc o) X v l := h.later ((Below.refl _ _).alloc (Nat.le_refl _) o)

end Go.Proofs.Ytaifameeoipjjaa

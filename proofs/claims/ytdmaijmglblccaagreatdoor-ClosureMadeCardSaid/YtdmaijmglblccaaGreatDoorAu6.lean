
/- Walks: one automaton beside the other. -/
import Derived.Test.YtdmaijmglblccaaGreatDoorAu5
namespace Go.Proofs.YtdmaijmglblccaaGreatDoor
open Go.RowKit
set_option linter.unusedSimpArgs false
set_option linter.unusedVariables false
set_option maxRecDepth 8000

theorem PV.ex {w w' : World} {O : Nat} {X : Nat → Prop} {v : Value} {zs : List Int} (h : PV w X v zs) (he : Ex O w w') (hX : ∀ b, X b → b ≠ O) : PV w' X v zs :=
  ((h.mono (Y := fun b => X b ∧ b < w.heap.size) fun b h1 h2 => ⟨h1, h2⟩).kept fun b hb => he.block b hb.2 (hX b hb.1)).mono fun b hb _ => hb.1
theorem cell_ex {w w' : World} {O b o : Nat} {u : Value} (h : w.cell? ⟨b, o, none⟩ = some u) (he : Ex O w w') (hb : b ≠ O) : w'.cell? ⟨b, o, none⟩ = some u := by
  rw [World.cell?_of_block (he.block b (cell_ltA h) hb)]; exact h
theorem SlV.ex {w w' : World} {O : Nat} {X : Nat → Prop} {a : Option Addr} {l : List Mv} (h : SlV w X a l) (he : Ex O w w') (hX : ∀ b, X b → b ≠ O) : SlV w' X a l := by
  obtain ⟨hl, h⟩ := h
  refine ⟨hl, ?_⟩
  rcases h with h | ⟨b, o, e, hx, h⟩
  · exact Or.inl h
  · refine Or.inr ⟨b, o, e, hx, fun i hi => ?_⟩
    obtain ⟨g0, ⟨a', c', g1, g2⟩, g3⟩ := h i hi
    exact ⟨cell_ex g0 he (hX b hx), ⟨a', c', cell_ex g1 he (hX b hx), g2.ex he hX⟩, cell_ex g3 he (hX b hx)⟩
end Go.Proofs.YtdmaijmglblccaaGreatDoor

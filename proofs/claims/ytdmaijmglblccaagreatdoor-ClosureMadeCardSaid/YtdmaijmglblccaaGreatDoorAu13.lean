
/- Walks: where a term may end, as the document says. -/
import Derived.Test.YtdmaijmglblccaaGreatDoorAu12
import Derived.Test.YtdmaijmglblccaaGreatDoorAu10a
import Derived.Test.YtdmaijmglblccaaGreatDoorZClosureMadeOwn
import Derived.Laws.OwnMore
import Derived.Deep.RegionHeld3
namespace Go.Proofs.YtdmaijmglblccaaGreatDoor
open Go.RowKit
set_option linter.unusedSimpArgs false
set_option linter.unusedVariables false
set_option maxRecDepth 8000

theorem LV.at {α : Type} {f : α → Value} {w wr : World} {X : Nat → Prop} {a : Option Addr} {n c : Nat} {l : List α} (h : LV f w X (.slice a n c) l) (hb : Below w.heap.size w wr) (k : Nat) (hk : k < l.length) : ∃ b o, a = some ⟨b, o, none⟩ ∧ b < w.heap.size ∧ wr.cell? ⟨b, o + k, none⟩ = some (f l[k]) := by
  obtain ⟨a', c', e, _, h⟩ := h
  simp only [Value.slice.injEq] at e
  obtain ⟨rfl, rfl, rfl⟩ := e
  rcases h with h0 | ⟨b, o, e, hx, h1⟩
  · subst h0; simp at hk
  · have hl := cell_ltA (h1 k hk)
    exact ⟨b, o, e, hl, (hb.cell (p := ⟨b, o + k, none⟩) hl).trans (h1 k hk)⟩
/-- Rows of answers in memory. -/
def BLs (w : World) (X : Nat → Prop) (v : Value) (bs : List (List Bool)) : Prop := ∃ a c, v = .slice a bs.length c ∧ bs.length ≤ 9223372036854775807 ∧ (bs = [] ∨ ∃ b o, a = some ⟨b, o, none⟩ ∧ ∀ i (h : i < bs.length), ∃ a' c', w.cell? ⟨b, o + i, none⟩ = some (.slice a' bs[i].length c') ∧ LV Value.bool w X (.slice a' bs[i].length c') bs[i])
theorem BLs.get {w wr : World} {X : Nat → Prop} {a : Option Addr} {n c : Nat} {bs : List (List Bool)} (h : BLs w X (.slice a n c) bs) (hb : Below w.heap.size w wr) (k : Nat) (hk : k < bs.length) : ∃ b o a' c', a = some ⟨b, o, none⟩ ∧ b < w.heap.size ∧ wr.cell? ⟨b, o + k, none⟩ = some (.slice a' bs[k].length c') ∧ LV Value.bool wr X (.slice a' bs[k].length c') bs[k] := by
  obtain ⟨a0, c0, e, _, h⟩ := h
  simp only [Value.slice.injEq] at e
  obtain ⟨rfl, rfl, rfl⟩ := e
  rcases h with h0 | ⟨b, o, e, h1⟩
  · subst h0; simp at hk
  · obtain ⟨a', c', h2, h3⟩ := h1 k hk
    exact ⟨b, o, a', c', e, cell_ltA h2, (hb.cell (p := ⟨b, o + k, none⟩) (cell_ltA h2)).trans h2, h3.later hb⟩
theorem BLs.later {w w' : World} {X : Nat → Prop} {v : Value} {bs : List (List Bool)} (h : BLs w X v bs) (hb : Below w.heap.size w w') : BLs w' X v bs := by
  obtain ⟨a, c, e, hl, h⟩ := h
  refine ⟨a, c, e, hl, ?_⟩
  rcases h with h | ⟨b, o, e, h⟩
  · exact Or.inl h
  · refine Or.inr ⟨b, o, e, fun i hi => ?_⟩
    obtain ⟨a', c', h1, h2⟩ := h i hi
    exact ⟨a', c', (hb.cell (p := ⟨b, o + i, none⟩) (cell_ltA h1)).trans h1, h2.later hb⟩

end Go.Proofs.YtdmaijmglblccaaGreatDoor

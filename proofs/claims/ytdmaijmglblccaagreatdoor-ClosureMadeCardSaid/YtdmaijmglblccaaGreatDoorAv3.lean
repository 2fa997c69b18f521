
/- The table of moves by symbols, while it is made. -/
import Derived.Test.YtdmaijmglblccaaGreatDoorAv2
import Derived.Test.YtdmaijmglblccaaGreatDoorZClosureMadeOwn
namespace Go.Proofs.YtdmaijmglblccaaGreatDoor
open Go.RowKit
open Go.WideMaps
set_option linter.unusedSimpArgs false
set_option linter.unusedVariables false
set_option maxRecDepth 8000

def symM (m : Mv) : Sy := (m.name, m.frm.length)
/-- Of each symbol there is a move. -/
def NeG (ms : List Mv) (L : List Sy) : Prop := ∀ x ∈ L, ∃ m ∈ ms, symM m = x
def NeS (ms : List Mv) (s : Sy) (L : List Sy) : Prop := ∀ x ∈ L, x = s ∨ ∃ m ∈ ms, symM m = x
theorem NeG.new {ms : List Mv} {L : List Sy} (h : NeG ms L) (s : Sy) : NeS ms s (L ++ [s]) := fun x hx => by
  rcases List.mem_append.1 hx with hx | hx
  · exact Or.inr (h x hx)
  · exact Or.inl (by simpa using hx)
/-- The table as it is read. -/
structure TabV (w : World) (v : Value) (ms : List Mv) : Prop where
  ex : ∃ (r : Nat) (L : List Sy) (a : Option Addr) (c : Nat), v = .agg #[.map (some r), .slice a L.length c] ∧ MapY w r L ∧ L.length ≤ 100000 ∧ ((∀ m ∈ ms, symM m ∈ L) ∧ NeG ms L) ∧ ∀ (i : Nat) (h : i < L.length), ∃ b o ai ci, a = some ⟨b, o, none⟩ ∧ w.cell? ⟨b, o + i, none⟩ = some (.slice ai (grp ms L[i]).length ci) ∧ SlV w (fun _ => True) ai (grp ms L[i])
theorem TabV.later {w w' : World} {v : Value} {ms : List Mv} (h : TabV w v ms) (hb : Below w.heap.size w w') : TabV w' v ms := by
  obtain ⟨r, L, a, c, e, hm, hl, ha, h1⟩ := h.ex
  refine ⟨r, L, a, c, e, hm.kept (hb.block r hm.lt), hl, ha, fun i hi => ?_⟩
  obtain ⟨b, o, ai, ci, e1, e2, e3⟩ := h1 i hi
  exact ⟨b, o, ai, ci, e1, (hb.cell (p := ⟨b, o + i, none⟩) (cell_ltA e2)).trans e2, e3.later hb⟩
end Go.Proofs.YtdmaijmglblccaaGreatDoor

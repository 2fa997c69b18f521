
/- Both at once: plain, and the closure. -/
import Derived.Test.YtdmaijmglblccaaGreatDoorAu9
namespace Go.Proofs.YtdmaijmglblccaaGreatDoor
open Go.RowKit
set_option linter.unusedSimpArgs false
set_option linter.unusedVariables false
set_option maxRecDepth 8000

theorem SlV.at {w : World} {X : Nat → Prop} {a : Option Addr} {l : List Mv} (h : SlV w X a l) (k : Nat) (hk : k < l.length) :
    ∃ b o af cf, a = some ⟨b, o, none⟩ ∧ X b ∧ w.cell? ⟨b, o + k * 3, none⟩ = some (.string l[k].name) ∧ w.cell? ⟨b, o + k * 3 + 1, none⟩ = some (.slice af l[k].frm.length cf) ∧ w.cell? ⟨b, o + k * 3 + 2, none⟩ = some (.int .i64 l[k].to) ∧ PV w X (.slice af l[k].frm.length cf) l[k].frm := by
  rcases h.2 with h0 | ⟨b, o, e, hx, h1⟩
  · subst h0; simp at hk
  · obtain ⟨g0, ⟨a', c', g1, g2⟩, g3⟩ := h1 k hk
    exact ⟨b, o, a', c', e, hx, g0, g1, g3, g2⟩
end Go.Proofs.YtdmaijmglblccaaGreatDoor

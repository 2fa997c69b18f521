
/- Walks: the text of a lambda term, as the document writes it. -/
import Derived.Test.YtclobmmdlhianaaGreatDoorZDTopSubstitutionOwn
import Derived.Test.YtclobmmdlhianaaGreatDoorL4
import Derived.Laws.OwnMore
namespace Go.Proofs.YtclobmmdlhianaaGreatDoor
open Go.RowKit
set_option linter.unusedSimpArgs false
set_option linter.unusedVariables false
set_option maxRecDepth 8000

theorem cell_is {w w' : World} {p : Addr} {v : Value} (h : w.cell? p = some v) (hb : Below w.heap.size w w') : w'.cell? p = some v := by
  have hlt : p.block < w.heap.size := by
    apply Classical.byContradiction
    intro hn
    have : w.cell? p = none := by
      unfold World.cell?
      rw [Array.getElem?_eq_none (by omega)]
    rw [this] at h; cases h
  rw [hb.cell hlt]; exact h
theorem str_cat (a b : List UInt8) : (⟨a.toArray⟩ : ByteArray) ++ ⟨b.toArray⟩ = ⟨(a ++ b).toArray⟩ := by
  apply ByteArray.ext
  simp

end Go.Proofs.YtclobmmdlhianaaGreatDoor


/- Walks: the text of a lambda term, as the document writes it. -/
import Derived.Test.YtnccaligfnmfgaaDoorLt3
import Derived.Test.YtnccaligfnmfgaaDoorL4
import Derived.Laws.OwnMore
namespace Go.Proofs.YtnccaligfnmfgaaDoor
open Go.RowKit
set_option linter.unusedSimpArgs false
set_option linter.unusedVariables false
set_option maxRecDepth 8000

theorem str_cat (a b : List UInt8) : (⟨a.toArray⟩ : ByteArray) ++ ⟨b.toArray⟩ = ⟨(a ++ b).toArray⟩ := by
  apply ByteArray.ext
  simp

end Go.Proofs.YtnccaligfnmfgaaDoor

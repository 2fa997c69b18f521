/- The text of a term, as bytes. -/
import Derived.Test.YtdmaijmglblccaaGreatDoorZClosureSaysOwn
namespace Go.Proofs.YtdmaijmglblccaaGreatDoor
open Go.RowKit
set_option maxRecDepth 8000

def txB (t : Tm) : ByteArray := ⟨(txtL [t]).toArray⟩
end Go.Proofs.YtdmaijmglblccaaGreatDoor

/- A term with what stands for its variables, as the document says. -/
import Derived.Test.YtdmaijmglblccaaGreatDoorZClosureSaysOwn
namespace Go.Proofs.YtdmaijmglblccaaGreatDoor
set_option linter.unusedSimpArgs false
set_option linter.unusedVariables false

end Go.Proofs.YtdmaijmglblccaaGreatDoor

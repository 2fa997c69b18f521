
/- The library's Clone at rows of terms. -/
import Derived.Test.YtdencaekailmcaaShelf
import Derived.Test.YtdencaekailmcaaZTopSomeOwn
import Derived.Ground.SlgnProg
import Derived.Shelf.SlicesE.Clone
namespace Go.Proofs.Ytdencaekailmcaa
open Go.RowKit Go.Shelf
set_option linter.unusedSimpArgs false
set_option linter.unusedVariables false
set_option maxRecDepth 8000

end Go.Proofs.Ytdencaekailmcaa

/- Walks: the text of a term, as the document says. -/
import Derived.Test.YtdencaekailmcaaTxt
import Derived.Test.YtdencaekailmcaaZTopSomeOwn
namespace Go.Proofs.Ytdencaekailmcaa
open Go.RowKit
set_option linter.unusedSimpArgs false
set_option linter.unusedVariables false

end Go.Proofs.Ytdencaekailmcaa

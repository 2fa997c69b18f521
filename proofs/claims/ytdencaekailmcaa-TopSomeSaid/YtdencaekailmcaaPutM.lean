/- What comes of putting a term at a place. -/
import Derived.Test.YtdencaekailmcaaZTopSomeOwn
namespace Go.Proofs.Ytdencaekailmcaa

end Go.Proofs.Ytdencaekailmcaa

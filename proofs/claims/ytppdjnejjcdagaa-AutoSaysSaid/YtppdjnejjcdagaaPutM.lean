/- What comes of putting a term at a place. -/
import Derived.Test.YtppdjnejjcdagaaZAutoSaysOwn
namespace Go.Proofs.Ytppdjnejjcdagaa

end Go.Proofs.Ytppdjnejjcdagaa

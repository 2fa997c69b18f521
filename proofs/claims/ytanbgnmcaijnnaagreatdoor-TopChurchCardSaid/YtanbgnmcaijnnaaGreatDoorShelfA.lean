/- strconv.Atoi at this program: laid with the rest of the shelf. -/
import Derived.Test.YtanbgnmcaijnnaaGreatDoorShelf
namespace Go.Proofs
end Go.Proofs

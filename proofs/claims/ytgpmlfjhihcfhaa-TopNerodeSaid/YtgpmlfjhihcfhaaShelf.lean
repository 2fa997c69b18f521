import Derived.Test.YtgpmlfjhihcfhaaChecked
namespace Go.Proofs.Ytgpmlfjhihcfhaa
end Go.Proofs.Ytgpmlfjhihcfhaa

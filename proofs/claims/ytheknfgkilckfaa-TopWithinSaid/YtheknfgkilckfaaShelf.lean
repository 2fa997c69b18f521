import Derived.Test.YtheknfgkilckfaaChecked
namespace Go.Proofs.Ytheknfgkilckfaa
end Go.Proofs.Ytheknfgkilckfaa

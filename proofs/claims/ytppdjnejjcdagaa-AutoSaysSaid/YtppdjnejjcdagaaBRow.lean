
/- Rows of bindings that a call makes. -/
import Derived.Test.YtppdjnejjcdagaaZAutoSaysOwn
import Derived.Test.YtppdjnejjcdagaaBnd
namespace Go.Proofs.Ytppdjnejjcdagaa
open Go.RowKit
set_option linter.unusedSimpArgs false
set_option linter.unusedVariables false

/-- A binding, and where those below its term's first knot lie. -/
abbrev Bc := Bd × Option Addr × Nat
instance : Inhabited Bc := ⟨(⟨⟨#[]⟩, ⟨⟨#[]⟩, []⟩⟩, none, 0)⟩
end Go.Proofs.Ytppdjnejjcdagaa


/- Rows of bindings that a call makes. -/
import Derived.Test.YtdencaekailmcaaZTopSomeOwn
namespace Go.Proofs.Ytdencaekailmcaa
open Go.RowKit
set_option linter.unusedSimpArgs false
set_option linter.unusedVariables false

/-- A binding, and where those below its term's first knot lie. -/
abbrev Bc := Bd × Option Addr × Nat
instance : Inhabited Bc := ⟨(⟨⟨#[]⟩, ⟨⟨#[]⟩, []⟩⟩, none, 0)⟩
end Go.Proofs.Ytdencaekailmcaa

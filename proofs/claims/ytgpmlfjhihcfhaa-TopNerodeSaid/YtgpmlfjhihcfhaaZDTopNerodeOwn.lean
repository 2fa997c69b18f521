/- Several texts in one. -/
import Derived.Test.YtgpmlfjhihcfhaaAv7
import Derived.Test.YtgpmlfjhihcfhaaL4
import Derived.Deep.LoopGhost
import Derived.Test.YtgpmlfjhihcfhaaAu4
import Derived.Test.YtgpmlfjhihcfhaaZBTopNerodeOwn
import Derived.Test.YtgpmlfjhihcfhaaZTopNerodeOwn

/- First terms in memory (auto.found); isAhead, firstBy. -/
namespace Go.Proofs.Ytgpmlfjhihcfhaa
open Go.RowKit
set_option linter.unusedSimpArgs false
set_option linter.unusedVariables false
set_option maxRecDepth 8000

/-- These values tell of a term, or of none. -/
def FdIs (w : World) (Y : Nat → Prop) : Option Tm → ByteArray → Option Addr → Nat → Nat → Int → ByteArray → Prop
  | none, s, a, n, c, z, u => s = ⟨#[]⟩ ∧ a = none ∧ n = 0 ∧ c = 0 ∧ z = 0 ∧ u = ⟨#[]⟩
  | some t, s, a, n, c, z, u => s = t.name ∧ n = t.args.length ∧ z = (sizeL [t] : Int) ∧ u = txB t ∧ Sl w Y a t.args
theorem FdIs.imp {w w' : World} {Y Z : Nat → Prop} {x : Option Tm} {s : ByteArray} {a : Option Addr} {n c : Nat} {z : Int} {u : ByteArray} (h : FdIs w Y x s a n c z u) (hk : ∀ a l, Sl w Y a l → Sl w' Z a l) : FdIs w' Z x s a n c z u := by
  cases x with
  | none => exact h
  | some t => exact ⟨h.1, h.2.1, h.2.2.1, h.2.2.2.1, hk _ _ h.2.2.2.2⟩
end Go.Proofs.Ytgpmlfjhihcfhaa


/- Walks: the first term by a move (auto.firstBy). -/
namespace Go.Proofs.Ytgpmlfjhihcfhaa
open Go.RowKit
set_option linter.unusedSimpArgs false
set_option linter.unusedVariables false
set_option maxRecDepth 8000

end Go.Proofs.Ytgpmlfjhihcfhaa


/- Walks: of each state the first term (auto.firstsOf). -/
namespace Go.Proofs.Ytgpmlfjhihcfhaa
open Go.RowKit
set_option linter.unusedSimpArgs false
set_option linter.unusedVariables false
set_option maxRecDepth 8000

end Go.Proofs.Ytgpmlfjhihcfhaa


/- Walks: a term of the set with as few knots as may be (auto.Some). -/
namespace Go.Proofs.Ytgpmlfjhihcfhaa
open Go.RowKit
set_option linter.unusedSimpArgs false
set_option linter.unusedVariables false
set_option maxRecDepth 8000

end Go.Proofs.Ytgpmlfjhihcfhaa


/- Walks: which of two terms is ahead, as the document says (Lighter); its rows of terms in memory. -/
namespace Go.Proofs.Ytgpmlfjhihcfhaa
open Go.RowKit
set_option linter.unusedSimpArgs false
set_option linter.unusedVariables false
set_option maxRecDepth 8000

/-- These values are a term, or none. -/
def TdIs (w : World) (Y : Nat → Prop) : Option Tm → ByteArray → Option Addr → Nat → Nat → Prop
  | none, s, a, n, c => s = ⟨#[]⟩ ∧ a = none ∧ n = 0 ∧ c = 0
  | some t, s, a, n, c => s = t.name ∧ n = t.args.length ∧ Sl w Y a t.args
theorem TdIs.imp {w w' : World} {Y Z : Nat → Prop} {x : Option Tm} {s : ByteArray} {a : Option Addr} {n c : Nat} (h : TdIs w Y x s a n c) (hk : ∀ a l, Sl w Y a l → Sl w' Z a l) : TdIs w' Z x s a n c := by
  cases x with
  | none => exact h
  | some t => exact ⟨h.1, h.2.1, hk _ _ h.2.2⟩
end Go.Proofs.Ytgpmlfjhihcfhaa


/- Walks: a term of the set with as few knots as may be, as the document says (SomeOf). -/
namespace Go.Proofs.Ytgpmlfjhihcfhaa
open Go.RowKit
set_option linter.unusedSimpArgs false
set_option linter.unusedVariables false
set_option maxRecDepth 8000

end Go.Proofs.Ytgpmlfjhihcfhaa

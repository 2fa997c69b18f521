/- Bindings in the order of their names: plain. -/
import Derived.Test.YtcdabjekppddjaaGreatDoorZBCombMadeOwn
namespace Go.Proofs.YtcdabjekppddjaaGreatDoor
open Go.RowKit
set_option linter.unusedSimpArgs false
set_option linter.unusedVariables false

/-- One text is ahead of another one. -/
def ltB (a b : ByteArray) : Bool := Op.bytesLess a.toList b.toList
theorem bl_irrefl : ∀ a : List UInt8, Op.bytesLess a a = false
  | [] => rfl
  | x :: r => by simp [Op.bytesLess, bl_irrefl r]
theorem ltB_irrefl (a : ByteArray) : ltB a a = false := bl_irrefl _
/-- No name twice, and each ahead of the next. -/
def SortedB (l : List Bd) : Prop := l.Pairwise fun a b => ltB a.nm b.nm = true
/-- No name twice. -/
def ApartB (l : List Bd) : Prop := l.Pairwise fun a b => a.nm ≠ b.nm
theorem SortedB.apart {l : List Bd} (h : SortedB l) : ApartB l := h.imp fun {a b} h e => by rw [e, ltB_irrefl] at h; cases h
end Go.Proofs.YtcdabjekppddjaaGreatDoor

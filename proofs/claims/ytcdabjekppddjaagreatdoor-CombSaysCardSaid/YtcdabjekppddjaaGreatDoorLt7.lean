
/- Walks: the text of a lambda term, as the program writes it. -/
import Derived.Test.YtcdabjekppddjaaGreatDoorZCombSaysOwn
namespace Go.Proofs.YtcdabjekppddjaaGreatDoor
open Go.RowKit
set_option linter.unusedSimpArgs false
set_option linter.unusedVariables false
set_option maxRecDepth 8000

theorem wrap_is {n : Int} (h0 : -1000000 ≤ n) (h1 : n ≤ 1000000) : IntKind.i64.wrap n = n := by rw [IntKind.wrap_i64]; omega
theorem lt_set3 {W : World} {A T : Nat} {x0 x1 x2 : Value} (h : Blk W A #[x0, x1, x2] T) (u u' u'' : Value) : Blk (((W.setCell ⟨A, 0, none⟩ u).setCell ⟨A, 1, none⟩ u').setCell ⟨A, 2, none⟩ u'') A #[u, u', u''] T := ((h.set 0 u).set 1 u').set 2 u''
theorem lt_set3o {W : World} {A B T : Nat} {cs : Array Value} (h : Blk W A cs T) (hn : A ≠ B) (u u' u'' : Value) : Blk (((W.setCell ⟨B, 0, none⟩ u).setCell ⟨B, 1, none⟩ u').setCell ⟨B, 2, none⟩ u'') A cs T := ((h.setOther 0 u hn).setOther 1 u' hn).setOther 2 u'' hn

end Go.Proofs.YtcdabjekppddjaaGreatDoor

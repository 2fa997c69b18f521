/- Plain: the first of some is told by which they are; the law AutoSays. -/
import Derived.Test.YtfodgmnnjgcpgaaZCAutoKindsOwn
import Derived.Test.YtfodgmnnjgcpgaaZFAutoKindsOwn
import Derived.Test.YtfodgmnnjgcpgaaZBAutoKindsOwn
import Derived.Test.YtfodgmnnjgcpgaaZDAutoKindsOwn
namespace Go.Proofs.Ytfodgmnnjgcpgaa
open Go.RowKit
set_option linter.unusedSimpArgs false
set_option linter.unusedVariables false
set_option maxRecDepth 8000

/-- The boxes of both. -/
structure AsW (w : World) (ac tc : Array Value) (w' : World) : Prop where
  bl : Below w.heap.size w w'
  ka : Blk w' w.heap.size ac 25
  kb : Blk w' (w.heap.size + 1) tc 39
theorem AsW.later {w w1 w2 : World} {ac tc : Array Value} (h : AsW w ac tc w1) (hb : Below w1.heap.size w1 w2) : AsW w ac tc w2 :=
  ⟨h.bl.trans (hb.mono h.bl.size), h.ka.below hb h.ka.lt, h.kb.below hb h.kb.lt⟩
theorem AsW.set {w w' : World} {ac tc : Array Value} (h : AsW w ac tc w') {C : Nat} (hC : w.heap.size + 2 ≤ C) (i : Nat) (v : Value) : AsW w ac tc (w'.setCell ⟨C, i, none⟩ v) :=
  ⟨h.bl.setCell (p := ⟨C, i, none⟩) (by simp; omega) v, h.ka.setOther (b' := C) i v (by omega), h.kb.setOther (b' := C) i v (by omega)⟩
/-- What was wanted of Some. -/
structure AsE (w : World) (A : Au) (ac tc : Array Value) (C : Nat) (q : Value) (w' : World) : Prop where
  bx : AsW w ac tc w'
  ex : ∃ (g : Int) (x : Tm) (a : Option Addr) (c : Nat), q = .int .i64 g ∧ Blk w' C #[.string x.name, .slice a x.args.length c] 39 ∧
    ((auE 8 40 A ≠ 0 ∧ g = auE 8 40 A) ∨ (auE 8 40 A = 0 ∧ ∃ (n : Nat) (st : Fs), A.st = (n : Int) ∧ FinF A.mv (List.replicate n none) st ∧ OkF st ∧ ((bstF st A.la = none ∧ g = 7) ∨ (bstF st A.la = some x ∧ g = 0 ∧ Sl w' (fun b => b ≠ C) a x.args))))

end Go.Proofs.Ytfodgmnnjgcpgaa

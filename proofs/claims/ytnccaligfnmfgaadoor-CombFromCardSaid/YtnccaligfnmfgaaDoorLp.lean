/- What a round that appends a lambda term does. -/
import Derived.Test.YtnccaligfnmfgaaDoorRm
import Derived.Test.YtnccaligfnmfgaaDoorL3
import Derived.Test.YtnccaligfnmfgaaDoorExM
import Derived.Deep.RegionHeld
import Derived.Deep.RegionHeld3
import Derived.Deep.DeepCutAuto
namespace Go.Proofs.YtnccaligfnmfgaaDoor
open Go.RowKit
set_option linter.unusedSimpArgs false
set_option linter.unusedVariables false
set_option maxRecDepth 8000

theorem cell_ltM {w : World} {b i : Nat} {v : Value} (h : w.cell? ⟨b, i, none⟩ = some v) : b < w.heap.size := by
  apply Classical.byContradiction
  intro hn
  have e : w.heap[b]? = none := Array.getElem?_eq_none (by omega)
  simp [World.cell?, e] at h
theorem cell_sameM {w w' : World} {b i : Nat} {v : Value} (hb : w'.heap[b]? = w.heap[b]?) (h : w.cell? ⟨b, i, none⟩ = some v) : w'.cell? ⟨b, i, none⟩ = some v := by simpa [World.cell?, hb] using h
/-- What is held while a knot's next term is made. -/
def LmS (B b o : Nat) (kd ix : Int) (a : Option Addr) (n c : Nat) (k1 x1 : Int) (v1 : Value) (w' : World) : Prop :=
  Blk w' B #[.int .i64 kd, .int .i64 ix, .slice a n c] 24 ∧ w'.cell? ⟨b, o, none⟩ = some (.int .i64 k1) ∧ w'.cell? ⟨b, o + 1, none⟩ = some (.int .i64 x1) ∧ w'.cell? ⟨b, o + 2, none⟩ = some v1
theorem LmS.kept {B b o n c : Nat} {kd ix k1 x1 : Int} {a : Option Addr} {v1 : Value} {wr w1 : World} (h : LmS B b o kd ix a n c k1 x1 v1 wr) (h1 : w1.heap[B]? = wr.heap[B]?) (h2 : w1.heap[b]? = wr.heap[b]?) : LmS B b o kd ix a n c k1 x1 v1 w1 :=
  ⟨h1.trans h.1, cell_sameM h2 h.2.1, cell_sameM h2 h.2.2.1, cell_sameM h2 h.2.2.2⟩
theorem LmS.below {B b o n c : Nat} {kd ix k1 x1 : Int} {a : Option Addr} {v1 : Value} {wr w1 : World} (h : LmS B b o kd ix a n c k1 x1 v1 wr) (hb : Below wr.heap.size wr w1) : LmS B b o kd ix a n c k1 x1 v1 w1 :=
  h.kept (hb.block _ h.1.lt) (hb.block _ (cell_ltM h.2.1))

end Go.Proofs.YtnccaligfnmfgaaDoor

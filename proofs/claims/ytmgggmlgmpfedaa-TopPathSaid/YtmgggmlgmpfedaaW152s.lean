/- Walks: the law on the path order: what lies in memory. -/
import Derived.Test.YtmgggmlgmpfedaaTw1
namespace Go.Proofs.Ytmgggmlgmpfedaa
open Go.RowKit
/-- Three terms in boxes, and a row. -/
structure TpPath (row : List ByteArray) (vr : Value) (a b c : Tm) (aa ab ac : Option Addr) (ca cb cc P Q R : Nat) (w wr : World) : Prop where
  rw : LV Value.string wr (fun _ => True) vr row
  k1 : Blk wr P #[.string a.name, .slice aa a.args.length ca] 28
  s1 : Sl wr (fun _ => True) aa a.args
  k2 : Blk wr Q #[.string b.name, .slice ab b.args.length cb] 28
  s2 : Sl wr (fun _ => True) ab b.args
  k3 : Blk wr R #[.string c.name, .slice ac c.args.length cc] 28
  s3 : Sl wr (fun _ => True) ac c.args
  bl : Below w.heap.size w wr
theorem TpPath.cells {row : List ByteArray} {vr : Value} {a b c : Tm} {aa ab ac : Option Addr} {ca cb cc P Q R : Nat} {w wr : World} (h : TpPath row vr a b c aa ab ac ca cb cc P Q R w wr) :
    wr.cell? ⟨P, 0, none⟩ = some (.string a.name) ∧ wr.cell? ⟨P, 1, none⟩ = some (.slice aa a.args.length ca) ∧ wr.cell? ⟨Q, 0, none⟩ = some (.string b.name) ∧ wr.cell? ⟨Q, 1, none⟩ = some (.slice ab b.args.length cb) ∧ wr.cell? ⟨R, 0, none⟩ = some (.string c.name) ∧ wr.cell? ⟨R, 1, none⟩ = some (.slice ac c.args.length cc) :=
  ⟨h.k1.cell 0, h.k1.cell 1, h.k2.cell 0, h.k2.cell 1, h.k3.cell 0, h.k3.cell 1⟩

/-- Does it begin with that region? -/
def headIs (n : Nat) : Code → Bool
  | .region m _ _ => m == n
  | .seq a _ => headIs n a
  | .scope c => headIs n c
  | .block _ c => headIs n c
  | _ => false
/-- The statements from a region on. -/
def seqFrom (n : Nat) : Code → Code
  | .seq a b => bif headIs n a then .seq a b else seqFrom n b
  | .scope c => seqFrom n c
  | c => c

end Go.Proofs.Ytmgggmlgmpfedaa

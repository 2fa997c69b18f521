/- Several texts in one. -/
import Derived.Test.YtfodgmnnjgcpgaaAv4
import Derived.Test.YtfodgmnnjgcpgaaZFAutoKindsOwn
import Derived.Test.YtfodgmnnjgcpgaaAu5
import Derived.Test.YtfodgmnnjgcpgaaZAutoKindsOwn
/- Walks: where a term may end, by the table (auto.table.endOf). -/
namespace Go.Proofs.Ytfodgmnnjgcpgaa
open Go.RowKit
open Go.WideMaps
set_option linter.unusedSimpArgs false
set_option linter.unusedVariables false
set_option maxRecDepth 8000

/-- What is known of these sets. -/
def SetsAre (xs : List Nat) (bs : List (List Bool)) : Prop := xs.length = bs.length ∧ ∀ (i : Nat) (h1 : i < xs.length) (h2 : i < bs.length), SetIs xs[i] bs[i]
theorem SetsAre.snoc {xs : List Nat} {bs : List (List Bool)} {x : Nat} {b : List Bool} (h : SetsAre xs bs) (hx : SetIs x b) : SetsAre (xs ++ [x]) (bs ++ [b]) := by
  refine ⟨by simp [h.1], fun i h1 h2 => ?_⟩
  have he := h.1
  by_cases hi : i < xs.length
  · rw [List.getElem_append_left hi, List.getElem_append_left (by omega)]
    exact h.2 i hi (by omega)
  · have e : i = xs.length := by simp at h1; omega
    subst e
    have e2 : (bs ++ [b])[xs.length]'h2 = b := by rw [List.getElem_append_right (by omega)]; simp [he]
    rw [List.getElem_append_right (Nat.le_refl _), e2]
    simpa using hx
structure EoI (w : World) (z_ : Nat) (ms : List Mv) (n : Nat) (l : List Tm) (tc xc : Array Value) (A : Nat) (q i : Value) (wr : World) : Prop where
  ex : ∃ (k : Nat) (xs : List Nat), k ≤ l.length ∧ i = .int .i64 (k : Int) ∧ wr.ownsRow (A + 2) 61 1 q xs.length (xs.map stV) ∧ SetsAre xs (endsL ms n (l.take k))
  bl : Below w.heap.size w wr
  ta : Blk wr A tc 67
  tb : Blk wr (A + 1) xc 39

end Go.Proofs.Ytfodgmnnjgcpgaa

/- Walks: is a term open (knots.IsOpen); is it accepted (auto.Accepts). -/
namespace Go.Proofs.Ytfodgmnnjgcpgaa
open Go.RowKit
set_option linter.unusedSimpArgs false
set_option linter.unusedVariables false
set_option maxRecDepth 8000

/-- A variable stands in it. -/
def opnB (t : Tm) : Bool := (preL [t]).any fun k => varB k.name
theorem okMv_sy {n : Int} {m : Mv} (h : OkMv n m) : SyOk (symM m) := by
  have h1 := h.nm
  simp [nameB] at h1
  have := h.len
  exact ⟨by show m.name.size ≤ 1000000; omega, by show m.frm.length ≤ 1000000; omega⟩
end Go.Proofs.Ytfodgmnnjgcpgaa

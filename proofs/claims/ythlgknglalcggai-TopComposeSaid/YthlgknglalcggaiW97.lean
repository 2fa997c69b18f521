
/- Walks: Match, Variant, Encompasses. -/
import Derived.Test.YthlgknglalcggaiW96
import Derived.Test.YthlgknglalcggaiW94
namespace Go.Proofs.Ythlgknglalcggai
open Go.RowKit
set_option linter.unusedSimpArgs false
set_option linter.unusedVariables false
set_option maxRecDepth 8000

/-- Some knot of a list of terms is a case. -/
def hcL (p : Tm) (l : List Tm) : Bool := (preL l).any fun k => mtB p k
theorem hcL_take {p : Tm} {l : List Tm} {k : Nat} (h : k < l.length) : hcL p (l.take (k + 1)) = (hcL p (l.take k) || hcB l[k] p) := by
  unfold hcL hcB
  rw [preL_take l k h, List.any_append]
theorem hcL_yes {p : Tm} {l : List Tm} {k : Nat} (h : k < l.length) (h0 : hcB l[k] p = true) : hcL p l = true := by
  have e : l = l.take (k + 1) ++ l.drop (k + 1) := (List.take_append_drop _ _).symm
  unfold hcL
  rw [e, preL_append, List.any_append]
  have h1 := hcL_take (p := p) h
  unfold hcL at h1
  rw [h1, h0]
  simp
theorem hcB_eq (s : ByteArray) (l : List Tm) (p : Tm) : hcB ⟨s, l⟩ p = (mtB p ⟨s, l⟩ || hcL p l) := by
  unfold hcB hcL
  simp [preL]
def IxInv (p : Tm) (l : List Tm) (w : World) (v : Value) (wr : World) : Prop := ∃ k : Nat, k ≤ l.length ∧ v = .int .i64 (k : Int) ∧ hcL p (l.take k) = false ∧ Below w.heap.size w wr

end Go.Proofs.Ythlgknglalcggai


/- Walks: writing into a Builder, with all else as it was. -/
import Derived.Test.YtnccaligfnmfgaaDoorW17
import Derived.Lib.Builder
import Derived.Lib.AppendStr
import Derived.Deep.AppendSrc
namespace Go.Proofs.YtnccaligfnmfgaaDoor
open Go.RowKit
set_option linter.unusedSimpArgs false
set_option linter.unusedVariables false

/-- What a write leaves alone. -/
def BFr (w w' : World) (b : Nat) (v v' : Value) : Prop :=
  w'.os = w.os ∧ w'.tape = w.tape ∧ w'.output = w.output ∧ w.heap.size ≤ w'.heap.size ∧ (∀ k, k < w.heap.size → k ≠ b → some k ≠ v.ownBlock → w'.heap[k]? = w.heap[k]?) ∧ (∀ k, v'.ownBlock = some k → v.ownBlock = some k ∨ w.heap.size ≤ k)

theorem BFr.refl (w : World) (b : Nat) (v : Value) : BFr w w b v v := ⟨rfl, rfl, rfl, Nat.le_refl _, fun _ _ _ _ => rfl, fun _ h => Or.inl h⟩
theorem BFr.trans {w w1 w2 : World} {b : Nat} {v v1 v2 : Value} (h : BFr w w1 b v v1) (h1 : BFr w1 w2 b v1 v2) : BFr w w2 b v v2 := by
  obtain ⟨a1, a2, a3, a4, a5, a6⟩ := h
  obtain ⟨c1, c2, c3, c4, c5, c6⟩ := h1
  refine ⟨c1.trans a1, c2.trans a2, c3.trans a3, Nat.le_trans a4 c4, fun k hk hb hv => ?_, fun k hk => ?_⟩
  · refine (c5 k (Nat.lt_of_lt_of_le hk a4) hb (fun e => ?_)).trans (a5 k hk hb hv)
    rcases a6 k e.symm with h | h
    · exact hv h.symm
    · omega
  · rcases c6 k hk with h | h
    · exact a6 k h
    · exact Or.inr (Nat.le_trans a4 h)
end Go.Proofs.YtnccaligfnmfgaaDoor


/- Maps by symbols, and the table of moves by symbols, in memory. -/
import Derived.Test.YtdmaijmglblccaaGreatDoorAv1
import Derived.Test.YtdmaijmglblccaaGreatDoorZClosureSaysOwn
import Derived.DeepKeys3
import Derived.WideKeyPair
namespace Go.Proofs.YtdmaijmglblccaaGreatDoor
open Go.RowKit
open Go.WideMaps
set_option linter.unusedSimpArgs false
set_option linter.unusedVariables false
set_option maxRecDepth 8000

abbrev Sy := ByteArray × Nat
def symV (s : Sy) : Value := .agg #[.string s.1, .int .i64 (s.2 : Int)]
def SyOk (s : Sy) : Prop := s.1.size ≤ 1000000 ∧ s.2 ≤ 1000000
/-- Symbols and their numbers. -/
def MapY (w : World) (r : Nat) (L : List Sy) : Prop :=
  ∃ es clk, w.heap[r]? = some (.map es clk) ∧ es.toList.map (fun e => (e.key, e.val)) = (L.zipIdx).map (fun p => (symV p.1, Value.int .i64 (p.2 : Int))) ∧ ∀ s ∈ L, SyOk s
theorem MapY.new (w : World) : MapY (w.alloc (.map #[] 0)) w.heap.size [] := ⟨#[], 0, heap_alloc_new w _, by simp, by simp⟩
theorem MapY.lt {w : World} {r : Nat} {L : List Sy} (h : MapY w r L) : r < w.heap.size := by
  obtain ⟨es, clk, h, _⟩ := h
  exact (Array.getElem?_eq_some_iff.1 h).1
theorem MapY.kept {w w' : World} {r : Nat} {L : List Sy} (h : MapY w r L) (hk : w'.heap[r]? = w.heap[r]?) : MapY w' r L := by
  obtain ⟨es, clk, h1, h2⟩ := h
  exact ⟨es, clk, hk.trans h1, h2⟩
end Go.Proofs.YtdmaijmglblccaaGreatDoor

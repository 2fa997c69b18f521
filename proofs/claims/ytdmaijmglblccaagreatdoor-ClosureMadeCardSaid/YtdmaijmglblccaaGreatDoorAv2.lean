
/- Maps by symbols, and the table of moves by symbols, in memory. -/
import Derived.Test.YtdmaijmglblccaaGreatDoorAv1
import Derived.Test.YtdmaijmglblccaaGreatDoorZClosureMadeOwn
import Derived.DeepKeys3
import Derived.WideKeyPair
namespace Go.Proofs.YtdmaijmglblccaaGreatDoor
open Go.RowKit
open Go.WideMaps
set_option linter.unusedSimpArgs false
set_option linter.unusedVariables false
set_option maxRecDepth 8000

abbrev Sy := ByteArray × Nat
def symV (s : Sy) : Value := .agg #[.string s.1, .int .i64 (s.2 : Int)]
def SyOk (s : Sy) : Prop := s.1.size ≤ 1000000 ∧ s.2 ≤ 1000000
/-- Symbols and their numbers. -/
def MapY (w : World) (r : Nat) (L : List Sy) : Prop :=
  ∃ es clk, w.heap[r]? = some (.map es clk) ∧ es.toList.map (fun e => (e.key, e.val)) = (L.zipIdx).map (fun p => (symV p.1, Value.int .i64 (p.2 : Int))) ∧ ∀ s ∈ L, SyOk s
theorem MapY.new (w : World) : MapY (w.alloc (.map #[] 0)) w.heap.size [] := ⟨#[], 0, heap_alloc_new w _, by simp, by simp⟩
theorem MapY.lt {w : World} {r : Nat} {L : List Sy} (h : MapY w r L) : r < w.heap.size := by
  obtain ⟨es, clk, h, _⟩ := h
  exact (Array.getElem?_eq_some_iff.1 h).1
theorem MapY.kept {w w' : World} {r : Nat} {L : List Sy} (h : MapY w r L) (hk : w'.heap[r]? = w.heap[r]?) : MapY w' r L := by
  obtain ⟨es, clk, h1, h2⟩ := h
  exact ⟨es, clk, hk.trans h1, h2⟩
theorem MapY.entry {L : List Sy} {es : Array MapEntry} (h : es.toList.map (fun e => (e.key, e.val)) = (L.zipIdx).map (fun p => (symV p.1, Value.int .i64 (p.2 : Int)))) {j : Nat} {x : MapEntry} (hj : es.toList[j]? = some x) : ∃ (hl : j < L.length), x.key = symV L[j] ∧ x.val = .int .i64 (j : Int) := by
  have h1 := congrArg (fun l => l[j]?) h
  simp only [List.getElem?_map, hj, Option.map_some, List.getElem?_zipIdx] at h1
  cases hl : L[j]? with
  | none => rw [hl] at h1; simp at h1
  | some s =>
    rw [hl] at h1
    simp at h1
    obtain ⟨hj2, e⟩ := List.getElem?_eq_some_iff.1 hl
    refine ⟨hj2, ?_, ?_⟩
    · rw [h1.1, e]
    · rw [h1.2]
end Go.Proofs.YtdmaijmglblccaaGreatDoor

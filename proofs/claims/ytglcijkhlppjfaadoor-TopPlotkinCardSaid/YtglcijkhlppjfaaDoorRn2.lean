
/- Walks: variables get new names (knots.Rename). -/
import Derived.Test.YtglcijkhlppjfaaDoorZTopPlotkinOwn
import Derived.Deep.RegionHeld
import Derived.Deep.RegionHeld3
import Derived.Deep.DeepCutAuto
namespace Go.Proofs.YtglcijkhlppjfaaDoor
open Go.RowKit
set_option linter.unusedSimpArgs false
set_option linter.unusedVariables false
set_option maxRecDepth 8000

theorem cell_termZ (w : World) (a b : Value) (T : Nat) : ∀ j u, ([a, b] : List Value)[j]? = some u → (w.alloc (.cells #[a, b] T)).cell? ((⟨w.heap.size, 0, none⟩ : Addr).add j) = some u := fun j u h => by
  have hb := Blk.new w #[a, b] T
  have h1 : (⟨w.heap.size, 0, none⟩ : Addr).add j = ⟨w.heap.size, j, none⟩ := by
    by_cases h0 : j = 0
    · subst h0; simp [Addr.add]
    · simp [Addr.add, h0]
  rw [h1, hb.cell j]
  simpa using h
/-- What is held while the next one is made. -/
def RnS (Q : Nat) (s1 : ByteArray) (v1 : Value) (w' : World) : Prop := w'.cell? ⟨Q, 0, none⟩ = some (.string s1) ∧ w'.cell? ⟨Q, 1, none⟩ = some v1
theorem RnS.kept {Q : Nat} {s1 : ByteArray} {v1 : Value} {w w' : World} (h : RnS Q s1 v1 w) (hk : w'.heap[Q]? = w.heap[Q]?) : RnS Q s1 v1 w' := ⟨by simpa [World.cell?, hk] using h.1, by simpa [World.cell?, hk] using h.2⟩
/-- How far it is. -/
structure RnI (w : World) (B r : Nat) (s : ByteArray) (T : Array Value) (u : Value) (L : List Tm) (xs : List Value) (ns : List ByteArray) (wr : World) : Prop where
  row : Row wr (w.heap.size + 3) 25 (fun _ => False) u L xs
  ex : ExQ (fun b => b = r) w wr
  res : Blk wr (w.heap.size + 1) #[.string ⟨#[]⟩, .slice none 0 0] 25
  out : Blk wr (w.heap.size + 2) #[.string s, u] 25
  sz : w.heap.size + 3 ≤ wr.heap.size
  nm : NmAt wr B r ns
end Go.Proofs.YtglcijkhlppjfaaDoor


/- Walks: what stands for a pattern's variables, in a map. -/
import Derived.Test.YthlgknglalcggaiShp
import Derived.Test.YthlgknglalcggaiW91
import Derived.Test.YthlgknglalcggaiMapR
import Derived.Test.YthlgknglalcggaiZTopComposeOwn
namespace Go.Proofs.Ythlgknglalcggai
open Go.RowKit
set_option linter.unusedSimpArgs false
set_option linter.unusedVariables false
set_option maxRecDepth 8000

/-- The map at q holds these bindings, whose terms lie in memory that Y lets. -/
def FtM (w : World) (q : Nat) (Y : Nat → Prop) (Z : List Bc) : Prop := MapAt w q (Z.map toP) ∧ ∀ x ∈ Z, Sl w Y x.2.1 x.1.t.args
/-- What a round leaves: what is old stays, but for the map. -/
def FtPost (w : World) (q : Nat) (Y : Nat → Prop) (r : Option (List Bd)) (e : Ending) (w' : World) : Prop :=
  w.grownBy w' (some q) ∧ ((r = none ∧ e = .returned (.bool false)) ∨ ∃ (h' : List Bd) (Z' : List Bc), r = some h' ∧ e = .returned (.bool true) ∧ Z'.map (·.1) = h' ∧ FtM w' q Y Z')
theorem FtM.kept {w w' : World} {q : Nat} {Y : Nat → Prop} {Z : List Bc} (h : FtM w q Y Z) (hY : ∀ b, Y b → b < w.heap.size) (hk : ∀ b, b < w.heap.size → w'.heap[b]? = w.heap[b]?) : FtM w' q Y Z :=
  ⟨h.1.kept (hk q h.1.lt), fun x hx => (h.2 x hx).kept fun b hb => hk b (hY b hb)⟩
theorem FtM.below {w w' : World} {q : Nat} {Y : Nat → Prop} {Z : List Bc} (h : FtM w q Y Z) (hY : ∀ b, Y b → b < w.heap.size) (hb : Below w.heap.size w w') : FtM w' q Y Z := h.kept hY fun b hb' => hb.block b hb'
theorem mapGet_forT {Z : List Bc} {n : ByteArray} : (forT (Z.map (·.1)) n = none → mapGet (Z.map toP) n = none) ∧ (∀ t, forT (Z.map (·.1)) n = some t → ∃ x ∈ Z, x.1.t = t ∧ mapGet (Z.map toP) n = some (.agg #[.string t.name, .slice x.2.1 t.args.length x.2.2])) := by
  induction Z with
  | nil => exact ⟨fun _ => rfl, fun t h => by simp [forT] at h⟩
  | cons y r ih =>
    simp only [List.map_cons]
    by_cases hn : y.1.nm = n
    · refine ⟨fun h => by simp [forT, hn] at h, fun t h => ?_⟩
      rw [forT, if_pos hn] at h
      cases h
      exact ⟨y, by simp, rfl, by simp [mapGet, toP, hn]⟩
    · refine ⟨fun h => ?_, fun t h => ?_⟩
      · rw [forT, if_neg hn] at h
        rw [mapGet, if_neg (by simpa [toP] using hn)]
        exact ih.1 h
      · rw [forT, if_neg hn] at h
        obtain ⟨x, hx, h1, h2⟩ := ih.2 t h
        exact ⟨x, by simp [hx], h1, by rw [mapGet, if_neg (by simpa [toP] using hn)]; exact h2⟩

def FlInv (w2 : World) (q : Nat) (Y : Nat → Prop) (l m : List Tm) (h : List Bd) (i : Value) (wr : World) : Prop :=
  ∃ (k : Nat) (Z' : List Bc), k ≤ l.length ∧ i = .int .i64 (k : Int) ∧ mtL (l.take k) (m.take k) h = some (Z'.map (·.1)) ∧ FtM wr q Y Z' ∧ w2.grownBy wr (some q)

theorem grown2_below {w w' w'' : World} {row : Option Nat} (h : w.grownBy w' row) (hb : Below w'.heap.size w' w'') : w.grownBy w'' row :=
  h.andThen (row' := none) ⟨hb.os, hb.tape, hb.output, hb.size, fun j hj _ => hb.block j hj⟩ (by simp)

end Go.Proofs.Ythlgknglalcggai


/- Walks: what stands for itself is struck out of a map. -/
import Derived.Test.YthlgknglalcggajW82
namespace Go.Proofs.Ythlgknglalcggaj
open Go.RowKit
set_option linter.unusedSimpArgs false
set_option linter.unusedVariables false
set_option maxRecDepth 8000

/-- A binding of which something is seen. -/
def keepB (d : Bd) : Bool := !(d.t.name.toList == d.nm.toList)

theorem mapGet_toP {Z : List Bc} (ha : ApartB (Z.map (·.1))) : ∀ x ∈ Z, mapGet (Z.map toP) x.1.nm = some (toP x).2 := by
  induction Z with
  | nil => intro x hx; cases hx
  | cons y r ih =>
    intro x hx
    simp only [List.map_cons] at ha ⊢
    obtain ⟨h1, h2⟩ := List.pairwise_cons.1 ha
    rcases List.mem_cons.1 hx with rfl | hx
    · simp [mapGet, toP]
    · have hne : y.1.nm ≠ x.1.nm := h1 x.1 (List.mem_map.2 ⟨x, hx, rfl⟩)
      rw [mapGet, if_neg (by simpa [toP] using hne)]
      exact ih h2 x hx
theorem delP_toP {Z : List Bc} (ha : ApartB (Z.map (·.1))) : ∀ x ∈ Z, ∃ Z' : List Bc, delP (Z.map toP) x.1.nm = Z'.map toP ∧ Z.Perm (x :: Z') := by
  induction Z with
  | nil => intro x hx; cases hx
  | cons y r ih =>
    intro x hx
    simp only [List.map_cons] at ha ⊢
    obtain ⟨h1, h2⟩ := List.pairwise_cons.1 ha
    rcases List.mem_cons.1 hx with rfl | hx
    · exact ⟨r, by simp [delP, toP], List.Perm.refl _⟩
    · have hne : y.1.nm ≠ x.1.nm := h1 x.1 (List.mem_map.2 ⟨x, hx, rfl⟩)
      obtain ⟨Z', h3, h4⟩ := ih h2 x hx
      refine ⟨y :: Z', ?_, (h4.cons y).trans (List.Perm.swap x y Z')⟩
      rw [delP, if_neg (by simpa [toP] using hne), h3]; rfl

def DfInv (w : World) (Z : List Bc) (b : Nat) (wr : World) : Prop :=
  ∃ Zc Zr K : List Bc, RangeAt wr b w.heap.size (Zc.map toP) (Zr.map toP) ∧ Zc.Perm (K ++ Zr) ∧ (K ++ Zr.filter (fun x => keepB x.1)).Perm (Z.filter fun x => keepB x.1) ∧ ApartB (Zc.map (·.1)) ∧ w.grownBy wr (some b)

end Go.Proofs.Ythlgknglalcggaj

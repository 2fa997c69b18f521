/- The document's kinds (ClosureOf): a plain text. -/
import Derived.Test.YtdmaijmglblccaaGreatDoorZTopClassesOwn
namespace Go.Proofs.YtdmaijmglblccaaGreatDoor
open Go.RowKit
set_option linter.unusedSimpArgs false
set_option linter.unusedVariables false
set_option maxRecDepth 8000

/-- How many kinds there are. -/
def cnK (n : Nat) (K : List Nat) : Nat := ((List.range n).filter fun c => decide (c ∈ K)).length
/-- What the document keeps while it joins: terms, and a kind of each. -/
structure KdI (E : List Pr) (L : List Tm) (K : List Nat) : Prop where
  len : K.length = L.length
  lt : ∀ c ∈ K, c < L.length
  snd : ∀ i j, i < K.length → j < K.length → gd K 0 i = gd K 0 j → Cg E (· ∈ L) (gd L noK i) (gd L noK j)
/-- At the start each is of its own kind. -/
theorem KdI.start (E : List Pr) (L : List Tm) : KdI E L (List.range L.length) := by
  refine ⟨by simp, fun c hc => by simpa using hc, fun i j hi hj e => ?_⟩
  rw [gd_get hi, gd_get hj, List.getElem_range, List.getElem_range] at e
  subst e
  exact .refl _
/-- Of one name, and their parts are of the same kinds. -/
def cngK (L : List Tm) (bl : List (List Nat)) (K : List Nat) (i k : Nat) : Prop :=
  (gd L noK i).name = (gd L noK k).name ∧ (gd bl [] i).length = (gd bl [] k).length ∧ ∀ j, j < (gd bl [] i).length → gd K 0 (gd (gd bl [] i) 0 j) = gd K 0 (gd (gd bl [] k) 0 j)
def okP (L : List Tm) (bl : List (List Nat)) (K : List Nat) (i k : Nat) : Prop := cngK L bl K i k → gd K 0 i = gd K 0 k
theorem cngK.sym {L : List Tm} {bl : List (List Nat)} {K : List Nat} {i k : Nat} (h : cngK L bl K i k) : cngK L bl K k i :=
  ⟨h.1.symm, h.2.1.symm, fun j hj => (h.2.2 j (by rw [h.2.1]; exact hj)).symm⟩
end Go.Proofs.YtdmaijmglblccaaGreatDoor

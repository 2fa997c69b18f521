/- Lambda terms: what is bound from outside is moved; a term is put in (plain). -/
import Derived.Test.YtppdjnejjcdagaaL3
namespace Go.Proofs.Ytppdjnejjcdagaa
open Go.RowKit
set_option linter.unusedSimpArgs false
set_option linter.unusedVariables false
set_option maxRecDepth 8000

/-- No number is great. -/
def BndM : List Lm → Prop
  | [] => True
  | ⟨_, x, l⟩ :: r => (0 ≤ x ∧ x ≤ 100000) ∧ BndM l ∧ BndM r
theorem BndM_nil : BndM [] := by simp [BndM]
theorem BndM_cons (k x : Int) (l r : List Lm) : BndM (⟨k, x, l⟩ :: r) ↔ (0 ≤ x ∧ x ≤ 100000) ∧ BndM l ∧ BndM r := by simp [BndM]
theorem BndM.at : ∀ {l : List Lm} (k : Nat) (h : k < l.length), BndM l → BndM [l[k]]
  | [], k, h, _ => by simp at h
  | ⟨s, x, l⟩ :: r, 0, h, hb => by
    rw [BndM_cons] at hb
    exact (BndM_cons s x l []).2 ⟨hb.1, hb.2.1, BndM_nil⟩
  | ⟨s, x, l⟩ :: r, k + 1, h, hb => by
    rw [BndM_cons] at hb
    have := BndM.at (l := r) k (by simpa using h) hb.2.2
    simpa using this
end Go.Proofs.Ytppdjnejjcdagaa

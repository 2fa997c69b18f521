/- Lambda terms: what is bound from outside is moved; a term is put in (plain). -/
import Derived.Test.YtfbligcampbchaaDoorL3
namespace Go.Proofs.YtfbligcampbchaaDoor
open Go.RowKit
set_option linter.unusedSimpArgs false
set_option linter.unusedVariables false
set_option maxRecDepth 8000

/-- What is bound from outside is bound by so many further on. -/
def higM (y : Int) : Int → List Lm → List Lm
  | _, [] => []
  | d, ⟨k, x, l⟩ :: r => (if k = 1 then (if x < d then ⟨k, x, l⟩ else ⟨1, x + y, []⟩) else ⟨k, x, higM y (deepK d k) l⟩) :: higM y d r
def higT (y d : Int) (t : Lm) : Lm := if t.kind = 1 then (if t.idx < d then t else ⟨1, t.idx + y, []⟩) else ⟨t.kind, t.idx, higM y (deepK d t.kind) t.subs⟩
/-- A term is put for what the nearest binder from outside binds. -/
def insM (z : Lm) : Int → List Lm → List Lm
  | _, [] => []
  | d, ⟨k, x, l⟩ :: r => (if k = 1 then (if x < d then ⟨k, x, l⟩ else if x = d then higT d 0 z else ⟨1, x - 1, []⟩) else ⟨k, x, insM z (deepK d k) l⟩) :: insM z d r
def insT (z : Lm) (d : Int) (t : Lm) : Lm := if t.kind = 1 then (if t.idx < d then t else if t.idx = d then higT d 0 z else ⟨1, t.idx - 1, []⟩) else ⟨t.kind, t.idx, insM z (deepK d t.kind) t.subs⟩
/-- No number is great. -/
def BndM : List Lm → Prop
  | [] => True
  | ⟨_, x, l⟩ :: r => (0 ≤ x ∧ x ≤ 100000) ∧ BndM l ∧ BndM r
theorem BndM_nil : BndM [] := by simp [BndM]
theorem BndM_cons (k x : Int) (l r : List Lm) : BndM (⟨k, x, l⟩ :: r) ↔ (0 ≤ x ∧ x ≤ 100000) ∧ BndM l ∧ BndM r := by simp [BndM]
theorem BndM.at : ∀ {l : List Lm} (k : Nat) (h : k < l.length), BndM l → BndM [l[k]]
  | [], k, h, _ => by simp at h
  | ⟨s, x, l⟩ :: r, 0, h, hb => by
    rw [BndM_cons] at hb
    exact (BndM_cons s x l []).2 ⟨hb.1, hb.2.1, BndM_nil⟩
  | ⟨s, x, l⟩ :: r, k + 1, h, hb => by
    rw [BndM_cons] at hb
    have := BndM.at (l := r) k (by simpa using h) hb.2.2
    simpa using this
end Go.Proofs.YtfbligcampbchaaDoor

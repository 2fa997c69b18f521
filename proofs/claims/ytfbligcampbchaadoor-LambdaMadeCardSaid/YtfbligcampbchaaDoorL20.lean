
/- Walks: where a lambda term can step; how often what is bound is used. -/
import Derived.Test.YtfbligcampbchaaDoorL5
namespace Go.Proofs.YtfbligcampbchaaDoor
open Go.RowKit
set_option linter.unusedSimpArgs false
set_option linter.unusedVariables false
set_option maxRecDepth 8000

theorem ret_boolM {a b : Bool} (h : a = b) : Ending.returned (.bool a) = .returned (.bool b) := by rw [h]
/-- Each knot has as many below it as its kind asks. -/
def ShM : List Lm → Prop
  | [] => True
  | ⟨k, _, l⟩ :: r => l.length = subsK k ∧ ShM l ∧ ShM r
theorem ShM_nil : ShM [] := by simp [ShM]
theorem ShM_cons (k x : Int) (l r : List Lm) : ShM (⟨k, x, l⟩ :: r) ↔ l.length = subsK k ∧ ShM l ∧ ShM r := by simp [ShM]
theorem ShM.at : ∀ {l : List Lm} (k : Nat) (h : k < l.length), ShM l → ShM [l[k]]
  | [], k, h, _ => by simp at h
  | ⟨s, x, l⟩ :: r, 0, h, hb => by
    rw [ShM_cons] at hb
    exact (ShM_cons s x l []).2 ⟨hb.1, hb.2.1, ShM_nil⟩
  | ⟨s, x, l⟩ :: r, k + 1, h, hb => by
    rw [ShM_cons] at hb
    have := ShM.at (l := r) k (by simpa using h) hb.2.2
    simpa using this
/-- Is there a step at this knot? -/
def rdxT (t : Lm) : Bool := decide (t.kind = 3) && (match t.subs with | [] => false | y :: _ => decide (y.kind = 2))
/-- Is there a step somewhere? -/
def stepM : List Lm → Bool
  | [] => false
  | ⟨k, x, l⟩ :: r => rdxT ⟨k, x, l⟩ || stepM l || stepM r
theorem stepM_append (a b : List Lm) : stepM (a ++ b) = (stepM a || stepM b) := by
  induction a with
  | nil => simp [stepM]
  | cons t r ih => obtain ⟨k, x, l⟩ := t; simp only [List.cons_append, stepM, ih, Bool.or_assoc]
theorem stepM_take (l : List Lm) (k : Nat) (h : k < l.length) : stepM (l.take (k + 1)) = (stepM (l.take k) || stepM [l[k]]) := by
  rw [List.take_succ_eq_append_getElem h, stepM_append]
theorem stepM_of {l : List Lm} {k : Nat} (h : k < l.length) (hs : stepM [l[k]] = true) : stepM l = true := by
  have h1 := stepM_append (l.take (k + 1)) (l.drop (k + 1))
  rw [List.take_append_drop, stepM_take l k h, hs] at h1
  simpa using h1
theorem stepM_one (k x : Int) (l : List Lm) : stepM [⟨k, x, l⟩] = (rdxT ⟨k, x, l⟩ || stepM l) := by simp [stepM]
/-- How often what is bound is used. -/
def usesM : Int → List Lm → Nat
  | _, [] => 0
  | i, ⟨k, x, l⟩ :: r => (if k = 1 then (if x = i then 1 else 0) else usesM (deepK i k) l) + usesM i r
theorem usesM_append (i : Int) (a b : List Lm) : usesM i (a ++ b) = usesM i a + usesM i b := by
  induction a with
  | nil => simp [usesM]
  | cons t r ih => obtain ⟨k, x, l⟩ := t; simp only [List.cons_append, usesM, ih]; omega
theorem usesM_take (i : Int) (l : List Lm) (k : Nat) (h : k < l.length) : usesM i (l.take (k + 1)) = usesM i (l.take k) + usesM i [l[k]] := by
  rw [List.take_succ_eq_append_getElem h, usesM_append]
theorem usesM_le (l : List Lm) : ∀ i, usesM i l ≤ sizeM l := by
  induction l using Lm.indL with
  | h0 => intro i; simp [usesM]
  | h k x l r ihl ihr =>
    intro i
    have h1 := ihl (deepK i k)
    have h2 := ihr i
    rw [usesM, sizeM]
    split
    · split <;> omega
    · omega

end Go.Proofs.YtfbligcampbchaaDoor

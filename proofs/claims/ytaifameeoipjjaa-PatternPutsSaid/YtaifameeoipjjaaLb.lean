/- Lambda terms: what is bound from outside is moved; a term is put in (plain). -/
import Derived.Test.YtaifameeoipjjaaZPatternPutsOwn
namespace Go.Proofs.Ytaifameeoipjjaa
open Go.RowKit
set_option linter.unusedSimpArgs false
set_option linter.unusedVariables false
set_option maxRecDepth 8000

/-- What is bound from outside is bound by so many further on. -/
def higM (y : Int) : Int → List Lm → List Lm
  | _, [] => []
  | d, ⟨k, x, l⟩ :: r => (if k = 1 then (if x < d then ⟨k, x, l⟩ else ⟨1, x + y, []⟩) else ⟨k, x, higM y (deepK d k) l⟩) :: higM y d r
def higT (y d : Int) (t : Lm) : Lm := if t.kind = 1 then (if t.idx < d then t else ⟨1, t.idx + y, []⟩) else ⟨t.kind, t.idx, higM y (deepK d t.kind) t.subs⟩
theorem higM_map (y : Int) : ∀ (d : Int) (l : List Lm), higM y d l = l.map (higT y d)
  | _, [] => by simp [higM]
  | d, ⟨k, x, l⟩ :: r => by rw [higM, higM_map y d r]; rfl
theorem higM_take (y d : Int) (l : List Lm) (k : Nat) (h : k < l.length) : higM y d (l.take (k + 1)) = higM y d (l.take k) ++ [higT y d l[k]] := by
  rw [higM_map, higM_map, List.take_succ_eq_append_getElem h, List.map_append]
  rfl
/-- A term is put for what the nearest binder from outside binds. -/
def insM (z : Lm) : Int → List Lm → List Lm
  | _, [] => []
  | d, ⟨k, x, l⟩ :: r => (if k = 1 then (if x < d then ⟨k, x, l⟩ else if x = d then higT d 0 z else ⟨1, x - 1, []⟩) else ⟨k, x, insM z (deepK d k) l⟩) :: insM z d r
def insT (z : Lm) (d : Int) (t : Lm) : Lm := if t.kind = 1 then (if t.idx < d then t else if t.idx = d then higT d 0 z else ⟨1, t.idx - 1, []⟩) else ⟨t.kind, t.idx, insM z (deepK d t.kind) t.subs⟩
theorem insM_map (z : Lm) : ∀ (d : Int) (l : List Lm), insM z d l = l.map (insT z d)
  | _, [] => by simp [insM]
  | d, ⟨k, x, l⟩ :: r => by rw [insM, insM_map z d r]; rfl
theorem insM_take (z : Lm) (d : Int) (l : List Lm) (k : Nat) (h : k < l.length) : insM z d (l.take (k + 1)) = insM z d (l.take k) ++ [insT z d l[k]] := by
  rw [insM_map, insM_map, List.take_succ_eq_append_getElem h, List.map_append]
  rfl
/-- No number is great. -/
def BndM : List Lm → Prop
  | [] => True
  | ⟨_, x, l⟩ :: r => (0 ≤ x ∧ x ≤ 100000) ∧ BndM l ∧ BndM r
theorem BndM_nil : BndM [] := by simp [BndM]
theorem BndM_cons (k x : Int) (l r : List Lm) : BndM (⟨k, x, l⟩ :: r) ↔ (0 ≤ x ∧ x ≤ 100000) ∧ BndM l ∧ BndM r := by simp [BndM]
theorem BndM.at : ∀ {l : List Lm} (k : Nat) (h : k < l.length), BndM l → BndM [l[k]]
  | [], k, h, _ => by simp at h
  | ⟨s, x, l⟩ :: r, 0, h, hb => by
    rw [BndM_cons] at hb
    exact (BndM_cons s x l []).2 ⟨hb.1, hb.2.1, BndM_nil⟩
  | ⟨s, x, l⟩ :: r, k + 1, h, hb => by
    rw [BndM_cons] at hb
    have := BndM.at (l := r) k (by simpa using h) hb.2.2
    simpa using this
theorem bnd_of_err : ∀ (l : List Lm) (u m : Int), 0 ≤ u → u + sizeM l ≤ 50000 → m ≤ 50000 → errM u m l = 0 → BndM l := by
  intro l
  induction l using Lm.indL with
  | h0 => intros; exact BndM_nil
  | h k x l r ihl ihr =>
    intro u m hu hs hm he
    have e : sizeM ((⟨k, x, l⟩ : Lm) :: r) = 1 + sizeM l + sizeM r := by simp [sizeM]
    rw [e] at hs
    rw [errM] at he
    split at he
    · rename_i h1
      split at he
      · rename_i h2
        refine (BndM_cons k x l r).2 ⟨?_, ihl (deepK u k) m ?_ ?_ hm h2, ihr u m hu (by omega) hm he⟩
        · unfold knE at h1
          split at h1
          · cases h1
          · split at h1
            · cases h1
            · split at h1
              · cases h1
              · rename_i h3
                have h4 : mostK u m k ≤ 50001 := by
                  unfold mostK
                  split
                  · omega
                  · split
                    · omega
                    · split <;> omega
                omega
        · unfold deepK; split <;> omega
        · unfold deepK; split <;> omega
      · rename_i h2; exact absurd he h2
    · rename_i h1; exact absurd he h1
end Go.Proofs.Ytaifameeoipjjaa

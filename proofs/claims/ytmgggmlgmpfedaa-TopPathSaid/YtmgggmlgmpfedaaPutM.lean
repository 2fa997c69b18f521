/- What comes of putting a term at a place. -/
import Derived.Test.YtmgggmlgmpfedaaZTopPathOwn
namespace Go.Proofs.Ytmgggmlgmpfedaa

/-- The i-th of a list turned, counted from j on. -/
def putL (f : Tm → Tm) (i : Int) : Nat → List Tm → List Tm
  | _, [] => []
  | j, a :: r => (if (j : Int) = i then f a else a) :: putL f i (j + 1) r

/-- x at a place. -/
def putT (x : Tm) : List Int → Tm → Tm
  | [], _ => x
  | i :: r, t => ⟨t.name, putL (putT x r) i 0 t.args⟩

theorem putL_length (f : Tm → Tm) (i : Int) : ∀ (l : List Tm) (j : Nat), (putL f i j l).length = l.length
  | [], _ => rfl
  | a :: r, j => by simp [putL, putL_length f i r]

theorem putL_get (f : Tm → Tm) (i : Int) : ∀ (l : List Tm) (j k : Nat) (h : k < l.length), (putL f i j l)[k]'(by rw [putL_length]; exact h) = if ((j + k : Nat) : Int) = i then f l[k] else l[k]
  | [], j, k, h => by simp at h
  | a :: r, j, 0, h => by simp [putL]
  | a :: r, j, k + 1, h => by
    have := putL_get f i r (j + 1) k (by simpa using h)
    simp only [putL, List.getElem_cons_succ, this]
    rw [show j + 1 + k = j + (k + 1) by omega]

theorem putL_take (f : Tm → Tm) (i : Int) (l : List Tm) (k : Nat) (h : k < l.length) : (putL f i 0 l).take (k + 1) = (putL f i 0 l).take k ++ [if (k : Int) = i then f l[k] else l[k]] := by
  rw [List.take_succ_eq_append_getElem (by rw [putL_length]; exact h), putL_get f i l 0 k h, Nat.zero_add]
#print axioms putL_take
end Go.Proofs.Ytmgggmlgmpfedaa

/- Texts read as lambda terms: what both readers do. -/
import Derived.Test.YtfbligcampbchaaDoorZTopNamesOwn
import Derived.Test.YtfbligcampbchaaDoorLt3
namespace Go.Proofs.YtfbligcampbchaaDoor
open Go.RowKit
set_option linter.unusedSimpArgs false
set_option linter.unusedVariables false

/-- What reading gives: an error (0: none), a lambda term, where it ended, how many knots there were. -/
structure Lrd where
  err : Int
  t : Lm
  pos : Nat
  k : Nat
def noLr (e : Int) : Lrd := ⟨e, ⟨0, 0, []⟩, 0, 0⟩
/-- The number of a constant's name. -/
def conN (n : ByteArray) : Option Nat := (List.range 40).find? fun k => decide (n.data.toList = 99 :: Lib.decDigits k)

/-- The place of the last one of a name. -/
def lastN (n : ByteArray) : List ByteArray → Option Nat
  | [] => none
  | x :: r => match lastN n r with
    | some i => some (i + 1)
    | none => if x = n then some 0 else none

/-- What a name stands for. -/
def namedL (nm : List ByteArray) (n : ByteArray) (p k : Nat) : Lrd := match lastN n nm with
  | some i => ⟨0, ⟨1, (nm.length : Int) - 1 - i, []⟩, p, k⟩
  | none => match conN n with
    | some c => ⟨0, ⟨4, c, []⟩, p, k⟩
    | none => noLr 15

/-- What is read: a term, a piece of it, or what stands behind a term. -/
inductive Lmode where
  | term
  | piece
  | behind (t : Lm)

/-- What a name is, from i on: an error or where it ends. -/
def nameE (s : ByteArray) (i : Nat) : Int := if stopAt s i = i then (if i = s.size then 13 else 12) else if nameB (s.extract i (stopAt s i)) = false then 1 else 0
/-- A sign that must be there. -/
def askE (s : ByteArray) (i : Nat) (c : Int) : Int := if i < s.size ∧ byteAt s i = c then 0 else if i = s.size then 13 else 12

def lrd (s : ByteArray) : Nat → Lmode → List ByteArray → Nat → Nat → Lrd
  | 0, _, _, _, _ => noLr 99
  | f + 1, .term, nm, i, k =>
    if i < s.size ∧ byteAt s i = 92 then
      if 200 < k + 1 then noLr 3
      else if nameE s (i + 1) ≠ 0 then noLr (nameE s (i + 1))
      else if askE s (stopAt s (i + 1)) 46 ≠ 0 then noLr (askE s (stopAt s (i + 1)) 46)
      else
        let r := lrd s f .term (nm ++ [s.extract (i + 1) (stopAt s (i + 1))]) (stopAt s (i + 1) + 1) (k + 1)
        if r.err ≠ 0 then noLr r.err else ⟨0, ⟨2, 0, [r.t]⟩, r.pos, r.k⟩
    else
      let r := lrd s f .piece nm i k
      if r.err ≠ 0 then noLr r.err else lrd s f (.behind r.t) nm r.pos r.k
  | f + 1, .behind t, nm, i, k =>
    if i < s.size ∧ byteAt s i = 32 then
      if 200 < k + 1 then noLr 3
      else
        let r := lrd s f .piece nm (i + 1) (k + 1)
        if r.err ≠ 0 then noLr r.err else lrd s f (.behind ⟨3, 0, [t, r.t]⟩) nm r.pos r.k
    else ⟨0, t, i, k⟩
  | f + 1, .piece, nm, i, k =>
    if i < s.size ∧ byteAt s i = 40 then
      let r := lrd s f .term nm (i + 1) k
      if r.err ≠ 0 then noLr r.err else if askE s r.pos 41 ≠ 0 then noLr (askE s r.pos 41) else ⟨0, r.t, r.pos + 1, r.k⟩
    else if nameE s i ≠ 0 then noLr (nameE s i)
    else if 200 < k + 1 then noLr 3
    else namedL nm (s.extract i (stopAt s i)) (stopAt s i) (k + 1)

theorem nameE_go {s : ByteArray} {i : Nat} (h : nameE s i = 0) : i < stopAt s i ∧ nameB (s.extract i (stopAt s i)) = true := by
  unfold nameE at h
  by_cases h1 : stopAt s i = i
  · rw [if_pos h1] at h; split at h <;> cases h
  · rw [if_neg h1] at h
    have := stopAt_ge s i
    refine ⟨by omega, ?_⟩
    cases h2 : nameB (s.extract i (stopAt s i)) with
    | true => rfl
    | false => rw [if_pos h2] at h; cases h
theorem askE_go {s : ByteArray} {i : Nat} {c : Int} (h : askE s i c = 0) : i < s.size ∧ byteAt s i = c := by
  unfold askE at h
  by_cases h1 : i < s.size ∧ byteAt s i = c
  · exact h1
  · rw [if_neg h1] at h; split at h <;> cases h
theorem lastN_lt {n : ByteArray} : ∀ {l : List ByteArray} {i : Nat}, lastN n l = some i → i < l.length
  | [], i, h => by simp [lastN] at h
  | x :: r, i, h => by
    unfold lastN at h
    cases hr : lastN n r with
    | some j => rw [hr] at h; simp at h; subst h; have := lastN_lt hr; simp; omega
    | none => rw [hr] at h; simp at h; simp [← h.2]
theorem named_ok {nm : List ByteArray} {n : ByteArray} {p k : Nat} (h : (namedL nm n p k).err = 0) : (namedL nm n p k).pos = p ∧ (namedL nm n p k).k = k := by
  unfold namedL at *
  split
  · exact ⟨rfl, rfl⟩
  · rename_i h1
    rw [h1] at h
    split
    · exact ⟨rfl, rfl⟩
    · rename_i h2
      rw [h2] at h
      simp [noLr] at h

/-- Where reading ends, and how many knots there were. -/
theorem lrd_pos (s : ByteArray) : ∀ f m nm i k, (lrd s f m nm i k).err = 0 → i ≤ s.size → k ≤ 200 → i ≤ (lrd s f m nm i k).pos ∧ (lrd s f m nm i k).pos ≤ s.size ∧ (lrd s f m nm i k).k ≤ 200 ∧ ((∀ t, m ≠ .behind t) → i < (lrd s f m nm i k).pos) := by
  intro f
  induction f with
  | zero => intro m nm i k h; simp [lrd, noLr] at h
  | succ f ih =>
    intro m nm i k h hi hk
    cases m with
    | term =>
      unfold lrd at h ⊢
      by_cases h1 : i < s.size ∧ byteAt s i = 92
      · rw [if_pos h1] at h ⊢
        by_cases h2 : 200 < k + 1
        · rw [if_pos h2] at h; simp [noLr] at h
        rw [if_neg h2] at h ⊢
        by_cases h3 : nameE s (i + 1) ≠ 0
        · rw [if_pos h3] at h; exact absurd h h3
        rw [if_neg h3] at h ⊢
        by_cases h4 : askE s (stopAt s (i + 1)) 46 ≠ 0
        · rw [if_pos h4] at h; exact absurd h h4
        rw [if_neg h4] at h ⊢
        simp only at h ⊢
        have h3' := nameE_go (by simpa using h3)
        have h4' := askE_go (by simpa using h4)
        by_cases h5 : (lrd s f .term (nm ++ [s.extract (i + 1) (stopAt s (i + 1))]) (stopAt s (i + 1) + 1) (k + 1)).err ≠ 0
        · rw [if_pos h5] at h; exact absurd h h5
        rw [if_neg h5]
        have := ih .term _ _ _ (by simpa using h5) (by omega) (by omega)
        refine ⟨?_, this.2.1, this.2.2.1, fun _ => ?_⟩
        · have := this.1; simp only; omega
        · have := this.1; simp only; omega
      · rw [if_neg h1] at h ⊢
        simp only at h ⊢
        by_cases h5 : (lrd s f .piece nm i k).err ≠ 0
        · rw [if_pos h5] at h; exact absurd h h5
        rw [if_neg h5] at h ⊢
        have g1 := ih .piece nm i k (by simpa using h5) hi hk
        have g2 := ih (.behind (lrd s f .piece nm i k).t) nm _ _ h g1.2.1 g1.2.2.1
        have g3 := g1.2.2.2 (fun t e => by cases e)
        exact ⟨by omega, g2.2.1, g2.2.2.1, fun _ => by omega⟩
    | behind t =>
      unfold lrd at h ⊢
      by_cases h1 : i < s.size ∧ byteAt s i = 32
      · rw [if_pos h1] at h ⊢
        by_cases h2 : 200 < k + 1
        · rw [if_pos h2] at h; simp [noLr] at h
        rw [if_neg h2] at h ⊢
        simp only at h ⊢
        by_cases h5 : (lrd s f .piece nm (i + 1) (k + 1)).err ≠ 0
        · rw [if_pos h5] at h; exact absurd h h5
        rw [if_neg h5] at h ⊢
        have g1 := ih .piece nm (i + 1) (k + 1) (by simpa using h5) (by omega) (by omega)
        have g2 := ih (.behind ⟨3, 0, [t, (lrd s f .piece nm (i + 1) (k + 1)).t]⟩) nm _ _ h g1.2.1 g1.2.2.1
        exact ⟨by omega, g2.2.1, g2.2.2.1, fun hh => absurd rfl (hh t)⟩
      · rw [if_neg h1]
        exact ⟨Nat.le_refl _, hi, hk, fun hh => absurd rfl (hh t)⟩
    | piece =>
      unfold lrd at h ⊢
      by_cases h1 : i < s.size ∧ byteAt s i = 40
      · rw [if_pos h1] at h ⊢
        simp only at h ⊢
        by_cases h5 : (lrd s f .term nm (i + 1) k).err ≠ 0
        · rw [if_pos h5] at h; exact absurd h h5
        rw [if_neg h5] at h ⊢
        by_cases h6 : askE s (lrd s f .term nm (i + 1) k).pos 41 ≠ 0
        · rw [if_pos h6] at h; exact absurd h h6
        rw [if_neg h6]
        have g1 := ih .term nm (i + 1) k (by simpa using h5) (by omega) hk
        have g2 := askE_go (by simpa using h6)
        exact ⟨by simp only; omega, by simp only; omega, g1.2.2.1, fun _ => by simp only; omega⟩
      · rw [if_neg h1] at h ⊢
        by_cases h3 : nameE s i ≠ 0
        · rw [if_pos h3] at h; exact absurd h h3
        rw [if_neg h3] at h ⊢
        by_cases h2 : 200 < k + 1
        · rw [if_pos h2] at h; simp [noLr] at h
        rw [if_neg h2] at h ⊢
        have h3' := nameE_go (by simpa using h3)
        have h4 := named_ok h
        have h5 := stopAt_le s hi
        rw [h4.1, h4.2]
        exact ⟨by omega, h5, by omega, fun _ => by omega⟩
end Go.Proofs.YtfbligcampbchaaDoor

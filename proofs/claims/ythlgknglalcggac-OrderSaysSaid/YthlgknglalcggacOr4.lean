/- Terms that are told by numbers: plain. -/
import Derived.Test.YthlgknglalcggacZOrderSaysOwn
namespace Go.Proofs.Ythlgknglalcggac
open Go.RowKit
set_option linter.unusedSimpArgs false
set_option linter.unusedVariables false

theorem eqL_all : ∀ l k : List Tm, l.length = k.length → eqL l k = true → l = k := by
  intro l
  induction l using Tm.indL with
  | h0 => intro k h _; cases k with
    | nil => rfl
    | cons _ _ => simp at h
  | h s a r iha ihr =>
    intro k h he
    cases k with
    | nil => simp at h
    | cons u q =>
      obtain ⟨s', b⟩ := u
      rw [eqL_cons] at he
      simp only [Bool.and_eq_true] at he
      obtain ⟨h1, h2⟩ := he
      unfold sameB at h1
      simp only [Bool.and_eq_true, beq_iff_eq] at h1
      obtain ⟨h3, h4, h5⟩ := h1
      rw [ihr q (by simpa using h) h2, iha b h4 h5, bytes_inj h3]
theorem eqL_self : ∀ l : List Tm, eqL l l = true := by
  intro l
  induction l using Tm.indL with
  | h0 => simp [eqL]
  | h s a r iha ihr =>
    rw [eqL_cons, ihr]
    simp [sameB, iha]
theorem sameB_iff {a b : Tm} : sameB a b = true ↔ a = b := by
  constructor
  · intro h
    obtain ⟨s, l⟩ := a
    obtain ⟨s', k⟩ := b
    unfold sameB at h
    simp only [Bool.and_eq_true, beq_iff_eq] at h
    rw [bytes_inj h.1, eqL_all l k h.2.1 h.2.2]
  · rintro rfl
    unfold sameB
    simp [eqL_self]
/-- At which place a term stands; behind all: nowhere. -/
def numT (t : Tm) : List Tm → Nat
  | [] => 0
  | x :: r => if sameB x t = true then 0 else numT t r + 1
theorem numT_le (t : Tm) : ∀ S, numT t S ≤ S.length
  | [] => by simp [numT]
  | x :: r => by
    have := numT_le t r
    rw [numT]
    split
    · omega
    · simp only [List.length_cons]; omega
theorem numT_lt {t : Tm} : ∀ {S : List Tm}, numT t S < S.length ↔ t ∈ S
  | [] => by simp [numT]
  | x :: r => by
    rw [numT, List.mem_cons]
    by_cases h : sameB x t = true
    · rw [if_pos h]
      simp only [List.length_cons]
      exact ⟨fun _ => Or.inl (sameB_iff.1 h).symm, fun _ => by omega⟩
    · rw [if_neg h]
      have ih := numT_lt (t := t) (S := r)
      simp only [List.length_cons]
      constructor
      · intro h1
        exact Or.inr (ih.1 (by omega))
      · rintro (h1 | h1)
        · exact absurd (sameB_iff.2 h1.symm) h
        · have := ih.2 h1; omega
theorem numT_at {t : Tm} : ∀ {S : List Tm}, t ∈ S → S[numT t S]? = some t
  | [], h => by cases h
  | x :: r, h => by
    rw [numT]
    by_cases h1 : sameB x t = true
    · rw [if_pos h1, sameB_iff.1 h1]
      rfl
    · rw [if_neg h1, List.getElem?_cons_succ]
      rcases List.mem_cons.1 h with h2 | h2
      · exact absurd (sameB_iff.2 h2.symm) h1
      · exact numT_at h2
/-- The same number, the same term. -/
theorem numT_inj {S : List Tm} {t u : Tm} (ht : t ∈ S) (hu : u ∈ S) (h : numT t S = numT u S) : t = u := by
  have h1 := numT_at ht
  rw [h, numT_at hu] at h1
  cases h1
  rfl
/-- More behind makes no difference. -/
theorem numT_more {t : Tm} : ∀ {S : List Tm} (R : List Tm), t ∈ S → numT t (S ++ R) = numT t S
  | [], R, h => by cases h
  | x :: r, R, h => by
    rw [List.cons_append, numT, numT]
    by_cases h1 : sameB x t = true
    · rw [if_pos h1, if_pos h1]
    · rw [if_neg h1, if_neg h1]
      rcases List.mem_cons.1 h with h2 | h2
      · exact absurd (sameB_iff.2 h2.symm) h1
      · rw [numT_more R h2]
/-- One more, if it is new. -/
def seeT (S : List Tm) (t : Tm) : List Tm := if numT t S < S.length then S else S ++ [t]
theorem see_mem (S : List Tm) (t : Tm) : t ∈ seeT S t := by
  unfold seeT
  split
  · rename_i h; exact numT_lt.1 h
  · simp
theorem see_grows (S : List Tm) (t : Tm) : ∃ R, seeT S t = S ++ R := by
  unfold seeT
  split
  · exact ⟨[], by simp⟩
  · exact ⟨[t], rfl⟩
theorem see_num (S : List Tm) (t : Tm) : numT t (seeT S t) = numT t S := by
  unfold seeT
  split
  · rfl
  · rename_i h
    have key : ∀ S : List Tm, t ∉ S → numT t (S ++ [t]) = S.length ∧ numT t S = S.length := by
      intro S
      induction S with
      | nil => intro _; simp [numT, sameB_iff.2 (rfl : t = t)]
      | cons x r ih =>
        intro hn
        have h1 : ¬ sameB x t = true := fun e => hn (by rw [sameB_iff.1 e]; simp)
        obtain ⟨i1, i2⟩ := ih fun h => hn (by simp [h])
        rw [List.cons_append, numT, numT, if_neg h1, if_neg h1, i1, i2]
        simp
    have := key S fun hm => h (numT_lt.2 hm)
    omega
/-- All of a list, one behind the other. -/
def seeL (S : List Tm) (l : List Tm) : List Tm := l.foldl seeT S
theorem seeL_grows : ∀ (l S : List Tm), ∃ R, seeL S l = S ++ R
  | [], S => ⟨[], by simp [seeL]⟩
  | t :: l, S => by
    obtain ⟨R1, h1⟩ := see_grows S t
    obtain ⟨R2, h2⟩ := seeL_grows l (seeT S t)
    exact ⟨R1 ++ R2, by rw [seeL, List.foldl_cons, ← seeL, h2, h1, List.append_assoc]⟩
theorem seeL_mem : ∀ (l S : List Tm) {t : Tm}, t ∈ l → t ∈ seeL S l
  | u :: l, S, t, h => by
    rw [seeL, List.foldl_cons, ← seeL]
    rcases List.mem_cons.1 h with rfl | h
    · obtain ⟨R, e⟩ := seeL_grows l (seeT S t)
      rw [e]
      exact List.mem_append_left _ (see_mem S t)
    · exact seeL_mem l _ h
#print axioms numT_inj
#print axioms seeL_mem
end Go.Proofs.Ythlgknglalcggac

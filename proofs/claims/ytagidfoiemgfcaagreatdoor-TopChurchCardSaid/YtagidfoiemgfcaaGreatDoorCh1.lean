/- Plain: all that the law TopChurch asks of a lambda term. -/
import Derived.Test.YtagidfoiemgfcaaGreatDoorCr2
import Derived.Test.YtagidfoiemgfcaaGreatDoorTe4
import Derived.Test.YtagidfoiemgfcaaGreatDoorHs7
import Derived.Test.YtagidfoiemgfcaaGreatDoorDv5
namespace Go.Proofs.YtagidfoiemgfcaaGreatDoor
open Go.RowKit
set_option linter.unusedSimpArgs false
set_option linter.unusedVariables false
set_option maxRecDepth 8000

theorem ch_may {n : Nat} {t : Lm} (hn : n ≤ 40) (he : errM n 0 [t] = 0) (hz : sizeM [t] ≤ 200) : lamE n 0 t = 0 := by
  unfold lamE
  rw [if_neg (by omega), if_neg (by omega)]
  exact he
/-- How working out may end. -/
theorem ch_codes (inn : Bool) : ∀ (k : Nat) (t : Lm), (endM inn k t).1 = 0 ∨ (endM inn k t).1 = 8 ∨ (endM inn k t).1 = 9
  | 0, t => by
    rw [endM]
    split
    · exact Or.inr (Or.inr rfl)
    · exact Or.inl rfl
  | k + 1, t => by
    rw [endM]
    split
    · split
      · exact Or.inr (Or.inl rfl)
      · exact ch_codes inn k _
    · exact Or.inl rfl
/-- A term that comes of t. -/
def From (t s : Lm) : Prop := ∃ p q : PX, p.m = t ∧ q.m = s ∧ PX.Pars p q
theorem from_self {n : Nat} {t : Lm} (he : errM n 0 [t] = 0) : From t t := by
  obtain ⟨p, hp⟩ := px_of t _ he
  exact ⟨p, p, hp, hp, .refl p⟩
theorem from_step {n : Nat} {t : Lm} (he : errM n 0 [t] = 0) {e : Hnd} (h : e ∈ hndT 2001 t) : From t e.2.2 := by
  obtain ⟨p, rfl⟩ := px_of t _ he
  obtain ⟨q, h1, h2⟩ := px_hnd 2001 p e h
  exact ⟨p, q, rfl, h1.symm, .one h2⟩
theorem from_dev {n : Nat} {t d : Lm} (he : errM n 0 [t] = 0) (h : devT 2001 t = some d) : From t d := by
  obtain ⟨p, rfl⟩ := px_of t _ he
  exact ⟨p, p.dev, rfl, (px_dev 2001 p d h).symm, .one (PX.taka (.refl p))⟩
/-- Whatever comes of t ends where t ends. -/
theorem from_end {t s : Lm} (h : From t s) (i1 i2 : Bool) (k1 k2 : Nat) (h1 : (endM i1 k1 t).1 = 0) (h2 : (endM i2 k2 s).1 = 0) : (endM i2 k2 s).2.1 = (endM i1 k1 t).2.1 := by
  obtain ⟨p, q, rfl, rfl, hpq⟩ := h
  obtain ⟨a, e1, e2, e3, _⟩ := px_end i1 k1 p (endM i1 k1 p.m).2.1 (endM i1 k1 p.m).2.2 (by rw [← h1])
  obtain ⟨b, f1, f2, f3, _⟩ := px_end i2 k2 q (endM i2 k2 q.m).2.1 (endM i2 k2 q.m).2.2 (by rw [← h2])
  rw [e1, f1, PX.only e2 (hpq.trans f2) e3 f3]
/-- No step, no work. -/
theorem ch_zero {n : Nat} {t : Lm} (he : errM n 0 [t] = 0) (k : Nat) (h : (endM false k t).1 = 0) : (endM false k t).2.2 = 0 ↔ stepM [t] = false := by
  obtain ⟨p, rfl⟩ := px_of t _ he
  obtain ⟨a, _, _, _, e4⟩ := px_end false k p (endM false k p.m).2.1 (endM false k p.m).2.2 (by rw [← h])
  rw [px_st]
  exact e4
theorem ch_nf {n : Nat} {t : Lm} (he : errM n 0 [t] = 0) (k : Nat) (h : (endM false k t).1 = 0) : stepM [(endM false k t).2.1] = false := by
  obtain ⟨p, rfl⟩ := px_of t _ he
  obtain ⟨a, e1, _, e3, _⟩ := px_end false k p (endM false k p.m).2.1 (endM false k p.m).2.2 (by rw [← h])
  rw [e1, px_st]
  exact e3
theorem ch_err {n : Nat} {t : Lm} (he : errM n 0 [t] = 0) : ∀ (k : Nat), errM n 0 [(endM false k t).2.1] = 0 := by
  intro k
  induction k generalizing t with
  | zero => rw [endM]; split <;> exact he
  | succ k ih =>
    rw [endM]
    split
    · split
      · exact he
      · exact ih (err_stp false 0 2001 t n (by omega) he)
    · exact he

theorem st_someC : ∀ {l : List Lm}, stepM l = true → ∃ (q : Nat) (h : q < l.length), stepM [l[q]] = true
  | [], h => by simp [stepM] at h
  | t :: r, h => by
    have h1 : stepM (t :: r) = (stepM [t] || stepM r) := stepM_append [t] r
    rw [h1, Bool.or_eq_true] at h
    rcases h with h | h
    · exact ⟨0, by simp, h⟩
    · obtain ⟨q, hq, hs⟩ := st_someC h
      exact ⟨q + 1, by simpa using hq, by simpa using hs⟩
theorem size_getC : ∀ (l : List Lm) (q : Nat) (h : q < l.length), sizeM [l[q]] ≤ sizeM l
  | t :: r, 0, h => by have : sizeM (t :: r) = sizeM [t] + sizeM r := sizeM_append [t] r; simp only [List.getElem_cons_zero]; omega
  | t :: r, q + 1, h => by
    have h1 : sizeM (t :: r) = sizeM [t] + sizeM r := sizeM_append [t] r
    have := size_getC r q (by simpa using h)
    simp only [List.getElem_cons_succ]
    omega
theorem hnd_someC (n : Nat) : ∀ (t : Lm), sizeM [t] ≤ n → stepM [t] = true → hndT n t ≠ [] := by
  induction n with
  | zero => rintro ⟨k, x, l⟩ h _; simp [sizeM] at h
  | succ n ih =>
    rintro ⟨k, x, l⟩ hz h
    rw [stepM_one, Bool.or_eq_true] at h
    rw [hndT]
    rcases h with h | h
    · have h1 : hndH ⟨k, x, l⟩ ≠ [] := by unfold hndH; rw [if_pos h]; simp
      intro e
      exact h1 (List.append_eq_nil_iff.1 e).1
    · obtain ⟨q, hq, hs⟩ := st_someC h
      have hle := size_getC l q hq
      have h2 := ih l[q] (by simp only [sizeM] at hz; omega) hs
      obtain ⟨p, hp⟩ := List.exists_mem_of_ne_nil _ h2
      have h3 := hndR_sub (k := k) (x := x) hq hp
      intro e
      rw [(List.append_eq_nil_iff.1 e).2] at h3
      simp at h3
/-- Steps are told just where there are some. -/
theorem ch_len {t : Lm} (hz : sizeM [t] ≤ 2001) : (stsT 2001 t).length = 0 ↔ stepM [t] = false := by
  unfold stsT
  rw [List.length_map]
  constructor
  · intro h
    cases hs : stepM [t] with
    | false => rfl
    | true => exact absurd (List.length_eq_zero_iff.1 h) (hnd_someC 2001 t hz hs)
  · intro h
    rw [hnd_none 2001 t h]; rfl
theorem ch_stE {n : Nat} {t : Lm} (hn : n ≤ 40) (he : errM n 0 [t] = 0) (hz : sizeM [t] ≤ 200) : stE t n = 0 ∨ stE t n = 8 := by
  unfold stE
  rw [if_pos (ch_may hn he hz)]
  split
  · exact Or.inr rfl
  · exact Or.inl rfl
theorem ch_stE0 {n : Nat} {t : Lm} (hn : n ≤ 40) (he : errM n 0 [t] = 0) (hz : sizeM [t] ≤ 200) (h : stepM [t] = false) : stE t n = 0 ∧ (stsT 2001 t).length = 0 := by
  refine ⟨?_, (ch_len (by omega)).2 h⟩
  unfold stE
  rw [if_pos (ch_may hn he hz), if_neg]
  rintro ⟨p, hp, _⟩
  rw [hnd_none 2001 t h] at hp
  simp at hp
/-- Of each step, and of the development: it may be, and it ends where t ends. -/
def ChOk (n : Nat) (t s : Lm) : Prop := errM n 0 [s] = 0 ∧ From t s
theorem ch_steps {n : Nat} {t : Lm} (he : errM n 0 [t] = 0) : ∀ s ∈ stsT 2001 t, ChOk n t s := by
  intro s hs
  unfold stsT at hs
  rw [List.mem_map] at hs
  obtain ⟨e, h1, rfl⟩ := hs
  exact ⟨hnd_err 0 2001 t n e (by omega) he h1, from_step he h1⟩
theorem ch_dev {n : Nat} {t : Lm} (hn : n ≤ 40) (he : errM n 0 [t] = 0) (hz : sizeM [t] ≤ 200) : (dvE t n = 8) ∨ (dvE t n = 0 ∧ ChOk n t (dvY t)) := by
  unfold dvE
  rw [if_pos (ch_may hn he hz)]
  cases hd : devT 2001 t with
  | none => left; simp
  | some d =>
    right
    refine ⟨by simp, ?_⟩
    have : dvY t = d := by unfold dvY; rw [hd]; rfl
    rw [this]
    exact ⟨(err_dev 0 2001 t d n (by omega) he hd).1, from_dev he hd⟩
theorem ch_same {n : Nat} {t : Lm} (he : errM n 0 [t] = 0) (h1 : (endM false 60 t).1 = 0) (h2 : (endM true 60 t).1 = 0) : (endM true 60 t).2.1 = (endM false 60 t).2.1 := from_end (from_self he) false true 60 60 h1 h2
theorem ch_after {n : Nat} {t s : Lm} (h : ChOk n t s) (h1 : (endM false 60 t).1 = 0) (h2 : (endM false 400 s).1 = 0) : (endM false 400 s).2.1 = (endM false 60 t).2.1 := from_end h.2 false false 60 400 h1 h2
end Go.Proofs.YtagidfoiemgfcaaGreatDoor

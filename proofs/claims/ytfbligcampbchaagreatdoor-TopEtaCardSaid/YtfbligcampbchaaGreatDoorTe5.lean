/- Plain: all that the law TopEta asks of a lambda term. -/
import Derived.Test.YtfbligcampbchaaGreatDoorTe4
import Derived.Test.YtfbligcampbchaaGreatDoorHs7
namespace Go.Proofs.YtfbligcampbchaaGreatDoor
open Go.RowKit
set_option linter.unusedSimpArgs false
set_option linter.unusedVariables false
set_option maxRecDepth 8000

theorem step_some : ∀ {l : List Lm}, stepM l = true → ∃ (q : Nat) (h : q < l.length), stepM [l[q]] = true
  | [], h => by simp [stepM] at h
  | t :: r, h => by
    have h1 : stepM (t :: r) = (stepM [t] || stepM r) := stepM_append [t] r
    rw [h1, Bool.or_eq_true] at h
    rcases h with h | h
    · exact ⟨0, by simp, h⟩
    · obtain ⟨q, hq, hs⟩ := step_some h
      exact ⟨q + 1, by simpa using hq, by simpa using hs⟩
theorem size_get : ∀ (l : List Lm) (q : Nat) (h : q < l.length), sizeM [l[q]] ≤ sizeM l
  | t :: r, 0, h => by have : sizeM (t :: r) = sizeM [t] + sizeM r := sizeM_append [t] r; simp only [List.getElem_cons_zero]; omega
  | t :: r, q + 1, h => by
    have h1 : sizeM (t :: r) = sizeM [t] + sizeM r := sizeM_append [t] r
    have := size_get r q (by simpa using h)
    simp only [List.getElem_cons_succ]
    omega
/-- Where there is a step, one is told. -/
theorem hnd_some (n : Nat) : ∀ (t : Lm), sizeM [t] ≤ n → stepM [t] = true → hndT n t ≠ [] := by
  induction n with
  | zero => rintro ⟨k, x, l⟩ h _; simp [sizeM] at h
  | succ n ih =>
    rintro ⟨k, x, l⟩ hz h
    rw [stepM_one, Bool.or_eq_true] at h
    rw [hndT]
    rcases h with h | h
    · have h1 : hndH ⟨k, x, l⟩ ≠ [] := by unfold hndH; rw [if_pos h]; simp
      intro e
      exact h1 (List.append_eq_nil_iff.1 e).1
    · obtain ⟨q, hq, hs⟩ := step_some h
      have hle := size_get l q hq
      have h2 := ih l[q] (by simp only [sizeM] at hz; omega) hs
      obtain ⟨p, hp⟩ := List.exists_mem_of_ne_nil _ h2
      have h3 := hndR_sub (k := k) (x := x) hq hp
      intro e
      rw [(List.append_eq_nil_iff.1 e).2] at h3
      simp at h3
theorem sts_nil {t : Lm} (hz : sizeM [t] ≤ 2001) (h : stsT 2001 t = []) : stepM [t] = false := by
  cases hs : stepM [t] with
  | false => rfl
  | true =>
    unfold stsT at h
    rw [List.map_eq_nil_iff] at h
    exact absurd h (hnd_some 2001 t hz hs)
theorem sts_none {t : Lm} (h : stepM [t] = false) : stsT 2001 t = [] := by unfold stsT; rw [hnd_none 2001 t h]; rfl

theorem lamE_of {n : Nat} {t : Lm} (hn : n ≤ 40) (he : errM n 0 [t] = 0) (hz : sizeM [t] ≤ 200) : lamE n 0 t = 0 := by
  unfold lamE
  rw [if_neg (by omega), if_neg (by omega)]
  exact he
/-- No step of a small term makes one that is too great. -/
theorem stE_of {n : Nat} {t : Lm} (hn : n ≤ 40) (he : errM n 0 [t] = 0) (hz : sizeM [t] ≤ 80) : stE t n = 0 := by
  unfold stE
  rw [if_pos (lamE_of hn he (by omega)), if_neg]
  rintro ⟨p, hp, hb⟩
  have h1 := hnd_size 2001 t p (lf_of_err _ _ _ he) hp
  unfold badH at hb
  have h2 : sizeM [t] * sizeM [t] ≤ 80 * 80 := Nat.mul_le_mul hz hz
  omega

/-- What comes of a term by eta. -/
theorem te_eta {n : Nat} {t : Lm} (he : errM n 0 [t] = 0) : errM n 0 [etaT t] = 0 ∧ sizeM [etaT t] ≤ sizeM [t] ∧ etaT (etaT t) = etaT t ∧ (stepM [t] = false → stepM [etaT t] = false) := by
  have h1 := err_eta 0 [t] n (by omega) he
  have h2 := size_eta [t]
  have h3 := eta_idem [t] (sh_of_err _ _ _ he)
  have h4 := step_eta [t]
  rw [etaM_one] at h1 h2 h4
  rw [etaM_one, etaM_one] at h3
  exact ⟨h1, h2, (List.cons.inj h3).1, h4⟩
/-- The expansion. -/
def wideT (t : Lm) : Lm := ⟨2, 0, [⟨3, 0, [higT 1 0 t, ⟨1, 0, []⟩]⟩]⟩
theorem te_wide {n : Nat} {t : Lm} (hn : n ≤ 39) (he : errM n 0 [t] = 0) (hz : sizeM [t] ≤ 100) : lamE n 0 (wideT t) = 0 ∧ etaT (wideT t) = etaT t := by
  have h1 := err_higT (m := 0) (u := n) (c := 0) (y := 1) (t := t) (by omega) (by omega) (by omega) (by simpa using he)
  have hs : sizeM [higT 1 0 t] = sizeM [t] := higT_size (lf_of_err _ _ _ he)
  refine ⟨lamE_of (by omega) ?_ ?_, eta_wide t (sh_of_err _ _ _ he)⟩
  · unfold wideT
    refine err_one0.2 ⟨knE_zero.2 ⟨by omega, rfl, by omega, by simp [mostK]⟩, ?_⟩
    have e : deepK (n : Int) 2 = (n : Int) + 1 := by simp [deepK]
    rw [e]
    refine err_one0.2 ⟨knE_zero.2 ⟨by omega, rfl, by omega, by simp [mostK]⟩, ?_⟩
    have e : deepK ((n : Int) + 1) 3 = (n : Int) + 1 := by simp [deepK]
    rw [e]
    refine err_two0.2 ⟨by simpa using h1, ?_⟩
    exact err_one0.2 ⟨knE_zero.2 ⟨by omega, rfl, by omega, by show (0 : Int) < mostK _ _ 1; simp only [mostK]; first | omega | (simp; done) | (simp; omega)⟩, by simp [errM]⟩
  · have h2 : sizeM [wideT t] = 3 + sizeM [higT 1 0 t] := by
      unfold wideT
      generalize higT 1 0 t = y
      obtain ⟨k, x, l⟩ := y
      simp only [sizeM]
      omega
    rw [h2, hs]; omega
end Go.Proofs.YtfbligcampbchaaGreatDoor

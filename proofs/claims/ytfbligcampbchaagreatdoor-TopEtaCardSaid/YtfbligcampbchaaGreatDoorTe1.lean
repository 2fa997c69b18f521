/- Plain: moving what is bound, up and down. -/
import Derived.Test.YtfbligcampbchaaGreatDoorL23
import Derived.Test.YtfbligcampbchaaGreatDoorL6
namespace Go.Proofs.YtfbligcampbchaaGreatDoor
open Go.RowKit
set_option linter.unusedSimpArgs false
set_option linter.unusedVariables false
set_option maxRecDepth 8000

theorem lf_of_shE (l : List Lm) : ShM l → LfM l := by
  induction l using Lm.indL with
  | h0 => intro _; exact LfM_nil
  | h k x l r ihl ihr =>
    intro h
    rw [ShM_cons] at h
    exact (LfM_cons _ _ _ _).2 ⟨fun hk => by subst hk; exact List.length_eq_zero_iff.1 (by rw [h.1]; rfl), ihl h.2.1, ihr h.2.2⟩
theorem deep_nn {d k : Int} (h : 0 ≤ d) : 0 ≤ deepK d k := by unfold deepK; split <;> omega
theorem usesM_var (c x : Int) (l r : List Lm) : usesM c (⟨1, x, l⟩ :: r) = (if x = c then 1 else 0) + usesM c r := by simp [usesM]
theorem usesM_node {k : Int} (h : k ≠ 1) (c x : Int) (l r : List Lm) : usesM c (⟨k, x, l⟩ :: r) = usesM (deepK c k) l + usesM c r := by simp [usesM, h]
theorem higM_lt {x d : Int} (h : x < d) (y : Int) (l r : List Lm) : higM y d (⟨1, x, l⟩ :: r) = ⟨1, x, l⟩ :: higM y d r := by simp [higM, h]
theorem higM_ge {x d : Int} (h : ¬ x < d) (y : Int) (l r : List Lm) : higM y d (⟨1, x, l⟩ :: r) = ⟨1, x + y, []⟩ :: higM y d r := by simp [higM, h]
theorem higM_node {k : Int} (h : k ≠ 1) (y d x : Int) (l r : List Lm) : higM y d (⟨k, x, l⟩ :: r) = ⟨k, x, higM y (deepK d k) l⟩ :: higM y d r := by simp [higM, h]
/-- How often what is bound is used behind a move. -/
theorem uses_up (l : List Lm) : ∀ c d : Int, 0 ≤ c → c ≤ d → usesM c (higM 1 d l) = if c = d then 0 else usesM c l := by
  induction l using Lm.indL with
  | h0 => intro c d _ _; simp [higM, usesM]
  | h k x l r ihl ihr =>
    intro c d hc hcd
    have hr := ihr c d hc hcd
    by_cases hk : k = 1
    · subst hk
      by_cases hx : x < d
      · rw [higM_lt hx, usesM_var, usesM_var, hr]
        by_cases e : c = d
        · rw [if_pos e, if_pos e, if_neg (by omega)]
        · rw [if_neg e, if_neg e]
      · rw [higM_ge hx, usesM_var, usesM_var, hr, if_neg (by omega)]
        by_cases e : c = d
        · rw [if_pos e, if_pos e]
        · rw [if_neg e, if_neg e, if_neg (by omega)]
    · have hdd : deepK c k ≤ deepK d k ∧ (deepK c k = deepK d k ↔ c = d) := by unfold deepK; split <;> omega
      rw [higM_node hk, usesM_node hk, usesM_node hk, hr, ihl (deepK c k) (deepK d k) (deep_nn hc) hdd.1]
      by_cases e : c = d
      · rw [if_pos e, if_pos (hdd.2.2 e), if_pos e]
      · rw [if_neg e, if_neg (fun h => e (hdd.2.1 h)), if_neg e]
/-- What was moved up is moved back. -/
theorem hig_back (l : List Lm) : ∀ d : Int, LfM l → higM (-1) d (higM 1 d l) = l := by
  induction l using Lm.indL with
  | h0 => intro d _; simp [higM]
  | h k x l r ihl ihr =>
    intro d hl
    obtain ⟨h1, h2, h3⟩ := (LfM_cons k x l r).1 hl
    by_cases hk : k = 1
    · subst hk
      rw [h1 rfl]
      by_cases hx : x < d
      · rw [higM_lt hx, higM_lt hx, ihr d h3]
      · rw [higM_ge hx, higM_ge (by omega), ihr d h3]
        congr 2
        omega
    · rw [higM_node hk, higM_node hk, ihl _ h2, ihr d h3]
/-- Where what is bound isn't used, what lies further out is used as often behind a move down. -/
theorem uses_low (l : List Lm) : ∀ c d : Int, 0 ≤ d → d ≤ c → usesM d l = 0 → usesM c (higM (-1) d l) = usesM (c + 1) l := by
  induction l using Lm.indL with
  | h0 => intro c d _ _ _; simp [higM, usesM]
  | h k x l r ihl ihr =>
    intro c d hd hcd hu
    by_cases hk : k = 1
    · subst hk
      rw [usesM_var] at hu
      have hr := ihr c d hd hcd (by omega)
      have hne : x ≠ d := fun e => by rw [if_pos e] at hu; omega
      by_cases hx : x < d
      · rw [higM_lt hx, usesM_var, usesM_var, hr, if_neg (by omega), if_neg (by omega)]
      · rw [higM_ge hx, usesM_var, usesM_var, hr]
        by_cases e : x = c + 1
        · rw [if_pos e, if_pos (by omega)]
        · rw [if_neg e, if_neg (by omega)]
    · rw [usesM_node hk] at hu
      have hr := ihr c d hd hcd (by omega)
      have hdd : deepK d k ≤ deepK c k ∧ deepK (c + 1) k = deepK c k + 1 := by unfold deepK; split <;> omega
      rw [higM_node hk, usesM_node hk, usesM_node hk, hr, ihl (deepK c k) (deepK d k) (deep_nn hd) hdd.1 (by omega), hdd.2]
/-- Below the place, nothing changes. -/
theorem uses_low0 (l : List Lm) : ∀ c d : Int, 0 ≤ c → c < d → usesM d l = 0 → usesM c (higM (-1) d l) = usesM c l := by
  induction l using Lm.indL with
  | h0 => intro c d _ _ _; simp [higM, usesM]
  | h k x l r ihl ihr =>
    intro c d hc hcd hu
    by_cases hk : k = 1
    · subst hk
      rw [usesM_var] at hu
      have hr := ihr c d hc hcd (by omega)
      have hne : x ≠ d := fun e => by rw [if_pos e] at hu; omega
      by_cases hx : x < d
      · rw [higM_lt hx, usesM_var, usesM_var, hr]
      · rw [higM_ge hx, usesM_var, usesM_var, hr, if_neg (by omega), if_neg (by omega)]
    · rw [usesM_node hk] at hu
      have hr := ihr c d hc hcd (by omega)
      have hdd : deepK c k < deepK d k := by unfold deepK; split <;> omega
      rw [higM_node hk, usesM_node hk, usesM_node hk, hr, ihl (deepK c k) (deepK d k) (deep_nn hc) hdd (by omega)]
/-- Two moves, one further out than the other. -/
theorem hig_comm (y : Int) (hy : y = 1 ∨ y = -1) (l : List Lm) : ∀ c d : Int, 0 ≤ c → c ≤ d → LfM l → usesM c l = 0 → (y = -1 → usesM (d + 1) l = 0) → higM (-1) c (higM y (d + 1) l) = higM y d (higM (-1) c l) := by
  induction l using Lm.indL with
  | h0 => intro c d _ _ _ _ _; simp [higM]
  | h k x l r ihl ihr =>
    intro c d hc hcd hl hu hv
    obtain ⟨h1, h2, h3⟩ := (LfM_cons k x l r).1 hl
    by_cases hk : k = 1
    · subst hk
      rw [usesM_var] at hu
      have hr := ihr c d hc hcd h3 (by omega) (fun e => by have := hv e; rw [usesM_var] at this; omega)
      rw [h1 rfl]
      have hne : x ≠ c := fun e => by rw [if_pos e] at hu; omega
      have hne2 : y = -1 → x ≠ d + 1 := fun e e2 => by have := hv e; rw [usesM_var, if_pos e2] at this; omega
      by_cases hx : x < c
      · rw [higM_lt (show x < d + 1 by omega), higM_lt hx, higM_lt hx, higM_lt (show x < d by omega), hr]
      · by_cases hx2 : x < d + 1
        · rw [higM_lt hx2, higM_ge hx, higM_ge hx, higM_lt (show x + -1 < d by omega), hr]
        · rw [higM_ge hx2, higM_ge (show ¬ x + y < c by omega), higM_ge hx, higM_ge (show ¬ x + -1 < d by omega), hr]
          congr 2
          omega
    · rw [usesM_node hk] at hu
      have hdd : deepK c k ≤ deepK d k ∧ deepK (d + 1) k = deepK d k + 1 := by unfold deepK; split <;> omega
      have hv1 : y = -1 → usesM (deepK (d + 1) k) l = 0 ∧ usesM (d + 1) r = 0 := fun e => by have := hv e; rw [usesM_node hk] at this; omega
      have hr := ihr c d hc hcd h3 (by omega) (fun e => (hv1 e).2)
      rw [higM_node hk, higM_node hk, higM_node hk, higM_node hk, hr, hdd.2, ihl (deepK c k) (deepK d k) (deep_nn hc) hdd.1 h2 (by omega) (fun e => by have := (hv1 e).1; rw [hdd.2] at this; exact this)]
end Go.Proofs.YtfbligcampbchaaGreatDoor

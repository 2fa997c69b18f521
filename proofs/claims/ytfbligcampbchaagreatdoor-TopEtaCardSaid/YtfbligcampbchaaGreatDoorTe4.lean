/- Plain: eta keeps a term that may be; how great a step is; no step. -/
import Derived.Test.YtfbligcampbchaaGreatDoorTe3
import Derived.Test.YtfbligcampbchaaGreatDoorHs1
import Derived.Test.YtfbligcampbchaaGreatDoorDv1
namespace Go.Proofs.YtfbligcampbchaaGreatDoor
open Go.RowKit
set_option linter.unusedSimpArgs false
set_option linter.unusedVariables false
set_option maxRecDepth 8000

theorem err_low (m : Int) (l : List Lm) : ∀ u c : Int, 0 ≤ u → 0 ≤ c → errM (u + c + 1) m l = 0 → usesM c l = 0 → errM (u + c) m (higM (-1) c l) = 0 := by
  induction l using Lm.indL with
  | h0 => intro u c _ _ _ _; simp [higM, errM]
  | h k x l r ihl ihr =>
    intro u c hu hc h hn
    obtain ⟨h1, h2⟩ := err_two0.1 h
    obtain ⟨h3, h4⟩ := err_one0.1 h1
    obtain ⟨a1, a2, a3, a4⟩ := knE_zero.1 h3
    by_cases hk : k = 1
    · subst hk
      have hl : l = [] := List.length_eq_zero_iff.1 (by rw [a2]; rfl)
      subst hl
      rw [usesM_var] at hn
      have hx : x ≠ c := fun e => by rw [if_pos e] at hn; omega
      have a5 : x < u + c + 1 := by simpa [mostK] using a4
      by_cases hlt : x < c
      · rw [higM_lt hlt]
        exact err_two0.2 ⟨err_one0.2 ⟨knE_zero.2 ⟨a1, a2, a3, by show x < mostK _ _ 1; simp [mostK]; omega⟩, by simp [errM]⟩, ihr u c hu hc h2 (by omega)⟩
      · rw [higM_ge hlt]
        exact err_two0.2 ⟨err_one0.2 ⟨knE_zero.2 ⟨by omega, rfl, by omega, by show x + -1 < mostK _ _ 1; simp [mostK]; omega⟩, by simp [errM]⟩, ihr u c hu hc h2 (by omega)⟩
    · rw [usesM_node hk] at hn
      rw [higM_node hk]
      refine err_two0.2 ⟨err_one0.2 ⟨knE_zero.2 ⟨a1, by rw [hig_len]; exact a2, a3, by rw [mostK_ne hk (u' := u + c + 1)]; exact a4⟩, ?_⟩, ihr u c hu hc h2 (by omega)⟩
      by_cases h2 : k = 2
      · subst h2
        have e1 : deepK (u + c) 2 = u + (c + 1) := by simp [deepK]; omega
        have e2 : deepK c 2 = c + 1 := by simp [deepK]
        have e3 : deepK (u + c + 1) 2 = u + (c + 1) + 1 := by simp [deepK]; omega
        rw [e2] at hn
        rw [e1, e2]
        rw [e3] at h4
        exact ihl u (c + 1) hu (by omega) h4 (by omega)
      · have e1 : ∀ z, deepK z k = z := fun z => by simp [deepK, h2]
        rw [e1] at hn
        rw [e1, e1]
        rw [e1] at h4
        exact ihl u c hu hc h4 (by omega)
theorem err_eta (m : Int) (l : List Lm) : ∀ u : Int, 0 ≤ u → errM u m l = 0 → errM u m (etaM l) = 0 := by
  induction l using Lm.indL with
  | h0 => intro u _ _; simp [etaM, errM]
  | h k x l r ihl ihr =>
    intro u hu h
    obtain ⟨h1, h2⟩ := err_two0.1 h
    obtain ⟨h3, h4⟩ := err_one0.1 h1
    obtain ⟨a1, a2, a3, a4⟩ := knE_zero.1 h3
    have hlen : (etaM l).length = l.length := by rw [etaM_map]; simp
    have g1 := ihl (deepK u k) (deep_nn hu) h4
    have g2 := ihr u hu h2
    have hk : errM u m [(⟨k, x, etaM l⟩ : Lm)] = 0 := err_one0.2 ⟨knE_zero.2 ⟨a1, by rw [hlen]; exact a2, a3, a4⟩, g1⟩
    rw [etaM_cons]
    refine err_two0.2 ⟨?_, g2⟩
    by_cases k2 : k = 2
    · subst k2
      rcases etaK_two x (etaM l) with e | ⟨k2, x2, f, y, e1, e3, e4⟩
      · rw [e]; exact hk
      · rw [e4]
        obtain ⟨rfl, hf, hy1, hy2⟩ := (idle_iff k2 x2 f y).1 e3
        rw [e1, show deepK u 2 = u + 1 by simp [deepK]] at g1
        obtain ⟨_, g3⟩ := err_one0.1 g1
        rw [show deepK (u + 1) 3 = u + 1 by simp [deepK]] at g3
        have g4 := (err_two0.1 g3).1
        have g5 := err_low m [f] u 0 hu (Int.le_refl 0) (by simpa using g4) hf
        rw [higM_one] at g5
        simpa using g5
    · rw [etaK_ne k2]; exact hk
theorem size_eta (l : List Lm) : sizeM (etaM l) ≤ sizeM l := by
  induction l using Lm.indL with
  | h0 => simp [etaM]
  | h k x l r ihl ihr =>
    have hc : ∀ (t : Lm) (r : List Lm), sizeM (t :: r) = sizeM [t] + sizeM r := fun t r => sizeM_append [t] r
    rw [etaM_cons, hc, hc _ r, sizeM_one]
    by_cases k2 : k = 2
    · subst k2
      rcases etaK_two x (etaM l) with e | ⟨k2, x2, f, y, e1, e3, e4⟩
      · rw [e, sizeM_one]; omega
      · rw [e4]
        have h13 := size_hig [f] (-1) 0
        rw [higM_one] at h13
        rw [e1, sizeM_one, hc f] at ihl
        omega
    · rw [etaK_ne k2, sizeM_one]; omega
theorem stepM_get {l : List Lm} {k : Nat} (h : k < l.length) (hs : stepM l = false) : stepM [l[k]] = false := by
  cases h1 : stepM [l[k]] with
  | false => rfl
  | true => rw [stepM_of h h1] at hs; exact hs
/-- Where there is no step, none is told. -/
theorem hnd_none (n : Nat) : ∀ (t : Lm), stepM [t] = false → hndT n t = [] := by
  induction n with
  | zero => intro t _; rfl
  | succ n ih =>
    rintro ⟨k, x, l⟩ h
    rw [stepM_one, Bool.or_eq_false_iff] at h
    rw [hndT]
    have h1 : hndH ⟨k, x, l⟩ = [] := by unfold hndH; rw [if_neg (by rw [h.1]; decide)]
    rw [h1, List.nil_append]
    apply List.eq_nil_iff_forall_not_mem.2
    intro p hp
    obtain ⟨q, hq, p', h2, _⟩ := hndR_mem hp
    rw [ih _ (stepM_get hq h.2)] at h2
    simp at h2
theorem sizeM_put (l : List Lm) (i : Nat) (h : i < l.length) (y : Lm) : sizeM (l.set i y) + sizeM [l[i]] = sizeM l + sizeM [y] := by
  induction l generalizing i with
  | nil => simp at h
  | cons t r ih =>
    have hc : ∀ (t : Lm) (r : List Lm), sizeM (t :: r) = sizeM [t] + sizeM r := fun t r => sizeM_append [t] r
    cases i with
    | zero => simp only [List.set_cons_zero, List.getElem_cons_zero]; rw [hc y r, hc t r]; omega
    | succ i =>
      simp only [List.set_cons_succ, List.getElem_cons_succ]
      have := ih i (by simpa using h)
      rw [hc t, hc t r]; omega
theorem four_mul (b z : Nat) : 4 * (b * z) ≤ (b + z) * (b + z) := by
  rcases Nat.le_total b z with h | h
  · obtain ⟨d, rfl⟩ := Nat.le.dest h
    have : (b + (b + d)) * (b + (b + d)) = 4 * (b * (b + d)) + d * d := by
      simp only [Nat.mul_add, Nat.add_mul, Nat.mul_comm d b]; omega
    omega
  · obtain ⟨d, rfl⟩ := Nat.le.dest h
    have : (z + d + z) * (z + d + z) = 4 * ((z + d) * z) + d * d := by
      simp only [Nat.mul_add, Nat.add_mul, Nat.mul_comm d z]; omega
    omega
/-- How great what a step makes is. -/
theorem hnd_size (n : Nat) : ∀ (t : Lm) (p : Hnd), LfM [t] → p ∈ hndT n t → 4 * sizeM [p.2.2] ≤ sizeM [t] * sizeM [t] + 4 * sizeM [t] := by
  induction n with
  | zero => intro t p _ h; simp [hndT] at h
  | succ n ih =>
    rintro ⟨k, x, l⟩ p hf h
    rw [hndT] at h
    have hl : LfM l := ((LfM_cons k x l []).1 hf).2.1
    rcases List.mem_append.1 h with h | h
    · unfold hndH at h
      split at h
      · simp only [List.mem_singleton] at h
        have e : p.2.2 = conT l := by rw [h]; unfold hndC; split <;> rfl
        rw [e]
        unfold conT
        split
        · rename_i k1 x1 b z _ _
          have hb : LfM [b] := ((LfM_cons _ _ _ _).1 hl).2.1
          have hz : LfM [z] := ((LfM_cons _ _ _ _).1 hl).2.2
          have h1 := insT_size (d := 0) hz hb
          have h2 := usesM_le [b] 0
          have h3 : usesM 0 [b] * sizeM [z] ≤ sizeM [b] * sizeM [z] := Nat.mul_le_mul_right _ h2
          have h4 := four_mul (sizeM [b]) (sizeM [z])
          have h5 : sizeM [(⟨k, x, [⟨k1, x1, [b]⟩, z]⟩ : Lm)] = 1 + (1 + sizeM [b] + sizeM [z]) := by
            rw [sizeM_one, show sizeM [(⟨k1, x1, [b]⟩ : Lm), z] = sizeM [(⟨k1, x1, [b]⟩ : Lm)] + sizeM [z] from sizeM_append [⟨k1, x1, [b]⟩] [z], sizeM_one]
          rw [h5]
          have h6 : (sizeM [b] + sizeM [z]) * (sizeM [b] + sizeM [z]) ≤ (1 + (1 + sizeM [b] + sizeM [z])) * (1 + (1 + sizeM [b] + sizeM [z])) := Nat.mul_le_mul (by omega) (by omega)
          omega
        · rw [sizeM_one]
          simp [sizeM]
          omega
      · simp at h
    · obtain ⟨q, hq, p', h2, rfl⟩ := hndR_mem h
      have h3 := ih _ _ (LfM.at q hq hl) h2
      have h4 := sizeM_put l q hq p'.2.2
      have h5 := sizeM_get l q hq
      show 4 * sizeM [(⟨k, x, l.set q p'.2.2⟩ : Lm)] ≤ _
      rw [sizeM_one, sizeM_one]
      have h6 : sizeM [l[q]] * sizeM [l[q]] ≤ (1 + sizeM l) * (1 + sizeM l) := Nat.mul_le_mul (by omega) (by omega)
      omega
end Go.Proofs.YtfbligcampbchaaGreatDoor

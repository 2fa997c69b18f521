/- Plain: eta is kept by moving what is bound, and done once it is done. -/
import Derived.Test.YtfbligcampbchaaGreatDoorTe1
namespace Go.Proofs.YtfbligcampbchaaGreatDoor
open Go.RowKit
set_option linter.unusedSimpArgs false
set_option linter.unusedVariables false
set_option maxRecDepth 8000

theorem usesM_cons (c : Int) (t : Lm) (r : List Lm) : usesM c (t :: r) = usesM c [t] + usesM c r := usesM_append c [t] r
theorem etaM_cons (k x : Int) (l r : List Lm) : etaM (⟨k, x, l⟩ :: r) = etaK k x (etaM l) :: etaM r := by rw [etaM]
theorem etaK_ne {k : Int} (h : k ≠ 2) (x : Int) (L : List Lm) : etaK k x L = ⟨k, x, L⟩ := by unfold etaK; rw [if_neg h]
theorem idle_iff (k x : Int) (f y : Lm) : idleT ⟨k, x, [f, y]⟩ = true ↔ k = 3 ∧ usesM 0 [f] = 0 ∧ y.kind = 1 ∧ y.idx = 0 := by
  unfold idleT
  simp only [Bool.and_eq_true, decide_eq_true_eq]
  constructor
  · rintro ⟨h1, ⟨h2, h3⟩, h4⟩; exact ⟨h1, h2, h3, h4⟩
  · rintro ⟨h1, h2, h3, h4⟩; exact ⟨h1, ⟨h2, h3⟩, h4⟩
theorem etaK_idle {x k2 x2 : Int} {f y : Lm} (h : idleT ⟨k2, x2, [f, y]⟩ = true) : etaK 2 x [⟨k2, x2, [f, y]⟩] = higT (-1) 0 f := by
  unfold etaK
  simp only [if_true, h]
theorem uses_eta (l : List Lm) : ∀ d : Int, 0 ≤ d → ShM l → usesM d (etaM l) = usesM d l := by
  induction l using Lm.indL with
  | h0 => intro d _ _; simp [etaM]
  | h k x l r ihl ihr =>
    intro d hd hs
    rw [ShM_cons] at hs
    have hr := ihr d hd hs.2.2
    rw [etaM_cons]
    by_cases h1 : k = 1
    · subst h1
      rw [etaK_ne (by omega), usesM_var, usesM_var, hr]
    · by_cases h2 : k = 2
      · subst h2
        have hl := ihl (deepK d 2) (deep_nn hd) hs.2.1
        have e2 : deepK d 2 = d + 1 := by simp [deepK]
        rcases etaK_two x (etaM l) with e | ⟨k2, x2, f, y, e1, e3, e4⟩
        · rw [e, usesM_node h1, usesM_node h1, hl, hr]
        · obtain ⟨rfl, hu, hy1, hy2⟩ := (idle_iff k2 x2 f y).1 e3
          rw [e4, usesM_cons, usesM_node h1, hr, ← hl, e1, e2, usesM_node (by omega)]
          have e5 : deepK (d + 1) 3 = d + 1 := by simp [deepK]
          have h6 := uses_low [f] d 0 (Int.le_refl 0) hd hu
          rw [higM_one] at h6
          obtain ⟨yk, yx, yl⟩ := y
          simp only at hy1 hy2
          subst hy1
          subst hy2
          have e7 : usesM (d + 1) [f, ⟨1, 0, yl⟩] = usesM (d + 1) [f] := by
            rw [usesM_cons (d + 1) f [⟨1, 0, yl⟩], usesM_var, if_neg (by omega)]
            simp [usesM]
          have e8 : usesM (d + 1) ([] : List Lm) = 0 := by simp [usesM]
          rw [h6, e5, e7, e8, Nat.add_zero]
      · rw [etaK_ne h2, usesM_node h1, usesM_node h1, ihl _ (deep_nn hd) hs.2.1, hr]
theorem sh_eta (l : List Lm) : ShM l → ShM (etaM l) := by
  induction l using Lm.indL with
  | h0 => intro _; simp [etaM, ShM]
  | h k x l r ihl ihr =>
    intro hs
    rw [ShM_cons] at hs
    have a1 := ihl hs.2.1
    have b1 := ihr hs.2.2
    have hlen : (etaM l).length = l.length := by rw [etaM_map]; simp
    rw [etaM_cons]
    have hkeep : ShM (⟨k, x, etaM l⟩ :: etaM r) := (ShM_cons _ _ _ _).2 ⟨by rw [hlen]; exact hs.1, a1, b1⟩
    by_cases k2 : k = 2
    · subst k2
      rcases etaK_two x (etaM l) with e | ⟨k2, x2, f, y, e1, e2, e3⟩
      · rw [e]; exact hkeep
      · rw [e3]
        rw [e1, ShM_cons] at a1
        have hf1 : ShM [f] := ShM.at 0 (by simp) a1.2.1
        have g1 := sh_hig [f] (-1) 0 hf1
        rw [higM_one] at g1
        generalize higT (-1) 0 f = q at *
        obtain ⟨qk, qx, ql⟩ := q
        rw [ShM_cons] at g1
        exact (ShM_cons _ _ _ _).2 ⟨g1.1, g1.2.1, b1⟩
    · rw [etaK_ne k2]; exact hkeep
theorem uses_move (y : Int) (hy : y = 1 ∨ y = -1) (l : List Lm) (d : Int) (hd : 0 ≤ d) (hu : y = -1 → usesM (d + 1) l = 0) : usesM 0 (higM y (d + 1) l) = usesM 0 l := by
  rcases hy with rfl | rfl
  · rw [uses_up l 0 (d + 1) (Int.le_refl 0) (by omega), if_neg (by omega)]
  · exact uses_low0 l 0 (d + 1) (Int.le_refl 0) (by omega) (hu rfl)
/-- Moving first, or eta first. -/
theorem eta_move (y : Int) (hy : y = 1 ∨ y = -1) (l : List Lm) : ∀ d : Int, 0 ≤ d → ShM l → (y = -1 → usesM d l = 0) → etaM (higM y d l) = higM y d (etaM l) := by
  induction l using Lm.indL with
  | h0 => intro d _ _ _; simp [etaM, higM]
  | h k x l r ihl ihr =>
    intro d hd hs hu
    rw [ShM_cons] at hs
    by_cases h1 : k = 1
    · subst h1
      have hr := ihr d hd hs.2.2 (fun e => by have := hu e; rw [usesM_var] at this; omega)
      have hl : l = [] := List.length_eq_zero_iff.1 (by rw [hs.1]; rfl)
      subst hl
      by_cases hx : x < d
      · rw [higM_lt hx, etaM_cons, etaM_cons, etaK_ne (by omega), hr]
        simp only [etaM]
        rw [higM_lt hx]
      · rw [higM_ge hx, etaM_cons, etaM_cons, etaK_ne (by omega), etaK_ne (by omega), hr]
        simp only [etaM]
        rw [higM_ge hx]
    · have hu1 : y = -1 → usesM (deepK d k) l = 0 ∧ usesM d r = 0 := fun e => by have := hu e; rw [usesM_node h1] at this; omega
      have hr := ihr d hd hs.2.2 (fun e => (hu1 e).2)
      have hl := ihl (deepK d k) (deep_nn hd) hs.2.1 (fun e => (hu1 e).1)
      rw [higM_node h1, etaM_cons, etaM_cons, hl, hr]
      by_cases h2 : k = 2
      case neg => rw [etaK_ne h2, etaK_ne h2, higM_node h1]
      subst h2
      have e2 : deepK d 2 = d + 1 := by simp [deepK]
      rw [e2] at hu1 ⊢
      have hsh := sh_eta l hs.2.1
      have hlen : (etaM l).length = 1 := by rw [etaM_map]; simpa [subsK] using hs.1
      have hue : y = -1 → usesM (d + 1) (etaM l) = 0 := fun e => by rw [uses_eta l (d + 1) (by omega) hs.2.1]; exact (hu1 e).1
      obtain ⟨q, hq⟩ := List.length_eq_one_iff.1 hlen
      rw [hq] at hsh hue ⊢
      rw [higM_one]
      have goal : etaK 2 x [higT y (d + 1) q] = higT y d (etaK 2 x [q]) := by
        rcases etaK_two x [q] with e | ⟨k2, x2, f, yy, e1, e3, e4⟩
        · rw [e]
          have e5 : higT y d ⟨2, x, [q]⟩ = ⟨2, x, [higT y (d + 1) q]⟩ := by
            unfold higT
            rw [if_neg (by simp)]
            simp only [e2, higM_one]
            rfl
          rw [e5]
          rcases etaK_two x [higT y (d + 1) q] with e6 | ⟨k2, x2, f, yy, e6, e7, e8⟩
          · exact e6
          · exfalso
            obtain ⟨rfl, g1, g2, g3⟩ := (idle_iff k2 x2 f yy).1 e7
            have e9 : higT y (d + 1) q = ⟨3, x2, [f, yy]⟩ := by simpa using e6
            obtain ⟨qk, qx, ql⟩ := q
            by_cases hk : qk = 1
            · subst hk
              unfold higT at e9
              rw [if_pos rfl] at e9
              split at e9 <;> simp at e9
            · unfold higT at e9
              rw [if_neg hk] at e9
              simp only [Lm.mk.injEq] at e9
              obtain ⟨rfl, rfl, e10⟩ := e9
              rw [show deepK (d + 1) 3 = d + 1 by simp [deepK]] at e10
              have hl2 : ql.length = 2 := by rw [ShM_cons] at hsh; rw [hsh.1]; rfl
              obtain ⟨f0, y0, rfl⟩ : ∃ f0 y0, ql = [f0, y0] := by
                match ql, hl2 with
                | [f0, y0], _ => exact ⟨f0, y0, rfl⟩
              rw [higM_map] at e10
              simp only [List.map_cons, List.map_nil, List.cons.injEq, and_true] at e10
              obtain ⟨rfl, rfl⟩ := e10
              have hu2 : y = -1 → usesM (d + 1) [f0] = 0 ∧ usesM (d + 1) [y0] = 0 := fun e => by
                have := hue e
                rw [usesM_node (by omega), show deepK (d + 1) 3 = d + 1 by simp [deepK], usesM_cons (d + 1) f0] at this
                simp [usesM] at this ⊢
                omega
              have g4 := uses_move y hy [f0] d hd (fun e => (hu2 e).1)
              rw [higM_one] at g4
              rw [g4] at g1
              obtain ⟨yk, yx, yl⟩ := y0
              have hyk : yk = 1 := by
                by_cases h : yk = 1
                · exact h
                · unfold higT at g2; rw [if_neg h] at g2; exact g2
              subst hyk
              have hyx : yx = 0 := by
                unfold higT at g3
                rw [if_pos rfl] at g3
                by_cases h : yx < d + 1
                · rw [if_pos h] at g3; exact g3
                · rw [if_neg h] at g3
                  simp only at g3
                  rcases hy with rfl | rfl
                  · omega
                  · have := (hu2 rfl).2
                    rw [usesM_var] at this
                    have h9 : yx ≠ d + 1 := fun e => by rw [if_pos e] at this; omega
                    omega
              have h10 : idleT ⟨3, qx, [f0, ⟨1, yx, yl⟩]⟩ = true := (idle_iff _ _ _ _).2 ⟨rfl, g1, rfl, hyx⟩
              rw [etaK_idle h10] at e
              have h12 : sizeM [higT (-1) 0 f0] = sizeM [(⟨2, x, [⟨3, qx, [f0, ⟨1, yx, yl⟩]⟩]⟩ : Lm)] := by rw [← e]
              have h13 := size_hig [f0] (-1) 0
              rw [higM_one] at h13
              have h14 : sizeM [(⟨2, x, [⟨3, qx, [f0, ⟨1, yx, yl⟩]⟩]⟩ : Lm)] = 1 + (1 + sizeM [f0, ⟨1, yx, yl⟩]) := by simp [sizeM]
              have h15 : sizeM [f0] ≤ sizeM [f0, ⟨1, yx, yl⟩] := sizeM_take_le [f0, ⟨1, yx, yl⟩] 1
              omega
        · rw [e4]
          obtain ⟨rfl, g1, g2, g3⟩ := (idle_iff k2 x2 f yy).1 e3
          have eq : q = ⟨3, x2, [f, yy]⟩ := by simpa using e1
          subst eq
          have hu2 : y = -1 → usesM (d + 1) [f] = 0 := fun e => by
            have := hue e
            rw [usesM_node (by omega), show deepK (d + 1) 3 = d + 1 by simp [deepK], usesM_cons (d + 1) f] at this
            omega
          have g4 := uses_move y hy [f] d hd hu2
          rw [higM_one] at g4
          obtain ⟨yk, yx, yl⟩ := yy
          simp only at g2 g3
          subst g2
          subst g3
          have e5 : higT y (d + 1) ⟨3, x2, [f, ⟨1, 0, yl⟩]⟩ = ⟨3, x2, [higT y (d + 1) f, ⟨1, 0, yl⟩]⟩ := by
            unfold higT
            rw [if_neg (by simp)]
            simp only [show deepK (d + 1) 3 = d + 1 by simp [deepK]]
            rw [higM_map]
            simp only [List.map_cons, List.map_nil]
            have e6 : higT y (d + 1) ⟨1, 0, yl⟩ = ⟨1, 0, yl⟩ := by unfold higT; rw [if_pos rfl, if_pos (by show (0 : Int) < d + 1; omega)]
            rw [e6]
            rfl
          rw [e5, etaK_idle ((idle_iff _ _ _ _).2 ⟨rfl, by rw [g4]; exact g1, rfl, rfl⟩)]
          have hfs : ShM [f] := by
            rw [ShM_cons] at hsh
            exact ShM.at 0 (by simp) hsh.2.1
          have h7 := hig_comm y hy [f] 0 d (Int.le_refl 0) hd (lf_of_shE _ hfs) g1 hu2
          rw [higM_one, higM_one, higM_one, higM_one] at h7
          simpa using h7
      rw [goal]
      have e9 : ∀ t : Lm, higM y d (t :: etaM r) = higT y d t :: higM y d (etaM r) := fun t => by rw [higM_map, higM_map]; rfl
      rw [e9]
end Go.Proofs.YtfbligcampbchaaGreatDoor

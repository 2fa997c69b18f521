/- Plain: eta is done once it is done, undoes an expansion, and makes no step. -/
import Derived.Test.YtfbligcampbchaaGreatDoorTe2
namespace Go.Proofs.YtfbligcampbchaaGreatDoor
open Go.RowKit
set_option linter.unusedSimpArgs false
set_option linter.unusedVariables false
set_option maxRecDepth 8000

theorem etaM_one (t : Lm) : etaM [t] = [etaT t] := by rw [etaM_map]; rfl
theorem eta_idem (l : List Lm) : ShM l → etaM (etaM l) = etaM l := by
  induction l using Lm.indL with
  | h0 => intro _; simp [etaM]
  | h k x l r ihl ihr =>
    intro hs
    rw [ShM_cons] at hs
    have hl := ihl hs.2.1
    have hr := ihr hs.2.2
    have sl := sh_eta l hs.2.1
    rw [etaM_cons]
    by_cases h2 : k = 2
    · subst h2
      rcases etaK_two x (etaM l) with e | ⟨k2, x2, f, y, e1, e3, e4⟩
      · rw [e, etaM_cons, hl, e, hr]
      · rw [e4]
        obtain ⟨rfl, hu, hy1, hy2⟩ := (idle_iff k2 x2 f y).1 e3
        rw [e1] at hl sl
        rw [ShM_cons] at sl
        have sf : ShM [f] := ShM.at 0 (by simp) sl.2.1
        rw [etaM_cons, etaK_ne (by omega)] at hl
        have h3 : etaM [f, y] = [f, y] := by
          have := hl
          simp only [List.cons.injEq, Lm.mk.injEq, true_and] at this
          exact this.1
        have h4 : etaM [f] = [f] := by
          rw [etaM_map] at h3 ⊢
          simp only [List.map_cons, List.map_nil, List.cons.injEq] at h3 ⊢
          exact ⟨h3.1, trivial⟩
        have h5 := eta_move (-1) (Or.inr rfl) [f] 0 (Int.le_refl 0) sf (fun _ => hu)
        rw [h4, higM_one, etaM_one] at h5
        have h6 : etaT (higT (-1) 0 f) = higT (-1) 0 f := by simpa using h5
        rw [etaM_map, List.map_cons, ← etaM_map, hr, h6]
    · rw [etaK_ne h2, etaM_cons, hl, hr, etaK_ne h2]
theorem eta_wide (t : Lm) (hs : ShM [t]) : etaT ⟨2, 0, [⟨3, 0, [higT 1 0 t, ⟨1, 0, []⟩]⟩]⟩ = etaT t := by
  have h1 := eta_move 1 (Or.inl rfl) [t] 0 (Int.le_refl 0) hs (fun h => by omega)
  rw [higM_one, etaM_one, etaM_one, higM_one] at h1
  have h2 : etaT (higT 1 0 t) = higT 1 0 (etaT t) := by simpa using h1
  have h3 := sh_eta [t] hs
  rw [etaM_one] at h3
  have h4 := hig_back [etaT t] 0 (lf_of_shE _ h3)
  rw [higM_one, higM_one] at h4
  have h5 := uses_up [etaT t] 0 0 (Int.le_refl 0) (Int.le_refl 0)
  rw [higM_one, if_pos rfl] at h5
  have e1 : etaM [⟨3, 0, [higT 1 0 t, ⟨1, 0, []⟩]⟩] = [⟨3, 0, [higT 1 0 (etaT t), ⟨1, 0, []⟩]⟩] := by
    rw [etaM_cons, etaK_ne (by omega), etaM_map [higT 1 0 t, ⟨1, 0, []⟩], List.map_cons, List.map_cons, h2]
    simp [etaM, etaT, etaK]
  have h6 : idleT ⟨3, 0, [higT 1 0 (etaT t), ⟨1, 0, []⟩]⟩ = true := (idle_iff _ _ _ _).2 ⟨rfl, h5, rfl, rfl⟩
  have e2 : etaT ⟨2, 0, [⟨3, 0, [higT 1 0 t, ⟨1, 0, []⟩]⟩]⟩ = etaK 2 0 (etaM [⟨3, 0, [higT 1 0 t, ⟨1, 0, []⟩]⟩]) := rfl
  rw [e2, e1, etaK_idle h6]
  simpa using h4
theorem kind_hig (y d : Int) (t : Lm) : (higT y d t).kind = t.kind := by
  unfold higT
  split
  · split
    · rfl
    · rename_i h _; exact h.symm
  · rfl
theorem step_hig (l : List Lm) : ∀ y d, stepM l = false → stepM (higM y d l) = false := by
  induction l using Lm.indL with
  | h0 => intro y d _; simp [higM, stepM]
  | h k x l r ihl ihr =>
    intro y d h
    rw [stepM, Bool.or_eq_false_iff, Bool.or_eq_false_iff] at h
    obtain ⟨⟨a, b⟩, c⟩ := h
    by_cases h1 : k = 1
    · subst h1
      by_cases h : x < d
      · rw [higM_lt h, stepM, a, b, ihr y d c]; rfl
      · rw [higM_ge h, stepM, ihr y d c]
        simp [rdxT, stepM]
    · rw [higM_node h1, stepM, ihr y d c, ihl y _ b]
      have : rdxT ⟨k, x, higM y (deepK d k) l⟩ = rdxT ⟨k, x, l⟩ := by
        unfold rdxT
        cases l with
        | nil => simp [higM]
        | cons p q =>
          rw [higM_map]
          simp only [List.map_cons, kind_hig]
      rw [this, a]; rfl
theorem step_eta (l : List Lm) : stepM l = false → stepM (etaM l) = false := by
  induction l using Lm.indL with
  | h0 => intro _; simp [etaM, stepM]
  | h k x l r ihl ihr =>
    intro h
    rw [stepM, Bool.or_eq_false_iff, Bool.or_eq_false_iff] at h
    obtain ⟨⟨a, b⟩, c⟩ := h
    have hl := ihl b
    have hr := ihr c
    rw [etaM_cons]
    by_cases h2 : k = 2
    · subst h2
      rcases etaK_two x (etaM l) with e | ⟨k2, x2, f, y, e1, e3, e4⟩
      · rw [e, stepM, hl, hr]
        simp [rdxT]
      · rw [e4]
        have h5 := stepM_append [higT (-1) 0 f] (etaM r)
        rw [List.cons_append, List.nil_append] at h5
        rw [h5, hr, ← higM_one, Bool.or_false]
        rw [e1, stepM_one, Bool.or_eq_false_iff] at hl
        have h7 := stepM_append [f] [y]
        rw [List.cons_append, List.nil_append, hl.2] at h7
        exact step_hig [f] (-1) 0 (Bool.or_eq_false_iff.1 h7.symm).1
    · rw [etaK_ne h2, stepM, hl, hr, Bool.or_false, Bool.or_false]
      unfold rdxT at a ⊢
      cases l with
      | nil => simp [etaM]
      | cons p q =>
        obtain ⟨pk, px, pl⟩ := p
        rw [etaM_cons]
        simp only at a ⊢
        rw [Bool.and_eq_false_iff] at a ⊢
        rcases a with a | a
        · exact Or.inl a
        · right
          have a2 : pk ≠ 2 := by simpa using a
          rw [etaK_ne a2]
          exact a
end Go.Proofs.YtfbligcampbchaaGreatDoor

/- Lambda terms: binders that do nothing (plain). -/
import Derived.Test.YtaifameeoipjjaaL22
namespace Go.Proofs.Ytaifameeoipjjaa
open Go.RowKit
set_option linter.unusedSimpArgs false
set_option linter.unusedVariables false
set_option maxRecDepth 8000

/-- Does what stands below a binder apply a term, in which what it binds doesn't stand, to what it binds? -/
def idleT (y : Lm) : Bool := decide (y.kind = 3) && (match y.subs with | [f, x] => decide (usesM 0 [f] = 0) && decide (x.kind = 1) && decide (x.idx = 0) | _ => false)
/-- A knot above what those below have become. -/
def etaK (k x : Int) (L : List Lm) : Lm := if k = 2 then (match L with | [⟨k2, x2, [f, y]⟩] => if idleT ⟨k2, x2, [f, y]⟩ = true then higT (-1) 0 f else ⟨k, x, L⟩ | _ => ⟨k, x, L⟩) else ⟨k, x, L⟩
def etaM : List Lm → List Lm
  | [] => []
  | ⟨k, x, l⟩ :: r => etaK k x (etaM l) :: etaM r
def etaT (t : Lm) : Lm := etaK t.kind t.idx (etaM t.subs)
theorem etaM_map : ∀ (l : List Lm), etaM l = l.map etaT
  | [] => by simp [etaM]
  | ⟨k, x, l⟩ :: r => by rw [etaM, etaM_map r]; rfl
theorem etaM_take (l : List Lm) (k : Nat) (h : k < l.length) : etaM (l.take (k + 1)) = etaM (l.take k) ++ [etaT l[k]] := by
  rw [etaM_map, etaM_map, List.take_succ_eq_append_getElem h, List.map_append]
  rfl
theorem sh_hig (l : List Lm) : ∀ y d, ShM l → ShM (higM y d l) := by
  induction l using Lm.indL with
  | h0 => intro y d _; simp [higM, ShM]
  | h k x l r ihl ihr =>
    intro y d hs
    rw [ShM_cons] at hs
    rw [higM]
    split
    · rename_i h1
      split
      · exact (ShM_cons _ _ _ _).2 ⟨hs.1, hs.2.1, ihr y d hs.2.2⟩
      · exact (ShM_cons _ _ _ _).2 ⟨by simp [subsK], ShM_nil, ihr y d hs.2.2⟩
    · exact (ShM_cons _ _ _ _).2 ⟨by rw [higM_map]; simpa using hs.1, ihl _ _ hs.2.1, ihr y d hs.2.2⟩
theorem size_hig (l : List Lm) : ∀ y d, sizeM (higM y d l) ≤ sizeM l := by
  induction l using Lm.indL with
  | h0 => intro y d; simp [higM]
  | h k x l r ihl ihr =>
    intro y d
    have h1 := ihl y (deepK d k)
    have h2 := ihr y d
    rw [higM]
    split
    · split
      · simp only [sizeM]; omega
      · simp only [sizeM]; omega
    · simp only [sizeM]; omega
theorem bnd_low (l : List Lm) : ∀ d, 0 ≤ d → ShM l → usesM d l = 0 → BndM l → BndM (higM (-1) d l) := by
  induction l using Lm.indL with
  | h0 => intro d _ _ _ _; simp [higM, BndM]
  | h k x l r ihl ihr =>
    intro d hd hs hu hb
    rw [ShM_cons] at hs
    rw [BndM_cons] at hb
    rw [usesM] at hu
    rw [higM]
    split
    · rename_i h1
      rw [if_pos h1] at hu
      have hr : usesM d r = 0 := by omega
      split
      · exact (BndM_cons _ _ _ _).2 ⟨hb.1, hb.2.1, ihr d hd hs.2.2 hr hb.2.2⟩
      · rename_i h2
        refine (BndM_cons _ _ _ _).2 ⟨?_, BndM_nil, ihr d hd hs.2.2 hr hb.2.2⟩
        split at hu
        · omega
        · omega
    · rename_i h1
      rw [if_neg h1] at hu
      refine (BndM_cons _ _ _ _).2 ⟨hb.1, ihl _ ?_ hs.2.1 (by omega) hb.2.1, ihr d hd hs.2.2 (by omega) hb.2.2⟩
      unfold deepK; split <;> omega
theorem higM_one (y d : Int) (t : Lm) : higM y d [t] = [higT y d t] := by rw [higM_map]; rfl

theorem etaK_two (x : Int) (L : List Lm) : etaK 2 x L = ⟨2, x, L⟩ ∨ ∃ k2 x2 f y, L = [⟨k2, x2, [f, y]⟩] ∧ idleT ⟨k2, x2, [f, y]⟩ = true ∧ etaK 2 x L = higT (-1) 0 f := by
  unfold etaK
  simp only [if_true]
  split
  · rename_i k2 x2 f y
    split
    · rename_i h
      exact Or.inr ⟨k2, x2, f, y, rfl, h, rfl⟩
    · exact Or.inl rfl
  · exact Or.inl rfl
theorem idle_uses {k2 x2 : Int} {f y : Lm} (h : idleT ⟨k2, x2, [f, y]⟩ = true) : usesM 0 [f] = 0 := by
  unfold idleT at h
  simp at h
  exact h.2.1.1
/-- What holds of a term holds of what it becomes. -/
theorem eta_facts (l : List Lm) : ShM l → BndM l → ShM (etaM l) ∧ BndM (etaM l) ∧ sizeM (etaM l) ≤ sizeM l := by
  induction l using Lm.indL with
  | h0 => intro _ _; simp [etaM, ShM, BndM]
  | h k x l r ihl ihr =>
    intro hs hb
    rw [ShM_cons] at hs
    rw [BndM_cons] at hb
    obtain ⟨a1, a2, a3⟩ := ihl hs.2.1 hb.2.1
    obtain ⟨b1, b2, b3⟩ := ihr hs.2.2 hb.2.2
    have hlen : (etaM l).length = l.length := by rw [etaM_map]; simp
    have hkeep : ShM (⟨k, x, etaM l⟩ :: etaM r) ∧ BndM (⟨k, x, etaM l⟩ :: etaM r) ∧ sizeM (⟨k, x, etaM l⟩ :: etaM r) ≤ sizeM (⟨k, x, l⟩ :: r) := by
      refine ⟨(ShM_cons _ _ _ _).2 ⟨by rw [hlen]; exact hs.1, a1, b1⟩, (BndM_cons _ _ _ _).2 ⟨hb.1, a2, b2⟩, ?_⟩
      simp only [sizeM]
      omega
    rw [etaM]
    by_cases k2 : k = 2
    · subst k2
      rcases etaK_two x (etaM l) with e | ⟨k2, x2, f, y, e1, e2, e3⟩
      · rw [e]; exact hkeep
      · rw [e3]
        rw [e1] at a1 a2 a3
        rw [ShM_cons] at a1
        rw [BndM_cons] at a2
        have hf1 : ShM [f] := ShM.at 0 (by simp) a1.2.1
        have hf2 : BndM [f] := BndM.at 0 (by simp) a2.2.1
        have g1 := sh_hig [f] (-1) 0 hf1
        have g2 := bnd_low [f] 0 (Int.le_refl 0) hf1 (idle_uses e2) hf2
        have g3 := size_hig [f] (-1) 0
        rw [higM_one] at g1 g2 g3
        have g4 : sizeM [f] ≤ sizeM [f, y] := sizeM_take_le [f, y] 1
        have g5 : sizeM [(⟨k2, x2, [f, y]⟩ : Lm)] = 1 + sizeM [f, y] := by simp [sizeM]
        generalize higT (-1) 0 f = q at *
        obtain ⟨qk, qx, ql⟩ := q
        rw [ShM_cons] at g1
        rw [BndM_cons] at g2
        refine ⟨(ShM_cons _ _ _ _).2 ⟨g1.1, g1.2.1, b1⟩, (BndM_cons _ _ _ _).2 ⟨g2.1, g2.2.1, b2⟩, ?_⟩
        have g6 : sizeM [(⟨qk, qx, ql⟩ : Lm)] = 1 + sizeM ql := by simp [sizeM]
        simp only [sizeM]
        omega
    · have e : etaK k x (etaM l) = ⟨k, x, etaM l⟩ := by unfold etaK; rw [if_neg k2]
      rw [e]
      exact hkeep
end Go.Proofs.Ytaifameeoipjjaa

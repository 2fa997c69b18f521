/- Plain: what a bracket is, and that, applied to a thing, it comes to the term with the thing in it (towards TopBracket). -/
import Derived.Test.YtcdabjekppddjaaGreatDoorBk3
import Derived.Test.YtcdabjekppddjaaGreatDoorOnM
namespace Go.Proofs.YtcdabjekppddjaaGreatDoor
set_option linter.unusedSimpArgs false
set_option linter.unusedVariables false

/-- A bracket's outcome, made such a term in any case. -/
def alw (p : Tm × Bool) : Tm := if p.2 = true then p.1 else apT ⟨kB, []⟩ p.1
/-- Such a term; or the term itself, where the variable doesn't stand in it. -/
def brR (v : ByteArray) : Nat → Tm → Tm × Bool
  | 0, t => (t, false)
  | n + 1, ⟨s, l⟩ => if s = v then (⟨iB, []⟩, true) else
    match l with
    | [f, x] => if (brR v n f).2 = false ∧ (brR v n x).2 = false then (⟨s, l⟩, false) else
        if (brR v n f).2 = false ∧ x.name = v then ((brR v n f).1, true) else
        (apT (apT ⟨sB, []⟩ (alw (brR v n f))) (alw (brR v n x)), true)
    | _ => (⟨s, l⟩, false)
theorem on_leaf1 (v s : ByteArray) (x : Tm) : onT [⟨v, x⟩] ⟨s, []⟩ = if v = s then x else ⟨s, []⟩ := by
  by_cases h : v = s
  · rw [if_pos h]; exact onT_some (by simp [forT, h])
  · rw [if_neg h, onT_deep (Or.inr (by simp [forT, h]))]; simp [onL]
theorem on_ap1 {v : ByteArray} (hv : v ≠ apB) (x f y : Tm) : onT [⟨v, x⟩] (apT f y) = apT (onT [⟨v, x⟩] f) (onT [⟨v, x⟩] y) := by
  unfold apT
  rw [onT_deep (Or.inl (by simp))]
  rw [onL_cons, onL_cons]
  simp [onL]
/-- What a bracket is worth. -/
theorem br_law {v : ByteArray} (hv : v ≠ apB) {x : Tm} (hx : isC x = true) (n : Nat) : ∀ t : Tm, sizeL [t] ≤ n → isC t = true →
    isC (brR v n t).1 = true ∧ isC (onT [⟨v, x⟩] t) = true ∧ ((brR v n t).2 = false → (brR v n t).1 = t ∧ onT [⟨v, x⟩] t = t) ∧ CStar (.ap (toC (alw (brR v n t))) (toC x)) (toC (onT [⟨v, x⟩] t)) := by
  induction n with
  | zero => intro t h; have := size_posC t; omega
  | succ n ih =>
    intro t h hc
    rcases isC_cases hc with ⟨s, rfl⟩ | ⟨f, y, rfl, h1, h2⟩
    · rw [on_leaf1]
      by_cases e : s = v
      · subst e
        rw [if_pos rfl]
        have e1 : brR s (n + 1) ⟨s, []⟩ = (⟨iB, []⟩, true) := by simp [brR]
        rw [e1]
        refine ⟨isC_leaf _, hx, by simp, ?_⟩
        simp only [alw, if_true]
        rw [toC_leaf, leafC_i]
        exact .one (.i (.refl _))
      · have e1 : brR v (n + 1) ⟨s, []⟩ = (⟨s, []⟩, false) := by simp [brR, e]
        rw [e1, if_neg (fun h => e h.symm)]
        refine ⟨isC_leaf _, isC_leaf _, fun _ => ⟨rfl, rfl⟩, ?_⟩
        have e2 : alw ((⟨s, []⟩ : Tm), false) = apT ⟨kB, []⟩ ⟨s, []⟩ := by simp [alw]
        rw [e2, toC_ap (isC_leaf _) (isC_leaf _), toC_leaf kB, leafC_k]
        exact .one (.k (.refl _))
    · have hs := size_ap f y
      have a1 := size_posC f
      have a2 := size_posC y
      obtain ⟨f1, f2, f3, f4⟩ := ih f (by omega) h1
      obtain ⟨y1, y2, y3, y4⟩ := ih y (by omega) h2
      have hna : ¬ apB = v := fun h => hv h.symm
      have e0 : brR v (n + 1) (apT f y) = if (brR v n f).2 = false ∧ (brR v n y).2 = false then (apT f y, false) else
        if (brR v n f).2 = false ∧ y.name = v then ((brR v n f).1, true) else
        (apT (apT ⟨sB, []⟩ (alw (brR v n f))) (alw (brR v n y)), true) := by
        unfold apT
        rw [brR, if_neg hna]
        rfl
      have hcaf : isC (alw (brR v n f)) = true := by unfold alw; split; exact f1; rw [isC_ap, isC_leaf, f1]; rfl
      have hcay : isC (alw (brR v n y)) = true := by unfold alw; split; exact y1; rw [isC_ap, isC_leaf, y1]; rfl
      have hon : isC (apT (onT [⟨v, x⟩] f) (onT [⟨v, x⟩] y)) = true := by rw [isC_ap, f2, y2]; rfl
      rw [e0, on_ap1 hv]
      by_cases c1 : (brR v n f).2 = false ∧ (brR v n y).2 = false
      · rw [if_pos c1]
        have g1 := (f3 c1.1).2
        have g2 := (y3 c1.2).2
        refine ⟨hc, hon, fun _ => ⟨rfl, by rw [g1, g2]⟩, ?_⟩
        have e2 : alw (apT f y, false) = apT ⟨kB, []⟩ (apT f y) := by simp [alw]
        rw [e2, toC_ap (isC_leaf _) hc, toC_leaf, leafC_k, g1, g2]
        exact .one (.k (.refl _))
      · rw [if_neg c1]
        by_cases c2 : (brR v n f).2 = false ∧ y.name = v
        · rw [if_pos c2]
          have g1 := f3 c2.1
          have hy : y = ⟨v, []⟩ := by
            rcases isC_cases h2 with ⟨q, rfl⟩ | ⟨p, q, rfl, _, _⟩
            · have := c2.2; simp only at this; rw [this]
            · exact absurd c2.2 hna
          refine ⟨f1, hon, by simp, ?_⟩
          have e2 : alw ((brR v n f).1, true) = f := by simp [alw, g1.1]
          rw [e2, g1.2, hy, on_leaf1, if_pos rfl, toC_ap h1 hx]
          exact .refl _
        · rw [if_neg c2]
          refine ⟨by rw [isC_ap, isC_ap, isC_leaf, hcaf, hcay]; rfl, hon, by simp, ?_⟩
          have e2 : ∀ q : Tm, alw (q, true) = q := fun q => by simp [alw]
          rw [e2, toC_ap (by rw [isC_ap, isC_leaf, hcaf]; rfl) hcay, toC_ap (isC_leaf _) hcaf, toC_leaf, leafC_s, toC_ap f2 y2]
          exact (CStar.one (.s (.refl _) (.refl _) (.refl _))).trans (.ap f4 y4)
end Go.Proofs.YtcdabjekppddjaaGreatDoor

/- Plain: the variable no longer stands in a bracket; how great a bracket may be; both runs end alike (towards TopBracket). -/
import Derived.Test.YtgimfiffcalbfaaBk4
import Derived.Test.YtgimfiffcalbfaaOr2
namespace Go.Proofs.Ytgimfiffcalbfaa
set_option linter.unusedSimpArgs false
set_option linter.unusedVariables false

/-- No knot bears the name. -/
def freeN (v : ByteArray) (t : Tm) : Prop := ∀ k ∈ preL [t], k.name ≠ v
theorem free_leaf {v s : ByteArray} (h : s ≠ v) : freeN v ⟨s, []⟩ := fun k hk => by
  simp [preL] at hk; rw [hk]; exact h
theorem free_ap {v : ByteArray} (hv : v ≠ apB) {f x : Tm} : freeN v (apT f x) ↔ freeN v f ∧ freeN v x := by
  have e : preL [apT f x] = apT f x :: (preL [f] ++ preL [x]) := by
    obtain ⟨a, b⟩ := f
    obtain ⟨c, d⟩ := x
    simp [apT, preL]
  unfold freeN
  rw [e]
  constructor
  · intro h; exact ⟨fun k hk => h k (by simp [hk]), fun k hk => h k (by simp [hk])⟩
  · rintro ⟨h1, h2⟩ k hk
    rcases List.mem_cons.1 hk with rfl | hk
    · exact fun h => hv h.symm
    · rcases List.mem_append.1 hk with hk | hk
      · exact h1 k hk
      · exact h2 k hk
theorem br_free {v : ByteArray} (hv : v ≠ apB) (hi : v ≠ iB) (hk : v ≠ kB) (hs : v ≠ sB) (n : Nat) : ∀ t : Tm, sizeL [t] ≤ n → isC t = true → freeN v (brR v n t).1 := by
  induction n with
  | zero => intro t h; have := size_posC t; omega
  | succ n ih =>
    intro t h hc
    rcases isC_cases hc with ⟨s, rfl⟩ | ⟨f, y, rfl, h1, h2⟩
    · by_cases e : s = v
      · have e1 : brR v (n + 1) ⟨s, []⟩ = (⟨iB, []⟩, true) := by simp [brR, e]
        rw [e1]; exact free_leaf fun h => hi h.symm
      · have e1 : brR v (n + 1) ⟨s, []⟩ = (⟨s, []⟩, false) := by simp [brR, e]
        rw [e1]; exact free_leaf e
    · have hsz := size_ap f y
      have a1 := size_posC f
      have a2 := size_posC y
      have f1 := ih f (by omega) h1
      have y1 := ih y (by omega) h2
      have hna : ¬ apB = v := fun h => hv h.symm
      have e0 : brR v (n + 1) (apT f y) = if (brR v n f).2 = false ∧ (brR v n y).2 = false then (apT f y, false) else
        if (brR v n f).2 = false ∧ y.name = v then ((brR v n f).1, true) else
        (apT (apT ⟨sB, []⟩ (alw (brR v n f))) (alw (brR v n y)), true) := by
        unfold apT
        rw [brR, if_neg hna]
        rfl
      have alf : ∀ p : Tm × Bool, freeN v p.1 → freeN v (alw p) := fun p hp => by
        unfold alw
        split
        · exact hp
        · exact (free_ap hv).2 ⟨free_leaf fun h => hk h.symm, hp⟩
      rw [e0]
      split
      · rename_i c
        have g1 := (br_law hv (isC_leaf iB) n f (by omega) h1).2.2.1 c.1
        have g2 := (br_law hv (isC_leaf iB) n y (by omega) h2).2.2.1 c.2
        rw [g1.1] at f1
        rw [g2.1] at y1
        exact (free_ap hv).2 ⟨f1, y1⟩
      · split
        · exact f1
        · exact (free_ap hv).2 ⟨(free_ap hv).2 ⟨free_leaf fun h => hs h.symm, alf _ f1⟩, alf _ y1⟩
/-- In the whole bracket it doesn't stand. -/
theorem brack_oft {v : ByteArray} (hv : v ≠ apB) (hi : v ≠ iB) (hk : v ≠ kB) (hs : v ≠ sB) {t : Tm} (hc : isC t = true) : oftL v [alw (brR v (sizeL [t]) t)] = 0 := by
  have h := br_free hv hi hk hs _ t (Nat.le_refl _) hc
  refine oft_none ?_
  show freeN v _
  unfold alw
  split
  · exact h
  · exact (free_ap hv).2 ⟨free_leaf fun h => hk h.symm, h⟩
/-- A bracket has at most five knots for one. -/
theorem br_size {v : ByteArray} (n : Nat) : ∀ t : Tm, sizeL [t] ≤ n → isC t = true → sizeL [(brR v n t).1] ≤ 5 * sizeL [t] - 2 := by
  induction n with
  | zero => intro t h; have := size_posC t; omega
  | succ n ih =>
    intro t h hc
    have lf : ∀ s : ByteArray, sizeL [(⟨s, []⟩ : Tm)] = 1 := fun s => by simp [sizeL]
    rcases isC_cases hc with ⟨s, rfl⟩ | ⟨f, y, rfl, h1, h2⟩
    · by_cases e : s = v
      · have e1 : brR v (n + 1) ⟨s, []⟩ = (⟨iB, []⟩, true) := by simp [brR, e]
        rw [e1, lf, lf]; omega
      · have e1 : brR v (n + 1) ⟨s, []⟩ = (⟨s, []⟩, false) := by simp [brR, e]
        rw [e1, lf]; omega
    · have hsz := size_ap f y
      have a1 := size_posC f
      have a2 := size_posC y
      have f1 := ih f (by omega) h1
      have y1 := ih y (by omega) h2
      have als : ∀ p : Tm × Bool, sizeL [alw p] ≤ sizeL [p.1] + 2 := fun p => by
        unfold alw
        split
        · omega
        · rw [size_ap, lf]; omega
      have b1 := als (brR v n f)
      have b2 := als (brR v n y)
      by_cases hna : apB = v
      · have e1 : brR v (n + 1) (apT f y) = (⟨iB, []⟩, true) := by unfold apT; rw [brR, if_pos hna]
        rw [e1, lf]; omega
      · have e0 : brR v (n + 1) (apT f y) = if (brR v n f).2 = false ∧ (brR v n y).2 = false then (apT f y, false) else
          if (brR v n f).2 = false ∧ y.name = v then ((brR v n f).1, true) else
          (apT (apT ⟨sB, []⟩ (alw (brR v n f))) (alw (brR v n y)), true) := by
          unfold apT
          rw [brR, if_neg hna]
          rfl
        rw [e0]
        split
        · simp only; omega
        · split
          · simp only; omega
          · simp only
            rw [size_ap, size_ap, lf]
            omega
/-- What the law asks of both runs. -/
theorem brack_runs {v : ByteArray} (hv : v ≠ apB) {t x : Tm} {k m : Nat} (ht : isC t = true) (hx : isC x = true) (z1 : sizeL [apT (alw (brR v (sizeL [t]) t)) x] ≤ 2000) (z2 : sizeL [onT [⟨v, x⟩] t] ≤ 2000)
    (e1 : (endC k (apT (alw (brR v (sizeL [t]) t)) x)).1 = 0) (e2 : (endC m (onT [⟨v, x⟩] t)).1 = 0) : (endC k (apT (alw (brR v (sizeL [t]) t)) x)).2.1 = (endC m (onT [⟨v, x⟩] t)).2.1 := by
  obtain ⟨h1, h2, _, h4⟩ := br_law hv hx _ t (Nat.le_refl _) ht
  have hca : isC (alw (brR v (sizeL [t]) t)) = true := by unfold alw; split; exact h1; rw [isC_ap, isC_leaf, h1]; rfl
  rw [← toC_ap hca hx] at h4
  exact ends_same (by rw [isC_ap, hca, hx]; rfl) h2 z1 z2 h4 e1 e2
#print axioms brack_runs
#print axioms brack_oft
#print axioms br_size
end Go.Proofs.Ytgimfiffcalbfaa

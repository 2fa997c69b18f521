/- Plain: the variable no longer stands in a bracket; how great a bracket may be; both runs end alike (towards TopBracket). -/
import Derived.Test.YtcdabjekppddjaaGreatDoorBk4
import Derived.Test.YtcdabjekppddjaaGreatDoorOr2
namespace Go.Proofs.YtcdabjekppddjaaGreatDoor
set_option linter.unusedSimpArgs false
set_option linter.unusedVariables false

/-- A bracket has at most five knots for one. -/
theorem br_size {v : ByteArray} (n : Nat) : ∀ t : Tm, sizeL [t] ≤ n → isC t = true → sizeL [(brR v n t).1] ≤ 5 * sizeL [t] - 2 := by
  induction n with
  | zero => intro t h; have := size_posC t; omega
  | succ n ih =>
    intro t h hc
    have lf : ∀ s : ByteArray, sizeL [(⟨s, []⟩ : Tm)] = 1 := fun s => by simp [sizeL]
    rcases isC_cases hc with ⟨s, rfl⟩ | ⟨f, y, rfl, h1, h2⟩
    · by_cases e : s = v
      · have e1 : brR v (n + 1) ⟨s, []⟩ = (⟨iB, []⟩, true) := by simp [brR, e]
        rw [e1, lf, lf]; omega
      · have e1 : brR v (n + 1) ⟨s, []⟩ = (⟨s, []⟩, false) := by simp [brR, e]
        rw [e1, lf]; omega
    · have hsz := size_ap f y
      have a1 := size_posC f
      have a2 := size_posC y
      have f1 := ih f (by omega) h1
      have y1 := ih y (by omega) h2
      have als : ∀ p : Tm × Bool, sizeL [alw p] ≤ sizeL [p.1] + 2 := fun p => by
        unfold alw
        split
        · omega
        · rw [size_ap, lf]; omega
      have b1 := als (brR v n f)
      have b2 := als (brR v n y)
      by_cases hna : apB = v
      · have e1 : brR v (n + 1) (apT f y) = (⟨iB, []⟩, true) := by unfold apT; rw [brR, if_pos hna]
        rw [e1, lf]; omega
      · have e0 : brR v (n + 1) (apT f y) = if (brR v n f).2 = false ∧ (brR v n y).2 = false then (apT f y, false) else
          if (brR v n f).2 = false ∧ y.name = v then ((brR v n f).1, true) else
          (apT (apT ⟨sB, []⟩ (alw (brR v n f))) (alw (brR v n y)), true) := by
          unfold apT
          rw [brR, if_neg hna]
          rfl
        rw [e0]
        split
        · simp only; omega
        · split
          · simp only; omega
          · simp only
            rw [size_ap, size_ap, lf]
            omega
end Go.Proofs.YtcdabjekppddjaaGreatDoor

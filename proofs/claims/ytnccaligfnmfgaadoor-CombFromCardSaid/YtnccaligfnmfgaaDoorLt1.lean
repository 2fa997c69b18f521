/- The text of a lambda term. -/
import Derived.Test.YtnccaligfnmfgaaDoorL2
import Derived.Lib.ItoaNum
namespace Go.Proofs.YtnccaligfnmfgaaDoor

/-- What a lambda term that may be looks like. -/
theorem may_look {u : Int} {t : Lm} (h : errM u 0 [t] = 0) : (∃ x, t = ⟨1, x, []⟩ ∧ 0 ≤ x ∧ x < u) ∨ (∃ b, t = ⟨2, 0, [b]⟩ ∧ errM (u + 1) 0 [b] = 0) ∨ (∃ f a, t = ⟨3, 0, [f, a]⟩ ∧ errM u 0 [f] = 0 ∧ errM u 0 [a] = 0) ∨ (∃ x, t = ⟨4, x, []⟩ ∧ 0 ≤ x ∧ x < 40) := by
  obtain ⟨k, x, l⟩ := t
  have hk : knE u 0 k x l.length = 0 := by
    apply Classical.byContradiction
    intro hn
    rw [errM_bad hn] at h
    exact hn h
  have hg := errM_good hk
  rw [hg] at h
  unfold knE at hk
  by_cases h1 : k < 1 ∨ 5 < k
  · rw [if_pos h1] at hk; cases hk
  rw [if_neg h1] at hk
  by_cases h2 : l.length ≠ subsK k
  · rw [if_pos h2] at hk; cases hk
  rw [if_neg h2] at hk
  by_cases h3 : x < 0 ∨ mostK u 0 k ≤ x
  · rw [if_pos h3] at hk; cases hk
  have hx : 0 ≤ x ∧ x < mostK u 0 k := by omega
  have hl : l.length = subsK k := by simpa using h2
  have hc : k = 1 ∨ k = 2 ∨ k = 3 ∨ k = 4 ∨ k = 5 := by omega
  rcases hc with rfl | rfl | rfl | rfl | rfl
  · left
    simp [mostK] at hx
    simp [subsK] at hl
    subst hl
    exact ⟨x, rfl, hx.1, hx.2⟩
  · right; left
    simp [mostK] at hx
    simp [subsK] at hl
    obtain ⟨b, rfl⟩ := List.length_eq_one_iff.1 hl
    have : x = 0 := by omega
    subst this
    exact ⟨b, rfl, by simpa [deepK] using h⟩
  · right; right; left
    simp [mostK] at hx
    simp [subsK] at hl
    match l, hl with
    | [f, a], _ =>
      have : x = 0 := by omega
      subst this
      rw [errM_cons] at h
      simp only [deepK] at h
      have e2 : (3 : Int) = 2 ↔ False := by simp
      simp only [e2, if_false] at h
      by_cases hf : errM u 0 [f] = 0
      · rw [if_pos hf] at h
        exact ⟨f, a, rfl, hf, h⟩
      · rw [if_neg hf] at h; exact absurd h hf
  · right; right; right
    simp [mostK] at hx
    simp [subsK] at hl
    subst hl
    exact ⟨x, rfl, hx.1, hx.2⟩
  · simp [mostK] at hx
    omega

theorem dec_len (n : Nat) : (Lib.decDigits n).length ≤ n + 1 := by
  induction n using Nat.strongRecOn with
  | ind n ih =>
    rw [Lib.decDigits]
    by_cases h : n < 10
    · rw [dif_pos h]; simp
    · rw [dif_neg h]
      have := ih (n / 10) (by omega)
      simp only [List.length_append, List.length_cons, List.length_nil]
      omega
end Go.Proofs.YtnccaligfnmfgaaDoor

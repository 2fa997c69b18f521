/- Which term is above another one by weights: plain. -/
import Derived.Test.YtgimfiffcalbfaaOr1
namespace Go.Proofs.Ytgimfiffcalbfaa
open Go.RowKit
set_option linter.unusedSimpArgs false
set_option linter.unusedVariables false

/-- How often a name stands. -/
def oftL (v : ByteArray) (l : List Tm) : Nat := ((preL l).filter fun k => decide (k.name = v)).length
/-- Each variable stands in a at least as often as in b. -/
def hasAll (a b : Tm) : Bool := (preL [b]).all fun k => !varB k.name || decide (oftL k.name [b] ≤ oftL k.name [a])
theorem oft_none {v : ByteArray} {l : List Tm} (h : ∀ k ∈ preL l, k.name ≠ v) : oftL v l = 0 := by
  unfold oftL
  rw [List.length_eq_zero_iff, List.filter_eq_nil_iff]
  intro k hk
  simpa using h k hk
/-- So it is for every variable, wherever it stands. -/
theorem hasAll_iff (a b : Tm) : hasAll a b = true ↔ ∀ v, varB v = true → oftL v [b] ≤ oftL v [a] := by
  unfold hasAll
  rw [List.all_eq_true]
  constructor
  · intro h v hv
    by_cases hk : ∃ k ∈ preL [b], k.name = v
    · obtain ⟨k, hk, rfl⟩ := hk
      have := h k hk
      rw [hv] at this
      simpa using this
    · rw [oft_none fun k h1 h2 => hk ⟨k, h1, h2⟩]
      exact Nat.zero_le _
  · intro h k hk
    cases hv : varB k.name with
    | false => rfl
    | true => simpa using h k.name hv
/-- By weights, in so many steps. -/
def weightF (row : List ByteArray) : Nat → Tm → Tm → Bool
  | 0, _, _ => false
  | n + 1, a, b =>
    if hasAll a b = false then false
    else if sizeL [a] ≠ sizeL [b] then decide (sizeL [b] < sizeL [a])
    else if varB a.name = true then false
    else if varB b.name = true then false
    else if gtS row a b = true then true
    else if gtS row b a = true then false
    else match unl a.args b.args with
      | none => false
      | some (x, y) => weightF row n x y
theorem weightF_steps (row : List ByteArray) : ∀ (n m : Nat) (a b : Tm), sizeL [a] ≤ n → sizeL [a] ≤ m → weightF row n a b = weightF row m a b
  | 0, m, a, b, h, _ => by
    obtain ⟨s, l⟩ := a
    simp [sizeL] at h
  | n + 1, 0, a, b, _, h => by
    obtain ⟨s, l⟩ := a
    simp [sizeL] at h
  | n + 1, m + 1, a, b, h1, h2 => by
    rw [weightF, weightF]
    cases hu : unl a.args b.args with
    | none => rfl
    | some p =>
      obtain ⟨x, y⟩ := p
      have := size_arg (unl_mem hu).1
      simp only []
      rw [weightF_steps row n m x y (by omega) (by omega)]
/-- By weights. -/
def weightB (row : List ByteArray) (a b : Tm) : Bool := weightF row (sizeL [a]) a b
theorem weightB_eq (row : List ByteArray) (a b : Tm) : weightB row a b =
    if hasAll a b = false then false
    else if sizeL [a] ≠ sizeL [b] then decide (sizeL [b] < sizeL [a])
    else if varB a.name = true then false
    else if varB b.name = true then false
    else if gtS row a b = true then true
    else if gtS row b a = true then false
    else match unl a.args b.args with
      | none => false
      | some (x, y) => weightB row x y := by
  unfold weightB
  rw [weightF_steps row _ (sizeL [a] + 1) a b (Nat.le_refl _) (by omega), weightF]
  cases hu : unl a.args b.args with
  | none => rfl
  | some p =>
    obtain ⟨x, y⟩ := p
    have := size_arg (unl_mem hu).1
    simp only []
    rw [weightF_steps row _ (sizeL [x]) x y (by omega) (Nat.le_refl _)]
/-- The three ways that two symbols compare: less, the same, greater. -/
theorem gtS_asymm {row : List ByteArray} {a b : Tm} (h : gtS row a b = true) : gtS row b a = false := by
  unfold gtS at *
  by_cases h1 : rankN a.name row = rankN b.name row
  · rw [if_neg (by simpa using h1)] at h
    rw [if_neg (by simpa using h1.symm)]
    by_cases h2 : a.name = b.name
    · rw [if_neg (by simpa using h2)] at h
      rw [if_neg (by simpa using h2.symm)]
      simp at h ⊢
      omega
    · rw [if_pos h2] at h
      rw [if_pos fun e => h2 e.symm]
      exact ltB_asymm h
  · rw [if_pos h1] at h
    rw [if_pos fun e => h1 e.symm]
    simp at h ⊢
    omega
#print axioms weightB_eq
#print axioms hasAll_iff
#print axioms gtS_asymm
end Go.Proofs.Ytgimfiffcalbfaa

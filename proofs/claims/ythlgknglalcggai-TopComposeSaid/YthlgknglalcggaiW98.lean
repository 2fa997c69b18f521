
/- Walks: Match, Variant, Encompasses, whole. -/
import Derived.Test.YthlgknglalcggaiW97
namespace Go.Proofs.Ythlgknglalcggai
open Go.RowKit
set_option linter.unusedSimpArgs false
set_option linter.unusedVariables false
set_option maxRecDepth 8000

theorem mtT_size_one {p t : Tm} {h h' : List Bd} {n : Nat} (ih : ∀ ts g g', mtL p.args ts g = some g' → sizeL ts ≤ n → (∀ d ∈ g, sizeL [d.t] ≤ n) → ∀ d ∈ g', sizeL [d.t] ≤ n) (he : mtT p t h = some h') (ht : sizeL [t] ≤ n) (ha : ∀ d ∈ h, sizeL [d.t] ≤ n) : ∀ d ∈ h', sizeL [d.t] ≤ n := by
  unfold mtT at he
  split at he
  · split at he
    · split at he
      · cases he; exact ha
      · cases he
    · cases he
      intro d hd
      rcases List.mem_append.1 hd with hd | hd
      · exact ha d hd
      · have e : d = ⟨p.name, t⟩ := by simpa using hd
        rw [e]; exact ht
  · split at he
    · refine ih _ _ _ he ?_ ha
      obtain ⟨s2, m⟩ := t
      simp [sizeL] at ht ⊢
      omega
    · cases he
theorem mtL_size {n : Nat} : ∀ (l ts : List Tm) (h h' : List Bd), mtL l ts h = some h' → sizeL ts ≤ n → (∀ d ∈ h, sizeL [d.t] ≤ n) → ∀ d ∈ h', sizeL [d.t] ≤ n := by
  intro l
  induction l using Tm.indL with
  | h0 => intro ts h h' he _ ha; simp [mtL] at he; subst he; exact ha
  | h s l r ihl ihr =>
    intro ts h h' he ht ha
    cases ts with
    | nil => simp [mtL] at he
    | cons t ts =>
      rw [mtL_cons] at he
      have e1 : sizeL (t :: ts) = sizeL [t] + sizeL ts := by obtain ⟨s2, m⟩ := t; simp [sizeL]
      rw [e1] at ht
      cases hm : mtT ⟨s, l⟩ t h with
      | none => rw [hm] at he; cases he
      | some g =>
        rw [hm] at he
        exact ihr ts g h' he (by omega) (mtT_size_one (p := ⟨s, l⟩) (fun ts g g' h3 h4 h5 => ihl ts g g' h3 h4 h5) hm (by omega) ha)
theorem mtT_size {p t : Tm} {h' : List Bd} (he : mtT p t [] = some h') : ∀ d ∈ h', sizeL [d.t] ≤ sizeL [t] :=
  mtT_size_one (fun ts g g' h3 h4 h5 => mtL_size p.args ts g g' h3 h4 h5) he (Nat.le_refl _) (by simp)
theorem twoE_parts {p t : Tm} (h : twoE p t = 0) : mayE p = 0 ∧ mayE t = 0 := by
  unfold twoE at h
  split at h
  · exact ⟨‹_›, h⟩
  · exact absurd h ‹_›
theorem mayE_size {t : Tm} (h : mayE t = 0) : sizeL [t] ≤ 200 := by
  unfold mayE at h
  split at h
  · cases h
  · omega

def MaPost (w : World) (p t : Tm) (e : Ending) (w' : World) : Prop :=
  Below w.heap.size w w' ∧ ((twoE p t ≠ 0 ∧ e = .returned (.tuple #[.slice none 0 0, .bool false, .int .i64 (twoE p t)])) ∨ (twoE p t = 0 ∧ mtT p t [] = none ∧ e = .returned (.tuple #[.slice none 0 0, .bool false, .int .i64 0])) ∨
    (twoE p t = 0 ∧ ∃ h' v l', mtT p t [] = some h' ∧ e = .returned (.tuple #[v, .bool true, .int .i64 0]) ∧ BV w' (fun b => w.heap.size ≤ b) v l' ∧ l'.Perm h' ∧ SortedB l'))

end Go.Proofs.Ythlgknglalcggai

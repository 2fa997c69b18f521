/- Small facts on terms and bindings: plain. -/
import Derived.Test.YteojdfmdhgnmfaaGreatZDTopEmbedOwn
import Derived.Test.YteojdfmdhgnmfaaGreatZTopEmbedOwn
namespace Go.Proofs.YteojdfmdhgnmfaaGreat
open Go.RowKit
set_option linter.unusedSimpArgs false
set_option linter.unusedVariables false

theorem errL_name {s : ByteArray} {a r : List Tm} (h : errL (⟨s, a⟩ :: r) = 0) : nameB s = true := by
  rw [errL] at h
  split at h
  · assumption
  · cases h
theorem forT_of {l : List Bd} (ha : ApartB l) {d : Bd} (hd : d ∈ l) : forT l d.nm = some d.t := by
  induction l with
  | nil => cases hd
  | cons a r ih =>
    obtain ⟨h1, h2⟩ := List.pairwise_cons.1 ha
    rcases List.mem_cons.1 hd with rfl | hd
    · simp [forT]
    · rw [forT, if_neg (h1 d hd)]
      exact ih h2 hd
theorem forT_append (a b : List Bd) (n : ByteArray) : forT (a ++ b) n = (forT a n).or (forT b n) := by
  induction a with
  | nil => simp [forT]
  | cons d r ih =>
    rw [List.cons_append, forT, forT]
    split
    · rfl
    · exact ih
theorem onT_leaf (l : List Bd) (n : ByteArray) : onT l ⟨n, []⟩ = (forT l n).getD ⟨n, []⟩ := by
  cases h : forT l n with
  | none => rw [onT_deep (Or.inr h)]; simp [onL]
  | some t => rw [onT_some h]; rfl
theorem forT_some_of {ls : List Bd} {d : Bd} (h : d ∈ ls) : ∃ t, forT ls d.nm = some t := by
  induction ls with
  | nil => cases h
  | cons a r ih =>
    rw [forT]
    split
    · exact ⟨_, rfl⟩
    · rename_i hne
      rcases List.mem_cons.1 h with rfl | h
      · exact absurd rfl hne
      · exact ih h

theorem varsP_sub : ∀ (ks : List Tm) (acc : List ByteArray) (n : ByteArray), n ∈ varsP acc ks → n ∈ acc ∨ ∃ k ∈ ks, k.name = n ∧ varB n = true
  | [], acc, n, h => Or.inl (by simpa [varsP] using h)
  | k :: r, acc, n, h => by
    have e : varsP acc (k :: r) = varsP (addV acc k.name) r := rfl
    rw [e] at h
    rcases varsP_sub r _ n h with h1 | ⟨k', h1, h2⟩
    · cases hv : varB k.name with
      | false => rw [addV_no hv] at h1; exact Or.inl h1
      | true =>
        cases hi : inB k.name acc with
        | true => rw [addV_in hv hi] at h1; exact Or.inl h1
        | false =>
          rw [addV_yes hv hi] at h1
          rcases List.mem_append.1 h1 with h1 | h1
          · exact Or.inl h1
          · have e2 : n = k.name := by simpa using h1
            exact Or.inr ⟨k, by simp, e2.symm, by rw [e2]; exact hv⟩
    · exact Or.inr ⟨k', by simp [h1], h2⟩
theorem varsP_has : ∀ (ks : List Tm) (acc : List ByteArray), (∀ n ∈ acc, n ∈ varsP acc ks) ∧ ∀ k ∈ ks, varB k.name = true → k.name ∈ varsP acc ks
  | [], acc => ⟨fun n h => by simpa [varsP] using h, fun k h => by cases h⟩
  | k :: r, acc => by
    have e : varsP acc (k :: r) = varsP (addV acc k.name) r := rfl
    rw [e]
    obtain ⟨h1, h2⟩ := varsP_has r (addV acc k.name)
    have hsub : ∀ n ∈ acc, n ∈ addV acc k.name := fun n hn => by
      cases hv : varB k.name with
      | false => rw [addV_no hv]; exact hn
      | true =>
        cases hi : inB k.name acc with
        | true => rw [addV_in hv hi]; exact hn
        | false => rw [addV_yes hv hi]; simp [hn]
    refine ⟨fun n hn => h1 n (hsub n hn), fun k' hk' hv' => ?_⟩
    rcases List.mem_cons.1 hk' with rfl | hk'
    · refine h1 _ ?_
      cases hi : inB k'.name acc with
      | true =>
        rw [addV_in hv' hi]
        unfold inB at hi
        obtain ⟨y, hy, e2⟩ := List.any_eq_true.1 hi
        have e3 : y = k'.name := bytes_inj (by simpa using e2)
        rw [← e3]; exact hy
      | false => rw [addV_yes hv' hi]; simp
    · exact h2 k' hk' hv'
end Go.Proofs.YteojdfmdhgnmfaaGreat

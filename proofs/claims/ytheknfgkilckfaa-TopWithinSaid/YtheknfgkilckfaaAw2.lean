/- Plain: how many kinds there are in a row does not hang on its order. -/
import Derived.Test.YtheknfgkilckfaaAv1
namespace Go.Proofs.Ytheknfgkilckfaa
open Go.RowKit
set_option linter.unusedSimpArgs false
set_option linter.unusedVariables false
set_option maxRecDepth 8000

/-- As one asks of `alike`. -/
structure Eqv {α : Type} (E : α → α → Bool) (l : List α) : Prop where
  refl : ∀ x ∈ l, E x x = true
  symm : ∀ x ∈ l, ∀ y ∈ l, E x y = true → E y x = true
  trans : ∀ x ∈ l, ∀ y ∈ l, ∀ z ∈ l, E x y = true → E y z = true → E x z = true
theorem inj_len {α β : Type} {Q : α → β → Prop} : ∀ {l1 : List α} {l2 : List β}, l1.Pairwise (fun a a' => ∀ b, Q a b → Q a' b → False) → (∀ a ∈ l1, ∃ b ∈ l2, Q a b) → l1.length ≤ l2.length
  | [], l2, _, _ => Nat.zero_le _
  | a :: r, l2, hp, h => by
    obtain ⟨b, hb, hq⟩ := h a (by simp)
    obtain ⟨s, t, rfl⟩ := List.append_of_mem hb
    rw [List.pairwise_cons] at hp
    have := inj_len (l1 := r) (l2 := s ++ t) hp.2 fun a' ha' => by
      obtain ⟨b', hb', hq'⟩ := h a' (by simp [ha'])
      refine ⟨b', ?_, hq'⟩
      rcases List.mem_append.1 hb' with g | g
      · exact List.mem_append.2 (Or.inl g)
      · rcases List.mem_cons.1 g with e | g
        · subst e
          exact (hp.1 a' ha' b' hq hq').elim
        · exact List.mem_append.2 (Or.inr g)
    simp at this ⊢
    omega
end Go.Proofs.Ytheknfgkilckfaa

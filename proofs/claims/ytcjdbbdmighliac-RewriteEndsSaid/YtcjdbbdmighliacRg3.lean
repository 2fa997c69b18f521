/- One who takes hands on: a loop in between. -/
import Derived.Test.YtcjdbbdmighliacZCRewriteEndsOwn
namespace Go.Proofs.Ytcjdbbdmighliac
open Go.RowKit Go.Shelf
set_option linter.unusedSimpArgs false
set_option linter.unusedVariables false
set_option maxRecDepth 8000

/-- Of each that comes some are handed on: a loop with the record L; the blocks K' stay as they are in W0. -/
def JL {α β : Type} (J : Tk α) (K' : Nat → Prop) (G : β → List α) (pre : List α) (L : Nat) (r rd : Loop) (W0 : World) : Tk β := fun pre2 s f2 W =>
  ∃ (f : Nat → Prop) (m : Nat), (∀ b, f2 b ↔ f b ∨ b = L) ∧ m ≤ (pre2.flatMap G).length ∧ (s = true → m = (pre2.flatMap G).length) ∧ J (pre ++ (pre2.flatMap G).take m) s f W ∧ ¬ f L ∧ W.heap[L]? = some (.loop (if s = true then r else rd)) ∧ (∀ b, K' b → b < W0.heap.size ∧ ¬ f b ∧ b ≠ L) ∧ W0.heap.size ≤ W.heap.size ∧ ∀ b, K' b → W.heap[b]? = W0.heap[b]?

theorem JL.ok {α β : Type} {J : Tk α} {K K' : Nat → Prop} {G : β → List α} {pre : List α} {L : Nat} {r rd : Loop} {W0 : World} (hJ : TkOk J K) (hK : ∀ b, K b → K' b) : TkOk (JL J K' G pre L r rd W0) K' where
  inside := by
    rintro pre2 s f2 W ⟨f, m, hf2, hm, hm2, hj, hfL, hL, hK2, hz, hC⟩ b hb
    rcases hb with hb | hb
    · rcases (hf2 b).1 hb with h | h
      · exact hJ.inside hj b (Or.inl h)
      · subst h; exact (Array.getElem?_eq_some_iff.1 hL).1
    · have := (hK2 b hb).1; omega
  apart := by
    rintro pre2 s f2 W ⟨f, m, hf2, hm, hm2, hj, hfL, hL, hK2, hz, hC⟩ b hb h
    rcases (hf2 b).1 h with h | h
    · exact (hK2 b hb).2.1 h
    · exact (hK2 b hb).2.2 h
  abide := by
    rintro pre2 s f2 W W' ⟨f, m, hf2, hm, hm2, hj, hfL, hL, hK2, hz, hC⟩ hs hk
    refine ⟨f, m, hf2, hm, hm2, hJ.abide hj hs (fun b hb => hk b ?_), hfL, (hk L (Or.inl ((hf2 L).2 (Or.inr rfl)))).trans hL, hK2, Nat.le_trans hz hs, fun b hb => (hk b (Or.inr hb)).trans (hC b hb)⟩
    rcases hb with hb | hb
    · exact Or.inl ((hf2 b).2 (Or.inl hb))
    · exact Or.inr (hK b hb)

theorem take_flat {α β : Type} (G : β → List α) (all : List β) (m1 m : Nat) (h : m ≤ ((all.take m1).flatMap G).length) : ((all.take m1).flatMap G).take m = (all.flatMap G).take m ∧ m ≤ (all.flatMap G).length := by
  have e : all.flatMap G = (all.take m1).flatMap G ++ (all.drop m1).flatMap G := by rw [← List.flatMap_append, List.take_append_drop]
  rw [e]
  exact ⟨(List.take_append_of_le_length h).symm, by rw [List.length_append]; omega⟩

/-- Behind the loop. -/
theorem Went.unJL {α β : Type} {J : Tk α} {K' : Nat → Prop} {G : β → List α} {pre : List α} {L : Nat} {r rd : Loop} {W0 W W' : World} {all : List β} {f2 g : Nat → Prop} {s : Bool} (h : Went (JL J K' G pre L r rd W0) all [] f2 g W s W') :
    ∃ (f' : Nat → Prop) (m : Nat), m ≤ (all.flatMap G).length ∧ (s = true → m = (all.flatMap G).length) ∧ J (pre ++ (all.flatMap G).take m) s f' W' ∧ ¬ f' L ∧ W'.heap[L]? = some (.loop (if s = true then r else rd)) ∧ (∀ b, K' b → b < W'.heap.size ∧ ¬ f' b ∧ b ≠ L ∧ W'.heap[b]? = W0.heap[b]?) ∧ ExQ (fun b => f2 b ∨ g b) W W' ∧ ∀ b, f' b → f2 b ∨ W.heap.size ≤ b := by
  obtain ⟨m1, f3, hm1, hs1, ⟨f, m, hf2, hm, hm2, hj, hfL, hL, hK2, hz, hC⟩, he, hff⟩ := h
  rw [List.nil_append] at hm hm2 hj
  obtain ⟨e1, e2⟩ := take_flat G all m1 m hm
  refine ⟨f, m, e2, fun h => ?_, by rw [← e1]; exact hj, hfL, hL, fun b hb => ⟨by have := (hK2 b hb).1; omega, (hK2 b hb).2.1, (hK2 b hb).2.2, hC b hb⟩, he, fun b hb => hff b ((hf2 b).2 (Or.inl hb))⟩
  have := hs1 h
  subst this
  rw [hm2 h, List.take_length]
/-- At the start. -/
theorem JL.start {α β : Type} {J : Tk α} {K' f : Nat → Prop} {G : β → List α} {pre : List α} {L : Nat} {r rd : Loop} {W0 : World} (hj : J pre true f W0) (hfL : ¬ f L) (hL : W0.heap[L]? = some (.loop r)) (hK : ∀ b, K' b → b < W0.heap.size ∧ ¬ f b ∧ b ≠ L) : JL J K' G pre L r rd W0 [] true (fun b => f b ∨ b = L) W0 :=
  ⟨f, 0, fun b => Iff.rfl, Nat.zero_le _, fun _ => rfl, by simpa using hj, hfL, hL, hK, Nat.le_refl _, fun b _ => rfl⟩
#print axioms Went.unJL
end Go.Proofs.Ytcjdbbdmighliac

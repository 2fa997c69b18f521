import Derived.Test.YtkpkjbfnpocdgaaGreatDoorZTopSelfOwn
namespace Go.Proofs.YtkpkjbfnpocdgaaGreatDoor
open Go.RowKit
set_option linter.unusedSimpArgs false
set_option linter.unusedVariables false
set_option maxRecDepth 8000
theorem pairs_cells {w : World} {X : Nat → Prop} : ∀ (l : List Pr) (b o : Nat), (∀ i (h : i < l.length), ∃ a1 c1 a2 c2, w.cell? ⟨b, o + i * 4, none⟩ = some (.string l[i].l.name) ∧ w.cell? ⟨b, o + i * 4 + 1, none⟩ = some (.slice a1 l[i].l.args.length c1) ∧ w.cell? ⟨b, o + i * 4 + 2, none⟩ = some (.string l[i].r.name) ∧ w.cell? ⟨b, o + i * 4 + 3, none⟩ = some (.slice a2 l[i].r.args.length c2) ∧ Sl w X a1 l[i].l.args ∧ Sl w X a2 l[i].r.args) →
  ∃ cs : List Pc, cs.map (·.1) = l ∧ (∀ j u, (flat4 cs)[j]? = some u → w.cell? ⟨b, o + j, none⟩ = some u) ∧ ∀ x ∈ cs, Sl w X x.2.1.1 x.1.l.args ∧ Sl w X x.2.2.1 x.1.r.args
 | [], b, o, _ => ⟨[], rfl, fun j u h => by simp [flat4] at h, fun x h => by cases h⟩
 | p :: r, b, o, h => by
  obtain ⟨a1, c1, a2, c2, h1, h2, h3, h4, h5, h6⟩ := h 0 (by simp)
  obtain ⟨cs, e1, e2, e3⟩ := pairs_cells r b (o + 4) fun i hi => by
   have h7 := h (i + 1) (by simpa using hi)
   simp only [List.getElem_cons_succ] at h7
   rw [show o + (i + 1) * 4 = o + 4 + i * 4 by omega] at h7
   exact h7
  simp only [List.getElem_cons_zero, Nat.zero_mul, Nat.add_zero] at h1 h2 h3 h4 h5 h6
  refine ⟨(p, (a1, c1), (a2, c2)) :: cs, by simp [e1], fun j u hj => ?_, fun x hx => ?_⟩
  ·rw [flat4] at hj
   match j, hj with
   | 0, hj => simp [enc4] at hj; subst hj; exact h1
   | 1, hj => simp [enc4] at hj; subst hj; exact h2
   | 2, hj => simp [enc4] at hj; subst hj; exact h3
   | 3, hj => simp [enc4] at hj; subst hj; exact h4
   | j + 4, hj =>
    rw [List.getElem?_append_right (by simp [enc4])] at hj
    have := e2 j u (by simpa [enc4] using hj)
    rwa [show o + (j + 4) = o + 4 + j by omega]
  ·rcases List.mem_cons.1 hx with rfl | hx
   ·exact ⟨h5, h6⟩
   ·exact e3 x hx
end Go.Proofs.YtkpkjbfnpocdgaaGreatDoor

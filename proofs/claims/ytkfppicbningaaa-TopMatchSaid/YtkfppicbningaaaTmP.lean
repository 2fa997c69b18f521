/- What matching an instance finds: plain. -/
import Derived.Test.YtkfppicbningaaaPu0
import Derived.Test.YtkfppicbningaaaW98
import Derived.Test.YtkfppicbningaaaW84
import Derived.Test.YtkfppicbningaaaW17
namespace Go.Proofs.Ytkfppicbningaaa
open Go.RowKit
set_option linter.unusedSimpArgs false
set_option linter.unusedVariables false

theorem eqL_refl : ∀ l : List Tm, eqL l l = true := by
  intro l
  induction l using Tm.indL with
  | h0 => simp [eqL]
  | h s l r ihl ihr => simp [eqL, ihl, ihr]
theorem sameB_refl (t : Tm) : sameB t t = true := by simp [sameB, eqL_refl]

/-- What stands there is what the bindings put for it. -/
def Con (ls h : List Bd) : Prop := ∀ d ∈ h, d.t = onT ls ⟨d.nm, []⟩
theorem forT_inB {h : List Bd} {s : ByteArray} : (forT h s).isSome = inB s (h.map (·.nm)) := by
  induction h with
  | nil => rfl
  | cons d r ih =>
    by_cases e : d.nm = s
    · simp [forT, inB, e]
    · have hb := bytes_no e
      simp only [forT, e, if_false, List.map_cons, inB, List.any_cons, hb, Bool.false_or]
      exact ih
theorem onT_sym {ls : List Bd} (h : bindsE ls = 0) {s : ByteArray} (hs : varB s = false) (l : List Tm) : onT ls ⟨s, l⟩ = ⟨s, onL ls l⟩ := by
  refine onT_deep (Or.inr ?_)
  cases hf : forT ls s with
  | none => rfl
  | some x => rw [(forT_var h hf).1] at hs; cases hs

theorem mtL_on {ls : List Bd} (hE : bindsE ls = 0) : ∀ (l : List Tm) (h : List Bd), errL l = 0 → Con ls h → ∃ h', mtL l (onL ls l) h = some h' ∧ Con ls h' ∧ h'.map (·.nm) = varsP (h.map (·.nm)) (preL l) := by
  intro l
  induction l using Tm.indL with
  | h0 => intro h _ hc; exact ⟨h, by simp [mtL, onL], hc, by simp [varsP, preL]⟩
  | h s l r ihl ihr =>
    intro h he hc
    obtain ⟨h1, h2, h3⟩ := errL_parts he
    have key : ∃ g, mtT ⟨s, l⟩ (onT ls ⟨s, l⟩) h = some g ∧ Con ls g ∧ g.map (·.nm) = varsP (h.map (·.nm)) (⟨s, l⟩ :: preL l) := by
      cases hv : varB s with
      | true =>
        have hl := h1 hv
        subst hl
        cases hf : forT h s with
        | some x =>
          obtain ⟨d, hd, hn, ht⟩ := forT_mem hf
          have hx : x = onT ls ⟨s, []⟩ := by rw [← ht, hc d hd, hn]
          refine ⟨h, ?_, hc, ?_⟩
          · rw [mtT_old hv hf, hx, if_pos (sameB_refl _)]
          · have hin : inB s (h.map (·.nm)) = true := by rw [← forT_inB, hf]; rfl
            show _ = varsP (addV (h.map (·.nm)) s) (preL [])
            rw [addV_in hv hin]
            simp [varsP, preL]
        | none =>
          refine ⟨h ++ [⟨s, onT ls ⟨s, []⟩⟩], mtT_new hv hf, fun d hd => ?_, ?_⟩
          · rcases List.mem_append.1 hd with hd | hd
            · exact hc d hd
            · have e : d = ⟨s, onT ls ⟨s, []⟩⟩ := by simpa using hd
              rw [e]
          · have hin : inB s (h.map (·.nm)) = false := by rw [← forT_inB, hf]; rfl
            show _ = varsP (addV (h.map (·.nm)) s) (preL [])
            rw [addV_yes hv hin]
            simp [varsP, preL]
      | false =>
        obtain ⟨g, g1, g2, g3⟩ := ihl h h2 hc
        refine ⟨g, ?_, g2, ?_⟩
        · rw [onT_sym hE hv, mtT_deep hv (by simp) (onL_length ls l).symm]
          exact g1
        · show _ = varsP (addV (h.map (·.nm)) s) (preL l)
          rw [addV_no hv]
          exact g3
    obtain ⟨g, g1, g2, g3⟩ := key
    obtain ⟨h', k1, k2, k3⟩ := ihr g h3 g2
    refine ⟨h', ?_, k2, ?_⟩
    · rw [onL_cons, mtL_cons, g1]
      exact k1
    · rw [k3, g3, preL]
      rw [show (⟨s, l⟩ :: (preL l ++ preL r) : List Tm) = (⟨s, l⟩ :: preL l) ++ preL r from rfl, varsP_append]
theorem mtT_on {ls : List Bd} (hE : bindsE ls = 0) {p : Tm} (he : errL [p] = 0) : ∃ h', mtT p (onT ls p) [] = some h' ∧ Con ls h' ∧ h'.map (·.nm) = varsP [] (preL [p]) := by
  obtain ⟨h', h1, h2, h3⟩ := mtL_on hE [p] [] he (by intro d hd; cases hd)
  refine ⟨h', ?_, h2, h3⟩
  rw [onL_cons, mtL_cons] at h1
  cases hm : mtT p (onT ls p) [] with
  | none => rw [hm] at h1; cases h1
  | some g => rw [hm] at h1; simpa [mtL] using h1

#print axioms mtT_on
end Go.Proofs.Ytkfppicbningaaa

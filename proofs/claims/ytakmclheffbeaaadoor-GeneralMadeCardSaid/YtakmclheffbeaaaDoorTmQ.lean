/- What matching an instance finds, put into the pattern: plain. -/
import Derived.Test.YtakmclheffbeaaaDoorTmP
import Derived.Test.YtakmclheffbeaaaDoorW100
namespace Go.Proofs.YtakmclheffbeaaaDoor
open Go.RowKit
set_option linter.unusedSimpArgs false
set_option linter.unusedVariables false

theorem mayE_mk {t : Tm} (he : errL [t] = 0) (hs : sizeL [t] ≤ 200) : mayE t = 0 := by
  unfold mayE
  rw [if_neg (by omega)]; exact he
theorem ltB_leB {a b : ByteArray} (h : ltB a b = true) : leB b a = false := by
  unfold leB
  have h1 : Op.bytesLess b.toList a.toList = false := ltB_asymm h
  rw [h1, Bool.false_or]
  cases he : (b.toList == a.toList) with
  | false => rfl
  | true =>
    have e : b = a := bytes_inj (by simpa using he)
    rw [e, ltB_irrefl] at h; cases h
theorem bindsE_mk {l : List Bd} (hs : SortedB l) (hl : l.length ≤ 40) (ha : ∀ d ∈ l, (nameB d.nm && varB d.nm) = true ∧ mayE d.t = 0) : bindsE l = 0 := by
  unfold bindsE
  rw [if_neg (by omega)]
  have key : ∀ n, n ≤ l.length → bmT l n = 0 := by
    intro n
    induction n with
    | zero => intro _; rfl
    | succ n ih =>
      intro hn
      refine bmT_next (ih (by omega)) ?_
      have hk : n < l.length := by omega
      obtain ⟨h1, h2⟩ := ha l[n] (List.getElem_mem hk)
      cases n with
      | zero => rw [bmK_first hk h1]; exact h2
      | succ j =>
        have hlt : ltB (l[j]'(by omega)).nm l[j + 1].nm = true := by
          unfold SortedB at hs
          rw [List.pairwise_iff_getElem] at hs
          exact hs j (j + 1) (by omega) hk (by omega)
        rw [bmK_may hk h1 (ltB_leB hlt)]; exact h2
  exact key _ (Nat.le_refl _)
theorem four_E {ls : List Bd} (hs : (ls.map (·.nm)).Sublist four) (ha : ∀ d ∈ ls, sizeL [d.t] ≤ 200 ∧ errL [d.t] = 0) : bindsE ls = 0 := by
  refine bindsE_mk ?_ ?_ fun d hd => ⟨?_, mayE_mk (ha d hd).2 (ha d hd).1⟩
  · have lt1 : ∀ x y : UInt8, x < y → ltB ⟨#[x]⟩ ⟨#[y]⟩ = true := fun x y h => by
      unfold ltB
      rw [ByteArray.toList_eq, ByteArray.toList_eq]
      simp [Op.bytesLess, h]
    have h4 : four.Pairwise fun a b => ltB a b = true := by
      unfold four
      simp only [List.pairwise_cons, List.mem_cons, List.not_mem_nil, or_false, List.Pairwise.nil, and_true, false_or]
      refine ⟨fun b hb => ?_, fun b hb => ?_, fun b hb => ?_, fun b hb => by cases hb⟩
      · rcases hb with rfl | rfl | rfl <;> exact lt1 _ _ (by decide)
      · rcases hb with rfl | rfl <;> exact lt1 _ _ (by decide)
      · subst hb; exact lt1 _ _ (by decide)
    exact List.pairwise_map.1 (h4.sublist hs)
  · have := hs.length_le
    simp [four] at this
    omega
  · have h4 : ∀ n ∈ four, (nameB n && varB n) = true := by unfold four; decide
    exact h4 _ (hs.subset (List.mem_map.2 ⟨d, hd, rfl⟩))
end Go.Proofs.YtakmclheffbeaaaDoor

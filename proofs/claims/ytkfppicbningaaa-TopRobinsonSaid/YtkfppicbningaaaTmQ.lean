/- What matching an instance finds, put into the pattern: plain. -/
import Derived.Test.YtkfppicbningaaaZCTopRobinsonOwn
import Derived.Test.YtkfppicbningaaaW100
namespace Go.Proofs.Ytkfppicbningaaa
open Go.RowKit
set_option linter.unusedSimpArgs false
set_option linter.unusedVariables false

theorem errL_on {ls : List Bd} (hE : bindsE ls = 0) : ∀ l : List Tm, errL l = 0 → errL (onL ls l) = 0 := by
  intro l
  induction l using Tm.indL with
  | h0 => intro _; simp [onL, errL]
  | h s l r ihl ihr =>
    intro he
    obtain ⟨h1, h2, h3⟩ := errL_parts he
    have hn := errL_name he
    rw [onL_cons]
    have key : errL [onT ls ⟨s, l⟩] = 0 := by
      cases hv : varB s with
      | false => rw [onT_sym hE hv]; exact err_node hn hv (ihl h2)
      | true =>
        have hl := h1 hv
        subst hl
        cases hf : forT ls s with
        | none =>
          rw [onT_deep (Or.inr hf)]
          simpa [onL] using err_leaf hn
        | some x =>
          rw [onT_some hf]
          have hm := (forT_var hE hf).2
          unfold mayE at hm
          split at hm
          · cases hm
          · exact hm
    rw [errL_cons, if_pos key]
    exact ihr h3
theorem errL_onT {ls : List Bd} (hE : bindsE ls = 0) {p : Tm} (he : errL [p] = 0) : errL [onT ls p] = 0 := by
  have h := errL_on hE [p] he
  rw [onL_cons] at h
  simpa [onL] using h
theorem preL_err : ∀ l : List Tm, errL l = 0 → ∀ k ∈ preL l, nameB k.name = true := by
  intro l
  induction l using Tm.indL with
  | h0 => intro _ k hk; simp [preL] at hk
  | h s l r ihl ihr =>
    intro he k hk
    obtain ⟨h1, h2, h3⟩ := errL_parts he
    rw [preL] at hk
    rcases List.mem_cons.1 hk with rfl | hk
    · exact errL_name he
    · rcases List.mem_append.1 hk with hk | hk
      · exact ihl h2 k hk
      · exact ihr h3 k hk
theorem mayE_mk {t : Tm} (he : errL [t] = 0) (hs : sizeL [t] ≤ 200) : mayE t = 0 := by
  unfold mayE
  rw [if_neg (by omega)]; exact he
theorem mayE_err {t : Tm} (h : mayE t = 0) : errL [t] = 0 := by
  unfold mayE at h
  split at h
  · cases h
  · exact h
theorem ltB_leB {a b : ByteArray} (h : ltB a b = true) : leB b a = false := by
  unfold leB
  have h1 : Op.bytesLess b.toList a.toList = false := ltB_asymm h
  rw [h1, Bool.false_or]
  cases he : (b.toList == a.toList) with
  | false => rfl
  | true =>
    have e : b = a := bytes_inj (by simpa using he)
    rw [e, ltB_irrefl] at h; cases h
theorem bindsE_mk {l : List Bd} (hs : SortedB l) (hl : l.length ≤ 40) (ha : ∀ d ∈ l, (nameB d.nm && varB d.nm) = true ∧ mayE d.t = 0) : bindsE l = 0 := by
  unfold bindsE
  rw [if_neg (by omega)]
  have key : ∀ n, n ≤ l.length → bmT l n = 0 := by
    intro n
    induction n with
    | zero => intro _; rfl
    | succ n ih =>
      intro hn
      refine bmT_next (ih (by omega)) ?_
      have hk : n < l.length := by omega
      obtain ⟨h1, h2⟩ := ha l[n] (List.getElem_mem hk)
      cases n with
      | zero => rw [bmK_first hk h1]; exact h2
      | succ j =>
        have hlt : ltB (l[j]'(by omega)).nm l[j + 1].nm = true := by
          unfold SortedB at hs
          rw [List.pairwise_iff_getElem] at hs
          exact hs j (j + 1) (by omega) hk (by omega)
        rw [bmK_may hk h1 (ltB_leB hlt)]; exact h2
  exact key _ (Nat.le_refl _)
theorem onL_eq {ls l' : List Bd} (hE : bindsE ls = 0) (hE' : bindsE l' = 0) : ∀ l : List Tm, errL l = 0 → (∀ k ∈ preL l, varB k.name = true → forT l' k.name = some (onT ls ⟨k.name, []⟩)) → onL l' l = onL ls l := by
  intro l
  induction l using Tm.indL with
  | h0 => intro _ _; simp [onL]
  | h s l r ihl ihr =>
    intro he hk
    obtain ⟨h1, h2, h3⟩ := errL_parts he
    rw [onL_cons, onL_cons, ihr h3 fun k hk' hv => hk k (by rw [preL]; simp [hk']) hv]
    congr 1
    cases hv : varB s with
    | false => rw [onT_sym hE hv, onT_sym hE' hv, ihl h2 fun k hk' hv' => hk k (by rw [preL]; simp [hk']) hv']
    | true =>
      have hl := h1 hv
      subst hl
      exact onT_some (hk ⟨s, []⟩ (by rw [preL]; simp) hv)

/-- All that the law on matching an instance asks. -/
theorem topMatch_pure {ls : List Bd} {p : Tm} (hE : bindsE ls = 0) (he : errL [p] = 0) (hsp : sizeL [p] ≤ 40) (hsx : sizeL [onT ls p] ≤ 200) :
    twoE p (onT ls p) = 0 ∧ ∃ h', mtT p (onT ls p) [] = some h' ∧ ∀ l' : List Bd, l'.Perm h' → SortedB l' → bindsE l' = 0 ∧ mayE p = 0 ∧ fT l' p = onT ls p ∧ l'.length = (varsP [] (preL [p])).length := by
  have hmp : mayE p = 0 := mayE_mk he (by omega)
  have hmx : mayE (onT ls p) = 0 := mayE_mk (errL_onT hE he) hsx
  refine ⟨by unfold twoE; rw [if_pos hmp]; exact hmx, ?_⟩
  obtain ⟨h', h1, h2, h3⟩ := mtT_on hE he
  refine ⟨h', h1, fun l' hp hs => ?_⟩
  have hlen : l'.length = (varsP [] (preL [p])).length := by
    have e1 := hp.length_eq
    have e2 := congrArg List.length h3
    rw [List.length_map] at e2
    omega
  have hE' : bindsE l' = 0 := by
    refine bindsE_mk hs ?_ fun d hd => ?_
    · have e1 := varsP_len (preL [p]) []
      have e2 := preL_length [p]
      simp at e1
      omega
    · have hd' : d ∈ h' := hp.subset hd
      have hn : d.nm ∈ varsP [] (preL [p]) := by rw [← h3]; exact List.mem_map.2 ⟨d, hd', rfl⟩
      rcases varsP_sub _ _ _ hn with h4 | ⟨k, hk, hkn, hv⟩
      · cases h4
      · refine ⟨by rw [hv, ← hkn, preL_err [p] he k hk]; rfl, mayE_mk ?_ ?_⟩
        · rw [h2 d hd']
          exact errL_onT hE (err_leaf (by rw [← hkn]; exact preL_err [p] he k hk))
        · have := mtT_size h1 d hd'
          omega
  refine ⟨hE', hmp, ?_, hlen⟩
  rw [fT_onT hE' p hmp]
  have h5 := onL_eq hE hE' [p] he fun k hk hv => by
    have hn := (varsP_has (preL [p]) []).2 k hk hv
    rw [← h3] at hn
    obtain ⟨d, hd, e⟩ := List.mem_map.1 hn
    have h6 := forT_of hs.apart (hp.symm.subset hd)
    have e' : d.nm = k.name := e
    rw [e', h2 d hd, e'] at h6
    exact h6
  rw [onL_cons, onL_cons] at h5
  simp only [onL, List.cons.injEq, and_true] at h5
  exact h5
theorem topMatch_in {p x : Tm} {sa sg : ByteArray} (hp : mayE p = 0) (hx : errL [x] = 0) (hs : sizeL [x] ≤ 190) (hm : mtB p x = true) (ha : nameB sa = true) (hg : nameB sg = true) (hv : varB sg = false) :
    twoE ⟨sg, [⟨sa, []⟩, x]⟩ p = 0 ∧ hcB ⟨sg, [⟨sa, []⟩, x]⟩ p = true := by
  have e1 : sizeL [(⟨sg, [⟨sa, []⟩, x]⟩ : Tm)] = 2 + sizeL [x] := by obtain ⟨s, l⟩ := x; simp [sizeL]; omega
  have h1 : mayE ⟨sg, [⟨sa, []⟩, x]⟩ = 0 := by
    refine mayE_mk (err_node hg hv ?_) (by omega)
    rw [errL_cons, if_pos (err_leaf ha)]; exact hx
  refine ⟨by unfold twoE; rw [if_pos h1]; exact hp, ?_⟩
  unfold hcB
  rw [List.any_eq_true]
  refine ⟨x, ?_, hm⟩
  obtain ⟨s, l⟩ := x
  simp [preL]
theorem four_E {ls : List Bd} (hs : (ls.map (·.nm)).Sublist four) (ha : ∀ d ∈ ls, sizeL [d.t] ≤ 200 ∧ errL [d.t] = 0) : bindsE ls = 0 := by
  refine bindsE_mk ?_ ?_ fun d hd => ⟨?_, mayE_mk (ha d hd).2 (ha d hd).1⟩
  · have lt1 : ∀ x y : UInt8, x < y → ltB ⟨#[x]⟩ ⟨#[y]⟩ = true := fun x y h => by
      unfold ltB
      rw [ByteArray.toList_eq, ByteArray.toList_eq]
      simp [Op.bytesLess, h]
    have h4 : four.Pairwise fun a b => ltB a b = true := by
      unfold four
      simp only [List.pairwise_cons, List.mem_cons, List.not_mem_nil, or_false, List.Pairwise.nil, and_true, false_or]
      refine ⟨fun b hb => ?_, fun b hb => ?_, fun b hb => ?_, fun b hb => by cases hb⟩
      · rcases hb with rfl | rfl | rfl <;> exact lt1 _ _ (by decide)
      · rcases hb with rfl | rfl <;> exact lt1 _ _ (by decide)
      · subst hb; exact lt1 _ _ (by decide)
    exact List.pairwise_map.1 (h4.sublist hs)
  · have := hs.length_le
    simp [four] at this
    omega
  · have h4 : ∀ n ∈ four, (nameB n && varB n) = true := by unfold four; decide
    exact h4 _ (hs.subset (List.mem_map.2 ⟨d, hd, rfl⟩))
#print axioms topMatch_pure
#print axioms topMatch_in
#print axioms four_E
end Go.Proofs.Ytkfppicbningaaa

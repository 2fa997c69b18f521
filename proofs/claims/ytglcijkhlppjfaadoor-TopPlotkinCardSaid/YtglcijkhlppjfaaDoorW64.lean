/- What is filled is what the document says; bindings that may be have each name once. -/
import Derived.Test.YtglcijkhlppjfaaDoorW63
import Derived.Test.YtglcijkhlppjfaaDoorOnM
namespace Go.Proofs.YtglcijkhlppjfaaDoor
open Go.RowKit
set_option linter.unusedSimpArgs false
set_option linter.unusedVariables false

theorem bmT_all {ls : List Bd} : ∀ n, bmT ls n = 0 → ∀ k, k < n → bmK ls k = 0
  | 0, _, k, hk => by omega
  | n + 1, h, k, hk => by
    rw [bmT] at h
    by_cases h0 : bmT ls n = 0
    · rw [if_pos h0] at h
      by_cases e : k = n
      · rw [e]; exact h
      · exact bmT_all n h0 k (by omega)
    · rw [if_neg h0] at h
      exact absurd h h0
theorem bindsE_all {ls : List Bd} (h : bindsE ls = 0) : ∀ k, k < ls.length → bmK ls k = 0 := by
  unfold bindsE at h
  split at h
  · cases h
  · exact bmT_all _ h
theorem bindsE_at {ls : List Bd} (h : bindsE ls = 0) (k : Nat) (hk : k < ls.length) : varB ls[k].nm = true ∧ mayE ls[k].t = 0 := by
  have h1 := bindsE_all h k hk
  cases hv : (nameB ls[k].nm && varB ls[k].nm) with
  | false => rw [bmK_name hk hv] at h1; cases h1
  | true =>
    refine ⟨by simp at hv; exact hv.2, ?_⟩
    cases k with
    | zero => rw [bmK_first hk hv] at h1; exact h1
    | succ j =>
      cases hl : leB ls[j + 1].nm (ls[j]'(by omega)).nm with
      | true => rw [bmK_order hk hv hl] at h1; cases h1
      | false => rw [bmK_may hk hv hl] at h1; exact h1
theorem bindsE_rise {ls : List Bd} (h : bindsE ls = 0) (j : Nat) (hk : j + 1 < ls.length) : leB ls[j + 1].nm (ls[j]'(by omega)).nm = false := by
  have h1 := bindsE_all h (j + 1) hk
  cases hv : (nameB ls[j + 1].nm && varB ls[j + 1].nm) with
  | false => rw [bmK_name hk hv] at h1; cases h1
  | true =>
    cases hl : leB ls[j + 1].nm (ls[j]'(by omega)).nm with
    | true => rw [bmK_order hk hv hl] at h1; cases h1
    | false => rfl

theorem forT_mem {s : ByteArray} {x : Tm} : ∀ {ls : List Bd}, forT ls s = some x → ∃ d, d ∈ ls ∧ d.nm = s ∧ d.t = x
  | [], h => by cases h
  | d :: r, h => by
    rw [forT] at h
    split at h
    · rename_i e
      exact ⟨d, by simp, e, by simpa using h⟩
    · obtain ⟨d', h1, h2, h3⟩ := forT_mem h
      exact ⟨d', by simp [h1], h2, h3⟩
theorem forT_var {ls : List Bd} (h : bindsE ls = 0) {s : ByteArray} {x : Tm} (hf : forT ls s = some x) : varB s = true ∧ mayE x = 0 := by
  obtain ⟨d, hd, rfl, rfl⟩ := forT_mem hf
  obtain ⟨k, hk, rfl⟩ := List.getElem_of_mem hd
  exact bindsE_at h k hk

theorem fN_onN {ls : List Bd} (h : bindsE ls = 0) (s : ByteArray) (a bs : List Tm) (hv : varB s = true → a = []) : fN ls s bs = onN ls s a bs := by
  unfold fN onN
  cases hs : varB s with
  | true => rw [hv hs]; cases forT ls s <;> rfl
  | false =>
    cases hf : forT ls s with
    | none => rfl
    | some x => rw [(forT_var h hf).1] at hs; cases hs
theorem errL_parts {s : ByteArray} {a r : List Tm} (h : errL (⟨s, a⟩ :: r) = 0) : (varB s = true → a = []) ∧ errL a = 0 ∧ errL r = 0 := by
  rw [errL] at h
  split at h
  · split at h
    · cases h
    · rename_i h1 h2
      split at h
      · rename_i h3
        refine ⟨fun hv => ?_, h3, h⟩
        cases a with
        | nil => rfl
        | cons x y => simp [hv] at h2
      · rename_i h3; exact absurd h h3
  · cases h
theorem fL_onL {ls : List Bd} (h : bindsE ls = 0) : ∀ l : List Tm, errL l = 0 → fL ls l = onL ls l
  | [], _ => by simp [fL, onL]
  | ⟨s, a⟩ :: r, he => by
    obtain ⟨h1, h2, h3⟩ := errL_parts he
    rw [fL, onL, fL_onL h a h2, fL_onL h r h3, fN_onN h s a _ h1]
theorem fT_onT {ls : List Bd} (h : bindsE ls = 0) (t : Tm) (ht : mayE t = 0) : fT ls t = onT ls t := by
  unfold mayE at ht
  split at ht
  · cases ht
  · obtain ⟨s, a⟩ := t
    obtain ⟨h1, h2, _⟩ := errL_parts ht
    unfold fT onT
    rw [fL_onL h a h2, fN_onN h s a _ h1]

theorem leL_cons (x y : UInt8) (xs ys : List UInt8) : (Op.bytesLess (x :: xs) (y :: ys) || (x :: xs == y :: ys)) = (decide (x < y) || ((x == y) && (Op.bytesLess xs ys || (xs == ys)))) := by
  rw [Op.bytesLess]
  have e : (x :: xs == y :: ys) = ((x == y) && (xs == ys)) := rfl
  rw [e]
  cases decide (x < y) <;> cases (x == y) <;> cases Op.bytesLess xs ys <;> cases (xs == ys) <;> rfl
theorem leL_trans : ∀ a b c : List UInt8, (Op.bytesLess b a || (b == a)) = false → (Op.bytesLess c b || (c == b)) = false → (Op.bytesLess c a || (c == a)) = false
  | [], [], _, h, _ => by simp at h
  | _ :: _, [], _, h, _ => by simp [Op.bytesLess] at h
  | _, _ :: _, [], _, h => by simp [Op.bytesLess] at h
  | [], b :: bs, c :: cs, _, _ => by simp [Op.bytesLess]
  | a :: ar, b :: bs, c :: cs, h1, h2 => by
    rw [leL_cons] at h1 h2 ⊢
    have ih := leL_trans ar bs cs
    simp only [Bool.or_eq_false_iff, decide_eq_false_iff_not] at h1 h2 ⊢
    obtain ⟨h1, h3⟩ := h1
    obtain ⟨h2, h4⟩ := h2
    rw [UInt8.lt_iff_toNat_lt] at h1 h2 ⊢
    refine ⟨by omega, ?_⟩
    cases hc : (c == a) with
    | false => rfl
    | true =>
      have e : c = a := by simpa using hc
      subst e
      have e2 : b = c := UInt8.toNat_inj.mp (by omega)
      subst e2
      simp only [BEq.rfl, Bool.true_and, Bool.or_eq_false_iff] at h3 h4 ⊢
      have h5 := ih (by simp [h3.1, h3.2]) (by simp [h4.1, h4.2])
      simpa using h5
theorem bindsE_far {ls : List Bd} (h : bindsE ls = 0) (i : Nat) : ∀ d (hk : i + 1 + d < ls.length), leB (ls[i + 1 + d]).nm (ls[i]'(by omega)).nm = false
  | 0, hk => bindsE_rise h i hk
  | d + 1, hk => by
    have h1 := bindsE_far h i d (by omega)
    have h2 := bindsE_rise h (i + 1 + d) hk
    exact leL_trans _ _ _ h1 h2
theorem bindsE_once {ls : List Bd} (h : bindsE ls = 0) : Once ls := by
  intro k hk
  cases hf : forT (ls.take k) ls[k].nm with
  | none => rfl
  | some x =>
    obtain ⟨d, hd, hn, _⟩ := forT_mem hf
    obtain ⟨i, hi, rfl⟩ := List.getElem_of_mem hd
    have hik : i < k := by simp at hi; omega
    rw [List.getElem_take] at hn
    obtain ⟨e, rfl⟩ : ∃ e, k = i + 1 + e := ⟨k - (i + 1), by omega⟩
    have h1 := bindsE_far h i e hk
    rw [hn] at h1
    simp [leB] at h1

end Go.Proofs.YtglcijkhlppjfaaDoor

/- Where those below a knot stand among all knots: plain. -/
import Derived.Test.YtpbnbkeoiojpaacOr2
namespace Go.Proofs.Ytpbnbkeoiojpaac
open Go.RowKit
set_option linter.unusedSimpArgs false
set_option linter.unusedVariables false

theorem preL_app : ∀ (a b : List Tm), preL (a ++ b) = preL a ++ preL b
  | [], b => by simp [preL]
  | ⟨s, l⟩ :: r, b => by
    have := preL_app r b
    simp [preL, this]
theorem preL_len0 : ∀ l : List Tm, (preL l).length = sizeL l := by
  intro l
  induction l using Tm.indL with
  | h0 => simp [preL, sizeL]
  | h s a r iha ihr => simp [preL, sizeL, iha, ihr]; omega
theorem head_at (l : List Tm) (j : Nat) (hj : j < l.length) : (preL l)[sizeL (l.take j)]? = some l[j] := by
  have e : l = l.take j ++ l.drop j := (List.take_append_drop j l).symm
  have e2 : l.drop j = l[j] :: l.drop (j + 1) := List.drop_eq_getElem_cons hj
  have h : preL l = preL (l.take j) ++ preL (l[j] :: l.drop (j + 1)) := by
    rw [← e2, ← preL_app, ← e]
  rw [h, List.getElem?_append_right (by rw [preL_len0]; omega), preL_len0, Nat.sub_self]
  obtain ⟨s, k⟩ : Tm := l[j]
  simp [preL]
/-- The j-th below the i-th. -/
theorem kid_at : ∀ (l : List Tm) (i : Nat) (t : Tm), (preL l)[i]? = some t → ∀ j (hj : j < t.args.length), (preL l)[i + 1 + sizeL (t.args.take j)]? = some t.args[j] := by
  intro l
  induction l using Tm.indL with
  | h0 => intro i t h; simp [preL] at h
  | h s a r iha ihr =>
    intro i t h j hj
    have e : preL (⟨s, a⟩ :: r) = ⟨s, a⟩ :: (preL a ++ preL r) := by simp [preL]
    rw [e] at h ⊢
    have hget : ∀ {q : Nat} {x : Tm}, (preL a)[q]? = some x → (preL a ++ preL r)[q]? = some x := fun {q x} hq => by
      have hlt : q < (preL a).length := by
        rcases Nat.lt_or_ge q (preL a).length with h | h
        · exact h
        · rw [List.getElem?_eq_none h] at hq; cases hq
      rw [List.getElem?_append_left hlt]
      exact hq
    cases i with
    | zero =>
      simp only [List.getElem?_cons_zero, Option.some.injEq] at h
      subst h
      rw [show 0 + 1 + sizeL (List.take j a) = sizeL (List.take j a) + 1 by omega, List.getElem?_cons_succ]
      exact hget (head_at a j hj)
    | succ i =>
      rw [List.getElem?_cons_succ] at h
      rw [show i + 1 + 1 + sizeL (t.args.take j) = (i + 1 + sizeL (t.args.take j)) + 1 by omega, List.getElem?_cons_succ]
      by_cases hi : i < (preL a).length
      · rw [List.getElem?_append_left hi] at h
        exact hget (iha i t h j hj)
      · rw [List.getElem?_append_right (by omega)] at h
        have h2 := ihr _ t h j hj
        rw [List.getElem?_append_right (by omega)]
        rw [← h2]
        congr 1
        omega
/-- All below the i-th end where it ends. -/
theorem kid_end : ∀ (l : List Tm) (i : Nat) (t : Tm), (preL l)[i]? = some t → i + sizeL [t] ≤ sizeL l := by
  intro l
  induction l using Tm.indL with
  | h0 => intro i t h; simp [preL] at h
  | h s a r iha ihr =>
    intro i t h
    have e : preL (⟨s, a⟩ :: r) = ⟨s, a⟩ :: (preL a ++ preL r) := by simp [preL]
    have e2 : sizeL (⟨s, a⟩ :: r) = 1 + sizeL a + sizeL r := by simp [sizeL]
    rw [e] at h
    rw [e2]
    have la := preL_len0 a
    cases i with
    | zero =>
      simp only [List.getElem?_cons_zero, Option.some.injEq] at h
      subst h
      have : sizeL [(⟨s, a⟩ : Tm)] = 1 + sizeL a := by simp [sizeL]
      omega
    | succ i =>
      rw [List.getElem?_cons_succ] at h
      by_cases hi : i < (preL a).length
      · rw [List.getElem?_append_left hi] at h
        have := iha i t h
        omega
      · rw [List.getElem?_append_right (by omega)] at h
        have := ihr _ t h
        omega
#print axioms kid_at
#print axioms kid_end
end Go.Proofs.Ytpbnbkeoiojpaac

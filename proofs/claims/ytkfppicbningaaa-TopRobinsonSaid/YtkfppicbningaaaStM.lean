/- Whether bindings stay, done twice, and whether they just name variables otherwise: plain. -/
import Derived.Test.YtkfppicbningaaaZTopRobinsonOwn
namespace Go.Proofs.Ytkfppicbningaaa
open Go.RowKit
set_option linter.unusedSimpArgs false
set_option linter.unusedVariables false

/-- A knot stays, if what stands for it bears its name; where nothing does, if all below stay. -/
def stN (ls : List Bd) (s : ByteArray) (b : Bool) : Bool := match forT ls s with
  | some x => x.name.toList == s.toList
  | none => b
def stL (ls : List Bd) : List Tm → Bool
  | [] => true
  | ⟨s, a⟩ :: r => stN ls s (stL ls a) && stL ls r
def stT (ls : List Bd) (t : Tm) : Bool := stN ls t.name (stL ls t.args)
theorem stL_cons (ls : List Bd) (t : Tm) (r : List Tm) : stL ls (t :: r) = (stT ls t && stL ls r) := by obtain ⟨s, a⟩ := t; simp only [stL, stT]
theorem stL_append (ls : List Bd) (b : List Tm) : ∀ a, stL ls (a ++ b) = (stL ls a && stL ls b)
  | [] => by simp [stL]
  | t :: r => by rw [List.cons_append, stL_cons, stL_cons, stL_append ls b r, Bool.and_assoc]
theorem stL_take (ls : List Bd) (l : List Tm) (k : Nat) (h : k < l.length) : stL ls (l.take (k + 1)) = (stL ls (l.take k) && stT ls l[k]) := by
  rw [List.take_succ_eq_append_getElem h, stL_append, stL_cons]; simp [stL]
theorem stL_no {ls : List Bd} {l : List Tm} {k : Nat} (h : k < l.length) (h0 : stT ls l[k] = false) : stL ls l = false := by
  have e : l = l.take (k + 1) ++ l.drop (k + 1) := (List.take_append_drop _ _).symm
  rw [e, stL_append, stL_take ls l k h, h0]; simp
/-- The bindings of a list stay. -/
def stB (ls k : List Bd) : Bool := k.all fun d => stT ls d.t
theorem stB_take (ls l : List Bd) (k : Nat) (h : k < l.length) : stB ls (l.take (k + 1)) = (stB ls (l.take k) && stT ls l[k].t) := by
  unfold stB; rw [List.take_succ_eq_append_getElem h, List.all_append]; simp
theorem stB_no {ls l : List Bd} {k : Nat} (h : k < l.length) (h0 : stT ls l[k].t = false) : stB ls l = false := by
  have e : l = l.take (k + 1) ++ l.drop (k + 1) := (List.take_append_drop _ _).symm
  rw [e]
  unfold stB
  rw [List.all_append]
  have h1 := stB_take ls l k h
  unfold stB at h1
  rw [h1, h0]; simp

theorem all_in {p : ByteArray → Bool} {s : ByteArray} {acc : List ByteArray} (h : inB s acc = true) : (acc.all p && p s) = acc.all p := by
  cases hp : acc.all p with
  | false => rfl
  | true =>
    unfold inB at h
    rw [List.any_eq_true] at h
    obtain ⟨y, hy, e⟩ := h
    have e2 : y = s := bytes_inj (by simpa using e)
    rw [Bool.true_and, ← e2]
    exact List.all_eq_true.1 hp y hy
theorem varsP_all (p : ByteArray → Bool) : ∀ (ks : List Tm) (acc : List ByteArray), (varsP acc ks).all p = (acc.all p && ks.all fun k => !varB k.name || p k.name)
  | [], acc => by simp [varsP]
  | k :: r, acc => by
    have e : varsP acc (k :: r) = varsP (addV acc k.name) r := rfl
    rw [e, varsP_all p r, List.all_cons]
    cases hv : varB k.name with
    | false => rw [addV_no hv]; simp
    | true =>
      cases hi : inB k.name acc with
      | false => rw [addV_yes hv hi, List.all_append]; simp [Bool.and_assoc]
      | true =>
        rw [addV_in hv hi]
        have h := all_in (p := p) hi
        rw [← h]
        simp [Bool.and_assoc]
theorem stL_pre {ls : List Bd} (h : bindsE ls = 0) : ∀ l : List Tm, errL l = 0 → stL ls l = (preL l).all fun k => !varB k.name || stN ls k.name true
  | [], _ => by simp [stL, preL]
  | ⟨s, a⟩ :: r, he => by
    obtain ⟨h1, h2, h3⟩ := errL_parts he
    rw [stL, preL, stL_pre h a h2, stL_pre h r h3, List.all_cons, List.all_append]
    cases hs : varB s with
    | true => rw [h1 hs]; simp [preL]
    | false =>
      have hf : forT ls s = none := by
        cases hf : forT ls s with
        | none => rfl
        | some x => rw [(forT_var h hf).1] at hs; cases hs
      simp [stN, hf]
/-- As the document says it: of the variables of a term. -/
def dsT (ls : List Bd) (t : Tm) : Bool := (varsP [] (preL [t])).all fun v => stN ls v true
theorem dsT_eq {ls : List Bd} (h : bindsE ls = 0) (t : Tm) (ht : mayE t = 0) : dsT ls t = stT ls t := by
  unfold mayE at ht
  split at ht
  · cases ht
  · unfold dsT
    rw [varsP_all, ← stL_pre h [t] ht, stL_cons]
    simp [stL]

/-- One more that names a variable otherwise, as none ahead. -/
def nmK (ls : List Bd) (k : Nat) : Bool := match ls[k]? with
  | some d => varB d.t.name && !inB d.t.name ((ls.take k).map fun d => d.t.name)
  | none => true
def nmT (ls : List Bd) : Nat → Bool
  | 0 => true
  | n + 1 => nmT ls n && nmK ls n
def namesB (ls : List Bd) : Bool := nmT ls ls.length
theorem nmK_at {ls : List Bd} {k : Nat} (h : k < ls.length) : nmK ls k = (varB ls[k].t.name && !inB ls[k].t.name ((ls.take k).map fun d => d.t.name)) := by
  unfold nmK; rw [List.getElem?_eq_getElem h]
theorem nmT_no {ls : List Bd} {k : Nat} (h : nmT ls k = false) : ∀ n, k ≤ n → nmT ls n = false
  | 0, hn => by have e : k = 0 := by omega
                subst e; exact h
  | n + 1, hn => by
    by_cases e : k = n + 1
    · rw [← e]; exact h
    · rw [nmT, nmT_no h n (by omega)]; rfl
theorem names_no {ls : List Bd} {k : Nat} (h : k < ls.length) (h0 : nmK ls k = false) : namesB ls = false := nmT_no (k := k + 1) (by rw [nmT, h0]; simp) _ (by omega)
end Go.Proofs.Ytkfppicbningaaa

/- One term as a case of another one: plain. -/
import Derived.Test.YteojdfmdhgnmfaaGreatZTopEmbedOwn
namespace Go.Proofs.YteojdfmdhgnmfaaGreat
open Go.RowKit
set_option linter.unusedSimpArgs false
set_option linter.unusedVariables false

/-- What stands for a pattern's variables, found knot by knot. -/
def mtL : List Tm → List Tm → List Bd → Option (List Bd)
  | [], _, h => some h
  | ⟨s, a⟩ :: r, ts, h => match ts with
    | [] => none
    | t :: ts' =>
      match (if varB s = true then (match forT h s with
          | some x => if sameB x t = true then some h else none
          | none => some (h ++ [⟨s, t⟩]))
        else if ((s.toList == t.name.toList) && (a.length == t.args.length)) = true then mtL a t.args h else none) with
      | some h' => mtL r ts' h'
      | none => none
def mtT (p t : Tm) (h : List Bd) : Option (List Bd) :=
  if varB p.name = true then (match forT h p.name with
      | some x => if sameB x t = true then some h else none
      | none => some (h ++ [⟨p.name, t⟩]))
    else if ((p.name.toList == t.name.toList) && (p.args.length == t.args.length)) = true then mtL p.args t.args h else none
theorem mtL_cons (p t : Tm) (r ts : List Tm) (h : List Bd) : mtL (p :: r) (t :: ts) h = (match mtT p t h with
      | some h' => mtL r ts h'
      | none => none) := by obtain ⟨s, a⟩ := p; simp only [mtL, mtT]
theorem mtL_append : ∀ (a b c d : List Tm) (h : List Bd), a.length = b.length → mtL (a ++ c) (b ++ d) h = (match mtL a b h with
      | some h' => mtL c d h'
      | none => none)
  | [], [], c, d, h, _ => by simp [mtL]
  | [], _ :: _, _, _, _, e => by simp at e
  | _ :: _, [], _, _, _, e => by simp at e
  | x :: r, t :: ts, c, d, h, e => by
    rw [List.cons_append, List.cons_append, mtL_cons, mtL_cons]
    cases mtT x t h with
    | none => rfl
    | some h' => exact mtL_append r ts c d h' (by simpa using e)
theorem mtL_take {l m : List Tm} {k : Nat} (h : k < l.length) (h2 : k < m.length) (hv : List Bd) : mtL (l.take (k + 1)) (m.take (k + 1)) hv = (match mtL (l.take k) (m.take k) hv with
      | some h' => mtT l[k] m[k] h'
      | none => none) := by
  rw [List.take_succ_eq_append_getElem h, List.take_succ_eq_append_getElem h2, mtL_append _ _ _ _ _ (by simp; omega)]
  cases mtL (l.take k) (m.take k) hv with
  | none => rfl
  | some h' =>
    show mtL [l[k]] [m[k]] h' = mtT l[k] m[k] h'
    rw [mtL_cons]
    cases mtT l[k] m[k] h' with
    | none => rfl
    | some h'' => simp [mtL]
theorem mtL_no {l m : List Tm} {k : Nat} {hv h' : List Bd} (h : k < l.length) (hlm : l.length = m.length) (h1 : mtL (l.take k) (m.take k) hv = some h') (h0 : mtT l[k] (m[k]'(by omega)) h' = none) : mtL l m hv = none := by
  have e1 : l = l.take (k + 1) ++ l.drop (k + 1) := (List.take_append_drop _ _).symm
  have e2 : m = m.take (k + 1) ++ m.drop (k + 1) := (List.take_append_drop _ _).symm
  rw [e1, e2, mtL_append _ _ _ _ _ (by simp; omega), mtL_take h (by omega), h1]
  simp only [h0]
theorem mtL_next {l m : List Tm} {k : Nat} {hv h' h'' : List Bd} (h : k < l.length) (h2 : k < m.length) (h1 : mtL (l.take k) (m.take k) hv = some h') (h0 : mtT l[k] m[k] h' = some h'') : mtL (l.take (k + 1)) (m.take (k + 1)) hv = some h'' := by
  rw [mtL_take h h2, h1]
  exact h0
theorem mtT_deep {s s2 : ByteArray} {l m : List Tm} {h : List Bd} (hv : varB s = false) (hn : (s.toList == s2.toList) = true) (hl : l.length = m.length) : mtT ⟨s, l⟩ ⟨s2, m⟩ h = mtL l m h := by
  simp [mtT, hv, hn, hl]
theorem mtT_off {s s2 : ByteArray} {l m : List Tm} {h : List Bd} (hv : varB s = false) (hn : ((s.toList == s2.toList) && (l.length == m.length)) = false) : mtT ⟨s, l⟩ ⟨s2, m⟩ h = none := by
  unfold mtT
  rw [if_neg (by rw [hv]; simp), if_neg (by simp only [hn]; simp)]
theorem mtT_new {s : ByteArray} {l : List Tm} {t : Tm} {h : List Bd} (hv : varB s = true) (hf : forT h s = none) : mtT ⟨s, l⟩ t h = some (h ++ [⟨s, t⟩]) := by simp [mtT, hv, hf]
theorem mtT_old {s : ByteArray} {l : List Tm} {t x : Tm} {h : List Bd} (hv : varB s = true) (hf : forT h s = some x) : mtT ⟨s, l⟩ t h = if sameB x t = true then some h else none := by simp [mtT, hv, hf]

/-- No name twice, and not more than there are knots; the terms are knots of the other one. -/
theorem forT_none {h : List Bd} {s : ByteArray} (hf : forT h s = none) : ∀ d ∈ h, d.nm ≠ s := by
  induction h with
  | nil => intro d hd; cases hd
  | cons a r ih =>
    intro d hd
    rw [forT] at hf
    split at hf
    · cases hf
    · rename_i hne
      rcases List.mem_cons.1 hd with rfl | hd
      · exact hne
      · exact ih hf d hd
theorem mtT_apart_one {p t : Tm} {h h' : List Bd} (ih : ∀ ts g g', mtL p.args ts g = some g' → ApartB g → ApartB g' ∧ g'.length ≤ g.length + sizeL p.args) (he : mtT p t h = some h') (ha : ApartB h) : ApartB h' ∧ h'.length ≤ h.length + (1 + sizeL p.args) := by
  unfold mtT at he
  split at he
  · split at he
    · split at he
      · cases he; exact ⟨ha, by omega⟩
      · cases he
    · rename_i hf
      cases he
      refine ⟨List.pairwise_append.2 ⟨ha, by simp, fun a h1 b h2 => ?_⟩, by simp⟩
      have e : b = ⟨p.name, t⟩ := by simpa using h2
      rw [e]
      exact forT_none hf a h1
  · split at he
    · obtain ⟨h1, h2⟩ := ih _ _ _ he ha
      exact ⟨h1, by omega⟩
    · cases he
theorem mtL_apart : ∀ (l ts : List Tm) (h h' : List Bd), mtL l ts h = some h' → ApartB h → ApartB h' ∧ h'.length ≤ h.length + sizeL l := by
  intro l
  induction l using Tm.indL with
  | h0 => intro ts h h' he ha; simp [mtL] at he; subst he; exact ⟨ha, by simp⟩
  | h s l r ihl ihr =>
    intro ts h h' he ha
    cases ts with
    | nil => simp [mtL] at he
    | cons t ts =>
      rw [mtL_cons] at he
      cases hm : mtT ⟨s, l⟩ t h with
      | none => rw [hm] at he; cases he
      | some g =>
        rw [hm] at he
        obtain ⟨h1, h2⟩ := mtT_apart_one (p := ⟨s, l⟩) (fun ts g g' h3 h4 => ihl ts g g' h3 h4) hm ha
        obtain ⟨h3, h4⟩ := ihr ts g h' he h1
        refine ⟨h3, ?_⟩
        simp only [sizeL]
        simp only at h2
        omega
theorem mtT_apart {p t : Tm} {h h' : List Bd} (he : mtT p t h = some h') (ha : ApartB h) : ApartB h' ∧ h'.length ≤ h.length + sizeL [p] := by
  obtain ⟨h1, h2⟩ := mtT_apart_one (fun ts g g' h3 h4 => mtL_apart p.args ts g g' h3 h4) he ha
  refine ⟨h1, ?_⟩
  obtain ⟨s, a⟩ := p
  simp [sizeL] at h2 ⊢
  omega
#print axioms mtT_apart
end Go.Proofs.YteojdfmdhgnmfaaGreat

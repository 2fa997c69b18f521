import Derived.Test.YtmkendjmfdaedaaGreatEn1
import Derived.Test.YtmkendjmfdaedaaGreatZDRewriteMadeOwn
namespace Go.Proofs.YtmkendjmfdaedaaGreat
open Go.RowKit
set_option linter.unusedSimpArgs false
set_option linter.unusedVariables false
def gN (ls : List Bd) (s : ByteArray) (bs : List Tm) : Tm := match forT ls s with | some x => x | none => ⟨s, bs⟩
def gL (ls : List Bd) : List Tm → List Tm
 | [] => []
 | ⟨s, a⟩ :: r => gN ls s (gL ls a) :: gL ls r
def gT (ls : List Bd) (t : Tm) : Tm := gN ls t.name (gL ls t.args)
theorem gL_cons (ls : List Bd) (t : Tm) (r : List Tm) : gL ls (t :: r) = gT ls t :: gL ls r := by
 obtain ⟨s, a⟩ := t
 simp only [gL, gT]
theorem gL_map (ls : List Bd) : ∀ l, gL ls l = l.map (gT ls)
 | [] => by simp [gL]
 | t :: r => by rw [gL_cons, gL_map ls r, List.map_cons]
theorem gT_some {ls : List Bd} {t x : Tm} (h : forT ls t.name = some x) : gT ls t = x := by simp [gT, gN, h]
theorem gT_none {ls : List Bd} {t : Tm} (h : forT ls t.name = none) : gT ls t = ⟨t.name, gL ls t.args⟩ := by simp [gT, gN, h]
theorem gL_nil : ∀ l, gL [] l = l := by
 intro l
 induction l using Tm.indL with
 | h0 => simp [gL]
 | h s l r ihl ihr => rw [gL, ihl, ihr]; simp [gN, forT]
theorem gT_nil (t : Tm) : gT [] t = t := by
 obtain ⟨s, l⟩ := t
 unfold gT gN
 simp [forT, gL_nil]
theorem gL_take (ls : List Bd) (l : List Tm) (k : Nat) (h : k < l.length) : gL ls (l.take (k + 1)) = gL ls (l.take k) ++ [gT ls l[k]] := by
 rw [gL_map, gL_map, List.take_succ_eq_append_getElem h, List.map_append]
 rfl
theorem gL_size_take (ls : List Bd) (l : List Tm) (k : Nat) (h : k < l.length) : sizeL (gL ls (l.take (k + 1))) = sizeL (gL ls (l.take k)) + sizeL [gT ls l[k]] := by rw [gL_take ls l k h, sizeL_append]
theorem gL_size_le (ls : List Bd) (l : List Tm) (k : Nat) : sizeL (gL ls (l.take k)) ≤ sizeL (gL ls l) := by
 rw [gL_map, gL_map]
 have := sizeL_append ((l.take k).map (gT ls)) ((l.drop k).map (gT ls))
 rw [← List.map_append, List.take_append_drop] at this
 omega
theorem gL_fL {ls : List Bd} (h : VarN ls) : ∀ l, gL ls l = fL ls l := by
 intro l
 induction l using Tm.indL with
 | h0 => simp [gL, fL]
 | h s l r ihl ihr =>
  rw [gL, fL, ihl, ihr]
  congr 1
  unfold gN fN
  cases hf : forT ls s with
  | none => simp
  | some x =>
   obtain ⟨d, hd, e⟩ := forT_memR hf
   have := h d hd
   rw [e] at this
   simp [this]
theorem gT_on {ls : List Bd} (h : VarN ls) (t : Tm) (ht : mayE t = 0) : gT ls t = onT ls t := by
 rw [← fT_onR h t ht]
 unfold gT fT
 rw [gL_fL h]
 unfold gN fN
 cases hf : forT ls t.name with
 | none => simp
 | some x =>
  obtain ⟨d, hd, e⟩ := forT_memR hf
  have := h d hd
  rw [e] at this
  simp [this]
def Within (ls : List Bd) (P : Tm → Prop) : Prop := ∀ d ∈ ls, P d.t
theorem mtT_withinOne {P : Tm → Prop} {p t : Tm} {h h' : List Bd} (hP : ∀ x, P x → ∀ y ∈ x.args, P y) (ih : ∀ ts g g', mtL p.args ts g = some g' → (∀ y ∈ ts, P y) → Within g P → Within g' P) (he : mtT p t h = some h') (ht : P t) (hv : Within h P) : Within h' P := by
 unfold mtT at he
 split at he
 ·split at he
  ·split at he
   ·cases he; exact hv
   ·cases he
  ·cases he
   intro d hd
   rcases List.mem_append.1 hd with hd | hd
   ·exact hv d hd
   ·simp at hd; subst hd; exact ht
 ·split at he
  ·exact ih _ _ _ he (hP t ht) hv
  ·cases he
theorem mtL_within {P : Tm → Prop} (hP : ∀ x, P x → ∀ y ∈ x.args, P y) : ∀ (l ts : List Tm) (h h' : List Bd), mtL l ts h = some h' → (∀ y ∈ ts, P y) → Within h P → Within h' P := by
 intro l
 induction l using Tm.indL with
 | h0 =>
  intro ts h h' he ht hv
  simp [mtL] at he
  subst he
  exact hv
 | h s l r ihl ihr =>
  intro ts h h' he ht hv
  cases ts with
  | nil => simp [mtL] at he
  | cons t ts =>
   rw [mtL_cons] at he
   cases h1 : mtT ⟨s, l⟩ t h with
   | none => simp only [h1] at he; cases he
   | some g =>
    simp only [h1] at he
    exact ihr _ _ _ he (fun y hy => ht y (by simp [hy])) (mtT_withinOne (p := ⟨s, l⟩) hP ihl h1 (ht t (by simp)) hv)
theorem mtT_below {P : Tm → Prop} (hP : ∀ x, P x → ∀ y ∈ x.args, P y) {p t : Tm} {h' : List Bd} (hnv : varB p.name = false) (he : mtT p t [] = some h') (ht : ∀ y ∈ t.args, P y) : Within h' P := by
 unfold mtT at he
 rw [if_neg (by rw [hnv]; simp)] at he
 split at he
 ·exact mtL_within hP _ _ _ _ he ht (by intro d hd; simp at hd)
 ·cases he
def noStep (rs : List Pr) (x : Tm) : Prop := noFit rs [x]
theorem noStep_down (rs : List Pr) : ∀ x, noStep rs x → ∀ y ∈ x.args, noStep rs y := fun x h y hy => noFit_mem.1 (noFit_one.1 h).2 y hy
theorem fits_first {rs : List Pr} {x : Tm} {y : Ft} (hr : ∀ p ∈ rs, ruleE p = 0) (h : [y] <+: fitsL rs x) : y.1 ∈ rs ∧ mtT y.1.l x [] = some y.2 ∧ fstT rs x = some (gT y.2 y.1.r) ∧ VarN y.2 := by
 have key : ∀ rs : List Pr, (∀ p ∈ rs, ruleE p = 0) → [y] <+: fitsL rs x → y.1 ∈ rs ∧ mtT y.1.l x [] = some y.2 ∧ fstT rs x = some (gT y.2 y.1.r) := by
  intro rs
  induction rs with
  | nil => intro _ h; simp [fitsL] at h
  | cons r rs ih =>
   intro hr h
   cases hm : mtT r.l x [] with
   | none =>
    have e1 : fitsL (r :: rs) x = fitsL rs x := by unfold fitsL; rw [List.filterMap_cons]; simp [hm]
    rw [e1] at h
    obtain ⟨h1, h2, h3⟩ := ih (fun p hp => hr p (by simp [hp])) h
    refine ⟨by simp [h1], h2, ?_⟩
    unfold fstT at *
    rw [List.findSome?_cons]
    have e2 : fitT r x = none := by unfold fitT; rw [hm]; rfl
    rw [e2]
    exact h3
   | some g =>
    have e1 : fitsL (r :: rs) x = (r, g) :: fitsL rs x := by unfold fitsL; rw [List.filterMap_cons]; simp [hm]
    rw [e1] at h
    have e2 : y = (r, g) := by
     obtain ⟨q, hq⟩ := h
     simp at hq
     exact hq.1
    subst e2
    refine ⟨by simp, hm, ?_⟩
    unfold fstT
    rw [List.findSome?_cons]
    have e3 : fitT r x = some (onT g r.r) := by unfold fitT; rw [hm]; rfl
    rw [e3, gT_on (mtT_var hm) r.r (ruleE_parts (hr r (by simp))).2.1]
 obtain ⟨h1, h2, h3⟩ := key rs hr h
 exact ⟨h1, h2, h3, mtT_var h2⟩
theorem fits_none {rs : List Pr} {x : Tm} (h : fitsL rs x = []) : fstT rs x = none := by
 unfold fstT
 rw [List.findSome?_eq_none_iff]
 intro r hr
 unfold fitsL at h
 rw [List.filterMap_eq_nil_iff] at h
 have := h r hr
 unfold fitT
 cases hm : mtT r.l x [] with
 | none => rfl
 | some g => rw [hm] at this; simp at this
def InOk (rs : List Pr) (C : Tm → Tm) (m d : Nat) (t0 x : Tm) (d' : Nat) : Prop := d ≤ d' ∧ d' ≤ m ∧ noStep rs x ∧ sizeL [C x] ≤ 2000 ∧ endP rs true (m - d) (C t0) = shiftN (d' - d) (endP rs true (m - d') (C x))
theorem InOk.here {rs : List Pr} {C : Tm → Tm} {m d : Nat} {x : Tm} (hd : d ≤ m) (h : noStep rs x) (hz : sizeL [C x] ≤ 2000) : InOk rs C m d x x d :=
 ⟨Nat.le_refl _, hd, h, hz, by rw [Nat.sub_self]; exact (shiftN_zero (endP_form _ _ _ _)).symm⟩
theorem InOk.trans {rs : List Pr} {C : Tm → Tm} {m d d1 d2 : Nat} {t0 t1 x : Tm} (h1 : d ≤ d1) (h2 : endP rs true (m - d) (C t0) = shiftN (d1 - d) (endP rs true (m - d1) (C t1))) (h : InOk rs C m d1 t1 x d2) : InOk rs C m d t0 x d2 := by
 obtain ⟨a, b, c, z, e⟩ := h
 refine ⟨by omega, b, c, z, ?_⟩
 rw [h2, e, shiftN_add]
 congr 1
 omega
theorem in_step {rs : List Pr} {C : Tm → Tm} {k m d : Nat} {a a' : Tm} (hC : CtxZ rs C k) (h : nextT rs true a = some a') (hd : d < m) (hz : sizeL [a'] + k ≤ 2000) : endP rs true (m - d) (C a) = shiftN (d + 1 - d) (endP rs true (m - (d + 1)) (C a')) := by
 have e1 : m - d = (m - (d + 1)) + 1 := by omega
 have e2 : d + 1 - d = 1 := by omega
 rw [e1, e2]
 exact endP_step (hC.1 _ _ h) (by rw [hC.2]; exact hz)
theorem in_fuel {rs : List Pr} {C : Tm → Tm} {k m : Nat} {a a' : Tm} (hC : CtxZ rs C k) (h : nextT rs true a = some a') : endP rs true (m - m) (C a) = (9, ⟨⟨#[]⟩, []⟩, 0) := by
 rw [Nat.sub_self]
 exact endP_zero (hC.1 _ _ h)
theorem in_full {rs : List Pr} {C : Tm → Tm} {k m d : Nat} {a a' : Tm} (hC : CtxZ rs C k) (h : nextT rs true a = some a') (hd : d < m) (hz : 2000 < sizeL [a'] + k) : endP rs true (m - d) (C a) = (8, ⟨⟨#[]⟩, []⟩, 0) := by
 have e1 : m - d = (m - (d + 1)) + 1 := by omega
 rw [e1]
 exact endP_full (hC.1 _ _ h) (by rw [hC.2]; exact hz)
theorem inner_topT {rs : List Pr} {t : Tm} (hl : noFit rs t.args) : nextT rs true t = fstT rs t := by
 obtain ⟨s, l⟩ := t
 exact inner_top hl
end Go.Proofs.YtmkendjmfdaedaaGreat

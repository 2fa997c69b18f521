/- Steps: what the program goes through, and what the document asks (plain). -/
import Derived.Test.YtcjdbbdmighliacW174
namespace Go.Proofs.Ytcjdbbdmighliac
open Go.RowKit
set_option linter.unusedSimpArgs false
set_option linter.unusedVariables false

theorem errL_partsR {s : ByteArray} {a r : List Tm} (h : errL (⟨s, a⟩ :: r) = 0) : (varB s = true → a = []) ∧ errL a = 0 ∧ errL r = 0 := by
  rw [errL] at h
  split at h
  · split at h
    · cases h
    · rename_i h1 h2
      split at h
      · rename_i h3
        refine ⟨fun hv => ?_, h3, h⟩
        cases a with
        | nil => rfl
        | cons x y => simp [hv] at h2
      · rename_i h3; exact absurd h h3
  · cases h
/-- All names are variables'. -/
def VarN (ls : List Bd) : Prop := ∀ d ∈ ls, varB d.nm = true
theorem forT_memR : ∀ {ls : List Bd} {s : ByteArray} {x : Tm}, forT ls s = some x → ∃ d ∈ ls, d.nm = s
  | [], s, x, h => by simp [forT] at h
  | d :: ls, s, x, h => by
    unfold forT at h
    split at h
    · rename_i h1
      exact ⟨d, by simp, h1⟩
    · obtain ⟨d', hd, e⟩ := forT_memR h
      exact ⟨d', by simp [hd], e⟩
theorem fN_onR {ls : List Bd} (h : VarN ls) (s : ByteArray) (a bs : List Tm) (hv : varB s = true → a = []) : fN ls s bs = onN ls s a bs := by
  unfold fN onN
  cases hs : varB s with
  | true => rw [hv hs]; cases forT ls s <;> rfl
  | false =>
    cases hf : forT ls s with
    | none => rfl
    | some x =>
      obtain ⟨d, hd, e⟩ := forT_memR hf
      have := h d hd
      rw [e, hs] at this
      cases this
theorem fL_onR {ls : List Bd} (h : VarN ls) : ∀ l : List Tm, errL l = 0 → fL ls l = onL ls l
  | [], _ => by simp [fL, onL]
  | ⟨s, a⟩ :: r, he => by
    obtain ⟨h1, h2, h3⟩ := errL_partsR he
    rw [fL, onL, fL_onR h a h2, fL_onR h r h3, fN_onR h s a _ h1]
theorem fT_onR {ls : List Bd} (h : VarN ls) (t : Tm) (ht : mayE t = 0) : fT ls t = onT ls t := by
  unfold mayE at ht
  split at ht
  · cases ht
  · obtain ⟨s, a⟩ := t
    obtain ⟨h1, h2, _⟩ := errL_partsR ht
    unfold fT onT
    rw [fL_onR h a h2, fN_onR h s a _ h1]

theorem mtT_varOne {p t : Tm} {h h' : List Bd} (ih : ∀ ts g g', mtL p.args ts g = some g' → VarN g → VarN g') (he : mtT p t h = some h') (hv : VarN h) : VarN h' := by
  unfold mtT at he
  obtain ⟨s, l⟩ := p
  simp only at he
  cases hs : varB s with
  | true =>
    simp only [hs, if_true] at he
    cases hf : forT h s with
    | none =>
      simp only [hf] at he
      cases he
      intro d hd
      rcases List.mem_append.1 hd with hd | hd
      · exact hv d hd
      · simp at hd; subst hd; exact hs
    | some x =>
      simp only [hf] at he
      split at he
      · cases he; exact hv
      · cases he
  | false =>
    simp only [hs] at he
    split at he
    · rename_i h0; cases h0
    · split at he
      · exact ih _ _ _ he hv
      · cases he
theorem mtL_var : ∀ (l ts : List Tm) (h h' : List Bd), mtL l ts h = some h' → VarN h → VarN h' := by
  intro l
  induction l using Tm.indL with
  | h0 =>
    intro ts h h' he hv
    cases ts with
    | nil => simp [mtL] at he; subst he; exact hv
    | cons t ts => first | (simp [mtL] at he; done) | (simp [mtL] at he; subst he; exact hv)
  | h s l r ihl ihr =>
    intro ts h h' he hv
    cases ts with
    | nil => first | (simp [mtL] at he; done) | (simp [mtL] at he; subst he; exact hv)
    | cons t ts =>
      rw [mtL_cons] at he
      cases h1 : mtT ⟨s, l⟩ t h with
      | none => simp only [h1] at he; cases he
      | some g =>
        simp only [h1] at he
        exact ihr _ _ _ he (mtT_varOne (p := ⟨s, l⟩) ihl h1 hv)
theorem mtT_var {p t : Tm} {h' : List Bd} (he : mtT p t [] = some h') : VarN h' := mtT_varOne (fun ts g g' h1 h2 => mtL_var p.args ts g g' h1 h2) he (by intro d hd; simp at hd)

/-- What a step makes has as many knots more as what is put there has more than what stood there. -/
theorem put_size (x : Tm) : ∀ (p : List Int) (t y : Tm), atT t p = some y → sizeL [putT x p t] + sizeL [y] = sizeL [t] + sizeL [x]
  | [], t, y, h => by simp [atT] at h; subst h; simp [putT, Nat.add_comm]
  | i :: r, t, y, h => by
    obtain ⟨k, hk, rfl, h2⟩ := atT_cons h
    have ih := put_size x r _ y h2
    obtain ⟨s, l⟩ := t
    have e1 := putL_set (putT x r) l 0 k hk
    rw [Nat.zero_add] at e1
    have e2 := size_set l k hk (putT x r l[k])
    have e3 : sizeL [putT x ((k : Int) :: r) ⟨s, l⟩] = 1 + sizeL (l.set k (putT x r l[k])) := by rw [putT, e1]; simp [sizeL]
    have e4 : sizeL [(⟨s, l⟩ : Tm)] = 1 + sizeL l := by simp [sizeL]
    rw [e3, e4]
    simp only at ih
    omega

theorem filterMap_sameR {α β : Type} {f g : α → Option β} : ∀ {l : List α}, (∀ x ∈ l, f x = g x) → l.filterMap f = l.filterMap g
  | [], _ => rfl
  | x :: l, h => by
    rw [List.filterMap_cons, List.filterMap_cons, h x (by simp), filterMap_sameR fun y hy => h y (by simp [hy])]

/-- The program's steps are the document's. -/
theorem outs_all {rs : List Pr} {t : Tm} (hr : rulesE rs = 0) : (chL rs t []).map (outA t) = stAll rs t := by
  have hm : ∀ p ∈ rs, mayE p.r = 0 := fun p hp => (ruleE_parts (rulesE_all hr p hp)).2.1
  have h1 : ∀ (p : List Int) (x : Tm), (chG rs (p, x)).map (outA t) = rs.filterMap fun r => (fitT r x).map fun y => putT y p t := by
    intro p x
    unfold chG fitsL
    rw [List.map_map, List.map_filterMap]
    refine filterMap_sameR fun r hrm => ?_
    unfold fitT
    cases hf : mtT r.l x [] with
    | none => rfl
    | some g =>
      simp only [Option.map_some, Function.comp]
      unfold outA outC
      simp only
      rw [fT_onR (mtT_var hf) r.r (hm r hrm)]
  unfold chL stAll
  rw [List.map_flatMap]
  exact plc_dnT (fun p x => (chG rs (p, x)).map (outA t)) t (stAt rs t) (fun p x hx => by rw [h1]; unfold stAt; rw [hx])
theorem full_size {t : Tm} {d : Dn} {y : Ft} (h : atT t d.1 = some d.2) : isFull t d y ↔ 2000 < sizeL [putT (outC y) d.1 t] := by
  have h1 := put_size (outC y) d.1 t d.2 h
  have h2 := size_at _ _ _ h
  unfold isFull
  omega
theorem fulls_all {rs : List Pr} {t : Tm} (hr : rulesE rs = 0) : ((∀ c ∈ chL rs t [], ¬ isFull t c.1 c.2) ↔ ∀ y ∈ stAll rs t, sizeL [y] ≤ 2000) ∧ ((∃ c ∈ chL rs t [], isFull t c.1 c.2) ↔ ∃ y ∈ stAll rs t, 2000 < sizeL [y]) := by
  rw [← outs_all hr]
  constructor
  · constructor
    · intro h y hy
      obtain ⟨c, hc, rfl⟩ := List.mem_map.1 hy
      have h1 := h c hc
      rw [full_size (chL_at hc)] at h1
      unfold outA
      omega
    · intro h c hc
      rw [full_size (chL_at hc)]
      have := h _ (List.mem_map.2 ⟨c, hc, rfl⟩)
      unfold outA at this
      omega
  · constructor
    · rintro ⟨c, hc, h⟩
      exact ⟨_, List.mem_map.2 ⟨c, hc, rfl⟩, (full_size (chL_at hc)).1 h⟩
    · rintro ⟨y, hy, h⟩
      obtain ⟨c, hc, rfl⟩ := List.mem_map.1 hy
      exact ⟨c, hc, (full_size (chL_at hc)).2 h⟩
#print axioms outs_all
#print axioms fulls_all
end Go.Proofs.Ytcjdbbdmighliac

import Derived.Test.YtmkendjmfdaedaaGreatOp2
import Derived.Test.YtmkendjmfdaedaaGreatEn2
import Derived.Test.YtmkendjmfdaedaaGreatZRewriteMadeOwn
namespace Go.Proofs.YtmkendjmfdaedaaGreat
open Go.RowKit
set_option linter.unusedSimpArgs false
set_option linter.unusedVariables false
theorem forT_appOld {n : ByteArray} {x : Tm} {e : List Bd} : ∀ {h : List Bd}, forT h n = some x → forT (h ++ e) n = some x
 | [], h => by simp [forT] at h
 | d :: r, h => by
  rw [forT] at h
  rw [List.cons_append, forT]
  split at h
  ·rename_i e; rw [if_pos e]; exact h
  ·rename_i e; rw [if_neg e]; exact forT_appOld h
theorem forT_appNew {n : ByteArray} {x : Tm} : ∀ {h : List Bd}, forT h n = none → forT (h ++ [⟨n, x⟩]) n = some x
 | [], _ => by simp [forT]
 | d :: r, h => by
  rw [forT] at h
  rw [List.cons_append, forT]
  split at h
  ·cases h
  ·rename_i e; rw [if_neg e]; exact forT_appNew h
theorem forT_memD {n : ByteArray} {x : Tm} : ∀ {h : List Bd}, forT h n = some x → ∃ d ∈ h, d.nm = n ∧ d.t = x
 | [], h => by simp [forT] at h
 | d :: r, h => by
  rw [forT] at h
  split at h
  ·rename_i e; exact ⟨d, by simp, e, by simpa using h⟩
  ·obtain ⟨d', h1, h2⟩ := forT_memD h
   exact ⟨d', by simp [h1], h2⟩
def ExtB (h g : List Bd) : Prop := ∀ n x, forT h n = some x → forT g n = some x
theorem mtT_soundOne {p t : Tm} {h h' : List Bd} (hv : varB p.name = true → p.args = []) (ih : ∀ ts g g', p.args.length = ts.length → mtL p.args ts g = some g' → ExtB g g' ∧ ∀ k, VarsB k → ExtB g' k → onL k p.args = ts) (he : mtT p t h = some h') : ExtB h h' ∧ ∀ k, VarsB k → ExtB h' k → onT k p = t := by
 obtain ⟨s, a⟩ := p
 unfold mtT at he
 simp only at he hv ih
 split at he
 ·rename_i h1
  have ha := hv h1
  subst ha
  split at he
  ·rename_i x hx
   split at he
   ·rename_i h2
    cases he
    have e : x = t := sameB_iff.1 h2
    subst e
    exact ⟨fun _ _ h => h, fun k _ hk => onT_some (hk _ _ hx)⟩
   ·cases he
  ·rename_i hx
   cases he
   exact ⟨fun _ _ h => forT_appOld h, fun k _ hk => onT_some (hk _ _ (forT_appNew hx))⟩
 ·rename_i h1
  split at he
  ·rename_i h2
   rw [Bool.and_eq_true] at h2
   obtain ⟨i1, i2⟩ := ih _ _ _ (by simpa using h2.2) he
   refine ⟨i1, fun k hk hk2 => ?_⟩
   have hn : forT k s = none := by
    cases hf : forT k s with
    | none => rfl
    | some x => exact absurd (hk _ _ hf) h1
   rw [onT_deep (Or.inr hn), i2 k hk hk2]
   have e : s = t.name := bytes_inj (by simpa using h2.1)
   obtain ⟨s2, l2⟩ := t
   simp only at e ⊢
   rw [e]
  ·cases he
theorem mtL_sound : ∀ (l ts : List Tm) (h h' : List Bd), errL l = 0 → l.length = ts.length → mtL l ts h = some h' → ExtB h h' ∧ ∀ k, VarsB k → ExtB h' k → onL k l = ts := by
 intro l
 induction l using Tm.indL with
 | h0 =>
  intro ts h h' _ hl he
  simp [mtL] at he
  subst he
  have e : ts = [] := by cases ts with | nil => rfl | cons a b => simp at hl
  subst e
  exact ⟨fun _ _ h => h, fun _ _ _ => by simp [onL]⟩
 | h s l r ihl ihr =>
  intro ts h h' hE hl he
  obtain ⟨e1, e2, e3⟩ := errL_partsR hE
  cases ts with
  | nil => simp at hl
  | cons t ts =>
   rw [mtL_cons] at he
   cases h1 : mtT ⟨s, l⟩ t h with
   | none => simp only [h1] at he; cases he
   | some g =>
    simp only [h1] at he
    obtain ⟨a1, a2⟩ := mtT_soundOne (p := ⟨s, l⟩) e1 (fun ts g g' h1 h2 => ihl ts g g' e2 h1 h2) h1
    obtain ⟨b1, b2⟩ := ihr ts g h' e3 (by simpa using hl) he
    refine ⟨fun n x h => b1 _ _ (a1 _ _ h), fun k hk hk2 => ?_⟩
    rw [onL_cons, a2 k hk (fun n x h => hk2 _ _ (b1 _ _ h)), b2 k hk hk2]
theorem mtT_sound {p t : Tm} {h : List Bd} (hE : errL [p] = 0) (he : mtT p t [] = some h) : VarsB h ∧ onT h p = t := by
 have hv : VarsB h := fun n x hx => by
  obtain ⟨d, hd, e, _⟩ := forT_memD hx
  rw [← e]; exact mtT_var he d hd
 have e1 : (varB p.name = true → p.args = []) ∧ errL p.args = 0 := by
  obtain ⟨s, a⟩ := p
  obtain ⟨e1, e2, _⟩ := errL_partsR hE
  exact ⟨e1, e2⟩
 exact ⟨hv, (mtT_soundOne e1.1 (fun ts g g' h1 h2 => mtL_sound p.args ts g g' e1.2 h1 h2) he).2 h hv (fun _ _ h => h)⟩
theorem errL_allD {l : List Tm} : errL l = 0 ↔ ∀ t ∈ l, errL [t] = 0 := by
 induction l with
 | nil => simp [errL]
 | cons t r ih =>
  rw [errL_cons]
  constructor
  ·intro h
   split at h
   ·rename_i h0
    intro y hy
    rcases List.mem_cons.1 hy with rfl | hy
    ·exact h0
    ·exact ih.1 h y hy
   ·rename_i h0; exact absurd h h0
  ·intro h
   rw [if_pos (h t (by simp))]
   exact ih.2 fun y hy => h y (by simp [hy])
theorem err_argsD {t : Tm} (h : errL [t] = 0) : ∀ y ∈ t.args, errL [y] = 0 := by
 obtain ⟨s, a⟩ := t
 exact errL_allD.1 (errL_partsR h).2.1
theorem err_knotD {s : ByteArray} {a b : List Tm} (h : errL [(⟨s, a⟩ : Tm)] = 0) (hl : a = [] → b = []) (hb : errL b = 0) : errL [(⟨s, b⟩ : Tm)] = 0 := by
 have h1 := (errL_partsR h).1
 have hn : nameB s = true := by
  cases hn : nameB s with
  | true => rfl
  | false => simp [errL, hn] at h
 cases hv : varB s with
 | false => simp [errL, hn, hv, hb]
 | true =>
  have := hl (h1 hv)
  subst this
  simp [errL, hn, hv]
theorem err_onLD {g : List Bd} (hg : ∀ d ∈ g, errL [d.t] = 0) : ∀ l : List Tm, errL l = 0 → errL (onL g l) = 0 := by
 intro l
 induction l using Tm.indL with
 | h0 => intro _; simp [onL, errL]
 | h s l r ihl ihr =>
  intro hE
  obtain ⟨e1, e2, e3⟩ := errL_partsR hE
  have h1 : errL [(⟨s, l⟩ : Tm)] = 0 := errL_allD.1 hE _ (by simp)
  have hk : errL [(⟨s, onL g l⟩ : Tm)] = 0 := err_knotD h1 (fun h => by rw [h]; simp [onL]) (ihl e2)
  rw [onL, errL_cons, if_pos, ihr e3]
  unfold onN
  cases hf : forT g s with
  | none => exact hk
  | some x =>
   simp only
   split
   ·obtain ⟨d, hd, _, e⟩ := forT_memD hf
    rw [← e]; exact hg d hd
   ·exact hk
theorem onL_one (g : List Bd) (t : Tm) : onL g [t] = [onT g t] := by rw [onL_cons]; simp [onL]
theorem err_mayD {t : Tm} (h : mayE t = 0) : errL [t] = 0 := by
 unfold mayE at h
 split at h
 ·cases h
 ·exact h
theorem err_putD {y : Tm} (hy : errL [y] = 0) : ∀ (p : List Int) (t x : Tm), errL [t] = 0 → atT t p = some x → errL [putT y p t] = 0 ∧ errL [x] = 0
 | [], t, x, ht, h => by simp [atT] at h; subst h; simp [putT]; exact ⟨hy, ht⟩
 | i :: r, t, x, ht, h => by
  obtain ⟨k, hk, rfl, h2⟩ := atT_cons h
  have ha := err_argsD ht
  obtain ⟨h3, h4⟩ := err_putD hy r _ x (ha _ (List.getElem_mem hk)) h2
  refine ⟨?_, h4⟩
  obtain ⟨s, l⟩ := t
  have e1 := putL_set (putT y r) l 0 k hk
  rw [Nat.zero_add] at e1
  rw [putT, e1]
  refine err_knotD ht (fun h => by simp only at h hk; subst h; simp at hk) (errL_allD.2 fun z hz => ?_)
  rcases List.mem_or_eq_of_mem_set hz with hz | rfl
  ·exact ha z hz
  ·exact h3
end Go.Proofs.YtmkendjmfdaedaaGreat

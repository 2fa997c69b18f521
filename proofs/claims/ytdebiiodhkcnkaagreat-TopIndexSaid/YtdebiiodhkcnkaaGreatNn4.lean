import Derived.Test.YtdebiiodhkcnkaaGreatNn3
import Derived.Test.YtdebiiodhkcnkaaGreatW114
namespace Go.Proofs.YtdebiiodhkcnkaaGreat
open Go.RowKit
set_option linter.unusedSimpArgs false
set_option linter.unusedVariables false
def thenS (s t : List Bd) : List Bd := (s.map fun d => ⟨d.nm, onT t d.t⟩) ++ t
theorem forT_mapT (s t : List Bd) (n : ByteArray) : forT (s.map fun d => (⟨d.nm, onT t d.t⟩ : Bd)) n = (forT s n).map (onT t) := by
 induction s with
 | nil => rfl
 | cons d s ih =>
  rw [List.map_cons, forT, forT, ih]
  by_cases h : d.nm = n
  ·rw [if_pos h, if_pos h]; rfl
  ·rw [if_neg h, if_neg h]
theorem thenS_vars {s t : List Bd} (hs : ∀ d ∈ s, varB d.nm = true) (ht : ∀ d ∈ t, varB d.nm = true) : ∀ d ∈ thenS s t, varB d.nm = true := fun d hd => by
 rcases List.mem_append.1 hd with hd | hd
 ·obtain ⟨e, he, rfl⟩ := List.mem_map.1 hd
  exact hs e he
 ·exact ht d hd
theorem thenS_leaf (s t : List Bd) (n : ByteArray) : onT (thenS s t) ⟨n, []⟩ = onT t (onT s ⟨n, []⟩) := by
 rw [onT_leaf, onT_leaf s]
 unfold thenS
 rw [forT_append, forT_mapT]
 cases h : forT s n with
 | none => simp [onT_leaf]
 | some x => simp
theorem thenS_onL {s t : List Bd} (hs : ∀ d ∈ s, varB d.nm = true) (ht : ∀ d ∈ t, varB d.nm = true) : ∀ l : List Tm, errL l = 0 → onL (thenS s t) l = onL t (onL s l) := by
 intro l
 induction l using Tm.indL with
 | h0 => intro _; simp [onL]
 | h n a r iha ihr =>
  intro he
  obtain ⟨g1, g2, g3⟩ := errL_parts he
  rw [onL_cons, onL_cons, onL_cons, ihr g3]
  congr 1
  cases hv : varB n with
  | true =>
   have e := g1 hv
   subst e
   exact thenS_leaf s t n
  | false => rw [onT_sym2 (thenS_vars hs ht) hv, onT_sym2 hs hv, onT_sym2 ht hv, iha g2]
theorem thenS_onT {s t : List Bd} (hs : ∀ d ∈ s, varB d.nm = true) (ht : ∀ d ∈ t, varB d.nm = true) {x : Tm} (he : errL [x] = 0) : onT (thenS s t) x = onT t (onT s x) := by
 have h := thenS_onL hs ht [x] he
 rw [onL_cons, onL_cons, onL_cons] at h
 simpa [onL] using h
theorem pair_code {lim : Bool} {s : List Bd} {l : List Pr} {a b : Tm} {e : Int} {s' : List Bd} (h : uPair lim s l a b = .stop e s') : e = 5 ∨ e = 6 ∨ e = 8 := by
 unfold uPair uBind at h
 repeat' split at h
 all_goals first | (cases h; done) | (injection h with h1 h2; subst h1; decide)
theorem run_code : ∀ (n : Nat) (s : List Bd) (l : List Pr) (R : Int × List Bd), uRun false n s l = some R → R.1 = 0 ∨ R.1 = 5 ∨ R.1 = 6 ∨ R.1 = 8
 | 0, s, l, R, h => by cases h
 | n + 1, s, [], R, h => by
  simp [uRun, uNext] at h
  subst h
  exact Or.inl rfl
 | n + 1, s, p :: l, R, h => by
  rw [uRun, uNext_cons] at h
  cases hp : uPair false s l (onT s p.l) (onT s p.r) with
  | stop e s' =>
   rw [hp] at h
   simp at h
   subst h
   exact Or.inr (pair_code hp)
  | go s' l' =>
   rw [hp] at h
   exact run_code n s' l' R h
theorem none_pure {p q : Tm} (vp : ∀ y, varB y = true → occL y [p, q] → y ∈ ([⟨#[88]⟩, ⟨#[89]⟩, ⟨#[90]⟩] : List ByteArray)) (h2 : Ar2 [p, q]) (he : errL [p, q] = 0) (hp : sizeL [p] ≤ 17) (hq : sizeL [q] ≤ 17) {n : Nat} {R : Int × List Bd} (hr : uRun false n [] [⟨p, q⟩] = some R) :
  grtB R.2 = false ∧ (R.1 = 0 ∨ ((R.1 = 5 ∨ R.1 = 6) ∧ ∀ s t : List Bd, (∀ d ∈ s, varB d.nm = true) → (∀ d ∈ t, varB d.nm = true) → onT t (onT s p) ≠ onT t (onT s q))) := by
 have hfl : flatP [(⟨p, q⟩ : Pr)] = [p, q] := rfl
 have u : UI ([⟨#[88]⟩, ⟨#[89]⟩, ⟨#[90]⟩] : List ByteArray) [] [⟨p, q⟩] :=
  ⟨goodH_nil, fun i hi => by simp at hi, fun i hi => by simp at hi, by rw [hfl]; exact he, fun y hy ho => by
   rw [hfl] at ho
   have e : onL (sAt []) [p, q] = [p, q] := onL_id _ (by simp [sAt])
   rw [e] at ho
   exact vp y hy ho, fun x hx => by
   have e : x = ⟨p, q⟩ := by simpa using hx
   subst e
   exact ⟨by simp only; omega, by simp only; omega⟩, [], [⟨p, q⟩], rfl, by simp, by simp [sizeL], by simp⟩
 have mp : p ∈ preL [p, q] := by obtain ⟨x, y⟩ := p; simp [preL]
 have mq : q ∈ preL [p, q] := by
  rw [preL_cons2]
  obtain ⟨x, y⟩ := q
  simp [preL]
 have ni : NI (preL [p, q]) (sAt []) [⟨p, q⟩] := ⟨fun x hx => by
  have e : x = ⟨p, q⟩ := by simpa using hx
  subst e
  exact ⟨⟨p, mp, rfl⟩, q, mq, rfl⟩, fun d hd => by simp [sAt] at hd⟩
 obtain ⟨k1, k2⟩ := run_small h2 he hp hq (by simp) n [] _ R u ni hr
 refine ⟨k2, ?_⟩
 obtain ⟨h', _, _, _, _, k3⟩ := run_agr n [] _ R u hr
 obtain ⟨e1, e2⟩ := err_two.1 he
 rcases run_code n [] _ R hr with h | h
 ·exact Or.inl h
 ·refine Or.inr ⟨by omega, fun s t hs ht hh => ?_⟩
  refine k3 (by omega) k1 (thenS s t) (thenS_vars hs ht) ⟨by simp [sAt, Agr], fun x hx => ?_⟩
  have e : x = ⟨p, q⟩ := by simpa using hx
  subst e
  show onT (thenS s t) p = onT (thenS s t) q
  rw [thenS_onT hs ht e1, thenS_onT hs ht e2, hh]
end Go.Proofs.YtdebiiodhkcnkaaGreat

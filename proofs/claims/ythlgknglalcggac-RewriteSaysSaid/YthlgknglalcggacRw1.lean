/- Plain: rules; what is wrong with them; what a rule puts in the place of a term; what one step makes of a term. -/
import Derived.Test.YthlgknglalcggacPrr
import Derived.Test.YthlgknglalcggacZRewriteSaysOwn
import Derived.Test.YthlgknglalcggacPap
import Derived.Test.YthlgknglalcggacOnM
namespace Go.Proofs.Ythlgknglalcggac
open Go.RowKit
set_option linter.unusedSimpArgs false
set_option linter.unusedVariables false

theorem inB_memR {x : ByteArray} {l : List ByteArray} (h : inB x l = true) : x ∈ l := by
  unfold inB at h
  rw [List.any_eq_true] at h
  obtain ⟨y, hy, e⟩ := h
  have e2 : y = x := bytes_inj (by simpa using e)
  rw [← e2]; exact hy
/-- What is wrong with a rule. -/
def ruleE (p : Pr) : Int := if twoE p.l p.r = 0 then (if varB p.l.name = true then 2 else if (varsP [] (preL [p.r])).all (fun n => inB n (varsP [] (preL [p.l]))) = true then 0 else 15) else twoE p.l p.r
/-- What is wrong with the first that is wrong. -/
def rmT (ls : List Pr) : Nat → Int
  | 0 => 0
  | k + 1 => if rmT ls k = 0 then (match ls[k]? with | some p => ruleE p | none => 0) else rmT ls k
def rulesE (ls : List Pr) : Int := if 40 < ls.length then 3 else rmT ls ls.length
theorem rmT_stays {ls : List Pr} {k : Nat} (h : rmT ls k ≠ 0) : ∀ n, k ≤ n → rmT ls n = rmT ls k
  | 0, hn => by have : k = 0 := by omega
                subst this; rfl
  | n + 1, hn => by
    by_cases e : k = n + 1
    · subst e; rfl
    · have ih := rmT_stays h n (by omega)
      rw [rmT, if_neg (by rw [ih]; exact h)]
      exact ih
theorem rmT_next {ls : List Pr} {k : Nat} (hk : k < ls.length) (h0 : rmT ls k = 0) : rmT ls (k + 1) = ruleE ls[k] := by rw [rmT, if_pos h0, List.getElem?_eq_getElem hk]
theorem rmT_err {ls : List Pr} {k : Nat} (hk : k < ls.length) (h40 : ¬ 40 < ls.length) (h0 : rmT ls k = 0) (hne : ruleE ls[k] ≠ 0) : rulesE ls = ruleE ls[k] := by
  unfold rulesE
  rw [if_neg h40]
  have h1 := rmT_next hk h0
  rw [← h1]
  exact rmT_stays (by rw [h1]; exact hne) _ (by omega)
theorem rulesE_len {ls : List Pr} (h : rulesE ls = 0) : ls.length ≤ 40 := by
  unfold rulesE at h
  split at h
  · cases h
  · omega
theorem rulesE_all {ls : List Pr} (h : rulesE ls = 0) : ∀ p ∈ ls, ruleE p = 0 := by
  intro p hp
  obtain ⟨k, hk, rfl⟩ := List.getElem_of_mem hp
  have hl := rulesE_len h
  unfold rulesE at h
  rw [if_neg (by omega)] at h
  have h0 : ∀ n, n ≤ ls.length → rmT ls n = 0 := fun n hn => by
    by_cases e : rmT ls n = 0
    · exact e
    · have := rmT_stays e _ hn
      rw [this] at h
      exact absurd h e
  have h1 := rmT_next hk (h0 k (by omega))
  rw [h0 (k + 1) (by omega)] at h1
  exact h1.symm
theorem ruleE_parts {p : Pr} (h : ruleE p = 0) : mayE p.l = 0 ∧ mayE p.r = 0 ∧ varB p.l.name = false ∧ ∀ n ∈ varsP [] (preL [p.r]), n ∈ varsP [] (preL [p.l]) := by
  unfold ruleE at h
  split at h
  · rename_i h1
    split at h
    · cases h
    · rename_i h2
      split at h
      · rename_i h3
        unfold twoE at h1
        split at h1
        · rename_i h4
          refine ⟨h4, h1, by simpa using h2, fun n hn => ?_⟩
          exact inB_memR (List.all_eq_true.1 h3 n hn)
        · rename_i h4; exact absurd h1 h4
      · cases h
  · rename_i h1; exact absurd h h1
theorem forT_ofR {l : List Bd} (ha : ApartB l) {d : Bd} (hd : d ∈ l) : forT l d.nm = some d.t := by
  induction l with
  | nil => cases hd
  | cons a r ih =>
    obtain ⟨h1, h2⟩ := List.pairwise_cons.1 ha
    rcases List.mem_cons.1 hd with rfl | hd
    · simp [forT]
    · rw [forT, if_neg (h1 d hd)]
      exact ih h2 hd
theorem onL_congr {a b : List Bd} (h : ∀ n, forT a n = forT b n) : ∀ l : List Tm, onL a l = onL b l := by
  intro l
  induction l using Tm.indL with
  | h0 => simp [onL]
  | h s l r ihl ihr =>
    rw [onL, onL, ihl, ihr]
    congr 1
    unfold onN
    rw [h s]
theorem onT_congr {a b : List Bd} (h : ∀ n, forT a n = forT b n) (t : Tm) : onT a t = onT b t := by
  unfold onT onN
  rw [h, onL_congr h]
theorem forT_permR {a b : List Bd} (hp : a.Perm b) (hb : ApartB b) (n : ByteArray) : forT a n = forT b n := by
  have key : ∀ {a b : List Bd} {x : Tm}, a.Perm b → ApartB b → forT a n = some x → forT b n = some x := fun {a b x} hp hb h => by
    have hm : ∀ {l : List Bd}, forT l n = some x → ∃ d ∈ l, d.nm = n ∧ d.t = x := fun {l} => by
      induction l with
      | nil => intro h; simp [forT] at h
      | cons d r ih =>
        intro h
        rw [forT] at h
        split at h
        · rename_i e; exact ⟨d, by simp, e, by simpa using h⟩
        · obtain ⟨d', h1, h2⟩ := ih h
          exact ⟨d', by simp [h1], h2⟩
    obtain ⟨d, hd, rfl, rfl⟩ := hm h
    exact forT_ofR hb (hp.mem_iff.1 hd)
  cases h1 : forT a n with
  | some x => exact (key hp hb h1).symm
  | none =>
    cases h2 : forT b n with
    | none => rfl
    | some x =>
      have ha : ApartB a := ApartB.perm hb hp
      rw [key hp.symm ha h2] at h1
      cases h1
/-- What a rule puts in the place of a term. -/
def fitT (p : Pr) (x : Tm) : Option Tm := (mtT p.l x []).map fun h => onT h p.r
/-- What the rules make of a term at a place. -/
def stAt (rs : List Pr) (t : Tm) (p : List Int) : List Tm := match atT t p with
  | some x => rs.filterMap fun r => (fitT r x).map fun y => putT y p t
  | none => []
/-- What one step makes of a term. -/
def stAll (rs : List Pr) (t : Tm) : List Tm := (plcT t).flatMap (stAt rs t)
end Go.Proofs.Ythlgknglalcggac

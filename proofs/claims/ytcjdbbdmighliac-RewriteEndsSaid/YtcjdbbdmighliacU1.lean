/- Two terms made one, step by step: plain. With the limit on bindings (as the document says) and without. -/
import Derived.Test.YtcjdbbdmighliacZRewriteEndsOwn
namespace Go.Proofs.Ytcjdbbdmighliac
open Go.RowKit
set_option linter.unusedSimpArgs false
set_option linter.unusedVariables false

/-- One binding, put where it belongs. -/
def insB (d : Bd) : List Bd → List Bd
  | [] => [d]
  | e :: r => if ltB d.nm e.nm = true then d :: e :: r else e :: insB d r
def srtB : List Bd → List Bd
  | [] => []
  | d :: r => insB d (srtB r)
theorem insB_perm (d : Bd) : ∀ l, (insB d l).Perm (d :: l)
  | [] => List.Perm.refl _
  | e :: r => by
    rw [insB]
    split
    · exact List.Perm.refl _
    · exact ((insB_perm d r).cons e).trans (List.Perm.swap d e r)
theorem srtB_perm : ∀ l, (srtB l).Perm l
  | [] => List.Perm.refl _
  | d :: r => (insB_perm d _).trans ((srtB_perm r).cons d)
theorem insB_sorted (d : Bd) : ∀ l, SortedB l → (∀ e ∈ l, d.nm ≠ e.nm) → SortedB (insB d l)
  | [], _, _ => by simp [insB, SortedB]
  | e :: r, h, hn => by
    obtain ⟨h1, h2⟩ := List.pairwise_cons.1 h
    rw [insB]
    split
    · rename_i hlt
      refine List.pairwise_cons.2 ⟨fun x hx => ?_, h⟩
      rcases List.mem_cons.1 hx with rfl | hx
      · exact hlt
      · exact ltB_trans hlt (h1 x hx)
    · rename_i hlt
      refine List.pairwise_cons.2 ⟨fun x hx => ?_, insB_sorted d r h2 fun e he => hn e (by simp [he])⟩
      rcases List.mem_cons.1 ((insB_perm d r).subset hx) with rfl | hx
      · cases h3 : ltB e.nm x.nm with
        | true => rfl
        | false => exact absurd (ltB_conn (by simpa using hlt) h3) (hn e (by simp))
      · exact h1 x hx
theorem srtB_sorted : ∀ l, ApartB l → SortedB (srtB l)
  | [], _ => by simp [srtB, SortedB]
  | d :: r, h => by
    obtain ⟨h1, h2⟩ := List.pairwise_cons.1 h
    exact insB_sorted d _ (srtB_sorted r h2) fun e he => h1 e ((srtB_perm r).subset he)

/-- What a step leaves: more to do, or the end. -/
inductive UO where
  | go (s : List Bd) (l : List Pr)
  | stop (e : Int) (s : List Bd)
def zipP : List Tm → List Tm → List Pr
  | a :: r, b :: q => ⟨a, b⟩ :: zipP r q
  | _, _ => []
def putB (x : ByteArray) (t : Tm) (d : Bd) : Bd := ⟨d.nm, onT [⟨x, t⟩] d.t⟩
def grtB (s : List Bd) : Bool := s.any fun d => decide (2000 < sizeL [d.t])
def uBind (lim : Bool) (s : List Bd) (l : List Pr) (x : ByteArray) (t : Tm) : UO :=
  if inB x (varsP [] (preL [t])) = true then .stop 6 s
  else if (lim && grtB (s.map (putB x t))) = true then .stop 8 s
  else .go (srtB (s.map (putB x t) ++ [⟨x, t⟩])) l
def uPair (lim : Bool) (s : List Bd) (l : List Pr) (a b : Tm) : UO :=
  if 2000 < sizeL [a] ∨ 2000 < sizeL [b] then .stop 8 s
  else if varB a.name = true then (if a.name = b.name then .go s l else uBind lim s l a.name b)
  else if varB b.name = true then uBind lim s l b.name a
  else if a.name = b.name ∧ a.args.length = b.args.length then .go s (zipP a.args b.args ++ l)
  else .stop 5 s
def uNext (lim : Bool) (s : List Bd) : List Pr → UO
  | [] => .stop 0 s
  | p :: l => uPair lim s l (onT s p.l) (onT s p.r)
theorem uNext_cons (lim : Bool) (s : List Bd) (p : Pr) (l : List Pr) : uNext lim s (p :: l) = uPair lim s l (onT s p.l) (onT s p.r) := rfl
def uRun (lim : Bool) : Nat → List Bd → List Pr → Option (Int × List Bd)
  | 0, _, _ => none
  | n + 1, s, l => match uNext lim s l with
    | .stop e s' => some (e, s')
    | .go s' l' => uRun lim n s' l'

theorem sizeL_pos (t : Tm) : 1 ≤ sizeL [t] := by
  obtain ⟨s, l⟩ := t
  simp [sizeL]
theorem onL_grow (ls : List Bd) : ∀ l : List Tm, sizeL l ≤ sizeL (onL ls l) := by
  intro l
  induction l using Tm.indL with
  | h0 => simp [onL, sizeL]
  | h s l r ihl ihr =>
    have e1 : sizeL (onL ls (⟨s, l⟩ :: r)) = sizeL [onT ls ⟨s, l⟩] + sizeL (onL ls r) := by
      rw [onL_cons]
      generalize onT ls ⟨s, l⟩ = x
      obtain ⟨s2, m⟩ := x
      simp [sizeL]
    have e2 : sizeL (⟨s, l⟩ :: r) = (1 + sizeL l) + sizeL r := by simp [sizeL]
    have h1 : 1 + sizeL l ≤ sizeL [onT ls ⟨s, l⟩] := by
      by_cases hl : l = []
      · subst hl
        have := sizeL_pos (onT ls ⟨s, []⟩)
        simpa [sizeL] using this
      · rw [onT_deep (Or.inl hl)]
        simp only [sizeL]
        omega
    rw [e1, e2]
    omega
theorem onT_grow (ls : List Bd) (t : Tm) : sizeL [t] ≤ sizeL [onT ls t] := by
  have h := onL_grow ls [t]
  rw [onL_cons] at h
  simpa [onL] using h

theorem grtB_perm {l k : List Bd} (h : l.Perm k) : grtB l = grtB k := by
  unfold grtB
  rw [Bool.eq_iff_iff, List.any_eq_true, List.any_eq_true]
  exact ⟨fun ⟨d, hd, e⟩ => ⟨d, h.subset hd, e⟩, fun ⟨d, hd, e⟩ => ⟨d, h.symm.subset hd, e⟩⟩
theorem grtB_put {s : List Bd} (x : ByteArray) (t : Tm) (h : grtB s = true) : grtB (s.map (putB x t)) = true := by
  unfold grtB at *
  rw [List.any_eq_true] at *
  obtain ⟨d, hd, e⟩ := h
  refine ⟨putB x t d, List.mem_map.2 ⟨d, hd, rfl⟩, ?_⟩
  have h1 := onT_grow [⟨x, t⟩] d.t
  simp only [decide_eq_true_eq] at e ⊢
  exact Nat.lt_of_lt_of_le e h1
theorem grtB_new {s : List Bd} (x : ByteArray) (t : Tm) : grtB (srtB (s.map (putB x t) ++ [⟨x, t⟩])) = (grtB (s.map (putB x t)) || decide (2000 < sizeL [t])) := by
  rw [grtB_perm (srtB_perm _)]
  unfold grtB
  rw [List.any_append]
  simp
/-- What is too great stays so. -/
theorem uNext_great {lim : Bool} {s s' : List Bd} {l l' : List Pr} (h : uNext lim s l = .go s' l') (hg : grtB s = true) : grtB s' = true := by
  cases l with
  | nil => cases h
  | cons p l =>
    have bind : ∀ x t, uBind lim s l x t = .go s' l' → grtB s' = true := fun x t h => by
      unfold uBind at h
      split at h
      · cases h
      · split at h
        · cases h
        · cases h
          rw [grtB_new, grtB_put x t hg]
          rfl
    rw [uNext_cons] at h
    unfold uPair at h
    generalize onT s p.l = a at h
    generalize onT s p.r = b at h
    split at h
    · cases h
    · split at h
      · split at h
        · cases h; exact hg
        · exact bind _ _ h
      · split at h
        · exact bind _ _ h
        · split at h
          · cases h; exact hg
          · cases h
theorem uNext_stop {lim : Bool} {s s' : List Bd} {l : List Pr} {e : Int} (h : uNext lim s l = .stop e s') : s' = s := by
  cases l with
  | nil => cases h; rfl
  | cons p l =>
    have bind : ∀ x t, uBind lim s l x t = .stop e s' → s' = s := fun x t h => by
      unfold uBind at h
      split at h
      · cases h; rfl
      · split at h
        · cases h; rfl
        · cases h
    rw [uNext_cons] at h
    unfold uPair at h
    generalize onT s p.l = a at h
    generalize onT s p.r = b at h
    split at h
    · cases h; rfl
    · split at h
      · split at h
        · cases h
        · exact bind _ _ h
      · split at h
        · exact bind _ _ h
        · split at h
          · cases h
          · cases h; rfl
theorem uRun_great {lim : Bool} : ∀ (n : Nat) (s : List Bd) (l : List Pr) (e : Int) (sf : List Bd), uRun lim n s l = some (e, sf) → grtB s = true → grtB sf = true
  | 0, _, _, _, _, h, _ => by cases h
  | n + 1, s, l, e, sf, h, hg => by
    rw [uRun] at h
    cases hn : uNext lim s l with
    | stop e' s' =>
      rw [hn] at h
      cases h
      rw [uNext_stop hn]; exact hg
    | go s' l' =>
      rw [hn] at h
      exact uRun_great n s' l' e sf h (uNext_great hn hg)
/-- With the limit a step is the same, or it ends since something has become too great. -/
theorem uNext_lim {s : List Bd} {l : List Pr} : uNext true s l = uNext false s l ∨ (uNext true s l = .stop 8 s ∧ ∃ s' l', uNext false s l = .go s' l' ∧ grtB s' = true) := by
  cases l with
  | nil => exact Or.inl rfl
  | cons p l =>
    have bind : ∀ x t, uBind true s l x t = uBind false s l x t ∨ (uBind true s l x t = .stop 8 s ∧ ∃ s' l', uBind false s l x t = .go s' l' ∧ grtB s' = true) := fun x t => by
      unfold uBind
      by_cases h1 : inB x (varsP [] (preL [t])) = true
      · rw [if_pos h1, if_pos h1]; exact Or.inl rfl
      · rw [if_neg h1, if_neg h1]
        cases h2 : grtB (s.map (putB x t)) with
        | true => exact Or.inr ⟨rfl, _, _, rfl, by rw [grtB_new, h2]; rfl⟩
        | false => exact Or.inl rfl
    rw [uNext_cons, uNext_cons]
    unfold uPair
    generalize onT s p.l = a
    generalize onT s p.r = b
    by_cases h1 : 2000 < sizeL [a] ∨ 2000 < sizeL [b]
    · rw [if_pos h1, if_pos h1]; exact Or.inl rfl
    · rw [if_neg h1, if_neg h1]
      by_cases h2 : varB a.name = true
      · rw [if_pos h2, if_pos h2]
        by_cases h3 : a.name = b.name
        · rw [if_pos h3, if_pos h3]; exact Or.inl rfl
        · rw [if_neg h3, if_neg h3]; exact bind _ _
      · rw [if_neg h2, if_neg h2]
        by_cases h3 : varB b.name = true
        · rw [if_pos h3, if_pos h3]; exact bind _ _
        · rw [if_neg h3, if_neg h3]; exact Or.inl rfl
/-- With the limit: too great, if at the end something is; else the same. -/
theorem uRun_lim : ∀ (n : Nat) (s : List Bd) (l : List Pr) (e : Int) (sf : List Bd), uRun false n s l = some (e, sf) → grtB s = false → ∃ e' sf', uRun true n s l = some (e', sf') ∧ (grtB sf = true → e' = 8) ∧ (grtB sf = false → e' = e ∧ sf' = sf)
  | 0, _, _, _, _, h, _ => by cases h
  | n + 1, s, l, e, sf, h, hg => by
    rw [uRun] at h
    rcases uNext_lim (s := s) (l := l) with h1 | ⟨h1, s', l', h2, h3⟩
    · rw [uRun, h1]
      cases hn : uNext false s l with
      | stop e' s' =>
        rw [hn] at h
        cases h
        refine ⟨e, sf, rfl, fun h4 => ?_, fun _ => ⟨rfl, rfl⟩⟩
        rw [uNext_stop hn, hg] at h4
        cases h4
      | go s' l' =>
        rw [hn] at h
        cases h4 : grtB s' with
        | false => exact uRun_lim n s' l' e sf h h4
        | true =>
          exfalso
          rw [hn] at h1
          have h5 : grtB s' = false := by
            cases l with
            | nil => cases hn
            | cons p l =>
              have bind : ∀ x t, sizeL [t] ≤ 2000 → uBind true s l x t = .go s' l' → grtB s' = false := fun x t ht h => by
                unfold uBind at h
                split at h
                · cases h
                · split at h
                  · cases h
                  · rename_i h6
                    cases h
                    rw [grtB_new]
                    simp only [Bool.true_and, Bool.not_eq_true] at h6
                    rw [h6]
                    simp; omega
              rw [uNext_cons] at h1
              unfold uPair at h1
              generalize onT s p.l = a at h1
              generalize onT s p.r = b at h1
              split at h1
              · cases h1
              · rename_i h7
                split at h1
                · split at h1
                  · cases h1; exact hg
                  · exact bind _ _ (by omega) h1
                · split at h1
                  · exact bind _ _ (by omega) h1
                  · split at h1
                    · cases h1; exact hg
                    · cases h1
          rw [h5] at h4
          cases h4
    · rw [h2] at h
      have h4 := uRun_great n s' l' e sf h h3
      refine ⟨8, s, by rw [uRun, h1], fun _ => rfl, fun h5 => ?_⟩
      rw [h4] at h5
      cases h5
#print axioms uRun_lim
end Go.Proofs.Ytcjdbbdmighliac

import Derived.Test.YtbnmlkaejdpigaaGreatDoorU7
namespace Go.Proofs.YtbnmlkaejdpigaaGreatDoor
open Go.RowKit
set_option linter.unusedSimpArgs false
set_option linter.unusedVariables false
inductive FO where
 | go (s : List Bd) (l : List Pr)
 | stop (e : Int)
def fBind (s : List Bd) (x : ByteArray) (t : Tm) : FO := if inB x (varsP [] (preL [t])) = true then .stop 6 else .go (addS s x t) []
def fPair (s : List Bd) (a b : Tm) : FO :=
 if varB a.name = true then (if a.name = b.name then .go s [] else fBind s a.name b)
 else if varB b.name = true then fBind s b.name a
 else if a.name = b.name ∧ a.args.length = b.args.length then .go s (zipP a.args b.args)
 else .stop 5
inductive FR : List Bd → List Pr → Int → List Bd → Prop
 | done (s : List Bd) : FR s [] 0 s
 | step {s s' sf : List Bd} {p : Pr} {l' rest : List Pr} {e : Int} : fPair s (onT s p.l) (onT s p.r) = .go s' l' → FR s' (l' ++ rest) e sf → FR s (p :: rest) e sf
 | stop {s : List Bd} {p : Pr} {rest : List Pr} {e : Int} : fPair s (onT s p.l) (onT s p.r) = .stop e → FR s (p :: rest) e s
theorem fBind_stop {s : List Bd} {x : ByteArray} {t : Tm} {e : Int} (h : fBind s x t = .stop e) : e = 6 := by
 unfold fBind at h
 split at h
 ·cases h; rfl
 ·cases h
theorem fPair_stop {s : List Bd} {a b : Tm} {e : Int} (h : fPair s a b = .stop e) : e ≠ 0 := by
 unfold fPair at h
 split at h
 ·split at h
  ·cases h
  ·rw [fBind_stop h]; decide
 ·split at h
  ·rw [fBind_stop h]; decide
  ·split at h
   ·cases h
   ·cases h; decide
theorem FR.append_ok {s s' : List Bd} {a : List Pr} {e0 : Int} (h : FR s a e0 s') : e0 = 0 → ∀ {b : List Pr} {e : Int} {sf : List Bd}, FR s' b e sf → FR s (a ++ b) e sf := by
 induction h with
 | done s => intro _ b e sf h; exact h
 | step h1 _ ih => intro h0 b e sf h; exact FR.step h1 (by have h2 := ih h0 h; rw [List.append_assoc] at h2; exact h2)
 | stop h1 => intro h0; exact absurd h0 (fPair_stop h1)
theorem FR.append_err {s s' : List Bd} {a : List Pr} {e : Int} (h : FR s a e s') : e ≠ 0 → ∀ (b : List Pr), FR s (a ++ b) e s' := by
 induction h with
 | done s => intro h; exact absurd rfl h
 | step h1 _ ih => intro h0 b; exact FR.step h1 (by have h2 := ih h0 b; rw [List.append_assoc] at h2; exact h2)
 | stop h1 => intro h0 b; exact FR.stop h1
def Abs (s s' : List Bd) : Prop := ∀ L : List Tm, errL L = 0 → onL s' (onL s L) = onL s' L
theorem Abs.T {s s' : List Bd} (h : Abs s s') {t : Tm} (he : errL [t] = 0) : onT s' (onT s t) = onT s' t := by
 have h1 := h [t] he
 rw [onL_cons, onL_cons, onL_cons] at h1
 injection h1
theorem abs_refl {s : List Bd} (h : OkS s) : Abs s s := fun L he => h.idem he
theorem Abs.trans {s s' s'' : List Bd} (hs : OkS s) (h : Abs s s') (k : Abs s' s'') : Abs s s'' := fun L he => by
 rw [← k (onL s L) (errL_on2 hs L he), h L he, k L he]
theorem fBind_go {s s' : List Bd} {x : ByteArray} {t : Tm} {l' : List Pr} (hs : OkS s) (hx : varB x = true) (hn : ∀ d ∈ s, d.nm ≠ x) (he : errL [t] = 0) (ht : ∀ e ∈ s, ¬ occL e.nm [t]) (h : fBind s x t = .go s' l') : s' = addS s x t ∧ l' = [] ∧ ¬ occL x [t] ∧ OkS s' ∧ Abs s s' := by
 unfold fBind at h
 split at h
 ·cases h
 ·rename_i ho
  cases h
  have h1 := not_inB hx ho
  have h2 := hs.add hx hn he ht h1
  refine ⟨rfl, rfl, h1, h2, fun L hL => ?_⟩
  rw [add_on hs hx hn h2 _ (errL_on2 hs L hL), add_on hs hx hn h2 L hL, hs.idem hL]
def GoF (s s' : List Bd) (a b : Tm) (l' : List Pr) : Prop :=
 OkS s' ∧ Abs s s' ∧ errL (flatP l') = 0 ∧ (∀ V : List ByteArray, (∀ d ∈ s, d.nm ∈ V) → (∀ y, varB y = true → (occL y [a] ∨ occL y [b]) → y ∈ V) → (∀ d ∈ s', d.nm ∈ V)) ∧
  (∀ L, errL L = 0 → ∀ y, varB y = true → occL y (onL s' L) → occL y (onL s L) ∨ occL y [a] ∨ occL y [b]) ∧
  (l' = [] ∨ (s' = s ∧ varB a.name = false ∧ varB b.name = false ∧ l' = zipP a.args b.args))
theorem fPair_go {s s' : List Bd} {a b : Tm} {l' : List Pr} (hs : OkS s) (ha : errL [a] = 0) (hb : errL [b] = 0) (hna : ∀ e ∈ s, ¬ occL e.nm [a]) (hnb : ∀ e ∈ s, ¬ occL e.nm [b]) (h : fPair s a b = .go s' l') : GoF s s' a b l' := by
 have bind : ∀ x t, varB x = true → (∀ d ∈ s, d.nm ≠ x) → errL [t] = 0 → (∀ e ∈ s, ¬ occL e.nm [t]) → (occL x [a] ∨ occL x [b]) → (∀ y, occL y [t] → occL y [a] ∨ occL y [b]) → fBind s x t = .go s' l' → GoF s s' a b l' := fun x t hx hn he ht hxo hto h => by
  obtain ⟨rfl, rfl, h3, h4, h5⟩ := fBind_go hs hx hn he ht h
  refine ⟨h4, h5, by simp [flatP, errL], fun V h6 h7 d hd => ?_, fun L hL y hy ho => ?_, Or.inl rfl⟩
  ·have h8 := (srtB_perm (s.map (putB x t) ++ [⟨x, t⟩])).subset hd
   rcases List.mem_append.1 h8 with h8 | h8
   ·obtain ⟨d', hd', rfl⟩ := List.mem_map.1 h8
    exact h6 d' hd'
   ·have e : d = ⟨x, t⟩ := by simpa using h8
    rw [e]
    exact h7 x hx hxo
  ·exact ((bind_facts hs hx hn he ht h3 hL).2.1 y hy ho).imp id (hto y)
 unfold fPair at h
 split at h
 ·rename_i hva
  split at h
  ·cases h
   exact ⟨hs, abs_refl hs, by simp [flatP, errL], fun V h6 _ => h6, fun L hL y hy ho => Or.inl ho, Or.inl rfl⟩
  ·exact bind a.name b hva (fun d hd e => hna d hd (by rw [e]; exact occ_self a)) hb hnb (Or.inl (occ_self a)) (fun y h => Or.inr h) h
 ·rename_i hva
  split at h
  ·rename_i hvb
   exact bind b.name a hvb (fun d hd e => hnb d hd (by rw [e]; exact occ_self b)) ha hna (Or.inr (occ_self b)) (fun y h => Or.inl h) h
  ·rename_i hvb
   split at h
   ·cases h
    exact ⟨hs, abs_refl hs, zip_err (err_sub ha) (err_sub hb), fun V h6 _ => h6, fun L hL y hy ho => Or.inl ho, Or.inr ⟨rfl, by simpa using hva, by simpa using hvb, rfl⟩⟩
   ·cases h
theorem uPair_of {s : List Bd} {rest : List Pr} {a b : Tm} (ha : sizeL [a] ≤ 2000) (hb : sizeL [b] ≤ 2000) : uPair false s rest a b = match fPair s a b with
  | .go s' l' => .go s' (l' ++ rest)
  | .stop e => .stop e s := by
 have bind : ∀ x t, uBind false s rest x t = match fBind s x t with
   | .go s' l' => .go s' (l' ++ rest)
   | .stop e => .stop e s := fun x t => by
  unfold uBind fBind
  by_cases h : inB x (varsP [] (preL [t])) = true
  ·rw [if_pos h, if_pos h]
  ·rw [if_neg h, if_neg h, if_neg (by simp)]; rfl
 unfold uPair fPair
 rw [if_neg (by omega)]
 by_cases h1 : varB a.name = true
 ·rw [if_pos h1, if_pos h1]
  by_cases h2 : a.name = b.name
  ·rw [if_pos h2, if_pos h2]; rfl
  ·rw [if_neg h2, if_neg h2]; exact bind _ _
 ·rw [if_neg h1, if_neg h1]
  by_cases h2 : varB b.name = true
  ·rw [if_pos h2, if_pos h2]; exact bind _ _
  ·rw [if_neg h2, if_neg h2]
   by_cases h3 : a.name = b.name ∧ a.args.length = b.args.length
   ·rw [if_pos h3, if_pos h3]
   ·rw [if_neg h3, if_neg h3]
theorem zip_in : ∀ {a b : List Tm} {p : Pr}, p ∈ zipP a b → p.l ∈ a ∧ p.r ∈ b := @zip_mem
theorem size_in {sf : List Bd} (hf : OkS sf) {u x : Tm} (hv : varB u.name = false) (hx : x ∈ u.args) : sizeL [onT sf x] ≤ sizeL [onT sf u] := by
 obtain ⟨n, l⟩ := u
 rw [onT_sym2 hf.vars hv]
 have h1 := on_mem (t := sf) hx
 have h2 := size_sub ⟨n, onL sf l⟩
 simp only at h1 h2
 show sizeL [onT sf x] ≤ sizeL [⟨n, onL sf l⟩]
 omega
theorem FR.run {s sf : List Bd} {l : List Pr} {e : Int} (h : FR s l e sf) : OkS s → errL (flatP l) = 0 → (OkS sf ∧ Abs s sf) ∧ ((∀ p ∈ l, sizeL [onT sf p.l] ≤ 2000 ∧ sizeL [onT sf p.r] ≤ 2000) → ∃ n, uRun false n s l = some (e, sf)) ∧
  (∀ V : List ByteArray, (∀ d ∈ s, d.nm ∈ V) → (∀ y, varB y = true → occL y (onL s (flatP l)) → y ∈ V) → ∀ d ∈ sf, d.nm ∈ V) := by
 induction h with
 | done s => intro hs _; exact ⟨⟨hs, abs_refl hs⟩, fun _ => ⟨1, rfl⟩, fun V h _ => h⟩
 | @step s s' sf p l' rest e h1 h2 ih =>
  intro hs he
  obtain ⟨e1, e2⟩ := err_two.1 he
  obtain ⟨e2, e3⟩ := err_two.1 e2
  have ea := errL_onT2 hs e1
  have eb := errL_onT2 hs e2
  obtain ⟨g1, g2, g3, g4, g5, g6⟩ := fPair_go hs ea eb (hs.goneT e1) (hs.goneT e2) h1
  have he' : errL (flatP (l' ++ rest)) = 0 := by rw [flatP_append]; exact err_append.2 ⟨g3, e3⟩
  obtain ⟨⟨i1, i2⟩, i3, i4⟩ := ih g1 he'
  have hab : Abs s sf := g2.trans hs i2
  refine ⟨⟨i1, hab⟩, fun hz => ?_, fun V h6 h7 => i4 V (g4 V h6 fun y hy ho => h7 y hy ?_) fun y hy ho => ?_⟩
  ·have za := (hz p (by simp)).1
   have zb := (hz p (by simp)).2
   have ya : sizeL [onT s p.l] ≤ 2000 := by
    have := onT_grow sf (onT s p.l)
    rw [hab.T e1] at this
    omega
   have yb : sizeL [onT s p.r] ≤ 2000 := by
    have := onT_grow sf (onT s p.r)
    rw [hab.T e2] at this
    omega
   obtain ⟨n, hn⟩ := i3 fun p' hp' => by
    rcases List.mem_append.1 hp' with hp' | hp'
    ·rcases g6 with g6 | ⟨rfl, va, vb, g6⟩
     ·rw [g6] at hp'; cases hp'
     ·rw [g6] at hp'
      obtain ⟨m1, m2⟩ := zip_in hp'
      have z1 := size_in i1 va m1
      have z2 := size_in i1 vb m2
      rw [hab.T e1] at z1
      rw [hab.T e2] at z2
      omega
    ·exact hz p' (by simp [hp'])
   refine ⟨n + 1, ?_⟩
   rw [uRun, uNext_cons, uPair_of ya yb, h1]
   exact hn
  ·rw [flatP, onL_cons, onL_cons]
   rcases ho with ho | ho
   ·exact occL_cons.2 (Or.inl ho)
   ·exact occL_cons.2 (Or.inr (occL_cons.2 (Or.inl ho)))
  ·refine h7 y hy ?_
   rw [flatP, onL_cons, onL_cons]
   rw [flatP_append, onL_append] at ho
   have fin : occL y (onL s (flatP rest)) ∨ occL y [onT s p.l] ∨ occL y [onT s p.r] := by
    rcases occL_append.1 ho with ho | ho
    ·rcases g6 with g6 | ⟨gs, va, vb, g6⟩
     ·rw [g6] at ho; simp only [flatP, onL] at ho; exact absurd ho occL_nil
     ·rw [g6, gs] at ho
      have e6 : onL s (flatP (zipP (onT s p.l).args (onT s p.r).args)) = flatP (zipP (onT s p.l).args (onT s p.r).args) := onL_id _ fun d hd hoc => by
       rcases zip_occ hoc with hoc | hoc
       ·exact hs.goneT e1 d hd (occ_sub hoc)
       ·exact hs.goneT e2 d hd (occ_sub hoc)
      rw [e6] at ho
      rcases zip_occ ho with ho | ho
      ·exact Or.inr (Or.inl (occ_sub ho))
      ·exact Or.inr (Or.inr (occ_sub ho))
    ·exact g5 _ e3 y hy ho
   rcases fin with ho | ho | ho
   ·exact occL_cons.2 (Or.inr (occL_cons.2 (Or.inr ho)))
   ·exact occL_cons.2 (Or.inl ho)
   ·exact occL_cons.2 (Or.inr (occL_cons.2 (Or.inl ho)))
 | @stop s p rest e h1 =>
  intro hs he
  obtain ⟨e1, e2⟩ := err_two.1 he
  obtain ⟨e2, e3⟩ := err_two.1 e2
  refine ⟨⟨hs, abs_refl hs⟩, fun hz => ⟨1, ?_⟩, fun V h _ => h⟩
  rw [uRun, uNext_cons, uPair_of (hz p (by simp)).1 (hz p (by simp)).2, h1]
theorem occ_flat {y : ByteArray} : ∀ {l : List Pr}, occL y (flatP l) → ∃ p ∈ l, occL y [p.l] ∨ occL y [p.r]
 | [], h => absurd h occL_nil
 | p :: r, h => by
  rw [flatP] at h
  rcases occL_cons.1 h with h | h
  ·exact ⟨p, by simp, Or.inl h⟩
  ·rcases occL_cons.1 h with h | h
   ·exact ⟨p, by simp, Or.inr h⟩
   ·obtain ⟨q, hq, h⟩ := occ_flat h
    exact ⟨q, by simp [hq], h⟩
theorem err_flat : ∀ {l : List Pr}, errL (flatP l) = 0 → ∀ p ∈ l, errL [p.l] = 0 ∧ errL [p.r] = 0
 | [], _, p, hp => by cases hp
 | q :: r, h, p, hp => by
  rw [flatP] at h
  obtain ⟨e1, e2⟩ := err_two.1 h
  obtain ⟨e2, e3⟩ := err_two.1 e2
  rcases List.mem_cons.1 hp with rfl | hp
  ·exact ⟨e1, e2⟩
  ·exact err_flat e3 p hp
theorem FR.ends {sf : List Bd} {l : List Pr} {e : Int} (h : FR [] l e sf) (he : errL (flatP l) = 0) (hz : ∀ p ∈ l, sizeL [onT sf p.l] ≤ 2000 ∧ sizeL [onT sf p.r] ≤ 2000) : (∃ n, uRun false n [] l = some (e, sf)) ∧ grtB sf = false := by
 obtain ⟨⟨h1, h2⟩, h3, h4⟩ := h.run okS_nil he
 refine ⟨h3 hz, ?_⟩
 have h5 := h4 ((preL (flatP l)).map (·.name)) (by simp) (fun y hy ho => by
  rw [onL_id _ (by simp)] at ho
  obtain ⟨k, hk, rfl⟩ := ho
  exact List.mem_map.2 ⟨k, hk, rfl⟩)
 unfold grtB
 rw [Bool.eq_false_iff]
 intro hg
 rw [List.any_eq_true] at hg
 obtain ⟨d, hd, hgd⟩ := hg
 simp only [decide_eq_true_eq] at hgd
 obtain ⟨k, hk, ek⟩ := List.mem_map.1 (h5 d hd)
 obtain ⟨p, hp, ho⟩ := occ_flat (y := d.nm) ⟨k, hk, ek⟩
 have hv := h1.vars d hd
 have ed : onT sf ⟨d.nm, []⟩ = d.t := by rw [onT_leaf, forT_of h1.1 hd]; rfl
 obtain ⟨e1, e2⟩ := err_flat he p hp
 have hzz := hz p hp
 rcases ho with ho | ho
 ·have h6 := occ_size h1.vars hv [p.l] e1 ho
  rw [onL_cons, ed] at h6
  simp only [onL] at h6
  omega
 ·have h6 := occ_size h1.vars hv [p.r] e2 ho
  rw [onL_cons, ed] at h6
  simp only [onL] at h6
  omega
end Go.Proofs.YtbnmlkaejdpigaaGreatDoor

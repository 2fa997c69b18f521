import Derived.Test.YtmkendjmfdaedaaGreatZDRewriteMadeOwn
import Derived.Test.YtmkendjmfdaedaaGreatW29
namespace Go.Proofs.YtmkendjmfdaedaaGreat
open Go.RowKit
set_option linter.unusedSimpArgs false
set_option linter.unusedVariables false
def occL (x : ByteArray) (l : List Tm) : Prop := ∃ k ∈ preL l, k.name = x
theorem occL_node {x s : ByteArray} {l r : List Tm} : occL x (⟨s, l⟩ :: r) ↔ s = x ∨ occL x l ∨ occL x r := by
 unfold occL
 rw [preL]
 constructor
 ·rintro ⟨k, hk, e⟩
  rcases List.mem_cons.1 hk with rfl | hk
  ·exact Or.inl e
  ·rcases List.mem_append.1 hk with hk | hk
   ·exact Or.inr (Or.inl ⟨k, hk, e⟩)
   ·exact Or.inr (Or.inr ⟨k, hk, e⟩)
 ·rintro (e | ⟨k, hk, e⟩ | ⟨k, hk, e⟩)
  ·exact ⟨⟨s, l⟩, by simp, e⟩
  ·exact ⟨k, by simp [hk], e⟩
  ·exact ⟨k, by simp [hk], e⟩
theorem occL_nil {x : ByteArray} : ¬ occL x [] := by
 rintro ⟨k, hk, _⟩
 simp [preL] at hk
theorem occL_cons {x : ByteArray} {t : Tm} {r : List Tm} : occL x (t :: r) ↔ occL x [t] ∨ occL x r := by
 obtain ⟨s, l⟩ := t
 rw [occL_node, occL_node]
 have h0 : ¬ occL x [] := occL_nil
 constructor
 ·rintro (h | h | h)
  ·exact Or.inl (Or.inl h)
  ·exact Or.inl (Or.inr (Or.inl h))
  ·exact Or.inr h
 ·rintro ((h | h | h) | h)
  ·exact Or.inl h
  ·exact Or.inr (Or.inl h)
  ·exact absurd h h0
  ·exact Or.inr (Or.inr h)
def OkS (s : List Bd) : Prop := ApartB s ∧ (∀ d ∈ s, varB d.nm = true ∧ errL [d.t] = 0) ∧ ∀ d ∈ s, ∀ e ∈ s, ¬ occL e.nm [d.t]
theorem onT_sym2 {s : List Bd} (h : ∀ d ∈ s, varB d.nm = true) {n : ByteArray} (hn : varB n = false) (l : List Tm) : onT s ⟨n, l⟩ = ⟨n, onL s l⟩ := by
 refine onT_deep (Or.inr ?_)
 cases hf : forT s n with
 | none => rfl
 | some x =>
  obtain ⟨d, hd, e, _⟩ := forT_mem hf
  have h1 := h d hd
  rw [e, hn] at h1
  cases h1
theorem occ_on {s : List Bd} (hs : ∀ d ∈ s, varB d.nm = true) {y : ByteArray} (hy : varB y = true) : ∀ l : List Tm, errL l = 0 → occL y (onL s l) → (occL y l ∧ forT s y = none) ∨ ∃ d ∈ s, occL d.nm l ∧ occL y [d.t] := by
 intro l
 induction l using Tm.indL with
 | h0 => intro _ h; simp only [onL] at h; exact absurd h occL_nil
 | h n l r ihl ihr =>
  intro he h
  obtain ⟨g1, g2, g3⟩ := errL_parts he
  rw [onL_cons, occL_cons] at h
  rcases h with h | h
  ·cases hv : varB n with
   | false =>
    rw [onT_sym2 hs hv, occL_node] at h
    rcases h with h | h | h
    ·rw [h, hy] at hv; cases hv
    ·rcases ihl g2 h with ⟨h1, h2⟩ | ⟨d, hd, h1, h2⟩
     ·exact Or.inl ⟨occL_node.2 (Or.inr (Or.inl h1)), h2⟩
     ·exact Or.inr ⟨d, hd, occL_node.2 (Or.inr (Or.inl h1)), h2⟩
    ·exact absurd h occL_nil
   | true =>
    have e := g1 hv
    subst e
    rw [onT_leaf] at h
    cases hf : forT s n with
    | none =>
     rw [hf] at h
     rcases occL_node.1 h with h | h | h
     ·subst h; exact Or.inl ⟨occL_node.2 (Or.inl rfl), hf⟩
     ·exact absurd h occL_nil
     ·exact absurd h occL_nil
    | some x =>
     rw [hf] at h
     obtain ⟨d, hd, e1, e2⟩ := forT_mem hf
     refine Or.inr ⟨d, hd, occL_node.2 (Or.inl e1.symm), ?_⟩
     rw [e2]; exact h
  ·rcases ihr g3 h with ⟨h1, h2⟩ | ⟨d, hd, h1, h2⟩
   ·exact Or.inl ⟨occL_node.2 (Or.inr (Or.inr h1)), h2⟩
   ·exact Or.inr ⟨d, hd, occL_node.2 (Or.inr (Or.inr h1)), h2⟩
theorem OkS.vars {s : List Bd} (h : OkS s) : ∀ d ∈ s, varB d.nm = true := fun d hd => (h.2.1 d hd).1
theorem OkS.gone {s : List Bd} (h : OkS s) {l : List Tm} (he : errL l = 0) : ∀ e ∈ s, ¬ occL e.nm (onL s l) := by
 intro e hm ho
 rcases occ_on h.vars (h.vars e hm) l he ho with ⟨_, h2⟩ | ⟨d, hd, _, h2⟩
 ·obtain ⟨t, ht⟩ := forT_some_of hm
  rw [ht] at h2; cases h2
 ·exact h.2.2 d hd e hm h2
theorem errL_on2 {s : List Bd} (h : OkS s) : ∀ l : List Tm, errL l = 0 → errL (onL s l) = 0 := by
 intro l
 induction l using Tm.indL with
 | h0 => intro _; simp [onL, errL]
 | h n l r ihl ihr =>
  intro he
  obtain ⟨g1, g2, g3⟩ := errL_parts he
  have hn := errL_name he
  rw [onL_cons]
  have key : errL [onT s ⟨n, l⟩] = 0 := by
   cases hv : varB n with
   | false => rw [onT_sym2 h.vars hv]; exact err_node hn hv (ihl g2)
   | true =>
    have e := g1 hv
    subst e
    rw [onT_leaf]
    cases hf : forT s n with
    | none => exact err_leaf hn
    | some x =>
     obtain ⟨d, hd, _, e2⟩ := forT_mem hf
     have h3 := (h.2.1 d hd).2
     rw [e2] at h3
     exact h3
  rw [errL_cons, if_pos key]
  exact ihr g3
theorem onT_of {P : List Tm → List Tm → Prop} {s : List Bd} {t : Tm} (h : P [t] (onL s [t])) : P [t] [onT s t] := by
 rw [onL_cons] at h
 simpa [onL] using h
theorem errL_onT2 {s : List Bd} (h : OkS s) {t : Tm} (he : errL [t] = 0) : errL [onT s t] = 0 := onT_of (P := fun _ b => errL b = 0) (errL_on2 h [t] he)
def addS (s : List Bd) (x : ByteArray) (t : Tm) : List Bd := srtB (s.map (putB x t) ++ [⟨x, t⟩])
theorem add_apart {s : List Bd} {x : ByteArray} {t : Tm} (h : ApartB s) (hx : ∀ d ∈ s, d.nm ≠ x) : ApartB (s.map (putB x t) ++ [⟨x, t⟩]) := by
 refine List.pairwise_append.2 ⟨List.pairwise_map.2 h, by simp, fun a ha b hb => ?_⟩
 obtain ⟨d, hd, rfl⟩ := List.mem_map.1 ha
 have e : b = ⟨x, t⟩ := by simpa using hb
 rw [e]
 exact hx d hd
theorem OkS.add {s : List Bd} (h : OkS s) {x : ByteArray} {t : Tm} (hx : varB x = true) (hn : ∀ d ∈ s, d.nm ≠ x) (he : errL [t] = 0) (ht : ∀ e ∈ s, ¬ occL e.nm [t]) (ho : ¬ occL x [t]) : OkS (addS s x t) := by
 have O1 : OkS [(⟨x, t⟩ : Bd)] := by
  refine ⟨by simp [ApartB], fun d hd => ?_, fun d hd e hm => ?_⟩
  ·have e : d = ⟨x, t⟩ := by simpa using hd
   rw [e]; exact ⟨hx, he⟩
  ·have e1 : d = ⟨x, t⟩ := by simpa using hd
   have e2 : e = ⟨x, t⟩ := by simpa using hm
   rw [e1, e2]; exact ho
 have hp := srtB_perm (s.map (putB x t) ++ [⟨x, t⟩])
 have hmem : ∀ d ∈ addS s x t, (∃ d0 ∈ s, d = putB x t d0) ∨ d = ⟨x, t⟩ := fun d hd => by
  rcases List.mem_append.1 (hp.subset hd) with hd | hd
  ·obtain ⟨d0, h0, rfl⟩ := List.mem_map.1 hd
   exact Or.inl ⟨d0, h0, rfl⟩
  ·exact Or.inr (by simpa using hd)
 have hnot : ∀ d0 ∈ s, ∀ y, varB y = true → (y = x ∨ ∃ e ∈ s, e.nm = y) → ¬ occL y [onT [⟨x, t⟩] d0.t] := fun d0 h0 y hy hyy hoc => by
  have h1 : occL y (onL [⟨x, t⟩] [d0.t]) := by rw [onL_cons]; simpa [onL] using hoc
  rcases occ_on O1.vars hy [d0.t] (h.2.1 d0 h0).2 h1 with ⟨h2, h3⟩ | ⟨d, hd, h2, h3⟩
  ·rcases hyy with rfl | ⟨e, hm, rfl⟩
   ·simp [forT] at h3
   ·exact h.2.2 d0 h0 e hm h2
  ·have e1 : d = ⟨x, t⟩ := by simpa using hd
   subst e1
   rcases hyy with rfl | ⟨e, hm, rfl⟩
   ·exact ho h3
   ·exact ht e hm h3
 refine ⟨(add_apart h.1 hn).perm hp, fun d hd => ?_, fun d hd e hm => ?_⟩
 ·rcases hmem d hd with ⟨d0, h0, rfl⟩ | rfl
  ·exact ⟨(h.2.1 d0 h0).1, errL_onT2 O1 (h.2.1 d0 h0).2⟩
  ·exact ⟨hx, he⟩
 ·have hy : e.nm = x ∨ ∃ e0 ∈ s, e0.nm = e.nm := by
   rcases hmem e hm with ⟨e0, h0, rfl⟩ | rfl
   ·exact Or.inr ⟨e0, h0, rfl⟩
   ·exact Or.inl rfl
  have hyv : varB e.nm = true := by
   rcases hy with h1 | ⟨e0, h0, h1⟩
   ·rw [h1]; exact hx
   ·rw [← h1]; exact (h.2.1 e0 h0).1
  rcases hmem d hd with ⟨d0, h0, rfl⟩ | rfl
  ·exact hnot d0 h0 e.nm hyv hy
  ·rcases hy with h1 | ⟨e0, h0, h1⟩
   ·rw [h1]; exact ho
   ·rw [← h1]; exact ht e0 h0
end Go.Proofs.YtmkendjmfdaedaaGreat

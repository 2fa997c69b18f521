/- Several texts in one. -/
import Derived.Test.YtdebiiodhkcnkaaGreatZIndexMadeOwn
import Derived.Maps.RangeRun
import Derived.DeepKeys3
import Derived.WideKeyPair
import Derived.Deep.AppendLies
import Derived.Laws.OwnMore
import Derived.Deep.RegionHeld3
import Derived.Deep.DeepCutAuto
import Derived.Laws.Cover3
import Derived.Deep.AppendSrc
import Derived.Lib.Builder
import Derived.RangeFuncNested
import Derived.RangeFuncBound
import Derived.RangeFuncCalls
import Derived.RangeFuncLeaves
import Derived.RangeFuncWrites
import Derived.Shelf.Abstract
import Derived.Shelf.RegionOpen
import Derived.OwnWalkIn
import Derived.TacticsInMore
import Derived.LoopNIn
import Derived.LoopIn
namespace Go.Proofs.YtdebiiodhkcnkaaGreat
open Go.RowKit
set_option linter.unusedSimpArgs false
set_option linter.unusedVariables false
def occL (x : ByteArray) (l : List Tm) : Prop := ∃ k ∈ preL l, k.name = x
theorem occL_node {x s : ByteArray} {l r : List Tm} : occL x (⟨s, l⟩ :: r) ↔ s = x ∨ occL x l ∨ occL x r := by
 unfold occL
 rw [preL]
 constructor
 ·rintro ⟨k, hk, e⟩
  rcases List.mem_cons.1 hk with rfl | hk
  ·exact Or.inl e
  ·rcases List.mem_append.1 hk with hk | hk
   ·exact Or.inr (Or.inl ⟨k, hk, e⟩)
   ·exact Or.inr (Or.inr ⟨k, hk, e⟩)
 ·rintro (e | ⟨k, hk, e⟩ | ⟨k, hk, e⟩)
  ·exact ⟨⟨s, l⟩, by simp, e⟩
  ·exact ⟨k, by simp [hk], e⟩
  ·exact ⟨k, by simp [hk], e⟩
theorem occL_nil {x : ByteArray} : ¬ occL x [] := by
 rintro ⟨k, hk, _⟩
 simp [preL] at hk
theorem occL_cons {x : ByteArray} {t : Tm} {r : List Tm} : occL x (t :: r) ↔ occL x [t] ∨ occL x r := by
 obtain ⟨s, l⟩ := t
 rw [occL_node, occL_node]
 have h0 : ¬ occL x [] := occL_nil
 constructor
 ·rintro (h | h | h)
  ·exact Or.inl (Or.inl h)
  ·exact Or.inl (Or.inr (Or.inl h))
  ·exact Or.inr h
 ·rintro ((h | h | h) | h)
  ·exact Or.inl h
  ·exact Or.inr (Or.inl h)
  ·exact absurd h h0
  ·exact Or.inr (Or.inr h)
theorem occL_append {x : ByteArray} {a b : List Tm} : occL x (a ++ b) ↔ occL x a ∨ occL x b := by
 induction a with
 | nil =>
  have h0 : ¬ occL x [] := occL_nil
  simp [h0]
 | cons t r ih => rw [List.cons_append, occL_cons, occL_cons (r := r), ih, or_assoc]
def OkS (s : List Bd) : Prop := ApartB s ∧ (∀ d ∈ s, varB d.nm = true ∧ errL [d.t] = 0) ∧ ∀ d ∈ s, ∀ e ∈ s, ¬ occL e.nm [d.t]
theorem okS_nil : OkS [] := ⟨by simp [ApartB], by simp, by simp⟩
theorem onT_sym2 {s : List Bd} (h : ∀ d ∈ s, varB d.nm = true) {n : ByteArray} (hn : varB n = false) (l : List Tm) : onT s ⟨n, l⟩ = ⟨n, onL s l⟩ := by
 refine onT_deep (Or.inr ?_)
 cases hf : forT s n with
 | none => rfl
 | some x =>
  obtain ⟨d, hd, e, _⟩ := forT_mem hf
  have h1 := h d hd
  rw [e, hn] at h1
  cases h1
theorem onL_id {s : List Bd} : ∀ l : List Tm, (∀ e ∈ s, ¬ occL e.nm l) → onL s l = l := by
 intro l
 induction l using Tm.indL with
 | h0 => intro _; simp [onL]
 | h n l r ihl ihr =>
  intro h
  rw [onL_cons, ihr fun e he ho => h e he (occL_node.2 (Or.inr (Or.inr ho)))]
  congr 1
  rw [onT_deep (Or.inr ?_), ihl fun e he ho => h e he (occL_node.2 (Or.inr (Or.inl ho)))]
  cases hf : forT s n with
  | none => rfl
  | some x =>
   obtain ⟨d, hd, e, _⟩ := forT_mem hf
   exact absurd (occL_node.2 (Or.inl e.symm)) (h d hd)
theorem occ_on {s : List Bd} (hs : ∀ d ∈ s, varB d.nm = true) {y : ByteArray} (hy : varB y = true) : ∀ l : List Tm, errL l = 0 → occL y (onL s l) → (occL y l ∧ forT s y = none) ∨ ∃ d ∈ s, occL d.nm l ∧ occL y [d.t] := by
 intro l
 induction l using Tm.indL with
 | h0 => intro _ h; simp only [onL] at h; exact absurd h occL_nil
 | h n l r ihl ihr =>
  intro he h
  obtain ⟨g1, g2, g3⟩ := errL_parts he
  rw [onL_cons, occL_cons] at h
  rcases h with h | h
  ·cases hv : varB n with
   | false =>
    rw [onT_sym2 hs hv, occL_node] at h
    rcases h with h | h | h
    ·rw [h, hy] at hv; cases hv
    ·rcases ihl g2 h with ⟨h1, h2⟩ | ⟨d, hd, h1, h2⟩
     ·exact Or.inl ⟨occL_node.2 (Or.inr (Or.inl h1)), h2⟩
     ·exact Or.inr ⟨d, hd, occL_node.2 (Or.inr (Or.inl h1)), h2⟩
    ·exact absurd h occL_nil
   | true =>
    have e := g1 hv
    subst e
    rw [onT_leaf] at h
    cases hf : forT s n with
    | none =>
     rw [hf] at h
     rcases occL_node.1 h with h | h | h
     ·subst h; exact Or.inl ⟨occL_node.2 (Or.inl rfl), hf⟩
     ·exact absurd h occL_nil
     ·exact absurd h occL_nil
    | some x =>
     rw [hf] at h
     obtain ⟨d, hd, e1, e2⟩ := forT_mem hf
     refine Or.inr ⟨d, hd, occL_node.2 (Or.inl e1.symm), ?_⟩
     rw [e2]; exact h
  ·rcases ihr g3 h with ⟨h1, h2⟩ | ⟨d, hd, h1, h2⟩
   ·exact Or.inl ⟨occL_node.2 (Or.inr (Or.inr h1)), h2⟩
   ·exact Or.inr ⟨d, hd, occL_node.2 (Or.inr (Or.inr h1)), h2⟩
theorem OkS.vars {s : List Bd} (h : OkS s) : ∀ d ∈ s, varB d.nm = true := fun d hd => (h.2.1 d hd).1
theorem OkS.gone {s : List Bd} (h : OkS s) {l : List Tm} (he : errL l = 0) : ∀ e ∈ s, ¬ occL e.nm (onL s l) := by
 intro e hm ho
 rcases occ_on h.vars (h.vars e hm) l he ho with ⟨_, h2⟩ | ⟨d, hd, _, h2⟩
 ·obtain ⟨t, ht⟩ := forT_some_of hm
  rw [ht] at h2; cases h2
 ·exact h.2.2 d hd e hm h2
theorem OkS.idem {s : List Bd} (h : OkS s) {l : List Tm} (he : errL l = 0) : onL s (onL s l) = onL s l := onL_id _ (h.gone he)
theorem errL_on2 {s : List Bd} (h : OkS s) : ∀ l : List Tm, errL l = 0 → errL (onL s l) = 0 := by
 intro l
 induction l using Tm.indL with
 | h0 => intro _; simp [onL, errL]
 | h n l r ihl ihr =>
  intro he
  obtain ⟨g1, g2, g3⟩ := errL_parts he
  have hn := errL_name he
  rw [onL_cons]
  have key : errL [onT s ⟨n, l⟩] = 0 := by
   cases hv : varB n with
   | false => rw [onT_sym2 h.vars hv]; exact err_node hn hv (ihl g2)
   | true =>
    have e := g1 hv
    subst e
    rw [onT_leaf]
    cases hf : forT s n with
    | none => exact err_leaf hn
    | some x =>
     obtain ⟨d, hd, _, e2⟩ := forT_mem hf
     have h3 := (h.2.1 d hd).2
     rw [e2] at h3
     exact h3
  rw [errL_cons, if_pos key]
  exact ihr g3
theorem onT_of {P : List Tm → List Tm → Prop} {s : List Bd} {t : Tm} (h : P [t] (onL s [t])) : P [t] [onT s t] := by
 rw [onL_cons] at h
 simpa [onL] using h
theorem errL_onT2 {s : List Bd} (h : OkS s) {t : Tm} (he : errL [t] = 0) : errL [onT s t] = 0 := onT_of (P := fun _ b => errL b = 0) (errL_on2 h [t] he)
theorem OkS.goneT {s : List Bd} (h : OkS s) {t : Tm} (he : errL [t] = 0) : ∀ e ∈ s, ¬ occL e.nm [onT s t] := onT_of (P := fun _ b => ∀ e ∈ s, ¬ occL e.nm b) (h.gone he)
theorem forT_perm {a b : List Bd} (hp : a.Perm b) (ha : ApartB b) (n : ByteArray) : forT a n = forT b n := by
 have ha' : ApartB a := ha.perm hp
 cases h1 : forT b n with
 | some x =>
  obtain ⟨d, hd, e1, e2⟩ := forT_mem h1
  have h2 := forT_of ha' (hp.symm.subset hd)
  rw [e1, e2] at h2
  exact h2
 | none =>
  cases h2 : forT a n with
  | none => rfl
  | some x =>
   obtain ⟨d, hd, e1, e2⟩ := forT_mem h2
   have h3 := forT_of ha (hp.subset hd)
   rw [e1, h1] at h3
   cases h3
theorem forT_put (x : ByteArray) (t : Tm) (s : List Bd) (n : ByteArray) : forT (s.map (putB x t)) n = (forT s n).map (onT [⟨x, t⟩]) := by
 induction s with
 | nil => rfl
 | cons d r ih =>
  rw [List.map_cons, forT, forT]
  by_cases e : d.nm = n
  ·rw [if_pos e, if_pos (show (putB x t d).nm = n from e)]; rfl
  ·rw [if_neg e, if_neg (show ¬ (putB x t d).nm = n from e)]; exact ih
def addS (s : List Bd) (x : ByteArray) (t : Tm) : List Bd := srtB (s.map (putB x t) ++ [⟨x, t⟩])
theorem add_apart {s : List Bd} {x : ByteArray} {t : Tm} (h : ApartB s) (hx : ∀ d ∈ s, d.nm ≠ x) : ApartB (s.map (putB x t) ++ [⟨x, t⟩]) := by
 refine List.pairwise_append.2 ⟨List.pairwise_map.2 h, by simp, fun a ha b hb => ?_⟩
 obtain ⟨d, hd, rfl⟩ := List.mem_map.1 ha
 have e : b = ⟨x, t⟩ := by simpa using hb
 rw [e]
 exact hx d hd
theorem add_val {s : List Bd} {x : ByteArray} {t : Tm} (h : ApartB s) (hx : ∀ d ∈ s, d.nm ≠ x) (n : ByteArray) : onT (addS s x t) ⟨n, []⟩ = onT [⟨x, t⟩] (onT s ⟨n, []⟩) := by
 rw [onT_leaf (addS s x t)]
 unfold addS
 rw [forT_perm (srtB_perm _) (add_apart h hx), forT_append, forT_put, onT_leaf s]
 cases hf : forT s n with
 | some u => rfl
 | none =>
  show (forT [⟨x, t⟩] n).getD _ = onT [⟨x, t⟩] ⟨n, []⟩
  rw [onT_leaf]
theorem one_vars {x : ByteArray} {t : Tm} (hx : varB x = true) : ∀ d ∈ [(⟨x, t⟩ : Bd)], varB d.nm = true := fun d hd => by
 have e : d = ⟨x, t⟩ := by simpa using hd
 rw [e]; exact hx
theorem OkS.add {s : List Bd} (h : OkS s) {x : ByteArray} {t : Tm} (hx : varB x = true) (hn : ∀ d ∈ s, d.nm ≠ x) (he : errL [t] = 0) (ht : ∀ e ∈ s, ¬ occL e.nm [t]) (ho : ¬ occL x [t]) : OkS (addS s x t) := by
 have O1 : OkS [(⟨x, t⟩ : Bd)] := by
  refine ⟨by simp [ApartB], fun d hd => ?_, fun d hd e hm => ?_⟩
  ·have e : d = ⟨x, t⟩ := by simpa using hd
   rw [e]; exact ⟨hx, he⟩
  ·have e1 : d = ⟨x, t⟩ := by simpa using hd
   have e2 : e = ⟨x, t⟩ := by simpa using hm
   rw [e1, e2]; exact ho
 have hp := srtB_perm (s.map (putB x t) ++ [⟨x, t⟩])
 have hmem : ∀ d ∈ addS s x t, (∃ d0 ∈ s, d = putB x t d0) ∨ d = ⟨x, t⟩ := fun d hd => by
  rcases List.mem_append.1 (hp.subset hd) with hd | hd
  ·obtain ⟨d0, h0, rfl⟩ := List.mem_map.1 hd
   exact Or.inl ⟨d0, h0, rfl⟩
  ·exact Or.inr (by simpa using hd)
 have hnot : ∀ d0 ∈ s, ∀ y, varB y = true → (y = x ∨ ∃ e ∈ s, e.nm = y) → ¬ occL y [onT [⟨x, t⟩] d0.t] := fun d0 h0 y hy hyy hoc => by
  have h1 : occL y (onL [⟨x, t⟩] [d0.t]) := by rw [onL_cons]; simpa [onL] using hoc
  rcases occ_on O1.vars hy [d0.t] (h.2.1 d0 h0).2 h1 with ⟨h2, h3⟩ | ⟨d, hd, h2, h3⟩
  ·rcases hyy with rfl | ⟨e, hm, rfl⟩
   ·simp [forT] at h3
   ·exact h.2.2 d0 h0 e hm h2
  ·have e1 : d = ⟨x, t⟩ := by simpa using hd
   subst e1
   rcases hyy with rfl | ⟨e, hm, rfl⟩
   ·exact ho h3
   ·exact ht e hm h3
 refine ⟨(add_apart h.1 hn).perm hp, fun d hd => ?_, fun d hd e hm => ?_⟩
 ·rcases hmem d hd with ⟨d0, h0, rfl⟩ | rfl
  ·exact ⟨(h.2.1 d0 h0).1, errL_onT2 O1 (h.2.1 d0 h0).2⟩
  ·exact ⟨hx, he⟩
 ·have hy : e.nm = x ∨ ∃ e0 ∈ s, e0.nm = e.nm := by
   rcases hmem e hm with ⟨e0, h0, rfl⟩ | rfl
   ·exact Or.inr ⟨e0, h0, rfl⟩
   ·exact Or.inl rfl
  have hyv : varB e.nm = true := by
   rcases hy with h1 | ⟨e0, h0, h1⟩
   ·rw [h1]; exact hx
   ·rw [← h1]; exact (h.2.1 e0 h0).1
  rcases hmem d hd with ⟨d0, h0, rfl⟩ | rfl
  ·exact hnot d0 h0 e.nm hyv hy
  ·rcases hy with h1 | ⟨e0, h0, h1⟩
   ·rw [h1]; exact ho
   ·rw [← h1]; exact ht e0 h0
theorem add_on {s : List Bd} (h : OkS s) {x : ByteArray} {t : Tm} (hx : varB x = true) (hn : ∀ d ∈ s, d.nm ≠ x) (hs : OkS (addS s x t)) : ∀ l : List Tm, errL l = 0 → onL (addS s x t) l = onL [⟨x, t⟩] (onL s l) := by
 intro l
 induction l using Tm.indL with
 | h0 => intro _; simp [onL]
 | h n l r ihl ihr =>
  intro he
  obtain ⟨g1, g2, g3⟩ := errL_parts he
  rw [onL_cons, onL_cons, onL_cons, ihr g3]
  congr 1
  cases hv : varB n with
  | false => rw [onT_sym2 hs.vars hv, onT_sym2 h.vars hv, onT_sym2 (one_vars hx) hv, ihl g2]
  | true =>
   have e := g1 hv
   subst e
   exact add_val h.1 hn n
def flatP : List Pr → List Tm
 | [] => []
 | p :: l => p.l :: p.r :: flatP l
theorem flatP_append : ∀ a b : List Pr, flatP (a ++ b) = flatP a ++ flatP b
 | [], b => rfl
 | p :: a, b => by rw [List.cons_append, flatP, flatP, flatP_append a b]; rfl
theorem size_cons (t : Tm) (r : List Tm) : sizeL (t :: r) = sizeL [t] + sizeL r := by
 obtain ⟨s, l⟩ := t
 simp [sizeL]
theorem err_two {t : Tm} {r : List Tm} : errL (t :: r) = 0 ↔ errL [t] = 0 ∧ errL r = 0 := by
 rw [errL_cons]
 constructor
 ·intro h
  by_cases e : errL [t] = 0
  ·rw [if_pos e] at h; exact ⟨e, h⟩
  ·rw [if_neg e] at h; exact absurd h e
 ·rintro ⟨h1, h2⟩
  rw [if_pos h1]; exact h2
theorem err_append : ∀ {a b : List Tm}, errL (a ++ b) = 0 ↔ errL a = 0 ∧ errL b = 0
 | [], b => by simp [errL]
 | t :: a, b => by
  rw [List.cons_append, err_two, err_append, err_two (r := a), and_assoc]
theorem zip_occ {y : ByteArray} : ∀ {a b : List Tm}, occL y (flatP (zipP a b)) → occL y a ∨ occL y b
 | [], _, h => by simp only [zipP, flatP] at h; exact absurd h occL_nil
 | _ :: _, [], h => by simp only [zipP, flatP] at h; exact absurd h occL_nil
 | t :: a, u :: b, h => by
  rw [zipP, flatP, occL_cons, occL_cons (t := u)] at h
  rw [occL_cons, occL_cons (t := u)]
  rcases h with h | h | h
  ·exact Or.inl (Or.inl h)
  ·exact Or.inr (Or.inl h)
  ·rcases zip_occ h with h | h
   ·exact Or.inl (Or.inr h)
   ·exact Or.inr (Or.inr h)
theorem zip_size : ∀ {a b : List Tm}, sizeL (flatP (zipP a b)) ≤ sizeL a + sizeL b
 | [], _ => by simp [zipP, flatP, sizeL]
 | _ :: _, [] => by simp [zipP, flatP, sizeL]
 | t :: a, u :: b => by
  rw [zipP, flatP]
  have h0 := zip_size (a := a) (b := b)
  have h1 := size_cons t (u :: flatP (zipP a b))
  have h2 := size_cons u (flatP (zipP a b))
  have h3 := size_cons t a
  have h4 := size_cons u b
  simp only at h1 h2 ⊢
  omega
theorem zip_err : ∀ {a b : List Tm}, errL a = 0 → errL b = 0 → errL (flatP (zipP a b)) = 0
 | [], _, _, _ => by simp [zipP, flatP, errL]
 | _ :: _, [], _, _ => by simp [zipP, flatP, errL]
 | t :: a, u :: b, h1, h2 => by
  rw [zipP, flatP]
  obtain ⟨g1, g2⟩ := err_two.1 h1
  obtain ⟨g3, g4⟩ := err_two.1 h2
  exact err_two.2 ⟨g1, err_two.2 ⟨g3, zip_err g2 g4⟩⟩
def occB (y : ByteArray) (l : List Tm) : Bool := (preL l).any fun k => k.name.toList == y.toList
theorem occB_iff {y : ByteArray} {l : List Tm} : occB y l = true ↔ occL y l := by
 unfold occB occL
 rw [List.any_eq_true]
 constructor
 ·rintro ⟨k, hk, e⟩
  exact ⟨k, hk, bytes_inj (by simpa using e)⟩
 ·rintro ⟨k, hk, e⟩
  exact ⟨k, hk, bytes_yes e⟩
def cntV (V : List ByteArray) (l : List Tm) : Nat := (V.filter fun y => occB y l).length
theorem filter_le {α : Type} {p q : α → Bool} : ∀ V : List α, (∀ y ∈ V, q y = true → p y = true) → (V.filter q).length ≤ (V.filter p).length
 | [], _ => by simp
 | v :: V, h => by
  have ih := filter_le V fun y hy => h y (by simp [hy])
  cases hq : q v with
  | true =>
   rw [List.filter_cons_of_pos hq, List.filter_cons_of_pos (h v (by simp) hq)]
   simp only [List.length_cons]
   omega
  | false =>
   rw [List.filter_cons_of_neg (by rw [hq]; simp)]
   cases hp : p v with
   | true => rw [List.filter_cons_of_pos hp]; simp only [List.length_cons]; omega
   | false => rw [List.filter_cons_of_neg (by rw [hp]; simp)]; exact ih
theorem filter_lt {α : Type} {p q : α → Bool} : ∀ V : List α, (∀ y ∈ V, q y = true → p y = true) → (∃ x ∈ V, p x = true ∧ q x = false) → (V.filter q).length < (V.filter p).length
 | [], _, ⟨x, hx, _⟩ => by cases hx
 | v :: V, h, ⟨x, hx, h1, h2⟩ => by
  have hle := filter_le V fun y hy => h y (by simp [hy])
  rcases List.mem_cons.1 hx with rfl | hx
  ·rw [List.filter_cons_of_neg (by rw [h2]; simp), List.filter_cons_of_pos h1]
   simp only [List.length_cons]
   omega
  ·have ih := filter_lt V (fun y hy => h y (by simp [hy])) ⟨x, hx, h1, h2⟩
   cases hq : q v with
   | true =>
    rw [List.filter_cons_of_pos hq, List.filter_cons_of_pos (h v (by simp) hq)]
    simp only [List.length_cons]
    omega
   | false =>
    rw [List.filter_cons_of_neg (by rw [hq]; simp)]
    cases hp : p v with
    | true => rw [List.filter_cons_of_pos hp]; simp only [List.length_cons]; omega
    | false => rw [List.filter_cons_of_neg (by rw [hp]; simp)]; exact ih
theorem not_inB {x : ByteArray} {t : Tm} (hx : varB x = true) (h : ¬ inB x (varsP [] (preL [t])) = true) : ¬ occL x [t] := by
 rintro ⟨k, hk, e⟩
 have h1 := (varsP_has (preL [t]) []).2 k hk (by rw [e]; exact hx)
 refine h ?_
 unfold inB
 rw [List.any_eq_true]
 exact ⟨k.name, h1, bytes_yes e⟩
theorem bind_facts {s : List Bd} {L : List Tm} {x : ByteArray} {t : Tm} (h : OkS s) (hx : varB x = true) (hn : ∀ d ∈ s, d.nm ≠ x) (he : errL [t] = 0) (ht : ∀ e ∈ s, ¬ occL e.nm [t]) (ho : ¬ occL x [t]) (hL : errL L = 0) :
  OkS (addS s x t) ∧ (∀ y, varB y = true → occL y (onL (addS s x t) L) → occL y (onL s L) ∨ occL y [t]) ∧ ¬ occL x (onL (addS s x t) L) := by
 have h1 := h.add hx hn he ht ho
 have h2 := add_on h hx hn h1 L hL
 have key : ∀ y, varB y = true → occL y (onL (addS s x t) L) → (occL y (onL s L) ∧ forT [⟨x, t⟩] y = none) ∨ occL y [t] := fun y hy hoc => by
  rw [h2] at hoc
  rcases occ_on (one_vars hx) hy _ (errL_on2 h L hL) hoc with h3 | ⟨d, hd, _, h4⟩
  ·exact Or.inl h3
  ·have e : d = ⟨x, t⟩ := by simpa using hd
   rw [e] at h4
   exact Or.inr h4
 refine ⟨h1, fun y hy hoc => (key y hy hoc).imp (fun h => h.1) id, fun hoc => ?_⟩
 rcases key x hx hoc with ⟨_, h3⟩ | h3
 ·simp [forT] at h3
 ·exact ho h3
theorem u_ends (V : List ByteArray) : ∀ (c z : Nat) (s : List Bd) (l : List Pr), OkS s → errL (flatP l) = 0 → (∀ y, varB y = true → occL y (onL s (flatP l)) → y ∈ V) → cntV (V.filter varB) (onL s (flatP l)) ≤ c → sizeL (onL s (flatP l)) ≤ z → ∃ n r, uRun false n s l = some r := by
 intro c
 induction c using Nat.strongRecOn with
 | _ c ihc =>
  intro z
  induction z using Nat.strongRecOn with
  | _ z ihz =>
   intro s l hs he hV hc hz
   have stop : ∀ e s', uNext false s l = .stop e s' → ∃ n r, uRun false n s l = some r := fun e s' h => ⟨1, (e, s'), by rw [uRun, h]⟩
   have go : ∀ s' l', uNext false s l = .go s' l' → (∃ n r, uRun false n s' l' = some r) → ∃ n r, uRun false n s l = some r := fun s' l' h ⟨n, r, h2⟩ => ⟨n + 1, r, by rw [uRun, h]; exact h2⟩
   cases l with
   | nil => exact stop 0 s rfl
   | cons p l =>
    obtain ⟨e1, e2⟩ := err_two.1 he
    obtain ⟨e2, e3⟩ := err_two.1 e2
    have ea := errL_onT2 hs e1
    have eb := errL_onT2 hs e2
    have ga := hs.goneT e1
    have gb := hs.goneT e2
    rw [flatP, onL_cons, onL_cons] at hV hc hz
    rw [uNext_cons] at stop go
    generalize onT s p.l = a at *
    generalize onT s p.r = b at *
    have hself : ∀ u : Tm, occL u.name [u] := fun u => by obtain ⟨n, k⟩ := u; exact occL_node.2 (Or.inl rfl)
    have inA : ∀ y, occL y [a] → occL y (a :: b :: onL s (flatP l)) := fun y h => occL_cons.2 (Or.inl h)
    have inBb : ∀ y, occL y [b] → occL y (a :: b :: onL s (flatP l)) := fun y h => occL_cons.2 (Or.inr (occL_cons.2 (Or.inl h)))
    have inL : ∀ y, occL y (onL s (flatP l)) → occL y (a :: b :: onL s (flatP l)) := fun y h => occL_cons.2 (Or.inr (occL_cons.2 (Or.inr h)))
    have hsz : sizeL (a :: b :: onL s (flatP l)) = sizeL [a] + (sizeL [b] + sizeL (onL s (flatP l))) := by rw [size_cons, size_cons b]
    have pa := sizeL_pos a
    have pb := sizeL_pos b
    have same : ∀ l2, errL (flatP l2) = 0 → (∀ y, occL y (onL s (flatP l2)) → occL y (a :: b :: onL s (flatP l))) → sizeL (onL s (flatP l2)) < sizeL (a :: b :: onL s (flatP l)) → ∃ n r, uRun false n s l2 = some r := fun l2 h1 h2 h3 =>
     ihz _ (Nat.lt_of_lt_of_le h3 hz) s l2 hs h1 (fun y hy ho => hV y hy (h2 y ho)) (Nat.le_trans (filter_le _ fun y hy hq => occB_iff.2 (h2 y (occB_iff.1 hq))) hc) (Nat.le_refl _)
    have bind : ∀ x t, varB x = true → (∀ d ∈ s, d.nm ≠ x) → errL [t] = 0 → (∀ e ∈ s, ¬ occL e.nm [t]) → occL x (a :: b :: onL s (flatP l)) → (∀ y, occL y [t] → occL y (a :: b :: onL s (flatP l))) → uPair false s l a b = uBind false s l x t → ∃ n r, uRun false n s (p :: l) = some r := fun x t hx hn het ht hox hot h => by
     unfold uBind at h
     by_cases hin : inB x (varsP [] (preL [t])) = true
     ·rw [if_pos hin] at h
      exact stop 6 s h
     ·rw [if_neg hin, if_neg (by simp)] at h
      have ho := not_inB hx hin
      obtain ⟨f1, f2, f3⟩ := bind_facts (L := flatP l) hs hx hn het ht ho e3
      have f2' : ∀ y, varB y = true → occL y (onL (addS s x t) (flatP l)) → occL y (a :: b :: onL s (flatP l)) := fun y hy hoc => (f2 y hy hoc).elim (inL y) (hot y)
      have hlt : cntV (V.filter varB) (onL (addS s x t) (flatP l)) < c := by
       refine Nat.lt_of_lt_of_le (filter_lt _ (fun y hy hq => occB_iff.2 (f2' y (List.mem_filter.1 hy).2 (occB_iff.1 hq))) ⟨x, List.mem_filter.2 ⟨hV x hx hox, hx⟩, occB_iff.2 hox, ?_⟩) hc
       cases hq : occB x (onL (addS s x t) (flatP l)) with
       | false => rfl
       | true => exact absurd (occB_iff.1 hq) f3
      exact go _ l h (ihc _ hlt _ _ _ f1 e3 (fun y hy hoc => hV y hy (f2' y hy hoc)) (Nat.le_refl _) (Nat.le_refl _))
    by_cases h1 : 2000 < sizeL [a] ∨ 2000 < sizeL [b]
    ·exact stop 8 s (by unfold uPair; rw [if_pos h1])
    ·by_cases h2 : varB a.name = true
     ·by_cases h3 : a.name = b.name
      ·exact go s l (by unfold uPair; rw [if_neg h1, if_pos h2, if_pos h3]) (same l e3 inL (by omega))
      ·exact bind a.name b h2 (fun d hd e => ga d hd (by rw [e]; exact hself a)) eb gb (inA _ (hself a)) inBb (by unfold uPair; rw [if_neg h1, if_pos h2, if_neg h3])
     ·by_cases h3 : varB b.name = true
      ·exact bind b.name a h3 (fun d hd e => gb d hd (by rw [e]; exact hself b)) ea ga (inBb _ (hself b)) inA (by unfold uPair; rw [if_neg h1, if_neg h2, if_pos h3])
      ·by_cases h4 : a.name = b.name ∧ a.args.length = b.args.length
       ·refine go s (zipP a.args b.args ++ l) (by unfold uPair; rw [if_neg h1, if_neg h2, if_neg h3, if_pos h4]) ?_
        have sub : ∀ (u : Tm) y, occL y u.args → occL y [u] := fun u y h => by obtain ⟨n, k⟩ := u; exact occL_node.2 (Or.inr (Or.inl h))
        have erg : ∀ u : Tm, errL [u] = 0 → errL u.args = 0 := fun u h => by obtain ⟨n, k⟩ := u; exact (errL_parts h).2.1
        have szg : ∀ u : Tm, sizeL [u] = 1 + sizeL u.args := fun u => by obtain ⟨n, k⟩ := u; simp [sizeL]
        have hfl : onL s (flatP (zipP a.args b.args ++ l)) = flatP (zipP a.args b.args) ++ onL s (flatP l) := by
         rw [flatP_append, onL_append, onL_id]
         intro e hm hoc
         rcases zip_occ hoc with hoc | hoc
         ·exact ga e hm (sub a _ hoc)
         ·exact gb e hm (sub b _ hoc)
        refine same _ ?_ ?_ ?_
        ·rw [flatP_append]
         exact err_append.2 ⟨zip_err (erg a ea) (erg b eb), e3⟩
        ·intro y hoc
         rw [hfl] at hoc
         rcases occL_append.1 hoc with hoc | hoc
         ·rcases zip_occ hoc with hoc | hoc
          ·exact inA y (sub a y hoc)
          ·exact inBb y (sub b y hoc)
         ·exact inL y hoc
        ·rw [hfl, sizeL_append, hsz, szg a, szg b]
         have := zip_size (a := a.args) (b := b.args)
         omega
       ·exact stop 5 s (by unfold uPair; rw [if_neg h1, if_neg h2, if_neg h3, if_neg h4])
theorem u_ends0 (l : List Pr) (h : errL (flatP l) = 0) : ∃ n r, uRun false n [] l = some r := by
 refine u_ends ((preL (onL [] (flatP l))).map (·.name)) _ _ [] l okS_nil h (fun y _ hoc => ?_) (Nat.le_refl _) (Nat.le_refl _)
 obtain ⟨k, hk, e⟩ := hoc
 exact List.mem_map.2 ⟨k, hk, e⟩
def sAt (h : List (ByteArray × Tm)) : List Bd := h.foldl (fun s p => addS s p.1 p.2) []
theorem sAt_snoc (h : List (ByteArray × Tm)) (p : ByteArray × Tm) : sAt (h ++ [p]) = addS (sAt h) p.1 p.2 := by simp [sAt]
theorem sAt_take {h : List (ByteArray × Tm)} {j : Nat} (hj : j < h.length) : sAt (h.take (j + 1)) = addS (sAt (h.take j)) h[j].1 h[j].2 := by
 rw [List.take_succ_eq_append_getElem hj, sAt_snoc]
def MayAdd (s : List Bd) (x : ByteArray) (t : Tm) : Prop := varB x = true ∧ (∀ d ∈ s, d.nm ≠ x) ∧ errL [t] = 0 ∧ (∀ e ∈ s, ¬ occL e.nm [t]) ∧ ¬ occL x [t]
def GoodH (h : List (ByteArray × Tm)) : Prop := ∀ j (hj : j < h.length), MayAdd (sAt (h.take j)) h[j].1 h[j].2
theorem goodH_nil : GoodH [] := fun j hj => by simp at hj
theorem GoodH.snoc {h : List (ByteArray × Tm)} (g : GoodH h) {x : ByteArray} {t : Tm} (m : MayAdd (sAt h) x t) : GoodH (h ++ [(x, t)]) := by
 intro j hj
 by_cases e : j < h.length
 ·have h1 := g j e
  rw [List.take_append_of_le_length (by omega)]
  rw [List.getElem_append_left e]
  exact h1
 ·have e2 : j = h.length := by simp at hj; omega
  subst e2
  rw [List.take_append_of_le_length (by omega), List.take_length]
  simpa using m
theorem GoodH.ok {h : List (ByteArray × Tm)} (g : GoodH h) : ∀ j, j ≤ h.length → OkS (sAt (h.take j))
 | 0, _ => by simpa [sAt] using okS_nil
 | j + 1, hj => by
  rw [sAt_take (by omega)]
  obtain ⟨m1, m2, m3, m4, m5⟩ := g j (by omega)
  exact (g.ok j (by omega)).add m1 m2 m3 m4 m5
theorem GoodH.all {h : List (ByteArray × Tm)} (g : GoodH h) : OkS (sAt h) := by
 have := g.ok h.length (Nat.le_refl _)
 rwa [List.take_length] at this
theorem GoodH.absorb {h : List (ByteArray × Tm)} (g : GoodH h) {i : Nat} : ∀ j, i ≤ j → j ≤ h.length → ∀ L : List Tm, errL L = 0 → onL (sAt (h.take j)) (onL (sAt (h.take i)) L) = onL (sAt (h.take j)) L
 | 0, hi, _, L, he => by
  have e : i = 0 := by omega
  subst e
  exact (g.ok 0 (Nat.zero_le _)).idem he
 | j + 1, hi, hj, L, he => by
  by_cases e : i = j + 1
  ·subst e
   exact (g.ok _ hj).idem he
  ·have ih := g.absorb (i := i) j (by omega) (by omega) L he
   have o1 := g.ok j (by omega)
   have o2 := g.ok (j + 1) hj
   have hjl2 : j < h.length := by omega
   obtain ⟨m1, m2, _⟩ := g j hjl2
   rw [sAt_take (h := h) (j := j) (by omega)] at o2 ⊢
   rw [add_on o1 m1 m2 o2 _ (errL_on2 (g.ok i (by omega)) L he), add_on o1 m1 m2 o2 L he, ih]
theorem GoodH.bound {h : List (ByteArray × Tm)} (g : GoodH h) : ∀ j, j ≤ h.length → ∀ y, (∃ d ∈ sAt (h.take j), d.nm = y) ↔ ∃ i, ∃ hi : i < h.length, i < j ∧ h[i].1 = y
 | 0, _, y => by simp [sAt]
 | j + 1, hj, y => by
  have ih := g.bound j (by omega) y
  rw [sAt_take (by omega)]
  have hp := srtB_perm ((sAt (h.take j)).map (putB h[j].1 h[j].2) ++ [⟨h[j].1, h[j].2⟩])
  constructor
  ·rintro ⟨d, hd, e⟩
   rcases List.mem_append.1 (hp.subset hd) with hd | hd
   ·obtain ⟨d0, h0, rfl⟩ := List.mem_map.1 hd
    obtain ⟨i, hi, h1, h2⟩ := ih.1 ⟨d0, h0, e⟩
    exact ⟨i, hi, by omega, h2⟩
   ·have e2 : d = ⟨h[j].1, h[j].2⟩ := by simpa using hd
    rw [e2] at e
    exact ⟨j, by omega, by omega, e⟩
  ·rintro ⟨i, hi, h1, h2⟩
   by_cases e : i = j
   ·subst e
    exact ⟨⟨h[i].1, h[i].2⟩, hp.symm.subset (by simp), h2⟩
   ·obtain ⟨d0, h0, e0⟩ := ih.2 ⟨i, hi, by omega, h2⟩
    exact ⟨putB h[j].1 h[j].2 d0, hp.symm.subset (List.mem_append.2 (Or.inl (List.mem_map.2 ⟨d0, h0, rfl⟩))), e0⟩
theorem GoodH.once {h : List (ByteArray × Tm)} (g : GoodH h) {i j : Nat} (hi : i < h.length) (hj : j < h.length) (e : h[i].1 = h[j].1) : i = j := by
 have key : ∀ a b (ha : a < h.length) (hb : b < h.length), a < b → h[a].1 ≠ h[b].1 := fun a b ha hb hab e => by
  obtain ⟨d, hd, e1⟩ := (g.bound b (by omega) h[a].1).2 ⟨a, ha, hab, rfl⟩
  exact (g b hb).2.1 d hd (e1.trans e)
 rcases Nat.lt_trichotomy i j with h1 | h1 | h1
 ·exact absurd e (key i j hi hj h1)
 ·exact h1
 ·exact absurd e.symm (key j i hj hi h1)
def stood (h : List (ByteArray × Tm)) (i j : Nat) (hi : i < h.length) : Tm := onT (sAt (h.take j)) ⟨h[i].1, []⟩
theorem onT_absorb {h : List (ByteArray × Tm)} (g : GoodH h) {i j : Nat} (hij : i ≤ j) (hj : j ≤ h.length) {t : Tm} (he : errL [t] = 0) : onT (sAt (h.take j)) (onT (sAt (h.take i)) t) = onT (sAt (h.take j)) t := by
 have h1 := g.absorb j hij hj [t] he
 rw [onL_cons, onL_cons, onL_cons] at h1
 simpa [onL] using h1
theorem stood_on {h : List (ByteArray × Tm)} (g : GoodH h) {i j : Nat} (hi : i < h.length) (hj : j ≤ h.length) (hn : nameB h[i].1 = true) : onT (sAt h) (stood h i j hi) = stood h i h.length hi := by
 have h1 := onT_absorb g hj (Nat.le_refl _) (err_leaf hn)
 unfold stood
 rw [List.take_length] at h1 ⊢
 exact h1
theorem stood_later {h : List (ByteArray × Tm)} (g : GoodH h) {i j k : Nat} (hi : i < h.length) (hj : j ≤ h.length) (hn : nameB h[i].1 = true) (hk : k < h.length) (ho : occL h[k].1 [stood h i j hi]) : j ≤ k := by
 rcases Nat.lt_or_ge k j with h1 | h1
 ·obtain ⟨d, hd, e⟩ := (g.bound j hj h[k].1).2 ⟨k, hk, h1, rfl⟩
  have h2 := (g.ok j hj).goneT (err_leaf hn) d hd
  rw [e] at h2
  exact absurd ho h2
 ·exact h1
set_option maxRecDepth 8000
structure ExQ (Q : Nat → Prop) (w w' : World) : Prop where
 os : w'.os = w.os
 tape : w'.tape = w.tape
 output : w'.output = w.output
 size : w.heap.size ≤ w'.heap.size
 block : ∀ k, k < w.heap.size → ¬ Q k → w'.heap[k]? = w.heap[k]?
theorem ExQ.refl (Q : Nat → Prop) (w : World) : ExQ Q w w := ⟨rfl, rfl, rfl, Nat.le_refl _, fun _ _ _ => rfl⟩
theorem ExQ.trans {Q : Nat → Prop} {a b c : World} (h : ExQ Q a b) (k : ExQ Q b c) : ExQ Q a c :=
 ⟨k.os.trans h.os, k.tape.trans h.tape, k.output.trans h.output, Nat.le_trans h.size k.size, fun i hi hn => (k.block i (Nat.lt_of_lt_of_le hi h.size) hn).trans (h.block i hi hn)⟩
theorem ExQ.transN {Q R : Nat → Prop} {a b c : World} (h : ExQ Q a b) (k : ExQ R b c) (hR : ∀ i, R i → i < a.heap.size → Q i) : ExQ Q a c :=
 ⟨k.os.trans h.os, k.tape.trans h.tape, k.output.trans h.output, Nat.le_trans h.size k.size, fun i hi hn => (k.block i (Nat.lt_of_lt_of_le hi h.size) (fun hr => hn (hR i hr hi))).trans (h.block i hi hn)⟩
theorem ExQ.mono {Q R : Nat → Prop} {a b : World} (h : ExQ Q a b) (hR : ∀ i, Q i → i < a.heap.size → R i) : ExQ R a b := ⟨h.os, h.tape, h.output, h.size, fun i hi hn => h.block i hi (fun hq => hn (hR i hq hi))⟩
theorem ExQ.drewN {Q : Nat → Prop} {a w : World} (h : ExQ Q a w) (n : Nat) : ExQ Q a (w.drewN n) := ⟨h.os, h.tape, h.output, h.size, h.block⟩
theorem ExQ.drew {Q : Nat → Prop} {a w : World} (h : ExQ Q a w) : ExQ Q a w.drew := ⟨h.os, h.tape, h.output, h.size, h.block⟩
theorem ExQ.set {Q : Nat → Prop} {a w : World} (h : ExQ Q a w) {B : Nat} (hB : Q B) (i : Nat) (v : Value) : ExQ Q a (w.setCell ⟨B, i, none⟩ v) :=
 ⟨h.os, h.tape, h.output, by simpa [World.setCell] using h.size, fun k hk hn => (Below.heap_setCell _ _ _ _ (by simp; intro e; subst e; exact hn hB)).trans (h.block k hk hn)⟩
theorem ExQ.alloc {Q : Nat → Prop} {a w : World} (h : ExQ Q a w) (o : Obj) : ExQ Q a (w.alloc o) :=
 ⟨h.os, h.tape, h.output, by have := h.size; simp; omega, fun k hk hn => (Below.heap_alloc _ _ _ (Nat.lt_of_lt_of_le hk h.size)).trans (h.block k hk hn)⟩
theorem ExQ.grown {Q : Nat → Prop} {a w w' : World} {row : Option Nat} (h : ExQ Q a w) (hg : w.grownBy w' row) (hr : ∀ k, row = some k → a.heap.size ≤ k ∨ Q k) : ExQ Q a w' :=
 ⟨hg.os.trans h.os, hg.tape.trans h.tape, hg.output.trans h.output, Nat.le_trans h.size hg.size, fun k hk hn => (hg.block k (Nat.lt_of_lt_of_le hk h.size) (fun e => by rcases hr k e.symm with h1 | h1; omega; exact hn h1)).trans (h.block k hk hn)⟩
theorem ExQ.setNew {Q : Nat → Prop} {a w : World} (h : ExQ Q a w) {b : Nat} (hb : a.heap.size ≤ b) (i : Nat) (v : Value) : ExQ Q a (w.setCell ⟨b, i, none⟩ v) :=
 ⟨h.os, h.tape, h.output, by simpa [World.setCell] using h.size, fun k hk hn => (Below.heap_setCell _ _ _ _ (by simp; omega)).trans (h.block k hk hn)⟩
theorem ExQ.ofBelow {Q : Nat → Prop} {w w' : World} (h : Below w.heap.size w w') : ExQ Q w w' := ⟨h.os, h.tape, h.output, h.size, fun k hk _ => h.block k hk⟩
theorem ExQ.ofEx {Q : Nat → Prop} {B : Nat} {w w' : World} (h : Ex B w w') (hB : Q B) : ExQ Q w w' := ⟨h.os, h.tape, h.output, h.size, fun k hk hn => h.block k hk (fun e => hn (by rw [e]; exact hB))⟩
theorem ExQ.below {Q : Nat → Prop} {w w' : World} {B : Nat} (h : ExQ Q w w') (hB : B ≤ w.heap.size) (hQ : ∀ b, Q b → B ≤ b) : Below B w w' :=
 ⟨h.os, h.tape, h.output, h.size, fun k hk => h.block k (by omega) (fun hq => by have := hQ k hq; omega)⟩
theorem Blk.exq {w w' : World} {Q : Nat → Prop} {b T : Nat} {cs : Array Value} (h : Blk w b cs T) (he : ExQ Q w w') (hne : ¬ Q b) : Blk w' b cs T := by
 unfold Blk at *
 rw [he.block b (Blk.lt h) hne]; exact h
theorem Sl.exq {w w' : World} {Q X : Nat → Prop} {a : Option Addr} {l : List Tm} (h : Sl w X a l) (he : ExQ Q w w') (hX : ∀ b, X b → ¬ Q b) : Sl w' X a l :=
 ((h.mono (Y := fun b => X b ∧ b < w.heap.size) fun b h1 h2 => ⟨h1, h2⟩).kept fun b hb => he.block b hb.2 (hX b hb.1)).mono fun b hb _ => hb.1
theorem ExQ.mid {Q : Nat → Prop} {w w1 : World} (h : ExQ Q w w1) : ∃ wm, Below wm.heap.size wm w1 ∧ wm.heap.size = w.heap.size ∧ ExQ Q w wm := by
 have hs := h.size
 have hz : (w1.heap.extract 0 w.heap.size).size = w.heap.size := by simp; omega
 refine ⟨{ w1 with heap := w1.heap.extract 0 w.heap.size }, ⟨rfl, rfl, rfl, by simp; omega, fun k hk => ?_⟩, hz, ⟨h.os, h.tape, h.output, by simp [hz], fun k hk hn => ?_⟩⟩
 ·have hk2 : k < w.heap.size := by simp at hk; omega
  simp [Array.getElem?_extract, hk2]
  omega
 ·rw [← h.block k hk hn]
  simp [Array.getElem?_extract, hk]
  omega
theorem ownsRow_at {w w' : World} {base e size n : Nat} {v : Value} {xs : List Value} (h : w.ownsRow base e size v n xs) (hk : ∀ g, v.ownBlock = some g → w'.heap[g]? = w.heap[g]?) : w'.ownsRow base e size v n xs := by
 obtain ⟨hl, h1⟩ := h
 refine ⟨hl, ?_⟩
 rcases h1 with h1 | ⟨g, cap, cur, hv, hg, hh, hr⟩
 ·exact Or.inl h1
 ·refine Or.inr ⟨g, cap, cur, hv, hg, ?_, hr⟩
  rw [hk g (by rw [hv]; rfl)]
  exact hh
theorem Row.exq {w w' : World} {Q : Nat → Prop} {N T : Nat} {Y : Nat → Prop} {v : Value} {l : List Tm} {xs : List Value} (h : Row w N T Y v l xs) (he : ExQ Q w w') (hQ : ∀ b, Q b → b < N) (hY : ∀ b, Q b → ¬ Y b) : Row w' N T Y v l xs :=
 ⟨ownsRow_at h.own fun g hg => he.block g (h.own.lt g hg).2 (fun hq => by have := hQ g hq; have := (h.own.lt g hg).1; omega),
  h.row.imp fun a l hs => hs.exq he fun b hb hq => by
   rcases hb with h1 | h1
   ·exact hY b hq h1
   ·have := hQ b hq; omega⟩
theorem BRow.exq {w w' : World} {Q : Nat → Prop} {N : Nat} {Y : Nat → Prop} {v : Value} {cs : List Bc} (h : BRow w N Y v cs) (he : ExQ Q w w') (hQ : ∀ b, Q b → b < N) (hY : ∀ b, Q b → ¬ Y b) : BRow w' N Y v cs :=
 ⟨ownsRow_at h.own fun g hg => he.block g (h.own.lt g hg).2 (fun hq => by have := hQ g hq; have := (h.own.lt g hg).1; omega),
  fun x hx => (h.row x hx).exq he fun b hb hq => by
   rcases hb with h1 | h1
   ·exact hY b hq h1
   ·have := hQ b hq; omega⟩
def gN (lk : ByteArray → Option Tm) (s : ByteArray) (bs : List Tm) : Tm := if varB s = true then (match lk s with | some x => x | none => ⟨s, bs⟩) else ⟨s, bs⟩
def gL (lk : ByteArray → Option Tm) : List Tm → List Tm
 | [] => []
 | ⟨s, a⟩ :: r => gN lk s (gL lk a) :: gL lk r
def gT (lk : ByteArray → Option Tm) (t : Tm) : Tm := gN lk t.name (gL lk t.args)
theorem gL_map (lk : ByteArray → Option Tm) : ∀ l : List Tm, gL lk l = l.map (gT lk)
 | [] => by simp [gL]
 | ⟨s, a⟩ :: r => by rw [gL, gL_map lk r]; rfl
theorem gL_append (lk : ByteArray → Option Tm) (a b : List Tm) : gL lk (a ++ b) = gL lk a ++ gL lk b := by simp [gL_map]
abbrev Ev := Bool → (Nat → Prop) → World → Prop
structure EvOk (E : Ev) (Mt : Nat → Prop) : Prop where
 keep : ∀ f Y w w', E f Y w → (∀ b, Y b → w'.heap[b]? = w.heap[b]?) → E f Y w'
 inY : ∀ f Y w, E f Y w → ∀ b, Y b → b < w.heap.size
 mt : ∀ f Y w, E f Y w → ∀ b, Mt b → Y b
theorem EvOk.below {E : Ev} {Mt : Nat → Prop} (h : EvOk E Mt) {f : Bool} {Y : Nat → Prop} {w w' : World} (he : E f Y w) (hb : Below w.heap.size w w') : E f Y w' := h.keep f Y w w' he fun b hy => hb.block b (h.inY f Y w he b hy)
def sV (S : Nat) : Value := .func (.func 129) #[.pointer (some ⟨S, 0, none⟩)] #[]
def LkPost (E : Ev) (Mt : Nat → Prop) (o : Option Tm) (f : Bool) (Y : Nat → Prop) (w : World) (e : Ending) (w' : World) : Prop :=
 ∃ (s : ByteArray) (a : Option Addr) (n c : Nat) (ok : Bool) (f' : Bool) (Y' : Nat → Prop), e = .returned (.tuple #[.agg #[.string s, .slice a n c], .bool ok]) ∧ E f' Y' w' ∧ (∀ b, Y' b → Y b ∨ w.heap.size ≤ b) ∧ (f = true → f' = true) ∧ ExQ Mt w w' ∧
  ((ok = true ∧ ∃ x : Tm, s = x.name ∧ n = x.args.length ∧ Sl w' Y' a x.args ∧ (f' = false → o = some x)) ∨ (ok = false ∧ (f' = false → o = none)))
def LkC (E : Ev) (Mt : Nat → Prop) (S : Nat) (o : Option Tm) (nm : ByteArray) : Prop :=
 ∀ (f : Bool) (Y : Nat → Prop) (w : World), E f Y w → Calls Tryz.prog 129 #[.pointer (some ⟨S, 0, none⟩), .string nm] w fun e w' => LkPost E Mt o f Y w e w'
def FlC (w : World) (tgt : Tm) (n : Nat) (f' : Bool) (s' : ByteArray) (a' : Option Addr) (l' : Nat) (m : Int) (k : Nat) (w' : World) : Prop :=
 (∃ y : Tm, s' = y.name ∧ l' = y.args.length ∧ m = (n : Int) - sizeL [y] ∧ sizeL [y] ≤ n ∧ Sl w' (fun b => w.heap.size + k ≤ b) a' y.args ∧ (f' = false → y = tgt)) ∨ (m = -1 ∧ (f' = false → n < sizeL [tgt]))
def FlPost (E : Ev) (Mt : Nat → Prop) (F : Nat) (sv : Value) (tgt : Tm) (n : Nat) (f : Bool) (Y : Nat → Prop) (w : World) (e : Ending) (w' : World) : Prop :=
 ∃ (s' : ByteArray) (a' : Option Addr) (l' c' : Nat) (m : Int) (f' : Bool) (Y' : Nat → Prop), e = .returned (.agg #[.string s', .slice a' l' c']) ∧ Blk w' F #[.int .i64 m, sv] 191 ∧ ExQ (fun b => b = F ∨ Mt b) w w' ∧ E f' Y' w' ∧ (∀ b, Y' b → Y b ∨ w.heap.size ≤ b) ∧ (f = true → f' = true) ∧ FlC w tgt n f' s' a' l' m 0 w'
theorem fl_end {E : Ev} {Mt : Nat → Prop} (hE : EvOk E Mt) {w w9 : World} {F : Nat} {sv : Value} {tgt : Tm} {n : Nat} {f f' : Bool} {Y Y' : Nat → Prop} {s' : ByteArray} {a' : Option Addr} {l' c' : Nat} {m : Int} {v0 v1 : Value} (hF : F < w.heap.size) (hY : ∀ b, Y b → b < w.heap.size)
  (h1 : Blk w9 F #[.int .i64 m, sv] 191) (hx : ExQ (fun b => b = F ∨ Mt b) w w9) (hE9 : E f' Y' w9) (hsub : ∀ b, Y' b → Y b ∨ w.heap.size + 2 ≤ b) (hff : f = true → f' = true) (hc : FlC w tgt n f' s' a' l' m 2 w9) :
  FlPost E Mt F sv tgt n f Y w (.returned (.agg #[.string s', .slice a' l' c'])) ((w9.setCell ⟨w.heap.size + 1, 0, none⟩ v0).setCell ⟨w.heap.size + 1, 1, none⟩ v1) := by
 have hk : ∀ b, b ≠ w.heap.size + 1 → ((w9.setCell ⟨w.heap.size + 1, 0, none⟩ v0).setCell ⟨w.heap.size + 1, 1, none⟩ v1).heap[b]? = w9.heap[b]? := fun b hb => by
  rw [Below.heap_setCell _ _ _ _ (by simpa using hb), Below.heap_setCell _ _ _ _ (by simpa using hb)]
 refine ⟨s', a', l', c', m, f', Y', rfl, (h1.setOther _ _ (by omega)).setOther _ _ (by omega), (hx.setNew (by omega) _ _).setNew (by omega) _ _, hE.keep _ _ _ _ hE9 fun b hb => hk b fun e => ?_, fun b hb => ?_, hff, ?_⟩
 ·rcases hsub b hb with h | h
  ·have := hY b h; omega
  ·omega
 ·rcases hsub b hb with h | h
  ·exact Or.inl h
  ·exact Or.inr (by omega)
 ·rcases hc with ⟨y, e1, e2, e3, e4, e5, e6⟩ | hc
  ·exact Or.inl ⟨y, e1, e2, e3, e4, (e5.kept fun b hb => hk b (by omega)).mono fun b hb _ => by omega, e6⟩
  ·exact Or.inr hc
theorem wayq1 {Q : Nat → Prop} {w0 w1 : World} (h : ExQ Q w0.drew w1) : ExQ Q w0 w1 := ((ExQ.refl Q w0).drew).trans h
theorem wayq2 {Q : Nat → Prop} {w0 w1 : World} {o : Obj} (h : ExQ Q (w0.alloc o).drew w1) : ExQ Q w0 w1 := (((ExQ.refl Q w0).alloc o).drew).trans h
theorem wayq2b {Q : Nat → Prop} {w0 w1 : World} {cs : Array Value} {T : Nat} (h : ExQ Q (w0.alloc (.cells cs T)).drew w1) (hQ : ¬ Q w0.heap.size) : Blk w1 w0.heap.size cs T := ((Blk.new w0 cs T).drewN 1).exq h hQ
set_option maxHeartbeats 1000000 in
theorem ffillL_of {E : Ev} {Mt : Nat → Prop} (hE : EvOk E Mt) (F S : Nat) (lk : ByteArray → Option Tm) (t : Tm) (n : Nat) (a : Option Addr) (c : Nat) (w : World) (X Y : Nat → Prop) (f : Bool) (hn : n ≤ 1000000) (hXF : ∀ b, X b → b ≠ F ∧ ¬ Mt b) (hYF : ¬ Y F) (hs : Sl w X a t.args) (hF : Blk w F #[.int .i64 (n : Int), sV S] 191) (hEv : E f Y w)
  (hL : varB t.name = true → LkC E Mt S (lk t.name) t.name)
  (h : ∀ (w' : World) (f' : Bool) (Y' : Nat → Prop), Sl w' X a t.args → Blk w' F #[.int .i64 (n : Int), sV S] 191 → E f' Y' w' → ¬ Y' F → Calls Tryz.prog 147 #[.pointer (some ⟨F, 0, none⟩), .agg #[.string t.name, .slice a t.args.length c], .func (.func 136) #[.pointer (some ⟨F, 0, none⟩)] #[]] w' fun e w'' => FlPost E Mt F (sV S) ⟨t.name, gL lk t.args⟩ n f' Y' w' e w'') :
  Calls Tryz.prog 136 #[.pointer (some ⟨F, 0, none⟩), .agg #[.string t.name, .slice a t.args.length c]] w fun e w' => FlPost E Mt F (sV S) (gT lk t) n f Y w e w' := by
 have hmf : ∀ (fn : Fn) (first cap : Array Value) (w : World), (Instr.makeFunc fn first cap).run Tryz.prog w = .ok (.func fn first cap) w := fun _ _ _ _ => rfl
 have H := hide h
 have HS := hide hs
 have HF := hide hF
 have HE := hide hEv
 have HL := hide hL
 have HXF := hide hXF
 have hFl : F < w.heap.size := hF.lt
 have HYW : Hid (∀ b, Y b → b < w.heap.size) := hE.inY _ _ _ hEv
 have HMT : Hid (∀ b, Mt b → Y b) := hE.mt _ _ _ hEv
 have hFM : ¬ Mt F := fun h => hYF (HMT.out F h)
 clear h hs hF hEv hL hXF
 have HB0 := hide (((Below.refl w.heap.size w).alloc (Nat.le_refl _) (.cells #[.string t.name, .slice a t.args.length c] 26)).alloc (by simp) (.cells #[.string ⟨#[]⟩, .slice none 0 0] 26))
 have f1 : ∀ o o', ((w.alloc o).alloc o').cell? ⟨F, 1, none⟩ = some (sV S) := fun o o' => ((HF.out.alloc o).alloc o').cell 1
 have RW : Hid (Blk ((w.alloc (.cells #[.string t.name, .slice a t.args.length c] 26)).alloc (.cells #[.string ⟨#[]⟩, .slice none 0 0] 26)) (w.heap.size + 1) #[.string ⟨#[]⟩, .slice none 0 0] 26) := by
  have h := Blk.new (w.alloc (.cells #[.string t.name, .slice a t.args.length c] 26)) #[.string ⟨#[]⟩, .slice none 0 0] 26
  unfold Hid
  simpa using h
 have EXW := hide (((ExQ.refl (fun b => b = F ∨ Mt b) w).alloc (.cells #[.string t.name, .slice a t.args.length c] 26)).alloc (.cells #[.string ⟨#[]⟩, .slice none 0 0] 26))
 have hW2 : Hid (((w.alloc (.cells #[.string t.name, .slice a t.args.length c] 26)).alloc (.cells #[.string ⟨#[]⟩, .slice none 0 0] 26)).heap.size = w.heap.size + 2) := by unfold Hid; simp
 have hR1 : ¬ (w.heap.size + 1 = F ∨ Mt (w.heap.size + 1)) := fun h => by
  rcases h with h | h
  ·omega
  ·have := HYW.out _ (HMT.out _ h); omega
 cases hv : varB t.name with
 | false =>
  have HV := hide hv
  have HT : Hid (gT lk t = ⟨t.name, gL lk t.args⟩) := by unfold Hid gT gN; rw [hv]; rfl
  clear hv
  go_enter Tryz.func136, Tryz.ntmps136
  go_wp2_with (go_at_call 52; refine (isVariable_all _ _).mono ?_; rintro e w' ⟨rfl, rfl⟩; rw [HV.out])
  refine (H.out _ f Y (HS.out.later HB0.out) (by exact (HF.out.alloc _).alloc _) (hE.below HE.out HB0.out) hYF).mono ?_
  rintro e w9 ⟨s', a', l', c', m, f', Y', rfl, hF1, hx1, hE1, hsub1, hff1, hc1⟩
  have R9 := hide (RW.out.exq hx1 hR1)
  have HX9 := hide (EXW.out.trans hx1)
  have HF9 := hide hF1
  have HE9 := hide hE1
  have HSUB := hide hsub1
  have HFF := hide hff1
  have HC := hide hc1
  clear hF1 hx1 hE1 hsub1 hff1 hc1
  have r0 := R9.out.c0
  have r1 := R9.out.c1
  have rf := R9.out.frozen
  go_wp2_with fail
  refine bodyPost_ret (v := .agg #[.string s', .slice a' l' c']) (by simp [results, Tryz.results136, go_sem, World.cell?_setCell_same, World.cell?_setCell_other, r0, r1]) rfl ?_
  rw [HT.out]
  refine fl_end hE (by omega) HYW.out HF9.out HX9.out HE9.out (fun b hb => (HSUB.out b hb).imp id fun h => by rw [hW2.out] at h; exact h) HFF.out ?_
  rcases HC.out with ⟨y, e1, e2, e3, e4, e5, e6⟩ | h
  ·exact Or.inl ⟨y, e1, e2, e3, e4, e5.mono fun b hb _ => by have := hW2.out; omega, e6⟩
  ·exact Or.inr h
 | true =>
  have HV := hide hv
  have HLK := hide (HL.out hv)
  clear hv HL
  have E0 := hide (hE.below HE.out HB0.out)
  have F0 := hide ((HF.out.alloc (.cells #[.string t.name, .slice a t.args.length c] 26)).alloc (.cells #[.string ⟨#[]⟩, .slice none 0 0] 26))
  have S0 := hide (HS.out.later HB0.out)
  have T0 := hide ((Blk.new w #[.string t.name, .slice a t.args.length c] 26).alloc (.cells #[.string ⟨#[]⟩, .slice none 0 0] 26))
  have g1 := F0.out.cell 1
  have g0 := T0.out.cell 0
  simp only [List.getElem?_toArray, List.getElem?_cons_succ, List.getElem?_cons_zero] at g1 g0
  have LKA : Hid (∀ w', Below ((w.alloc (.cells #[.string t.name, .slice a t.args.length c] 26)).alloc (.cells #[.string ⟨#[]⟩, .slice none 0 0] 26)).heap.size ((w.alloc (.cells #[.string t.name, .slice a t.args.length c] 26)).alloc (.cells #[.string ⟨#[]⟩, .slice none 0 0] 26)) w' → Calls Tryz.prog 129 #[.pointer (some ⟨S, 0, none⟩), .string t.name] w' fun e w'' => LkPost E Mt (lk t.name) f Y w' e w'') := fun w' hb => HLK.out f Y w' (hE.below E0.out hb)
  have HKP : Hid (∀ w', ExQ Mt ((w.alloc (.cells #[.string t.name, .slice a t.args.length c] 26)).alloc (.cells #[.string ⟨#[]⟩, .slice none 0 0] 26)) w' → w'.cell? ⟨F, 1, none⟩ = some (sV S) ∧ w'.cell? ⟨w.heap.size, 0, none⟩ = some (.string t.name)) := fun w' hb => ⟨(F0.out.exq hb hFM).cell 1, (T0.out.exq hb (fun h => by have := HYW.out _ (HMT.out _ h); omega)).cell 0⟩
  have nF : ((w.alloc (.cells #[.string t.name, .slice a t.args.length c] 26)).alloc (.cells #[.string ⟨#[]⟩, .slice none 0 0] 26)).heap.size ≠ F := by have := hW2.out; omega
  have nT : ((w.alloc (.cells #[.string t.name, .slice a t.args.length c] 26)).alloc (.cells #[.string ⟨#[]⟩, .slice none 0 0] 26)).heap.size ≠ w.heap.size := by have := hW2.out; omega
  have nM : ¬ Mt ((w.alloc (.cells #[.string t.name, .slice a t.args.length c] 26)).alloc (.cells #[.string ⟨#[]⟩, .slice none 0 0] 26)).heap.size := fun h => by have := HYW.out _ (HMT.out _ h); have := hW2.out; omega
  clear f1
  unfold sV at g1 HKP
  go_enter Tryz.func136, Tryz.ntmps136
  go_wp2_with (go_at_call 52; refine (isVariable_all _ _).mono ?_; rintro e w' ⟨rfl, rfl⟩; rw [HV.out])
  generalize ((w.alloc (.cells #[.string t.name, .slice a t.args.length c] 26)).alloc (.cells #[.string ⟨#[]⟩, .slice none 0 0] 26)) = w0 at *
  go_region_held3 (fun w' => w'.cell? ⟨F, 1, none⟩ = some (.func (.func 129) #[.pointer (some ⟨S, 0, none⟩)] #[]) ∧ w'.cell? ⟨w.heap.size, 0, none⟩ = some (.string t.name)) (first | exact hS | exact ⟨g1, g0⟩ | exact two_keep hS nF nT | exact two_keep (two_keep hS nF nT) nF nT | go_keep)
   ((go_at_call 129; refine (LKA.out _ (by first | exact (Below.refl _ _).drew | exact ((Below.refl _ _).alloc (Nat.le_refl _) _).drew)).mono ?_; rintro e w1 ⟨s1, a1, n1, c1, ok1, f1, Y1, rfl, hE1, hsub1, hff1, hx1, hc1⟩; have HE1 := hide hE1; have HSUB1 := hide hsub1; have HFF1 := hide hff1; have HC1 := hide hc1; clear hE1 hsub1 hff1 hc1; (first | (have hB0 := wayq1 hx1; have hS := HKP.out _ hB0) | (have hB0 := wayq2 hx1; have xb := hide (wayq2b hx1 nM); have x0 := xb.out.cell 0; have x1 := xb.out.cell 1; have xf := xb.out.frozen; have hS := HKP.out _ hB0)); have HX1 := hide hx1; clear hx1))
  ·generalize hz : (w1.alloc (Obj.cells #[Value.string s1, Value.slice a1 n1 c1] 26)) = wz at *
   have hkz : ∀ b, b < w1.heap.size → wz.heap[b]? = w1.heap[b]? := fun b hb => by rw [← hz]; exact Below.heap_alloc _ _ _ hb
   have hxz : ExQ Mt w0 wz := by rw [← hz]; exact hB0.alloc _
   have HS1 : Hid (∀ b, Y1 b → wz.heap[b]? = w1.heap[b]?) := fun b hb => hkz b (hE.inY _ _ _ HE1.out b hb)
   have HU1 : Hid (∀ b, Y1 b → Y b ∨ w.heap.size + 2 ≤ b) := fun b hb => (HSUB1.out b hb).imp id fun h => by have h2 := hW2.out; have h3 : w0.heap.size ≤ b := h; omega
   have q0 : wz.cell? ⟨w1.heap.size, 0, none⟩ = some (.string s1) := by rw [← hz]; exact (Blk.new w1 _ _).cell 0
   have q1 : wz.cell? ⟨w1.heap.size, 1, none⟩ = some (.slice a1 n1 c1) := by rw [← hz]; exact (Blk.new w1 _ _).cell 1
   have HXZ := hide hxz
   have HEZ : Hid (E f1 Y1 wz) := hE.keep _ _ _ _ HE1.out HS1.out
   have HFZ := hide (F0.out.exq hxz hFM)
   have HRZ := hide (RW.out.exq hxz (fun h => hR1 (Or.inr h)))
   have HTZ := hide (T0.out.exq hxz (fun h => by have := HYW.out _ (HMT.out _ h); omega))
   have HY1F : Hid (¬ Y1 F) := fun h => by
    rcases HU1.out F h with h1 | h1
    ·exact hYF h1
    ·omega
   have HSZ2 : Hid (w.heap.size + 2 ≤ wz.heap.size) := by have := hxz.size; have := hW2.out; unfold Hid; omega
   clear hxz hz hS hB0
   rcases HC1.out with ⟨rfl, x, rfl, rfl, hsx, hox⟩ | ⟨rfl, hox⟩
   ·have HSX : Hid (Sl wz Y1 a1 x.args) := hsx.kept HS1.out
    have HOX := hide hox
    clear hsx hox HC1
    go_wp2_with fail
    refine (knotC_any F _ x n _ wz Y1 ⟨a1, c1, rfl, HSX.out⟩ (fun b hb e => HY1F.out (e ▸ hb)) hn HFZ.out).mono ?_
    rintro e w9 ⟨s', a', l', c', m, rfl, hF1, hx1, hy1, hn1⟩
    have R9 := hide (HRZ.out.ex hx1 (by omega))
    have HX9 : Hid (ExQ (fun b => b = F ∨ Mt b) w w9) := (EXW.out.trans (HXZ.out.mono fun b hb _ => Or.inr hb)).trans (ExQ.ofEx hx1 (Or.inl rfl))
    have HE9 : Hid (E f1 Y1 w9) := hE.keep _ _ _ _ HEZ.out fun b hb => hx1.block b (hE.inY _ _ _ HEZ.out b hb) (fun e => HY1F.out (e ▸ hb))
    have HF9 := hide hF1
    have HCC : Hid (FlC w (gT lk t) n f1 s' a' l' m 2 w9) := by
     by_cases hle : sizeL [x] ≤ n
     ·obtain ⟨e1, e2, e3, e4⟩ := hy1 hle
      exact Or.inl ⟨x, e2, e3, e1, hle, e4.mono fun b hb _ => by have := HSZ2.out; omega, fun hf => by unfold gT gN; rw [HV.out, HOX.out hf]; rfl⟩
     ·exact Or.inr ⟨hn1 (by omega), fun hf => by unfold gT gN; rw [HV.out, HOX.out hf]; simpa using hle⟩
    clear hF1 hx1 hy1 hn1
    have r0 := R9.out.c0
    have r1 := R9.out.c1
    have rf := R9.out.frozen
    go_wp2_with fail
    refine bodyPost_ret (v := .agg #[.string s', .slice a' l' c']) (by simp [results, Tryz.results136, go_sem, World.cell?_setCell_same, World.cell?_setCell_other, r0, r1]) rfl ?_
    exact fl_end hE (by omega) HYW.out HF9.out HX9.out HE9.out HU1.out HFF1.out HCC.out
   ·have HOX := hide hox
    clear hox HC1
    have t0 := HTZ.out.c0
    have t1 := HTZ.out.c1
    go_wp2_with fail
    refine (H.out wz f1 Y1 (S0.out.exq HXZ.out (fun b hb => (HXF.out b hb).2)) HFZ.out HEZ.out HY1F.out).mono ?_
    rintro e w9 ⟨s', a', l', c', m, f', Y', rfl, hF1, hx1, hE1, hsub1, hff1, hc1⟩
    have R9 := hide (HRZ.out.exq hx1 hR1)
    have HX9 : Hid (ExQ (fun b => b = F ∨ Mt b) w w9) := (EXW.out.trans (HXZ.out.mono fun b hb _ => Or.inr hb)).trans hx1
    have HE9 := hide hE1
    have HF9 := hide hF1
    have HU9 : Hid (∀ b, Y' b → Y b ∨ w.heap.size + 2 ≤ b) := fun b hb => by
     rcases hsub1 b hb with h | h
     ·exact HU1.out b h
     ·right; have := HSZ2.out; omega
    have HFF9 : Hid (f = true → f' = true) := fun h => hff1 (HFF1.out h)
    have HCC : Hid (FlC w (gT lk t) n f' s' a' l' m 2 w9) := by
     have hT : f' = false → gT lk t = ⟨t.name, gL lk t.args⟩ := fun hf => by
      have hf1 : f1 = false := by
       cases h : f1 with
       | false => rfl
       | true => have := hff1 h; rw [hf] at this; cases this
      unfold gT gN; rw [HV.out, HOX.out hf1]; rfl
     rcases hc1 with ⟨y, e1, e2, e3, e4, e5, e6⟩ | ⟨e1, e2⟩
     ·exact Or.inl ⟨y, e1, e2, e3, e4, e5.mono fun b hb _ => by have := HSZ2.out; omega, fun hf => by rw [hT hf]; exact e6 hf⟩
     ·exact Or.inr ⟨e1, fun hf => by rw [hT hf]; exact e2 hf⟩
    clear hF1 hx1 hE1 hsub1 hff1 hc1
    have r0 := R9.out.c0
    have r1 := R9.out.c1
    have rf := R9.out.frozen
    go_wp2_with fail
    refine bodyPost_ret (v := .agg #[.string s', .slice a' l' c']) (by simp [results, Tryz.results136, go_sem, World.cell?_setCell_same, World.cell?_setCell_other, r0, r1]) rfl ?_
    exact fl_end hE (by omega) HYW.out HF9.out HX9.out HE9.out HU9.out HFF9.out HCC.out
  ·generalize hz : ((w1.setCell { block := w0.heap.size, off := 0 } (Value.string s1)).setCell { block := w0.heap.size, off := 1 } (Value.slice a1 n1 c1)) = wz at *
   have hxz : ExQ Mt w0 wz := by rw [← hz]; exact (hB0.setNew (Nat.le_refl _) _ _).setNew (Nat.le_refl _) _ _
   have HU1 : Hid (∀ b, Y1 b → Y b ∨ w.heap.size + 2 ≤ b) := fun b hb => (HSUB1.out b hb).imp id fun h => by have h2 := hW2.out; simp at h; omega
   have HS1 : Hid (∀ b, Y1 b → wz.heap[b]? = w1.heap[b]?) := fun b hb => by
    have hne : b ≠ w0.heap.size := fun e => by
     rcases HSUB1.out b hb with h | h
     ·have := HYW.out b h; have := hW2.out; omega
     ·simp at h; omega
    rw [← hz, Below.heap_setCell _ _ _ _ (by simpa using hne), Below.heap_setCell _ _ _ _ (by simpa using hne)]
   have q0 : wz.cell? ⟨w0.heap.size, 0, none⟩ = some (.string s1) := by rw [← hz]; simp [World.cell?_setCell_same, World.cell?_setCell_other, x0, x1]
   have q1 : wz.cell? ⟨w0.heap.size, 1, none⟩ = some (.slice a1 n1 c1) := by rw [← hz]; simp [World.cell?_setCell_same, World.cell?_setCell_other, x0, x1]
   have HXZ := hide hxz
   have HEZ : Hid (E f1 Y1 wz) := hE.keep _ _ _ _ HE1.out HS1.out
   have HFZ := hide (F0.out.exq hxz hFM)
   have HRZ := hide (RW.out.exq hxz (fun h => hR1 (Or.inr h)))
   have HTZ := hide (T0.out.exq hxz (fun h => by have := HYW.out _ (HMT.out _ h); omega))
   have HY1F : Hid (¬ Y1 F) := fun h => by
    rcases HU1.out F h with h1 | h1
    ·exact hYF h1
    ·omega
   have HSZ2 : Hid (w.heap.size + 2 ≤ wz.heap.size) := by have := hxz.size; have := hW2.out; unfold Hid; omega
   clear hxz hz hS hB0
   rcases HC1.out with ⟨rfl, x, rfl, rfl, hsx, hox⟩ | ⟨rfl, hox⟩
   ·have HSX : Hid (Sl wz Y1 a1 x.args) := hsx.kept HS1.out
    have HOX := hide hox
    clear hsx hox HC1
    go_wp2_with fail
    refine (knotC_any F _ x n _ wz Y1 ⟨a1, c1, rfl, HSX.out⟩ (fun b hb e => HY1F.out (e ▸ hb)) hn HFZ.out).mono ?_
    rintro e w9 ⟨s', a', l', c', m, rfl, hF1, hx1, hy1, hn1⟩
    have R9 := hide (HRZ.out.ex hx1 (by omega))
    have HX9 : Hid (ExQ (fun b => b = F ∨ Mt b) w w9) := (EXW.out.trans (HXZ.out.mono fun b hb _ => Or.inr hb)).trans (ExQ.ofEx hx1 (Or.inl rfl))
    have HE9 : Hid (E f1 Y1 w9) := hE.keep _ _ _ _ HEZ.out fun b hb => hx1.block b (hE.inY _ _ _ HEZ.out b hb) (fun e => HY1F.out (e ▸ hb))
    have HF9 := hide hF1
    have HCC : Hid (FlC w (gT lk t) n f1 s' a' l' m 2 w9) := by
     by_cases hle : sizeL [x] ≤ n
     ·obtain ⟨e1, e2, e3, e4⟩ := hy1 hle
      exact Or.inl ⟨x, e2, e3, e1, hle, e4.mono fun b hb _ => by have := HSZ2.out; omega, fun hf => by unfold gT gN; rw [HV.out, HOX.out hf]; rfl⟩
     ·exact Or.inr ⟨hn1 (by omega), fun hf => by unfold gT gN; rw [HV.out, HOX.out hf]; simpa using hle⟩
    clear hF1 hx1 hy1 hn1
    have r0 := R9.out.c0
    have r1 := R9.out.c1
    have rf := R9.out.frozen
    go_wp2_with fail
    refine bodyPost_ret (v := .agg #[.string s', .slice a' l' c']) (by simp [results, Tryz.results136, go_sem, World.cell?_setCell_same, World.cell?_setCell_other, r0, r1]) rfl ?_
    exact fl_end hE (by omega) HYW.out HF9.out HX9.out HE9.out HU1.out HFF1.out HCC.out
   ·have HOX := hide hox
    clear hox HC1
    have t0 := HTZ.out.c0
    have t1 := HTZ.out.c1
    go_wp2_with fail
    refine (H.out wz f1 Y1 (S0.out.exq HXZ.out (fun b hb => (HXF.out b hb).2)) HFZ.out HEZ.out HY1F.out).mono ?_
    rintro e w9 ⟨s', a', l', c', m, f', Y', rfl, hF1, hx1, hE1, hsub1, hff1, hc1⟩
    have R9 := hide (HRZ.out.exq hx1 hR1)
    have HX9 : Hid (ExQ (fun b => b = F ∨ Mt b) w w9) := (EXW.out.trans (HXZ.out.mono fun b hb _ => Or.inr hb)).trans hx1
    have HE9 := hide hE1
    have HF9 := hide hF1
    have HU9 : Hid (∀ b, Y' b → Y b ∨ w.heap.size + 2 ≤ b) := fun b hb => by
     rcases hsub1 b hb with h | h
     ·exact HU1.out b h
     ·right; have := HSZ2.out; omega
    have HFF9 : Hid (f = true → f' = true) := fun h => hff1 (HFF1.out h)
    have HCC : Hid (FlC w (gT lk t) n f' s' a' l' m 2 w9) := by
     have hT : f' = false → gT lk t = ⟨t.name, gL lk t.args⟩ := fun hf => by
      have hf1 : f1 = false := by
       cases h : f1 with
       | false => rfl
       | true => have := hff1 h; rw [hf] at this; cases this
      unfold gT gN; rw [HV.out, HOX.out hf1]; rfl
     rcases hc1 with ⟨y, e1, e2, e3, e4, e5, e6⟩ | ⟨e1, e2⟩
     ·exact Or.inl ⟨y, e1, e2, e3, e4, e5.mono fun b hb _ => by have := HSZ2.out; omega, fun hf => by rw [hT hf]; exact e6 hf⟩
     ·exact Or.inr ⟨e1, fun hf => by rw [hT hf]; exact e2 hf⟩
    clear hF1 hx1 hE1 hsub1 hff1 hc1
    have r0 := R9.out.c0
    have r1 := R9.out.c1
    have rf := R9.out.frozen
    go_wp2_with fail
    refine bodyPost_ret (v := .agg #[.string s', .slice a' l' c']) (by simp [results, Tryz.results136, go_sem, World.cell?_setCell_same, World.cell?_setCell_other, r0, r1]) rfl ?_
    exact fl_end hE (by omega) HYW.out HF9.out HX9.out HE9.out HU9.out HFF9.out HCC.out
def setAt : List (ByteArray × Value) → ByteArray → Value → List (ByteArray × Value)
 | [], _, _ => []
 | p :: r, n, v => if p.1 = n then (p.1, v) :: r else p :: setAt r n v
theorem findNow_set (n : ByteArray) (x : Value) : ∀ (l : List MapEntry) (L : List (ByteArray × Value)) (i : Nat) (v : Value), l.map (fun e => (e.key, e.val)) = L.map (fun p => (Value.string p.1, p.2)) → mapGet L n = some v →
  ∃ j e, Instr.findNow .string (.string n) l i = some (some (i + j, v)) ∧ l[j]? = some e ∧ e.key = .string n ∧ (l.modify j fun e => { e with key := .string n, val := x }).map (fun e => (e.key, e.val)) = (setAt L n x).map (fun p => (Value.string p.1, p.2))
 | [], [], i, v, h, hv => by simp [mapGet] at hv
 | [], p :: L, i, v, h, hv => by simp at h
 | e :: l, [], i, v, h, hv => by simp at h
 | e :: l, p :: L, i, v, h, hv => by
  simp only [List.map_cons, List.cons.injEq, Prod.mk.injEq] at h
  obtain ⟨⟨hk, he⟩, ht⟩ := h
  by_cases hn : p.1 = n
  ·have hs : Instr.sameNow .string (.string n) e.key = some true := by
    rw [hk, hn]
    show some (n == n) = some true
    rw [show (n == n) = true from (MapKept.bytes_beq _ _).2 rfl]
   simp only [mapGet, hn, if_true, Option.some.injEq] at hv
   refine ⟨0, e, by simp [Instr.findNow, hs, he, hv], rfl, by rw [hk, hn], ?_⟩
   simp [setAt, hn, ht]
  ·have hs : Instr.sameNow .string (.string n) e.key = some false := by
    rw [hk]
    show some (n == p.1) = some false
    have hb : (n == p.1) = false := by
     cases hh : (n == p.1) with
     | false => rfl
     | true => exact absurd ((MapKept.bytes_beq _ _).1 hh).symm hn
    rw [hb]
   rw [mapGet, if_neg hn] at hv
   obtain ⟨j, e', h1, h2, h3, h4⟩ := findNow_set n x l L (i + 1) v ht hv
   refine ⟨j + 1, e', by simp [Instr.findNow, hs, h1]; omega, by simpa using h2, h3, ?_⟩
   rw [setAt, if_neg hn]
   simp [List.modify_succ_cons, h4, hk, he]
theorem run_look1 {P : Program} {w : World} {T kt et : TypeId} {r : Nat} {L : List (ByteArray × Value)} {z : Value} (hm : P.underlying T = some (.map kt et)) (hk : P.underlying kt = some .string) (hz : (zeroValue et).run P w = .ok z w) (h : MapAt w r L) (n : ByteArray) :
  (Instr.lookup T (.map (some r)) (.string n) false).run P w = .ok ((mapGet L n).getD z) w := by
 obtain ⟨es, clk, hb, he, hstm⟩ := h
 obtain ⟨h1, h2⟩ := findNow_map n es.toList L 0 he
 have hc : ∀ b, (Instr.checkKey b 10000 kt (.string n)).run P w = .ok () w := fun b => MapKept.run_checkKey (k := .string n) hk (by simp [MapKept.IsKey]) b 9999
 cases hg : mapGet L n with
 | none => simp [Instr.lookup, run_underlying hm, MapKept.run_getObj_map hb, hc, MapKept.run_findKey hk (h1 hg), Result.andThen, hz]
 | some v =>
  obtain ⟨j, hj⟩ := h2 v hg
  simp [Instr.lookup, run_underlying hm, MapKept.run_getObj_map hb, hc, MapKept.run_findKey hk hj, Result.andThen]
theorem run_set {P : Program} {w : World} {T kt et : TypeId} {r : Nat} {L : List (ByteArray × Value)} (hm : P.underlying T = some (.map kt et)) (hk : P.underlying kt = some .string) (h : MapAt w r L) (n : ByteArray) (v old : Value) (hn : mapGet L n = some old) :
  ∃ w', (Instr.mapUpdate T (.map (some r)) (.string n) v).run P w = .ok () w' ∧ MapAt w' r (setAt L n v) ∧ w'.heap.size = w.heap.size ∧ w'.os = w.os ∧ w'.tape = w.tape ∧ w'.output = w.output ∧ (∀ b, b ≠ r → w'.heap[b]? = w.heap[b]?) := by
 obtain ⟨es, clk, hb, he, hstm⟩ := h
 obtain ⟨j, e0, h1, h2, h3, h4⟩ := findNow_set n v es.toList L 0 old he hn
 have hc : (Instr.checkKey false 10000 kt (.string n)).run P w = .ok () w := MapKept.run_checkKey (k := .string n) hk (by simp [MapKept.IsKey]) false 9999
 have hj : es[j]? = some e0 := by simpa using h2
 rw [Nat.zero_add] at h1
 have hst : (Instr.keyThatStays (.string n) (.string n)).run P w = .ok (.string n) w := MapKept.run_keyThatStays (d := .string) (by simp [MapKept.IsKey])
 refine ⟨{ w with heap := w.heap.setIfInBounds r (.map (es.modify j fun e => { e with key := .string n, val := v }) clk) }, ?_, ⟨_, _, (MapKept.heap_set hb).1, by rw [Array.toList_modify]; exact h4, hstm.modify _ _ _⟩, by simp, rfl, rfl, rfl, fun b hne => (MapKept.heap_set hb).2 b hne⟩
 simp [Instr.mapUpdate, run_underlying hm, MapKept.run_getObj_map hb, hc, MapKept.run_findKey hk h1, hj, h3, hst, MapKept.run_setObj_map _ hb, Result.andThen]
theorem gL_onL {s : List Bd} (hs : ∀ d ∈ s, varB d.nm = true) : ∀ l : List Tm, errL l = 0 → gL (forT s) l = onL s l := by
 intro l
 induction l using Tm.indL with
 | h0 => intro _; simp [gL, onL]
 | h n l r ihl ihr =>
  intro he
  obtain ⟨g1, g2, g3⟩ := errL_parts he
  rw [gL, onL_cons, ihr g3, ihl g2]
  congr 1
  cases hv : varB n with
  | false => rw [onT_sym2 hs hv, gN, hv]; rfl
  | true =>
   have e := g1 hv
   subst e
   rw [onT_leaf, gN, hv]
   cases forT s n with
   | none => simp [onL]
   | some x => rfl
theorem gT_onT {s : List Bd} (hs : ∀ d ∈ s, varB d.nm = true) {t : Tm} (he : errL [t] = 0) : gT (forT s) t = onT s t := by
 have h := gL_onL hs [t] he
 rw [gL_map, onL_cons] at h
 simpa [onL] using h
def NamesH (h : List (ByteArray × Tm)) : Prop := ∀ i (hi : i < h.length), nameB h[i].1 = true
def StE (w : World) (Y : Nat → Prop) (h : List (ByteArray × Tm)) (i : Nat) (hi : i < h.length) (v : Value) : Prop :=
 ∃ (j : Nat) (a : Option Addr) (c : Nat), j ≤ h.length ∧ v = .agg #[.string (stood h i (max j (i + 1)) hi).name, .slice a (stood h i (max j (i + 1)) hi).args.length c, .int .i64 (j : Int)] ∧ Sl w Y a (stood h i (max j (i + 1)) hi).args
def StMap (w : World) (Y : Nat → Prop) (h : List (ByteArray × Tm)) (L : List (ByteArray × Value)) : Prop :=
 L.length = h.length ∧ ∀ i (hi : i < h.length) (hl : i < L.length), L[i].1 = h[i].1 ∧ StE w Y h i hi L[i].2
theorem StE.imp {w w' : World} {Y Z : Nat → Prop} {h : List (ByteArray × Tm)} {i : Nat} {hi : i < h.length} {v : Value} (hs : ∀ a l, Sl w Y a l → Sl w' Z a l) (e : StE w Y h i hi v) : StE w' Z h i hi v := by
 obtain ⟨j, a, c, h1, h2, h3⟩ := e
 exact ⟨j, a, c, h1, h2, hs _ _ h3⟩
theorem StMap.imp {w w' : World} {Y Z : Nat → Prop} {h : List (ByteArray × Tm)} {L : List (ByteArray × Value)} (hs : ∀ a l, Sl w Y a l → Sl w' Z a l) (e : StMap w Y h L) : StMap w' Z h L :=
 ⟨e.1, fun i hi hl => ⟨(e.2 i hi hl).1, (e.2 i hi hl).2.imp hs⟩⟩
theorem mapGet_at : ∀ (L : List (ByteArray × Value)) (i : Nat) (hi : i < L.length), (∀ k (hk : k < L.length), k < i → L[k].1 ≠ L[i].1) → mapGet L L[i].1 = some L[i].2
 | [], i, hi, _ => by simp at hi
 | p :: r, 0, hi, _ => by simp [mapGet]
 | p :: r, i + 1, hi, h => by
  have h0 := h 0 (by simp) (by omega)
  simp only [List.getElem_cons_zero, List.getElem_cons_succ] at h0 ⊢
  rw [mapGet, if_neg h0]
  refine mapGet_at r i (by simpa using hi) fun k hk hki => ?_
  have := h (k + 1) (by simpa using hk) (by omega)
  simpa using this
theorem mapGet_none : ∀ (L : List (ByteArray × Value)) (n : ByteArray), (∀ k (hk : k < L.length), L[k].1 ≠ n) → mapGet L n = none
 | [], n, _ => rfl
 | p :: r, n, h => by
  have h0 := h 0 (by simp)
  simp only [List.getElem_cons_zero] at h0
  rw [mapGet, if_neg h0]
  exact mapGet_none r n fun k hk => by have := h (k + 1) (by simpa using hk); simpa using this
theorem setAt_get : ∀ (L : List (ByteArray × Value)) (i : Nat) (hi : i < L.length) (v : Value), (∀ k (hk : k < L.length), k < i → L[k].1 ≠ L[i].1) → setAt L L[i].1 v = L.set i (L[i].1, v)
 | [], i, hi, v, _ => by simp at hi
 | p :: r, 0, hi, v, _ => by simp [setAt]
 | p :: r, i + 1, hi, v, h => by
  have h0 := h 0 (by simp) (by omega)
  simp only [List.getElem_cons_zero, List.getElem_cons_succ] at h0 ⊢
  rw [setAt, if_neg h0, setAt_get r i (by simpa using hi) v fun k hk hki => by have := h (k + 1) (by simpa using hk) (by omega); simpa using this]
  rfl
theorem StMap.apart {w : World} {Y : Nat → Prop} {h : List (ByteArray × Tm)} {L : List (ByteArray × Value)} (e : StMap w Y h L) (g : GoodH h) (i : Nat) (hi : i < L.length) : ∀ k (hk : k < L.length), k < i → L[k].1 ≠ L[i].1 := fun k hk hki hh => by
 have hl := e.1
 rw [(e.2 k (by omega) hk).1, (e.2 i (by omega) hi).1] at hh
 have := g.once (by omega) (by omega) hh
 omega
theorem StMap.get {w : World} {Y : Nat → Prop} {h : List (ByteArray × Tm)} {L : List (ByteArray × Value)} (e : StMap w Y h L) (g : GoodH h) {i : Nat} (hi : i < h.length) : ∃ v, mapGet L h[i].1 = some v ∧ StE w Y h i hi v := by
 have hl : i < L.length := by rw [e.1]; exact hi
 have h1 := mapGet_at L i hl (e.apart g i hl)
 rw [(e.2 i hi hl).1] at h1
 exact ⟨_, h1, (e.2 i hi hl).2⟩
theorem StMap.none {w : World} {Y : Nat → Prop} {h : List (ByteArray × Tm)} {L : List (ByteArray × Value)} (e : StMap w Y h L) {n : ByteArray} (hn : ∀ i (hi : i < h.length), h[i].1 ≠ n) : mapGet L n = none :=
 mapGet_none L n fun k hk => by rw [(e.2 k (by rw [← e.1]; exact hk) hk).1]; exact hn k _
theorem StMap.set {w : World} {Y : Nat → Prop} {h : List (ByteArray × Tm)} {L : List (ByteArray × Value)} (e : StMap w Y h L) (g : GoodH h) {i : Nat} (hi : i < h.length) {v : Value} (hv : StE w Y h i hi v) : StMap w Y h (setAt L h[i].1 v) := by
 have hl : i < L.length := by rw [e.1]; exact hi
 have h1 := setAt_get L i hl v (e.apart g i hl)
 rw [(e.2 i hi hl).1] at h1
 rw [h1]
 refine ⟨by simp [e.1], fun k hk hkl => ?_⟩
 by_cases hki : i = k
 ·subst hki
  simp only [List.getElem_set_self]
  exact ⟨trivial, hv⟩
 ·rw [List.getElem_set_ne hki]
  exact e.2 k hk (by simpa using hkl)
theorem forT_at {h : List (ByteArray × Tm)} (g : GoodH h) {i : Nat} (hi : i < h.length) : forT (sAt h) h[i].1 = some (stood h i h.length hi) := by
 obtain ⟨d, hd, e⟩ := (g.bound h.length (Nat.le_refl _) h[i].1).2 ⟨i, hi, hi, rfl⟩
 rw [List.take_length] at hd
 obtain ⟨t, ht⟩ := forT_some_of hd
 rw [e] at ht
 rw [ht]
 unfold stood
 rw [List.take_length, onT_some ht]
theorem forT_free {h : List (ByteArray × Tm)} (g : GoodH h) {n : ByteArray} (hn : ∀ i (hi : i < h.length), h[i].1 ≠ n) : forT (sAt h) n = none := by
 cases hf : forT (sAt h) n with
 | none => rfl
 | some x =>
  obtain ⟨d, hd, e, _⟩ := forT_mem hf
  have h1 := (g.bound h.length (Nat.le_refl _) n).1 ⟨d, by rw [List.take_length]; exact hd, e⟩
  obtain ⟨i, hi, _, h2⟩ := h1
  exact absurd h2 (hn i hi)
theorem stood_err {h : List (ByteArray × Tm)} (g : GoodH h) (hn : NamesH h) {i : Nat} (hi : i < h.length) {j : Nat} (hj : j ≤ h.length) : errL [stood h i j hi] = 0 := errL_onT2 (g.ok j hj) (err_leaf (hn i hi))
theorem stood_fill {h : List (ByteArray × Tm)} (g : GoodH h) (hn : NamesH h) {i : Nat} (hi : i < h.length) {j : Nat} (hj : j ≤ h.length) : gT (forT (sAt h)) (stood h i j hi) = stood h i h.length hi := by
 rw [gT_onT g.all.vars (stood_err g hn hi hj), stood_on g hi hj (hn i hi)]
theorem stood_great {h : List (ByteArray × Tm)} (g : GoodH h) {i : Nat} (hi : i < h.length) (hz : 2000 < sizeL [stood h i h.length hi]) : grtB (sAt h) = true := by
 obtain ⟨d, hd, e1, e2⟩ := forT_mem (forT_at g hi)
 unfold grtB
 rw [List.any_eq_true]
 exact ⟨d, hd, by rw [e2]; simpa using hz⟩
def SolE (S q : Nat) (td : Value) (h : List (ByteArray × Tm)) : Ev := fun f Y w =>
 (∃ L, Blk w S #[td, .map (some q), .bool f] 124 ∧ MapAt w q L ∧ StMap w (fun b => Y b ∧ b ≠ S ∧ b ≠ q) h L) ∧ Y S ∧ Y q ∧ (∀ b, Y b → b < w.heap.size) ∧ (f = true → grtB (sAt h) = true)
def SolM (S q : Nat) : Nat → Prop := fun b => b = S ∨ b = q
theorem solE_ok (S q : Nat) (td : Value) (h : List (ByteArray × Tm)) : EvOk (SolE S q td h) (SolM S q) := by
 refine ⟨fun f Y w w' he hk => ?_, fun f Y w he => he.2.2.2.1, fun f Y w he b hb => ?_⟩
 ·obtain ⟨⟨L, h1, h2, h3⟩, h4, h5, h6, h7⟩ := he
  refine ⟨⟨L, ?_, h2.kept (hk q h5), h3.imp fun a l hs => hs.kept fun b hb => hk b hb.1⟩, h4, h5, fun b hb => ?_, h7⟩
  ·unfold Blk at *; rw [hk S h4]; exact h1
  ·have h8 := hk b hb
   have h9 := h6 b hb
   apply Classical.byContradiction
   intro hn
   rw [Array.getElem?_eq_none (by omega), Array.getElem?_eq_getElem h9] at h8
   cases h8
 ·rcases hb with rfl | rfl
  ·exact he.2.1
  ·exact he.2.2.1
theorem le_of_apart {α : Type} : ∀ (l V : List α), l.Nodup → (∀ x ∈ l, x ∈ V) → l.length ≤ V.length
 | [], V, _, _ => by simp
 | a :: l, V, h, hs => by
  classical
  obtain ⟨h1, h2⟩ := List.nodup_cons.1 h
  have ih := le_of_apart l (V.filter fun x => decide (x ≠ a)) h2 fun x hx => List.mem_filter.2 ⟨hs x (by simp [hx]), by simp; rintro rfl; exact h1 hx⟩
  have hlt := filter_lt (p := fun _ => true) (q := fun x => decide (x ≠ a)) V (fun _ _ _ => rfl) ⟨a, hs a (by simp), rfl, by simp⟩
  have e : V.filter (fun _ => true) = V := List.filter_eq_self.2 (by simp)
  rw [e] at hlt
  simp only [List.length_cons]
  omega
structure UI (V : List ByteArray) (h : List (ByteArray × Tm)) (l : List Pr) : Prop where
 good : GoodH h
 names : NamesH h
 inV : ∀ i (hi : i < h.length), h[i].1 ∈ V
 err : errL (flatP l) = 0
 vars : ∀ y, varB y = true → occL y (onL (sAt h) (flatP l)) → y ∈ V
 size : ∀ p ∈ l, sizeL [p.l] ≤ 2000 ∧ sizeL [p.r] ≤ 2000
 len : ∃ l1 l2, l = l1 ++ l2 ∧ (∀ p ∈ l1, onT (sAt h) p.l = p.l ∧ onT (sAt h) p.r = p.r) ∧ sizeL (l1.map (·.l)) ≤ 2000 ∧ l2.length ≤ 40 + 2000 * h.length
theorem UI.hlen {V : List ByteArray} {h : List (ByteArray × Tm)} {l : List Pr} (u : UI V h l) : h.length ≤ V.length := by
 have h1 := le_of_apart (h.map (·.1)) V ?_ ?_
 ·simpa using h1
 ·rw [List.nodup_iff_pairwise_ne, List.pairwise_map, List.pairwise_iff_getElem]
  intro i j hi hj hij e
  have := u.good.once hi hj e
  omega
 ·intro x hx
  obtain ⟨p, hp, rfl⟩ := List.mem_map.1 hx
  obtain ⟨i, hi, rfl⟩ := List.getElem_of_mem hp
  exact u.inV i hi
theorem map_len_size : ∀ l : List Pr, l.length ≤ sizeL (l.map (·.l))
 | [] => by simp
 | p :: l => by
  have := map_len_size l
  rw [List.map_cons, size_cons]
  have := sizeL_pos p.l
  simp only [List.length_cons]
  omega
theorem UI.llen {V : List ByteArray} {h : List (ByteArray × Tm)} {l : List Pr} (u : UI V h l) : l.length ≤ 2040 + 2000 * V.length := by
 obtain ⟨l1, l2, rfl, _, h2, h3⟩ := u.len
 have h4 := map_len_size l1
 have h5 := u.hlen
 rw [List.length_append]
 have : 2000 * h.length ≤ 2000 * V.length := Nat.mul_le_mul_left _ h5
 omega
theorem UI.start {l : List Pr} (he : errL (flatP l) = 0) (hs : ∀ p ∈ l, sizeL [p.l] ≤ 2000 ∧ sizeL [p.r] ≤ 2000) (hl : l.length ≤ 40) : UI ((preL (onL [] (flatP l))).map (·.name)) [] l :=
 ⟨goodH_nil, fun i hi => by simp at hi, fun i hi => by simp at hi, he, fun y _ ho => by obtain ⟨k, hk, e⟩ := ho; exact List.mem_map.2 ⟨k, hk, e⟩, hs, [], l, rfl, by simp, by simp [sizeL], by simpa using hl⟩
theorem UI.drop {V : List ByteArray} {h : List (ByteArray × Tm)} {p : Pr} {l : List Pr} (u : UI V h (p :: l)) : UI V h l := by
 obtain ⟨g1, g2, g3, g4, g5, g6, l1, l2, e, g7, g8, g9⟩ := u
 rw [flatP] at g4 g5
 refine ⟨g1, g2, g3, (err_two.1 (err_two.1 g4).2).2, fun y hy ho => g5 y hy ?_, fun q hq => g6 q (by simp [hq]), ?_⟩
 ·rw [onL_cons, onL_cons]
  exact occL_cons.2 (Or.inr (occL_cons.2 (Or.inr ho)))
 ·cases l1 with
  | nil =>
   cases l2 with
   | nil => cases e
   | cons q l2 =>
    simp only [List.nil_append, List.cons.injEq] at e
    obtain ⟨rfl, rfl⟩ := e
    simp only [List.length_cons] at g9
    exact ⟨[], l, rfl, by simp, by simp [sizeL], by omega⟩
  | cons q l1 =>
   simp only [List.cons_append, List.cons.injEq] at e
   obtain ⟨rfl, rfl⟩ := e
   rw [List.map_cons, size_cons] at g8
   exact ⟨l1, l2, rfl, fun q hq => g7 q (by simp [hq]), by omega, g9⟩
theorem UI.head {V : List ByteArray} {h : List (ByteArray × Tm)} {p : Pr} {l : List Pr} (u : UI V h (p :: l)) : errL [p.l] = 0 ∧ errL [p.r] = 0 := by
 have g := u.err
 rw [flatP] at g
 exact ⟨(err_two.1 g).1, (err_two.1 (err_two.1 g).2).1⟩
theorem occ_self (u : Tm) : occL u.name [u] := by obtain ⟨n, k⟩ := u; exact occL_node.2 (Or.inl rfl)
theorem occ_sub {u : Tm} {y : ByteArray} (h : occL y u.args) : occL y [u] := by obtain ⟨n, k⟩ := u; exact occL_node.2 (Or.inr (Or.inl h))
theorem err_sub {u : Tm} (h : errL [u] = 0) : errL u.args = 0 := by obtain ⟨n, k⟩ := u; exact (errL_parts h).2.1
theorem size_sub (u : Tm) : sizeL [u] = 1 + sizeL u.args := by obtain ⟨n, k⟩ := u; simp [sizeL]
theorem name_of_err {u : Tm} (h : errL [u] = 0) : nameB u.name = true := by obtain ⟨n, k⟩ := u; exact errL_name h
theorem UI.bindV {V : List ByteArray} {h : List (ByteArray × Tm)} {p : Pr} {l : List Pr} (u : UI V h (p :: l)) {x : ByteArray} {t : Tm} (hx : varB x = true) (hxt : (x = (onT (sAt h) p.l).name ∧ t = onT (sAt h) p.r) ∨ (x = (onT (sAt h) p.r).name ∧ t = onT (sAt h) p.l)) (ho : ¬ inB x (varsP [] (preL [t])) = true) :
  MayAdd (sAt h) x t ∧ UI V (h ++ [(x, t)]) l := by
 have ok := u.good.all
 obtain ⟨e1, e2⟩ := u.head
 have ea := errL_onT2 ok e1
 have eb := errL_onT2 ok e2
 have ga := ok.goneT e1
 have gb := ok.goneT e2
 have hV := u.vars
 rw [flatP, onL_cons, onL_cons] at hV
 have e3 : errL (flatP l) = 0 := u.drop.err
 have both : (∀ d ∈ sAt h, d.nm ≠ x) ∧ errL [t] = 0 ∧ (∀ e ∈ sAt h, ¬ occL e.nm [t]) ∧ nameB x = true ∧ x ∈ V ∧ (∀ y, occL y [t] → occL y (onT (sAt h) p.l :: onT (sAt h) p.r :: onL (sAt h) (flatP l))) := by
  rcases hxt with ⟨rfl, rfl⟩ | ⟨rfl, rfl⟩
  ·exact ⟨fun d hd e => ga d hd (by rw [e]; exact occ_self _), eb, gb, name_of_err ea, hV _ hx (occL_cons.2 (Or.inl (occ_self _))), fun y hy => occL_cons.2 (Or.inr (occL_cons.2 (Or.inl hy)))⟩
  ·exact ⟨fun d hd e => gb d hd (by rw [e]; exact occ_self _), ea, ga, name_of_err eb, hV _ hx (occL_cons.2 (Or.inr (occL_cons.2 (Or.inl (occ_self _))))), fun y hy => occL_cons.2 (Or.inl hy)⟩
 obtain ⟨b1, b2, b3, b4, b5, b6⟩ := both
 have hoc := not_inB hx ho
 have may : MayAdd (sAt h) x t := ⟨hx, b1, b2, b3, hoc⟩
 obtain ⟨f1, f2, f3⟩ := bind_facts (L := flatP l) ok hx b1 b2 b3 hoc e3
 refine ⟨may, u.good.snoc may, fun i hi => ?_, fun i hi => ?_, e3, fun y hy hoc => ?_, u.drop.size, [], l, rfl, by simp, by simp [sizeL], ?_⟩
 ·by_cases e : i < h.length
  ·rw [List.getElem_append_left e]; exact u.names i e
  ·have : i = h.length := by simp at hi; omega
   subst this
   simpa using b4
 ·by_cases e : i < h.length
  ·rw [List.getElem_append_left e]; exact u.inV i e
  ·have : i = h.length := by simp at hi; omega
   subst this
   simpa using b5
 ·rw [sAt_snoc] at hoc
  rcases f2 y hy hoc with h1 | h1
  ·exact hV y hy (occL_cons.2 (Or.inr (occL_cons.2 (Or.inr h1))))
  ·exact hV y hy (b6 y h1)
 ·obtain ⟨l1, l2, e, g7, g8, g9⟩ := u.len
  have h4 := map_len_size l1
  have h5 : l.length + 1 = l1.length + l2.length := by rw [← List.length_append, ← e]; simp
  simp only [List.length_append, List.length_cons, List.length_nil]
  omega
theorem zip_mem : ∀ {a b : List Tm} {p : Pr}, p ∈ zipP a b → p.l ∈ a ∧ p.r ∈ b
 | [], _, p, h => by simp [zipP] at h
 | _ :: _, [], p, h => by simp [zipP] at h
 | t :: a, u :: b, p, h => by
  rw [zipP] at h
  rcases List.mem_cons.1 h with rfl | h
  ·exact ⟨by simp, by simp⟩
  ·have := zip_mem h
   exact ⟨by simp [this.1], by simp [this.2]⟩
theorem zip_left : ∀ {a b : List Tm}, a.length = b.length → (zipP a b).map (·.l) = a
 | [], [], _ => rfl
 | [], _ :: _, h => by simp at h
 | _ :: _, [], h => by simp at h
 | t :: a, u :: b, h => by rw [zipP, List.map_cons, zip_left (by simpa using h)]
theorem size_mem {l : List Tm} {t : Tm} (h : t ∈ l) : sizeL [t] ≤ sizeL l := by
 induction l with
 | nil => cases h
 | cons a r ih =>
  have hc := size_cons a r
  rcases List.mem_cons.1 h with rfl | h
  ·omega
  ·have := ih h; omega
theorem onT_id {s : List Bd} {t : Tm} (h : ∀ e ∈ s, ¬ occL e.nm [t]) : onT s t = t := by
 have h1 := onL_id [t] h
 rw [onL_cons] at h1
 simpa [onL] using h1
theorem occ_mem {y : ByteArray} {l : List Tm} {t : Tm} (h : t ∈ l) (ho : occL y [t]) : occL y l := by
 induction l with
 | nil => cases h
 | cons a r ih =>
  rcases List.mem_cons.1 h with rfl | h
  ·exact occL_cons.2 (Or.inl ho)
  ·exact occL_cons.2 (Or.inr (ih h))
theorem UI.deep {V : List ByteArray} {h : List (ByteArray × Tm)} {p : Pr} {l : List Pr} (u : UI V h (p :: l)) (ha : sizeL [onT (sAt h) p.l] ≤ 2000) (hb : sizeL [onT (sAt h) p.r] ≤ 2000) (hl : (onT (sAt h) p.l).args.length = (onT (sAt h) p.r).args.length) :
  UI V h (zipP (onT (sAt h) p.l).args (onT (sAt h) p.r).args ++ l) ∧ ∀ q ∈ zipP (onT (sAt h) p.l).args (onT (sAt h) p.r).args, onT (sAt h) q.l = q.l ∧ onT (sAt h) q.r = q.r := by
 have ok := u.good.all
 obtain ⟨e1, e2⟩ := u.head
 have ea := errL_onT2 ok e1
 have eb := errL_onT2 ok e2
 have ga := ok.goneT e1
 have gb := ok.goneT e2
 have hV := u.vars
 rw [flatP, onL_cons, onL_cons] at hV
 have hset : ∀ q ∈ zipP (onT (sAt h) p.l).args (onT (sAt h) p.r).args, onT (sAt h) q.l = q.l ∧ onT (sAt h) q.r = q.r := fun q hq => by
  obtain ⟨m1, m2⟩ := zip_mem hq
  exact ⟨onT_id fun e he ho => ga e he (occ_sub (occ_mem m1 ho)), onT_id fun e he ho => gb e he (occ_sub (occ_mem m2 ho))⟩
 have sa := size_sub (onT (sAt h) p.l)
 have sb := size_sub (onT (sAt h) p.r)
 refine ⟨⟨u.good, u.names, u.inV, ?_, fun y hy ho => ?_, fun q hq => ?_, ?_⟩, hset⟩
 ·rw [flatP_append]
  exact err_append.2 ⟨zip_err (err_sub ea) (err_sub eb), u.drop.err⟩
 ·rw [flatP_append, onL_append] at ho
  rcases occL_append.1 ho with ho | ho
  ·rw [onL_id] at ho
   ·rcases zip_occ ho with ho | ho
    ·exact hV y hy (occL_cons.2 (Or.inl (occ_sub ho)))
    ·exact hV y hy (occL_cons.2 (Or.inr (occL_cons.2 (Or.inl (occ_sub ho)))))
   ·intro e he hoc
    rcases zip_occ hoc with hoc | hoc
    ·exact ga e he (occ_sub hoc)
    ·exact gb e he (occ_sub hoc)
  ·exact hV y hy (occL_cons.2 (Or.inr (occL_cons.2 (Or.inr ho))))
 ·rcases List.mem_append.1 hq with hq | hq
  ·obtain ⟨m1, m2⟩ := zip_mem hq
   have := size_mem m1
   have := size_mem m2
   omega
  ·exact u.size q (by simp [hq])
 ·obtain ⟨l1, l2, e, g7, g8, g9⟩ := u.len
  cases l1 with
  | nil =>
   cases l2 with
   | nil => cases e
   | cons q l2 =>
    simp only [List.nil_append, List.cons.injEq] at e
    obtain ⟨rfl, rfl⟩ := e
    simp only [List.length_cons] at g9
    exact ⟨_, l, rfl, hset, by rw [zip_left hl]; omega, by omega⟩
  | cons q l1 =>
   simp only [List.cons_append, List.cons.injEq] at e
   obtain ⟨rfl, rfl⟩ := e
   rw [List.map_cons, size_cons] at g8
   have hp := (g7 p (by simp)).1
   refine ⟨zipP (onT (sAt h) p.l).args (onT (sAt h) p.r).args ++ l1, l2, by rw [List.append_assoc], fun q hq => ?_, ?_, g9⟩
   ·rcases List.mem_append.1 hq with hq | hq
    ·exact hset q hq
    ·exact g7 q (by simp [hq])
   ·rw [List.map_append, sizeL_append, zip_left hl]
    rw [hp] at sa ⊢
    omega
def Agr (t s : List Bd) : Prop := ∀ d ∈ s, onT t ⟨d.nm, []⟩ = onT t d.t
def Uni (t : List Bd) (l : List Pr) : Prop := ∀ p ∈ l, onT t p.l = onT t p.r
theorem agr_onL {t s : List Bd} (ht : ∀ d ∈ t, varB d.nm = true) (hs : ∀ d ∈ s, varB d.nm = true) (ha : Agr t s) : ∀ l : List Tm, errL l = 0 → onL t (onL s l) = onL t l := by
 intro l
 induction l using Tm.indL with
 | h0 => intro _; simp [onL]
 | h n l r ihl ihr =>
  intro he
  obtain ⟨g1, g2, g3⟩ := errL_parts he
  rw [onL_cons, onL_cons, onL_cons, ihr g3]
  congr 1
  cases hv : varB n with
  | false => rw [onT_sym2 hs hv, onT_sym2 ht hv, onT_sym2 ht hv, ihl g2]
  | true =>
   have e := g1 hv
   subst e
   cases hf : forT s n with
   | none => rw [onT_leaf s, hf]; rfl
   | some x =>
    rw [onT_some hf]
    obtain ⟨d, hd, e1, e2⟩ := forT_mem hf
    rw [← e2, ← ha d hd, e1]
theorem agr_on {t s : List Bd} (ht : ∀ d ∈ t, varB d.nm = true) (hs : ∀ d ∈ s, varB d.nm = true) (ha : Agr t s) {x : Tm} (he : errL [x] = 0) : onT t (onT s x) = onT t x := by
 have h := agr_onL ht hs ha [x] he
 rw [onL_cons, onL_cons, onL_cons] at h
 simpa [onL] using h
theorem agr_add {t s : List Bd} (ht : ∀ d ∈ t, varB d.nm = true) {x : ByteArray} {u : Tm} (hx : varB x = true) (hs : ∀ d ∈ s, errL [d.t] = 0) : Agr t (addS s x u) ↔ (Agr t s ∧ onT t ⟨x, []⟩ = onT t u) := by
 have one : ∀ {v : Tm}, onT t ⟨x, []⟩ = onT t u → errL [v] = 0 → onT t (onT [⟨x, u⟩] v) = onT t v := fun hxu hv => agr_on ht (by simpa using hx) (by simpa [Agr] using hxu) hv
 have hm : ∀ d, d ∈ addS s x u ↔ d ∈ s.map (putB x u) ++ [⟨x, u⟩] := fun d => (srtB_perm _).mem_iff
 constructor
 ·intro h
  have hxu : onT t ⟨x, []⟩ = onT t u := h ⟨x, u⟩ ((hm _).2 (by simp))
  refine ⟨fun d hd => ?_, hxu⟩
  have h1 := h (putB x u d) ((hm _).2 (List.mem_append_left _ (List.mem_map.2 ⟨d, hd, rfl⟩)))
  simp only [putB] at h1
  rw [h1, one hxu (hs d hd)]
 ·rintro ⟨h, hxu⟩ d hd
  rcases List.mem_append.1 ((hm d).1 hd) with hd | hd
  ·obtain ⟨e, he, rfl⟩ := List.mem_map.1 hd
   simp only [putB]
   rw [one hxu (hs e he)]
   exact h e he
  ·have e : d = ⟨x, u⟩ := by simpa using hd
   subst e
   exact hxu
theorem occ_size {t : List Bd} (ht : ∀ d ∈ t, varB d.nm = true) {x : ByteArray} (hx : varB x = true) : ∀ l : List Tm, errL l = 0 → occL x l → sizeL [onT t ⟨x, []⟩] ≤ sizeL (onL t l) := by
 intro l
 induction l using Tm.indL with
 | h0 => intro _ ho; obtain ⟨k, hk, _⟩ := ho; simp [preL] at hk
 | h n l r ihl ihr =>
  intro he ho
  obtain ⟨g1, g2, g3⟩ := errL_parts he
  have hcc := size_cons (onT t ⟨n, l⟩) (onL t r)
  rw [onL_cons]
  rcases occL_node.1 ho with rfl | ho | ho
  ·have e := g1 hx
   subst e
   omega
  ·cases hv : varB n with
   | false =>
    have := ihl g2 ho
    rw [onT_sym2 ht hv] at hcc ⊢
    have e : sizeL [(⟨n, onL t l⟩ : Tm)] = 1 + sizeL (onL t l) := by simp [sizeL]
    omega
   | true =>
    have e := g1 hv
    subst e
    obtain ⟨k, hk, _⟩ := ho
    simp [preL] at hk
  ·have := ihr g3 ho
   omega
theorem occ_never {t : List Bd} (ht : ∀ d ∈ t, varB d.nm = true) {x : ByteArray} (hx : varB x = true) {u : Tm} (he : errL [u] = 0) (hn : x ≠ u.name) (ho : occL x [u]) : onT t ⟨x, []⟩ ≠ onT t u := fun hh => by
 obtain ⟨n, k⟩ := u
 obtain ⟨g1, g2, _⟩ := errL_parts he
 have hok : occL x k := by
  rcases occL_node.1 ho with h | h | h
  ·exact absurd h.symm hn
  ·exact h
  ·obtain ⟨y, hy, _⟩ := h; simp [preL] at hy
 cases hv : varB n with
 | true =>
  have e := g1 hv
  subst e
  obtain ⟨y, hy, _⟩ := hok
  simp [preL] at hy
 | false =>
  have h1 := occ_size ht hx k g2 hok
  rw [hh, onT_sym2 ht hv] at h1
  have e : sizeL [(⟨n, onL t k⟩ : Tm)] = 1 + sizeL (onL t k) := by simp [sizeL]
  omega
theorem uni_zip {t : List Bd} : ∀ {a b : List Tm}, a.length = b.length → (Uni t (zipP a b) ↔ onL t a = onL t b)
 | [], [], _ => by simp [Uni, zipP]
 | [], _ :: _, h => by simp at h
 | _ :: _, [], h => by simp at h
 | x :: a, y :: b, h => by
  have ih := uni_zip (t := t) (a := a) (b := b) (by simpa using h)
  rw [zipP, onL_cons, onL_cons, List.cons.injEq, ← ih]
  simp [Uni]
theorem var_leaf {u : Tm} (he : errL [u] = 0) (hv : varB u.name = true) : u = ⟨u.name, []⟩ := by
 obtain ⟨n, k⟩ := u
 have := (errL_parts he).1 hv
 subst this
 rfl
theorem step_agr {t : List Bd} (ht : ∀ d ∈ t, varB d.nm = true) {V : List ByteArray} {h : List (ByteArray × Tm)} {p : Pr} {l : List Pr} (u : UI V h (p :: l)) :
  (∀ e s', uPair false (sAt h) l (onT (sAt h) p.l) (onT (sAt h) p.r) = .stop e s' → e = 8 ∨ ¬ (Agr t (sAt h) ∧ onT t p.l = onT t p.r)) ∧
  (∀ s' l', uPair false (sAt h) l (onT (sAt h) p.l) (onT (sAt h) p.r) = .go s' l' → ∃ h', s' = sAt h' ∧ UI V h' l' ∧ ((Agr t (sAt h') ∧ Uni t l') ↔ (Agr t (sAt h) ∧ Uni t (p :: l)))) := by
 have ok := u.good.all
 obtain ⟨e1, e2⟩ := u.head
 have ea := errL_onT2 ok e1
 have eb := errL_onT2 ok e2
 have hon : Agr t (sAt h) → (onT t p.l = onT t p.r ↔ onT t (onT (sAt h) p.l) = onT t (onT (sAt h) p.r)) := fun ha => by
  rw [agr_on ht ok.vars ha e1, agr_on ht ok.vars ha e2]
 have huc : Uni t (p :: l) ↔ (onT t p.l = onT t p.r ∧ Uni t l) := by simp [Uni]
 have hbv := fun x y => u.bindV (x := x) (t := y)
 have hdp := u.deep
 have hse : ∀ d ∈ sAt h, errL [d.t] = 0 := fun d hd => (ok.2.1 d hd).2
 generalize onT (sAt h) p.l = a at *
 generalize onT (sAt h) p.r = b at *
 have bindCase : ∀ (x : ByteArray) (y : Tm), varB x = true → x ≠ y.name → errL [y] = 0 → ((x = a.name ∧ y = b) ∨ (x = b.name ∧ y = a)) → (Agr t (sAt h) → (onT t p.l = onT t p.r ↔ onT t ⟨x, []⟩ = onT t y)) →
   (∀ e s', uBind false (sAt h) l x y = .stop e s' → e = 8 ∨ ¬ (Agr t (sAt h) ∧ onT t p.l = onT t p.r)) ∧ (∀ s' l', uBind false (sAt h) l x y = .go s' l' → ∃ h', s' = sAt h' ∧ UI V h' l' ∧ ((Agr t (sAt h') ∧ Uni t l') ↔ (Agr t (sAt h) ∧ Uni t (p :: l)))) := fun x y hx hne hey hor hiff => by
  unfold uBind
  by_cases ho : inB x (varsP [] (preL [y])) = true
  ·rw [if_pos ho]
   have hoc : occL x [y] := by
    apply Classical.byContradiction
    intro hn
    unfold inB at ho
    rw [List.any_eq_true] at ho
    obtain ⟨z, hz, e⟩ := ho
    have e2 : z = x := bytes_inj (by simpa using e)
    subst e2
    rcases varsP_sub _ _ _ hz with h1 | ⟨k, h1, h2, _⟩
    ·cases h1
    ·exact hn ⟨k, h1, h2⟩
   refine ⟨fun e s' hh => Or.inr fun hA => occ_never ht hx hey hne hoc ((hiff hA.1).1 hA.2), fun s' l' hh => by cases hh⟩
  ·rw [if_neg ho, if_neg (by simp)]
   refine ⟨fun e s' hh => (by cases hh), fun s' l' hh => ?_⟩
   cases hh
   refine ⟨h ++ [(x, y)], by rw [sAt_snoc]; rfl, (hbv x y hx hor ho).2, ?_⟩
   rw [sAt_snoc, agr_add ht hx hse, huc]
   constructor
   ·rintro ⟨⟨h1, h2⟩, h3⟩
    exact ⟨h1, (hiff h1).2 h2, h3⟩
   ·rintro ⟨h1, h2, h3⟩
    exact ⟨⟨h1, (hiff h1).1 h2⟩, h3⟩
 unfold uPair
 by_cases hz : 2000 < sizeL [a] ∨ 2000 < sizeL [b]
 ·rw [if_pos hz]
  refine ⟨fun e s' hh => (by cases hh; exact Or.inl rfl), fun s' l' hh => by cases hh⟩
 rw [if_neg hz]
 by_cases hva : varB a.name = true
 ·rw [if_pos hva]
  have hal := var_leaf ea hva
  by_cases hn : a.name = b.name
  ·rw [if_pos hn]
   refine ⟨fun e s' hh => (by cases hh), fun s' l' hh => ?_⟩
   cases hh
   have hbl := var_leaf eb (by rw [← hn]; exact hva)
   refine ⟨h, rfl, u.drop, ?_⟩
   rw [huc]
   constructor
   ·rintro ⟨h1, h2⟩
    exact ⟨h1, (hon h1).2 (by rw [hal, hbl, hn]), h2⟩
   ·rintro ⟨h1, _, h2⟩
    exact ⟨h1, h2⟩
  ·rw [if_neg hn]
   exact bindCase a.name b hva hn eb (Or.inl ⟨rfl, rfl⟩) (fun hA => by rw [hon hA, ← hal])
 rw [if_neg hva]
 have hva' : varB a.name = false := by simpa using hva
 by_cases hvb : varB b.name = true
 ·rw [if_pos hvb]
  have hbl := var_leaf eb hvb
  exact bindCase b.name a hvb (fun e => hva (by rw [← e]; exact hvb)) ea (Or.inr ⟨rfl, rfl⟩) (fun hA => by rw [hon hA, ← hbl]; exact eq_comm)
 rw [if_neg hvb]
 have hvb' : varB b.name = false := by simpa using hvb
 have ha2 : onT t a = ⟨a.name, onL t a.args⟩ := by
  obtain ⟨n, k⟩ := a
  exact onT_sym2 ht hva' k
 have hb2 : onT t b = ⟨b.name, onL t b.args⟩ := by
  obtain ⟨n, k⟩ := b
  exact onT_sym2 ht hvb' k
 by_cases hnl : a.name = b.name ∧ a.args.length = b.args.length
 ·rw [if_pos hnl]
  refine ⟨fun e s' hh => (by cases hh), fun s' l' hh => ?_⟩
  cases hh
  refine ⟨h, rfl, (hdp (by omega) (by omega) hnl.2).1, ?_⟩
  have hua : Uni t (zipP a.args b.args ++ l) ↔ (Uni t (zipP a.args b.args) ∧ Uni t l) := by
   constructor
   ·intro hh
    exact ⟨fun q hq => hh q (List.mem_append_left _ hq), fun q hq => hh q (List.mem_append_right _ hq)⟩
   ·rintro ⟨h1, h2⟩ q hq
    rcases List.mem_append.1 hq with hq | hq
    ·exact h1 q hq
    ·exact h2 q hq
  rw [hua, huc, uni_zip hnl.2]
  constructor
  ·rintro ⟨h1, h2, h3⟩
   exact ⟨h1, (hon h1).2 (by rw [ha2, hb2, h2, hnl.1]), h3⟩
  ·rintro ⟨h1, h2, h3⟩
   have h4 := (hon h1).1 h2
   rw [ha2, hb2] at h4
   exact ⟨h1, by injection h4, h3⟩
 ·rw [if_neg hnl]
  refine ⟨fun e s' hh => Or.inr ?_, fun s' l' hh => by cases hh⟩
  rintro ⟨h1, h2⟩
  have h4 := (hon h1).1 h2
  rw [ha2, hb2] at h4
  injection h4 with h5 h6
  have h7 := congrArg List.length h6
  rw [onL_length, onL_length] at h7
  exact hnl ⟨h5, h7⟩
theorem run_agr {V : List ByteArray} : ∀ (n : Nat) (h : List (ByteArray × Tm)) (l : List Pr) (R : Int × List Bd), UI V h l → uRun false n (sAt h) l = some R →
  ∃ h', R.2 = sAt h' ∧ GoodH h' ∧ NamesH h' ∧ (R.1 = 0 → ∀ t, (∀ d ∈ t, varB d.nm = true) → (Agr t R.2 ↔ (Agr t (sAt h) ∧ Uni t l))) ∧ (R.1 ≠ 0 → R.1 ≠ 8 → ∀ t, (∀ d ∈ t, varB d.nm = true) → ¬ (Agr t (sAt h) ∧ Uni t l))
 | 0, h, l, R, u, hr => by cases hr
 | n + 1, h, [], R, u, hr => by
  simp [uRun, uNext] at hr
  subst hr
  exact ⟨h, rfl, u.good, u.names, fun _ t _ => by simp [Uni], fun h0 => absurd rfl h0⟩
 | n + 1, h, p :: l, R, u, hr => by
  rw [uRun, uNext_cons] at hr
  cases hp : uPair false (sAt h) l (onT (sAt h) p.l) (onT (sAt h) p.r) with
  | stop e s' =>
   rw [hp] at hr
   have e2 : s' = sAt h := uNext_stop (lim := false) (l := p :: l) (e := e) (by rw [uNext_cons]; exact hp)
   simp at hr
   subst hr
   refine ⟨h, e2, u.good, u.names, fun h0 => ?_, fun _ h8 t ht => ?_⟩
   ·exfalso
    have h0 : e = 0 := h0
    subst h0
    unfold uPair uBind at hp
    repeat' split at hp
    all_goals first | (cases hp; done) | (injection hp with h1 h2; exact absurd h1 (by decide))
   ·rcases (step_agr ht u).1 e s' hp with h1 | h1
    ·exact absurd h1 h8
    ·rintro ⟨h2, h3⟩
     exact h1 ⟨h2, h3 p (by simp)⟩
  | go s' l' =>
   rw [hp] at hr
   obtain ⟨h', rfl, u', _⟩ := (step_agr (t := []) (by simp) u).2 s' l' hp
   obtain ⟨h2, q1, q2, q3, q4, q5⟩ := run_agr n h' l' R u' hr
   have key : ∀ t, (∀ d ∈ t, varB d.nm = true) → ((Agr t (sAt h') ∧ Uni t l') ↔ (Agr t (sAt h) ∧ Uni t (p :: l))) := fun t ht => by
    obtain ⟨h3, e3, _, k3⟩ := (step_agr ht u).2 (sAt h') l' hp
    rw [e3]
    exact k3
   exact ⟨h2, q1, q2, q3, fun h0 t ht => (q4 h0 t ht).trans (key t ht), fun h0 h8 t ht hh => q5 h0 h8 t ht ((key t ht).2 hh)⟩
theorem errL_cons_zero {t : Tm} {r : List Tm} : errL (t :: r) = 0 ↔ errL [t] = 0 ∧ errL r = 0 := by
 rw [errL_cons]
 by_cases h : errL [t] = 0 <;> simp [h]
theorem errL_append_zero {a b : List Tm} : errL (a ++ b) = 0 ↔ errL a = 0 ∧ errL b = 0 := by
 rw [errL_append]
 by_cases h : errL a = 0 <;> simp [h]
theorem errL_knot {s : ByteArray} {l : List Tm} (h : errL [⟨s, l⟩] = 0) : nameB s = true ∧ (varB s = true → l = []) ∧ errL l = 0 := by
 simp only [errL] at h
 split at h
 ·rename_i hn
  split at h
  ·cases h
  ·rename_i hv
   refine ⟨by simpa using hn, fun hb => ?_, ?_⟩
   ·match l with
    | [] => rfl
    | a :: b => exact absurd (by simp [hb]) hv
   ·by_cases h0 : errL l = 0
    ·exact h0
    ·simp [h0] at h
 ·cases h
abbrev Sg := ByteArray × Nat
def vsg : Sg := (⟨#[]⟩, 0)
def sgT (t : Tm) : Sg := if varB t.name = true then vsg else (t.name, t.args.length)
def wdL : List Tm → List Sg
 | [] => []
 | ⟨s, l⟩ :: r => sgT ⟨s, l⟩ :: (wdL l ++ wdL r)
theorem wdL_cons (t : Tm) (r : List Tm) : wdL (t :: r) = sgT t :: (wdL t.args ++ wdL r) := by
 obtain ⟨s, l⟩ := t
 simp only [wdL]
theorem wdL_nil : wdL [] = [] := by simp [wdL]
theorem wdL_append (a b : List Tm) : wdL (a ++ b) = wdL a ++ wdL b := by
 induction a with
 | nil => simp [wdL]
 | cons t r ih => rw [List.cons_append, wdL_cons, wdL_cons, ih]; simp
theorem sgT_var {t : Tm} (h : varB t.name = true) : sgT t = vsg := by simp [sgT, h]
theorem sgT_sym {t : Tm} (h : varB t.name = false) : sgT t = (t.name, t.args.length) := by simp [sgT, h]
inductive Many : Nat → List Sg → Prop
 | nil : Many 0 []
 | cons {n : Nat} {s : Sg} {v : List Sg} : Many (n + s.2) v → Many (n + 1) (s :: v)
theorem many_free {n : Nat} {v : List Sg} (h : Many n v) : ∀ {v' u u' : List Sg}, Many n v' → v ++ u = v' ++ u' → v = v' ∧ u = u' := by
 induction h with
 | nil =>
  intro v' u u' h' e
  cases h'
  exact ⟨rfl, by simpa using e⟩
 | cons h ih =>
  intro v' u u' h' e
  cases h' with
  | cons h2 =>
   simp only [List.cons_append, List.cons.injEq] at e
   obtain ⟨e1, e2⟩ := e
   subst e1
   obtain ⟨a, b⟩ := ih h2 e2
   exact ⟨by rw [a], b⟩
theorem many_wd (l : List Tm) : errL l = 0 → ∀ {n : Nat} {v : List Sg}, Many n v → Many (l.length + n) (wdL l ++ v) := by
 induction l using Tm.indL with
 | h0 => intro _ n v h; simpa [wdL] using h
 | h s l r ihl ihr =>
  intro he n v h
  obtain ⟨h1, h2⟩ := errL_cons_zero.1 he
  obtain ⟨_, hv, hl⟩ := errL_knot h1
  rw [wdL_cons]
  have h3 := ihl hl (ihr h2 h)
  have e : ((⟨s, l⟩ : Tm) :: r).length + n = (r.length + n) + 1 := by simp; omega
  rw [e, List.cons_append, List.append_assoc]
  refine Many.cons ?_
  have e2 : (sgT ⟨s, l⟩).2 = l.length := by
   by_cases hb : varB s = true
   ·rw [sgT_var (t := ⟨s, l⟩) hb, hv hb]; rfl
   ·rw [sgT_sym (t := ⟨s, l⟩) (by simpa using hb)]
  rw [e2, Nat.add_comm (r.length + n)]
  exact h3
inductive Rch (k : Nat) : List Tm → List Sg → Prop
 | nil : Rch k [] []
 | past {s : ByteArray} {l r : List Tm} {v1 v2 : List Sg} : varB s = true → k ≠ 0 → Many 1 v1 → Rch k r v2 → Rch k (⟨s, l⟩ :: r) (v1 ++ v2)
 | var {s : ByteArray} {l r : List Tm} {v : List Sg} : ¬ (varB s = true ∧ k ≠ 0) → k ≠ 1 → Rch k r v → Rch k (⟨s, l⟩ :: r) (vsg :: v)
 | sym {s : ByteArray} {l r : List Tm} {v : List Sg} : varB s = false → Rch k (l ++ r) v → Rch k (⟨s, l⟩ :: r) ((s, l.length) :: v)
inductive CpL (k : Nat) : List Tm → List Tm → Prop
 | nil : CpL k [] []
 | past {x : Tm} {xs : List Tm} {s : ByteArray} {l ts : List Tm} : varB s = true → k ≠ 0 → CpL k xs ts → CpL k (x :: xs) (⟨s, l⟩ :: ts)
 | var {x : Tm} {xs : List Tm} {s : ByteArray} {l ts : List Tm} : varB x.name = true → ¬ (varB s = true ∧ k ≠ 0) → k ≠ 1 → CpL k xs ts → CpL k (x :: xs) (⟨s, l⟩ :: ts)
 | sym {s : ByteArray} {a l xs ts : List Tm} : varB s = false → CpL k a l → CpL k xs ts → CpL k (⟨s, a⟩ :: xs) (⟨s, l⟩ :: ts)
theorem CpL.len {k : Nat} {xs ts : List Tm} (h : CpL k xs ts) : xs.length = ts.length := by
 induction h with
 | nil => rfl
 | past _ _ _ ih => simp [ih]
 | var _ _ _ _ ih => simp [ih]
 | sym _ _ _ _ ih => simp [ih]
theorem CpL.app {k : Nat} {xs ts ys us : List Tm} (h : CpL k xs ts) (h2 : CpL k ys us) : CpL k (xs ++ ys) (ts ++ us) := by
 induction h with
 | nil => exact h2
 | past a b _ ih => exact CpL.past a b ih
 | var a b c _ ih => exact CpL.var a b c ih
 | sym a b _ _ ih => exact CpL.sym a b ih
theorem many_one {x : Tm} (he : errL [x] = 0) : Many 1 (wdL [x]) := by
 have h := many_wd [x] he Many.nil
 simpa using h
theorem cp_rch {k : Nat} : ∀ (n : Nat) {xs ts : List Tm}, sizeL ts ≤ n → errL xs = 0 → CpL k xs ts → Rch k ts (wdL xs)
 | n, [], [], _, _, _ => by rw [wdL_nil]; exact Rch.nil
 | n, x :: xs, ⟨s, l⟩ :: ts, hn, he, h => by
  obtain ⟨h1, h2⟩ := errL_cons_zero.1 he
  have hz : sizeL ((⟨s, l⟩ : Tm) :: ts) = 1 + (sizeL l + sizeL ts) := by simp [sizeL]; omega
  obtain ⟨n, rfl⟩ : ∃ m, n = m + 1 := ⟨n - 1, by omega⟩
  have e1 : wdL (x :: xs) = wdL [x] ++ wdL xs := wdL_append [x] xs
  cases h with
  | past a b c => rw [e1]; exact Rch.past a b (many_one h1) (cp_rch n (by omega) h2 c)
  | var a b c d =>
   have e : wdL (x :: xs) = vsg :: wdL xs := by
    obtain ⟨xn, xa⟩ := x
    have hx := (errL_knot h1).2.1 a
    rw [wdL_cons, sgT_var a, hx, wdL_nil]; rfl
   rw [e]
   exact Rch.var b c (cp_rch n (by omega) h2 d)
  | sym a b c =>
   have hl := b.len
   rename_i aa
   rw [wdL_cons, sgT_sym (t := ⟨s, aa⟩) a]
   show Rch k _ ((s, aa.length) :: (wdL aa ++ wdL xs))
   rw [hl, ← wdL_append]
   refine Rch.sym a (cp_rch n (by rw [sizeL_append]; omega) ?_ (b.app c))
   exact errL_append_zero.2 ⟨(errL_knot h1).2.2, h2⟩
theorem mt_step {p t : Tm} {h h' : List Bd} (he : mtT p t h = some h') : varB p.name = true ∨ (varB p.name = false ∧ p.name = t.name ∧ p.args.length = t.args.length ∧ mtL p.args t.args h = some h') := by
 unfold mtT at he
 by_cases hv : varB p.name = true
 ·exact Or.inl hv
 ·rw [if_neg hv] at he
  split at he
  ·rename_i h2
   rw [Bool.and_eq_true] at h2
   exact Or.inr ⟨by simpa using hv, bytes_inj (by simpa using h2.1), by simpa using h2.2, he⟩
  ·cases he
theorem cp_over (l : List Tm) : ∀ {ts : List Tm} {h h' : List Bd}, l.length = ts.length → mtL l ts h = some h' → CpL 0 l ts := by
 induction l using Tm.indL with
 | h0 =>
  intro ts h h' e _
  match ts, e with
  | [], _ => exact CpL.nil
 | h s a r iha ihr =>
  intro ts h h' e he
  match ts, e with
  | ⟨s2, l2⟩ :: ts', e =>
   rw [mtL_cons] at he
   cases hm : mtT ⟨s, a⟩ ⟨s2, l2⟩ h with
   | none => rw [hm] at he; cases he
   | some g =>
    rw [hm] at he
    have h2 := ihr (by simpa using e) he
    rcases mt_step hm with hv | ⟨hv, e1, e2, e3⟩
    ·exact CpL.var hv (by simp) (by omega) h2
    ·have e1' : s = s2 := e1
     subst e1'
     exact CpL.sym hv (iha e2 e3) h2
theorem cp_under (l : List Tm) : ∀ {ts : List Tm} {h h' : List Bd}, l.length = ts.length → mtL l ts h = some h' → CpL 1 ts l := by
 induction l using Tm.indL with
 | h0 =>
  intro ts h h' e _
  match ts, e with
  | [], _ => exact CpL.nil
 | h s a r iha ihr =>
  intro ts h h' e he
  match ts, e with
  | ⟨s2, l2⟩ :: ts', e =>
   rw [mtL_cons] at he
   cases hm : mtT ⟨s, a⟩ ⟨s2, l2⟩ h with
   | none => rw [hm] at he; cases he
   | some g =>
    rw [hm] at he
    have h2 := ihr (by simpa using e) he
    rcases mt_step hm with hv | ⟨hv, e1, e2, e3⟩
    ·exact CpL.past hv (by omega) h2
    ·have e1' : s = s2 := e1
     subst e1'
     exact CpL.sym hv (iha e2 e3) h2
theorem cp_near {σ : List Bd} (hσ : ∀ d ∈ σ, varB d.nm = true) (l : List Tm) : ∀ {ts : List Tm}, onL σ ts = onL σ l → CpL 2 ts l := by
 induction l using Tm.indL with
 | h0 =>
  intro ts e
  have h := congrArg List.length e
  rw [onL_length, onL_length] at h
  match ts, h with
  | [], _ => exact CpL.nil
 | h s a r iha ihr =>
  intro ts e
  have h := congrArg List.length e
  rw [onL_length, onL_length] at h
  match ts, h with
  | ⟨s2, l2⟩ :: ts', h =>
   rw [onL_cons, onL_cons] at e
   obtain ⟨e1, e2⟩ := List.cons.inj e
   have h2 := ihr e2
   by_cases hv : varB s = true
   ·exact CpL.past hv (by omega) h2
   ·have hv' : varB s = false := by simpa using hv
    by_cases hw : varB s2 = true
    ·exact CpL.var hw (fun h => hv h.1) (by omega) h2
    ·have hw' : varB s2 = false := by simpa using hw
     rw [onT_sym2 hσ hv', onT_sym2 hσ hw'] at e1
     injection e1 with e3 e4
     subst e3
     exact CpL.sym hv' (iha e4) h2
theorem rch_nil {k : Nat} {v : List Sg} : Rch k [] v ↔ v = [] := by
 constructor
 ·intro h; cases h; rfl
 ·rintro rfl; exact Rch.nil
theorem rch_past {k : Nat} {s : ByteArray} {l r : List Tm} {v : List Sg} (hv : varB s = true) (hk : k ≠ 0) : Rch k (⟨s, l⟩ :: r) v ↔ ∃ v1 v2, Many 1 v1 ∧ Rch k r v2 ∧ v = v1 ++ v2 := by
 constructor
 ·intro h
  cases h with
  | past a b c d => exact ⟨_, _, c, d, rfl⟩
  | var a b c => exact absurd ⟨hv, hk⟩ a
  | sym a b => rw [hv] at a; cases a
 ·rintro ⟨v1, v2, a, b, rfl⟩; exact Rch.past hv hk a b
theorem rch_else {k : Nat} {s : ByteArray} {l r : List Tm} {v : List Sg} (h0 : ¬ (varB s = true ∧ k ≠ 0)) : Rch k (⟨s, l⟩ :: r) v ↔ (k ≠ 1 ∧ ∃ v2, Rch k r v2 ∧ v = vsg :: v2) ∨ (varB s = false ∧ ∃ v2, Rch k (l ++ r) v2 ∧ v = (s, l.length) :: v2) := by
 constructor
 ·intro h
  cases h with
  | past a b c d => exact absurd ⟨a, b⟩ h0
  | var a b c => exact Or.inl ⟨b, _, c, rfl⟩
  | sym a b => exact Or.inr ⟨a, _, b, rfl⟩
 ·rintro (⟨a, v2, b, rfl⟩ | ⟨a, v2, b, rfl⟩)
  ·exact Rch.var h0 a b
  ·exact Rch.sym a b
theorem many_zero {v : List Sg} : Many 0 v ↔ v = [] := by
 constructor
 ·intro h; cases h; rfl
 ·rintro rfl; exact Many.nil
theorem many_succ {n : Nat} {v : List Sg} : Many (n + 1) v ↔ ∃ s v2, v = s :: v2 ∧ Many (n + s.2) v2 := by
 constructor
 ·intro h; cases h with
  | cons h => exact ⟨_, _, rfl, h⟩
 ·rintro ⟨s, v2, rfl, h⟩; exact Many.cons h
def spL : Nat → List Tm → List (Sg × Nat)
 | _, [] => []
 | a, ⟨s, l⟩ :: r => (sgT ⟨s, l⟩, a + 1 + sizeL l) :: (spL (a + 1) l ++ spL (a + 1 + sizeL l) r)
theorem spL_nil (a : Nat) : spL a [] = [] := by simp [spL]
theorem spL_cons (a : Nat) (t : Tm) (r : List Tm) : spL a (t :: r) = (sgT t, a + 1 + sizeL t.args) :: (spL (a + 1) t.args ++ spL (a + 1 + sizeL t.args) r) := by
 obtain ⟨s, l⟩ := t
 simp only [spL]
theorem sizeI_cons (t : Tm) (r : List Tm) : sizeL (t :: r) = 1 + (sizeL t.args + sizeL r) := by
 obtain ⟨s, l⟩ := t
 simp [sizeL]; omega
theorem spL_length (l : List Tm) : ∀ a, (spL a l).length = sizeL l := by
 induction l using Tm.indL with
 | h0 => intro a; simp [spL, sizeL]
 | h s l r ihl ihr => intro a; rw [spL_cons, sizeI_cons]; simp [ihl, ihr]; omega
theorem spL_append (x y : List Tm) : ∀ a, spL a (x ++ y) = spL a x ++ spL (a + sizeL x) y := by
 induction x with
 | nil => intro a; simp [spL, sizeL]
 | cons t r ih =>
  intro a
  rw [List.cons_append, spL_cons, spL_cons, ih, sizeI_cons]
  simp only [List.cons_append, List.append_assoc]
  rw [show a + 1 + sizeL t.args + sizeL r = a + (1 + (sizeL t.args + sizeL r)) by omega]
theorem spL_words (l : List Tm) : ∀ a, (spL a l).map (·.1) = wdL l := by
 induction l using Tm.indL with
 | h0 => intro a; simp [spL, wdL]
 | h s l r ihl ihr => intro a; rw [spL_cons, wdL_cons]; simp [ihl, ihr]
def SpAt (sp : List (Sg × Nat)) (a : Nat) (ts : List Tm) : Prop := a + sizeL ts = sp.length ∧ sp.drop a = spL a ts
theorem SpAt.start (t : Tm) : SpAt (spL 0 [t]) 0 [t] := ⟨by rw [spL_length]; omega, by simp⟩
theorem SpAt.lt {sp : List (Sg × Nat)} {a : Nat} {t : Tm} {r : List Tm} (h : SpAt sp a (t :: r)) : a < sp.length := by
 have h1 := h.1; rw [sizeI_cons] at h1; omega
theorem SpAt.eq {sp : List (Sg × Nat)} {a : Nat} (h : SpAt sp a []) : a = sp.length := by
 have h1 := h.1; simp [sizeL] at h1; exact h1
theorem SpAt.get {sp : List (Sg × Nat)} {a : Nat} {t : Tm} {r : List Tm} (h : SpAt sp a (t :: r)) : sp[a]? = some (sgT t, a + 1 + sizeL t.args) := by
 have h1 := congrArg (fun l => l[0]?) h.2
 rw [spL_cons] at h1
 simpa using h1
theorem SpAt.down {sp : List (Sg × Nat)} {a : Nat} {t : Tm} {r : List Tm} (h : SpAt sp a (t :: r)) : SpAt sp (a + 1) (t.args ++ r) := by
 refine ⟨?_, ?_⟩
 ·have h1 := h.1; rw [sizeI_cons] at h1; rw [sizeL_append]; omega
 ·rw [← List.drop_drop, h.2, spL_cons, spL_append]; simp
theorem SpAt.past {sp : List (Sg × Nat)} {a : Nat} {t : Tm} {r : List Tm} (h : SpAt sp a (t :: r)) : SpAt sp (a + 1 + sizeL t.args) r := by
 refine ⟨?_, ?_⟩
 ·have h1 := h.1; rw [sizeI_cons] at h1; omega
 ·have h2 := h.down.2
  rw [← List.drop_drop, h2, spL_append, List.drop_append_of_le_length (by rw [spL_length]; exact Nat.le_refl _), List.drop_of_length_le (by rw [spL_length]; exact Nat.le_refl _)]
  simp
def Nd (L : List (List Sg)) (u : List Sg) : Prop := u = [] ∨ ∃ x ∈ L, u <+: x
theorem Nd.nil (L : List (List Sg)) : Nd L [] := Or.inl rfl
theorem Nd.up {L : List (List Sg)} {u v : List Sg} (h : Nd L (u ++ v)) : Nd L u := by
 rcases h with h | ⟨x, hx, hp⟩
 ·left; simp at h; exact h.1
 ·exact Or.inr ⟨x, hx, (List.prefix_append u v).trans hp⟩
def nmL (L : List (List Sg)) (u : List Sg) : List Nat := (List.range L.length).filter fun n => decide (L[n]? = some u)
theorem nmL_mem {L : List (List Sg)} {u : List Sg} {n : Nat} : n ∈ nmL L u ↔ L[n]? = some u := by
 unfold nmL
 simp only [List.mem_filter, List.mem_range, decide_eq_true_eq]
 exact ⟨fun h => h.2, fun h => ⟨(List.getElem?_eq_some_iff.1 h).1, h⟩⟩
theorem nmL_nodup (L : List (List Sg)) (u : List Sg) : (nmL L u).Nodup := by
 unfold nmL
 exact List.Pairwise.filter _ List.nodup_range
theorem nmL_nil (u : List Sg) : nmL [] u = [] := by simp [nmL]
theorem nmL_same (L : List (List Sg)) (u : List Sg) : nmL (L ++ [u]) u = nmL L u ++ [L.length] := by
 unfold nmL
 rw [List.length_append, List.length_singleton, List.range_succ, List.filter_append]
 congr 1
 ·refine List.filter_congr fun n hn => ?_
  rw [List.getElem?_append_left (List.mem_range.1 hn)]
 ·simp
theorem nmL_other (L : List (List Sg)) {u x : List Sg} (h : u ≠ x) : nmL (L ++ [x]) u = nmL L u := by
 unfold nmL
 rw [List.length_append, List.length_singleton, List.range_succ, List.filter_append]
 have e1 : (List.range L.length).filter (fun n => decide ((L ++ [x])[n]? = some u)) = (List.range L.length).filter fun n => decide (L[n]? = some u) := by
  refine List.filter_congr fun n hn => ?_
  rw [List.getElem?_append_left (List.mem_range.1 hn)]
 rw [e1]
 simp [Ne.symm h]
def SrP (L : List (List Sg)) (k : Nat) (u : List Sg) (ts : List Tm) (g : List Nat) : Prop := g.Nodup ∧ ∀ n, n ∈ g ↔ ∃ v, L[n]? = some (u ++ v) ∧ Rch k ts v
theorem SrP.leaf (L : List (List Sg)) (k : Nat) (u : List Sg) : SrP L k u [] (nmL L u) := by
 refine ⟨nmL_nodup L u, fun n => ?_⟩
 rw [nmL_mem]
 constructor
 ·intro h; exact ⟨[], by simpa using h, Rch.nil⟩
 ·rintro ⟨v, h, hr⟩
  rw [rch_nil.1 hr, List.append_nil] at h
  exact h
theorem SrP.none {L : List (List Sg)} {k : Nat} {u : List Sg} {ts : List Tm} (h : ¬ Nd L u) : SrP L k u ts [] := by
 refine ⟨List.nodup_nil, fun n => ?_⟩
 constructor
 ·intro h; cases h
 ·rintro ⟨v, h1, _⟩
  exact absurd (Or.inr ⟨_, List.mem_of_getElem? h1, List.prefix_append u v⟩) h
theorem SrP.join {L : List (List Sg)} {k : Nat} {u : List Sg} {s : ByteArray} {l r : List Tm} {g1 g2 : List Nat} (h0 : ¬ (varB s = true ∧ k ≠ 0)) (hs : s ≠ ⟨#[]⟩) (h1 : if k = 1 then g1 = [] else SrP L k (u ++ [vsg]) r g1) (h2 : if varB s = true then g2 = [] else SrP L k (u ++ [(s, l.length)]) (l ++ r) g2) : SrP L k u (⟨s, l⟩ :: r) (g1 ++ g2) := by
 have m1 : ∀ n, n ∈ g1 ↔ k ≠ 1 ∧ ∃ v, L[n]? = some (u ++ [vsg] ++ v) ∧ Rch k r v := fun n => by
  split at h1
  ·rename_i hk; rw [h1]; simp [hk]
  ·rename_i hk; rw [h1.2]; simp [hk]
 have m2 : ∀ n, n ∈ g2 ↔ varB s = false ∧ ∃ v, L[n]? = some (u ++ [(s, l.length)] ++ v) ∧ Rch k (l ++ r) v := fun n => by
  split at h2
  ·rename_i hk; rw [h2]; simp [hk]
  ·rename_i hk; rw [h2.2]; simp [hk]
 refine ⟨?_, fun n => ?_⟩
 ·rw [List.nodup_append]
  refine ⟨?_, ?_, ?_⟩
  ·split at h1
   ·rw [h1]; exact List.nodup_nil
   ·exact h1.1
  ·split at h2
   ·rw [h2]; exact List.nodup_nil
   ·exact h2.1
  ·intro a ha b hb e
   subst e
   obtain ⟨_, v, e1, _⟩ := (m1 a).1 ha
   obtain ⟨_, v', e2, _⟩ := (m2 a).1 hb
   rw [e1] at e2
   have e3 := Option.some.inj e2
   simp only [List.append_assoc, List.append_cancel_left_eq, List.cons_append, List.nil_append, List.cons.injEq] at e3
   exact hs (congrArg Prod.fst e3.1).symm
 ·rw [List.mem_append, m1, m2]
  constructor
  ·rintro (⟨a, v, e, hr⟩ | ⟨a, v, e, hr⟩)
   ·exact ⟨vsg :: v, by simpa using e, (rch_else h0).2 (Or.inl ⟨a, v, hr, rfl⟩)⟩
   ·exact ⟨(s, l.length) :: v, by simpa using e, (rch_else h0).2 (Or.inr ⟨a, v, hr, rfl⟩)⟩
  ·rintro ⟨v, e, hr⟩
   rcases (rch_else h0).1 hr with ⟨a, v2, hr2, rfl⟩ | ⟨a, v2, hr2, rfl⟩
   ·exact Or.inl ⟨a, v2, by simpa using e, hr2⟩
   ·exact Or.inr ⟨a, v2, by simpa using e, hr2⟩
def PsP (L : List (List Sg)) (u : List Sg) (n : Nat) (vs : List (List Sg)) : Prop := vs.Nodup ∧ ∀ x, x ∈ vs ↔ Nd L x ∧ ∃ v, Many n v ∧ x = u ++ v
theorem PsP.zero {L : List (List Sg)} {u : List Sg} (h : Nd L u) : PsP L u 0 [u] := by
 refine ⟨by simp, fun x => ?_⟩
 rw [List.mem_singleton]
 constructor
 ·rintro rfl; exact ⟨h, [], Many.nil, by simp⟩
 ·rintro ⟨_, v, hm, rfl⟩; rw [many_zero.1 hm]; simp
def PsK (L : List (List Sg)) (u : List Sg) (n : Nat) (cs : List Sg) (vs : List (List Sg)) : Prop := vs.Nodup ∧ ∀ x, x ∈ vs ↔ ∃ s ∈ cs, Nd L x ∧ ∃ v, Many (n + s.2) v ∧ x = u ++ [s] ++ v
theorem PsK.nil (L : List (List Sg)) (u : List Sg) (n : Nat) : PsK L u n [] [] := ⟨List.nodup_nil, fun x => by simp⟩
theorem PsK.ext {L : List (List Sg)} {u : List Sg} {n : Nat} {cs : List Sg} {vs : List (List Sg)} (h : PsK L u n cs vs) {x : List Sg} (hx : x ∈ vs) : u <+: x := by
 obtain ⟨s, _, _, v, _, rfl⟩ := (h.2 x).1 hx
 rw [List.append_assoc]; exact List.prefix_append _ _
theorem PsP.ext {L : List (List Sg)} {u : List Sg} {n : Nat} {vs : List (List Sg)} (h : PsP L u n vs) {x : List Sg} (hx : x ∈ vs) : u <+: x := by
 obtain ⟨_, v, _, rfl⟩ := (h.2 x).1 hx
 exact List.prefix_append _ _
theorem PsK.apart {L : List (List Sg)} {u : List Sg} {n : Nat} {cs : List Sg} {vs : List (List Sg)} (h : PsK L u n cs vs) {s : Sg} (hs : s ∉ cs) {x : List Sg} (hx : x ∈ vs) : ¬ (u ++ [s]) <+: x := by
 obtain ⟨s', hs', _, v, _, rfl⟩ := (h.2 x).1 hx
 intro hp
 rw [List.append_assoc, List.prefix_append_right_inj] at hp
 obtain ⟨q, hq⟩ := hp
 simp at hq
 exact hs (hq.1 ▸ hs')
theorem PsK.add {L : List (List Sg)} {u : List Sg} {n : Nat} {cs : List Sg} {vs ws : List (List Sg)} (h : PsK L u n cs vs) {s : Sg} (hs : s ∉ cs) (hw : PsP L (u ++ [s]) (n + s.2) ws) : PsK L u n (cs ++ [s]) (vs ++ ws) := by
 refine ⟨?_, fun x => ?_⟩
 ·rw [List.nodup_append]
  refine ⟨h.1, hw.1, fun a ha b hb e => ?_⟩
  subst e
  exact h.apart hs ha (hw.ext hb)
 ·rw [List.mem_append, h.2, hw.2]
  constructor
  ·rintro (⟨s', a, b⟩ | ⟨a, v, b, rfl⟩)
   ·exact ⟨s', List.mem_append_left _ a, b⟩
   ·exact ⟨s, by simp, a, v, b, rfl⟩
  ·rintro ⟨s', a, b, v, c, rfl⟩
   rcases List.mem_append.1 a with a | a
   ·exact Or.inl ⟨s', a, b, v, c, rfl⟩
   ·have e : s' = s := by simpa using a
    subst e
    exact Or.inr ⟨b, v, c, rfl⟩
theorem PsK.done {L : List (List Sg)} {u : List Sg} {n : Nat} {cs : List Sg} {vs : List (List Sg)} (h : PsK L u n cs vs) (hc : ∀ s, Nd L (u ++ [s]) → s ∈ cs) : PsP L u (n + 1) vs := by
 refine ⟨h.1, fun x => ?_⟩
 rw [h.2]
 constructor
 ·rintro ⟨s, a, b, v, c, rfl⟩
  exact ⟨b, s :: v, Many.cons c, by simp⟩
 ·rintro ⟨a, v, hm, rfl⟩
  obtain ⟨s, v2, rfl, hm2⟩ := many_succ.1 hm
  have a2 : Nd L (u ++ [s] ++ v2) := by simpa using a
  exact ⟨s, hc s a2.up, a, v2, hm2, by simp⟩
def SrG (L : List (List Sg)) (k : Nat) (r : List Tm) (vs : List (List Sg)) (g : List Nat) : Prop := g.Nodup ∧ ∀ n, n ∈ g ↔ ∃ x ∈ vs, ∃ v, L[n]? = some (x ++ v) ∧ Rch k r v
theorem SrG.nil (L : List (List Sg)) (k : Nat) (r : List Tm) : SrG L k r [] [] := ⟨List.nodup_nil, fun n => by simp⟩
def Bh (L : List (List Sg)) (u x : List Sg) : Prop := Nd L x ∧ ∃ v, Many 1 v ∧ x = u ++ v
theorem SrG.add {L : List (List Sg)} {k : Nat} {r : List Tm} {u : List Sg} {vs : List (List Sg)} {g g2 : List Nat} (h : SrG L k r vs g) (hv : ∀ x ∈ vs, Bh L u x) {x : List Sg} (hx : Bh L u x) (hn : x ∉ vs) (h2 : SrP L k x r g2) : SrG L k r (vs ++ [x]) (g ++ g2) := by
 refine ⟨?_, fun n => ?_⟩
 ·rw [List.nodup_append]
  refine ⟨h.1, h2.1, fun a ha b hb e => ?_⟩
  subst e
  obtain ⟨y, hy, v, e1, _⟩ := (h.2 a).1 ha
  obtain ⟨v', e2, _⟩ := (h2.2 a).1 hb
  obtain ⟨_, y1, my, ey⟩ := hv y hy
  obtain ⟨_, x1, mx, ex⟩ := hx
  rw [e1] at e2
  have e3 := Option.some.inj e2
  rw [ey, ex, List.append_assoc, List.append_assoc, List.append_cancel_left_eq] at e3
  have e4 := (many_free my mx e3).1
  exact hn (by rw [ex, ← e4, ← ey]; exact hy)
 ·rw [List.mem_append, h.2, h2.2]
  constructor
  ·rintro (⟨y, a, b⟩ | b)
   ·exact ⟨y, List.mem_append_left _ a, b⟩
   ·exact ⟨x, by simp, b⟩
  ·rintro ⟨y, a, b⟩
   rcases List.mem_append.1 a with a | a
   ·exact Or.inl ⟨y, a, b⟩
   ·have e : y = x := by simpa using a
    subst e
    exact Or.inr b
theorem SrG.done {L : List (List Sg)} {k : Nat} {u : List Sg} {s : ByteArray} {l r : List Tm} {vs : List (List Sg)} {g : List Nat} (h : SrG L k r vs g) (hp : PsP L u 1 vs) (hv : varB s = true) (hk : k ≠ 0) : SrP L k u (⟨s, l⟩ :: r) g := by
 refine ⟨h.1, fun n => ?_⟩
 rw [h.2]
 constructor
 ·rintro ⟨x, hx, v, e, hr⟩
  obtain ⟨_, v1, m1, rfl⟩ := (hp.2 x).1 hx
  exact ⟨v1 ++ v, by rw [e, List.append_assoc], (rch_past hv hk).2 ⟨v1, v, m1, hr, rfl⟩⟩
 ·rintro ⟨v, e, hr⟩
  obtain ⟨v1, v2, m1, hr2, rfl⟩ := (rch_past hv hk).1 hr
  have e2 : L[n]? = some (u ++ v1 ++ v2) := by rw [e, List.append_assoc]
  exact ⟨u ++ v1, (hp.2 _).2 ⟨Or.inr ⟨_, List.mem_of_getElem? e2, List.prefix_append _ _⟩, v1, m1, rfl⟩, v2, e2, hr2⟩
theorem told_nums {N : Nat} {g : List Nat} {met : Nat → Bool} {q : Nat → Prop} (h1 : g.Nodup) (h2 : ∀ n, n ∈ g ↔ n < N ∧ q n) (h3 : ∀ n, n < N → met n = true → q n) : (g.filter met).Perm ((List.range N).filter met) := by
 refine (List.perm_ext_iff_of_nodup (List.Pairwise.filter _ h1) (List.Pairwise.filter _ List.nodup_range)).2 fun n => ?_
 rw [List.mem_filter, List.mem_filter, h2, List.mem_range]
 constructor
 ·rintro ⟨⟨a, _⟩, c⟩; exact ⟨a, c⟩
 ·rintro ⟨a, c⟩; exact ⟨⟨a, h3 n a c⟩, c⟩
open Go.WideMaps
open Go.ChangeMaps (setBlock)
def sgV (s : Sg) : Value := .agg #[.string s.1, .int .i64 (s.2 : Int)]
def SgOk (s : Sg) : Prop := s.1.size ≤ 1000000 ∧ s.2 ≤ 1000000
theorem sgV_inj {p q : Sg} (h : sgV p = sgV q) : p = q := by
 obtain ⟨a, b⟩ := p
 obtain ⟨c, d⟩ := q
 simp [sgV] at h
 obtain ⟨h1, h2⟩ := h
 have e2 : b = d := by omega
 rw [h1, e2]
theorem sgLaw : KeyLaw Tryz.prog 85 := deep_law (m := 3) (by omega) (by kernel_rfl) (by kernel_rfl) (by kernel_rfl)
theorem sg_keyType : Tryz.prog.keyType 85 = true := by kernel_rfl
theorem sg_typesPos : ∃ m, Tryz.prog.types.size = m + 2 := ⟨Tryz.prog.types.size - 2, by kernel_rfl⟩
theorem sg_cells : Tryz.prog.cellsOf 85 = 2 := by kernel_rfl
theorem sg_cells1 : Tryz.prog.cellsOf 9 = 1 := by kernel_rfl
theorem sg_cells2 : Tryz.prog.cellsOf 3 = 1 := by kernel_rfl
theorem sg_key {s : Sg} (h : SgOk s) : ∃ l, keyOf Tryz.prog 85 (sgV s) = some l := by
 obtain ⟨h1, h2⟩ := h
 obtain ⟨m, hm⟩ := sg_typesPos
 have hw : (Lit.int .i64 (s.2 : Int)).wf = true := by simp [Lit.wf, IntKind.min, IntKind.max, IntKind.signed, IntKind.bits]; omega
 unfold keyOf
 simp only [Tryz.underlying85]
 rw [if_pos (by simp [sg_keyType, sgV, Value.formed, Tryz.underlying85, sg_cells]), hm]
 unfold Program.keyLits
 simp only [Tryz.underlying85, Value.cells, sgV]
 rw [if_pos (by rw [sg_cells]; exact ⟨rfl, by kernel_rfl⟩)]
 have hsz : s.1.size ≤ maxLen := by unfold maxLen; omega
 simp [sg_cells1, sg_cells2, Program.keyLits, Tryz.underlying9, Tryz.underlying3, hw, hsz]
def MapG (w : World) (r : Nat) (L : List (Sg × Value)) : Prop :=
 ∃ es clk, w.heap[r]? = some (.map es clk) ∧ es.toList.map (fun e => (e.key, e.val)) = L.map (fun p => (sgV p.1, p.2)) ∧ Stamps es clk ∧ ∀ p ∈ L, SgOk p.1
theorem MapG.new (w : World) : MapG (w.alloc (.map #[] 0)) w.heap.size [] := ⟨#[], 0, heap_alloc_new w _, rfl, by simp [Stamps], by simp⟩
theorem MapG.lt {w : World} {r : Nat} {L : List (Sg × Value)} (h : MapG w r L) : r < w.heap.size := by
 obtain ⟨es, clk, h, _⟩ := h
 exact (Array.getElem?_eq_some_iff.1 h).1
theorem MapG.kept {w w' : World} {r : Nat} {L : List (Sg × Value)} (h : MapG w r L) (hk : w'.heap[r]? = w.heap[r]?) : MapG w' r L := by
 obtain ⟨es, clk, h1, h2⟩ := h
 exact ⟨es, clk, hk.trans h1, h2⟩
theorem MapG.entry {L : List (Sg × Value)} {es : List MapEntry} (h : es.map (fun e => (e.key, e.val)) = L.map (fun p => (sgV p.1, p.2))) {x : MapEntry} (hx : x ∈ es) : ∃ p ∈ L, x.key = sgV p.1 ∧ x.val = p.2 := by
 have h1 : (x.key, x.val) ∈ L.map (fun p => (sgV p.1, p.2)) := by rw [← h]; exact List.mem_map.2 ⟨x, hx, rfl⟩
 obtain ⟨p, hp, e⟩ := List.mem_map.1 h1
 simp only [Prod.mk.injEq] at e
 exact ⟨p, hp, e.1.symm, e.2.symm⟩
theorem MapG.entry2 {L : List (Sg × Value)} {es : List MapEntry} (h : es.map (fun e => (e.key, e.val)) = L.map (fun p => (sgV p.1, p.2))) {p : Sg × Value} (hp : p ∈ L) : ∃ x ∈ es, x.key = sgV p.1 ∧ x.val = p.2 := by
 have h1 : (sgV p.1, p.2) ∈ es.map (fun e => (e.key, e.val)) := by rw [h]; exact List.mem_map.2 ⟨p, hp, rfl⟩
 obtain ⟨x, hx, e⟩ := List.mem_map.1 h1
 simp only [Prod.mk.injEq] at e
 exact ⟨x, hx, e.1, e.2⟩
theorem run_lookG {w : World} {r : Nat} {L : List (Sg × Value)} (h : MapG w r L) (s : Sg) (hs : SgOk s) :
  (∃ v, (s, v) ∈ L ∧ (Instr.lookup 55 (.map (some r)) (sgV s) false).run Tryz.prog w = .ok v w) ∨ ((∀ v, (s, v) ∉ L) ∧ (Instr.lookup 55 (.map (some r)) (sgV s) false).run Tryz.prog w = .ok (.pointer none) w) := by
 obtain ⟨es, clk, hb, hes, hst, hok⟩ := h
 obtain ⟨l, hl⟩ := sg_key hs
 have hc := fun b => sgLaw.check w b hl
 have hz : (zeroValue 83).run Tryz.prog w = .ok (.pointer none) w := by kernel_rfl
 have hall : ∀ x ∈ es.toList, ∃ l, keyOf Tryz.prog 85 x.key = some l := fun x hx => by
  obtain ⟨p, hp, hk, _⟩ := MapG.entry hes hx
  rw [hk]; exact sg_key (hok _ hp)
 rcases sgLaw.find w hl es.toList hall with ⟨hf, hno⟩ | ⟨j, x, hf, hj, hx⟩
 ·refine Or.inr ⟨fun v hm => ?_, ?_⟩
  ·obtain ⟨x, hx, hk, _⟩ := MapG.entry2 hes hm
   exact hno _ hx hk
  ·simp [Instr.lookup, run_underlying Tryz.underlying55, MapKept.run_getObj_map hb, hc, hf, Result.andThen, hz]
 ·obtain ⟨p, hp, hk, hv⟩ := MapG.entry hes (List.mem_of_getElem? hj)
  have e : p.1 = s := sgV_inj (hk.symm.trans hx)
  refine Or.inl ⟨p.2, by rw [← e]; exact hp, ?_⟩
  simp [Instr.lookup, run_underlying Tryz.underlying55, MapKept.run_getObj_map hb, hc, hf, Result.andThen, hv]
theorem run_lookN {w : World} (s : Sg) (hs : SgOk s) : (Instr.lookup 55 (.map none) (sgV s) false).run Tryz.prog w = .ok (.pointer none) w := by
 obtain ⟨l, hl⟩ := sg_key hs
 have hc := fun b => sgLaw.check w b hl
 have hz : (zeroValue 83).run Tryz.prog w = .ok (.pointer none) w := by kernel_rfl
 rcases sgLaw.find w hl [] (by simp) with ⟨hf, _⟩ | ⟨j, x, _, hj, _⟩
 ·simp [Instr.lookup, run_underlying Tryz.underlying55, hc, hf, Result.andThen, hz]
 ·simp at hj
theorem run_putG {w : World} {r : Nat} {L : List (Sg × Value)} (h : MapG w r L) (s : Sg) (hs : SgOk s) (hn : ∀ v, (s, v) ∉ L) (v : Value) :
  ∃ w', (Instr.mapUpdate 55 (.map (some r)) (sgV s) v).run Tryz.prog w = .ok () w' ∧ MapG w' r (L ++ [(s, v)]) ∧ w'.heap.size = w.heap.size ∧ w'.os = w.os ∧ w'.tape = w.tape ∧ w'.output = w.output ∧ (∀ b, b ≠ r → w'.heap[b]? = w.heap[b]?) := by
 obtain ⟨es, clk, hb, hes, hst, hok⟩ := h
 obtain ⟨l, hl⟩ := sg_key hs
 have hc := fun b => sgLaw.check w b hl
 have hall : ∀ x ∈ es.toList, ∃ l, keyOf Tryz.prog 85 x.key = some l := fun x hx => by
  obtain ⟨p, hp, hk, _⟩ := MapG.entry hes hx
  rw [hk]; exact sg_key (hok _ hp)
 rcases sgLaw.find w hl es.toList hall with ⟨hf, _⟩ | ⟨j, x, hf, hj, hx⟩
 ·refine ⟨{ w with heap := w.heap.setIfInBounds r (.map (es.push { key := sgV s, val := v, born := clk }) (clk + 1)) }, ?_, ⟨_, _, (MapKept.heap_set hb).1, ?_, hst.push _ _, fun y hy => ?_⟩, by simp, rfl, rfl, rfl, fun b hne => (MapKept.heap_set hb).2 b hne⟩
  ·simp [Instr.mapUpdate, run_underlying Tryz.underlying55, MapKept.run_getObj_map hb, hc, hf, MapKept.run_setObj_map _ hb, Result.andThen]
  ·rw [Array.toList_push, List.map_append, hes, List.map_append]
   simp
  ·rcases List.mem_append.1 hy with hy | hy
   ·exact hok y hy
   ·have e : y = (s, v) := by simpa using hy
    rw [e]; exact hs
 ·obtain ⟨p, hp, hk, hv⟩ := MapG.entry hes (List.mem_of_getElem? hj)
  have e : p.1 = s := sgV_inj (hk.symm.trans hx)
  exact absurd (by rw [← e]; exact hp) (hn p.2)
def RangeG (w : World) (b r : Nat) (L rem : List (Sg × Value)) : Prop :=
 ∃ es clk since seen c0, w.heap[b]? = some (.map es clk) ∧ es.toList.map (fun e => (e.key, e.val)) = L.map (fun p => (sgV p.1, p.2)) ∧ Stamps es clk ∧ (∀ p ∈ L, SgOk p.1) ∧
  w.heap[r]? = some (.mapIter (some b) since seen c0) ∧ (∀ x ∈ es.toList, x.born < since) ∧ since ≤ c0 ∧ since ≤ clk ∧
  (leftOf es seen).toList.map (fun e => (e.key, e.val)) = rem.map (fun p => (sgV p.1, p.2))
def leftG (w : World) (b r : Nat) : Nat :=
 match w.heap[b]?, w.heap[r]? with
 | some (.map es _), some (.mapIter _ _ seen _) => (leftOf es seen).size
 | _, _ => 0
theorem RangeG.left {w : World} {b r : Nat} {L rem : List (Sg × Value)} (h : RangeG w b r L rem) : leftG w b r = rem.length := by
 obtain ⟨es, clk, since, seen, c0, hb, _, _, _, hr, _, _, _, hl⟩ := h
 have := congrArg List.length hl
 simp only [List.length_map, Array.length_toList] at this
 simp only [leftG, hb, hr]
 exact this
theorem RangeG.map {w : World} {b r : Nat} {L rem : List (Sg × Value)} (h : RangeG w b r L rem) : MapG w b L := by
 obtain ⟨es, clk, since, seen, c0, hb, he, hs, ho, _⟩ := h
 exact ⟨es, clk, hb, he, hs, ho⟩
theorem RangeG.ne {w : World} {b r : Nat} {L rem : List (Sg × Value)} (h : RangeG w b r L rem) : r ≠ b := by
 obtain ⟨es, clk, since, seen, c0, hb, he, hs, _, hr, _⟩ := h
 intro e
 rw [e, hb] at hr
 cases hr
theorem RangeG.lt {w : World} {b r : Nat} {L rem : List (Sg × Value)} (h : RangeG w b r L rem) : r < w.heap.size := by
 obtain ⟨es, clk, since, seen, c0, hb, he, hs, _, hr, _⟩ := h
 exact (Array.getElem?_eq_some_iff.1 hr).1
theorem RangeG.kept {w w' : World} {b r : Nat} {L rem : List (Sg × Value)} (h : RangeG w b r L rem) (hb' : w'.heap[b]? = w.heap[b]?) (hr' : w'.heap[r]? = w.heap[r]?) : RangeG w' b r L rem := by
 obtain ⟨es, clk, since, seen, c0, hb, he, hs, ho, hr, rest⟩ := h
 exact ⟨es, clk, since, seen, c0, hb'.trans hb, he, hs, ho, hr'.trans hr, rest⟩
theorem RangeG.below {w w' : World} {b r B : Nat} {L rem : List (Sg × Value)} (h : RangeG w b r L rem) (hb : Below B w w') (h1 : b < B) (h2 : r < B) : RangeG w' b r L rem := h.kept (hb.block b h1) (hb.block r h2)
theorem MapG.range {P : Program} {w : World} {T kt et : TypeId} {b : Nat} {L : List (Sg × Value)} (h : MapG w b L) (hm : P.underlying T = some (.map kt et)) :
  ∃ o, (Instr.range T (.map (some b))).run P w = .ok (.pointer (some ⟨w.heap.size, 0, none⟩)) (w.alloc o) ∧ RangeG (w.alloc o) b w.heap.size L L := by
 have hlt := h.lt
 obtain ⟨es, clk, hb, he, hs, ho⟩ := h
 refine ⟨_, run_range_map w T kt et b es clk hm hb, es, clk, clk, #[], clk, (Below.heap_alloc _ _ _ hlt).trans hb, he, hs, ho, heap_alloc_new w _, hs.1, Nat.le_refl _, Nat.le_refl _, ?_⟩
 rw [← he]
 congr 1
 simp [leftOf]
theorem left_outG (seen : Array Nat) (e : MapEntry) : ∀ (l : List MapEntry) (R : List (Sg × Value)), (l.map (·.born)).Nodup → e ∈ l → seen.contains e.born = false → (l.filter fun x => !seen.contains x.born).map (fun e => (e.key, e.val)) = R.map (fun p => (sgV p.1, p.2)) →
  ∃ p R', e.key = sgV p.1 ∧ e.val = p.2 ∧ R.Perm (p :: R') ∧ (l.filter fun x => !(seen.push e.born).contains x.born).map (fun e => (e.key, e.val)) = R'.map (fun p => (sgV p.1, p.2))
 | [], R, _, he, _, _ => by cases he
 | a :: l, R, hn, he, hs, hR => by
  simp only [List.map_cons, List.nodup_cons] at hn
  obtain ⟨hn1, hn2⟩ := hn
  by_cases ha : a.born = e.born
  ·have hae : e = a := by
    rcases List.mem_cons.1 he with h | h
    ·exact h
    ·exact absurd (List.mem_map.2 ⟨e, h, ha.symm⟩) hn1
   subst hae
   have hs' : (!seen.contains e.born) = true := by rw [hs]; rfl
   rw [List.filter_cons_of_pos (by simpa using hs')] at hR
   match R, hR with
   | p :: R', hR =>
    simp only [List.map_cons, List.cons.injEq, Prod.mk.injEq] at hR
    refine ⟨p, R', hR.1.1, hR.1.2, List.Perm.refl _, ?_⟩
    rw [List.filter_cons_of_neg (by simp), ← hR.2]
    congr 1
    refine List.filter_congr fun x hx => ?_
    have hne : x.born ≠ e.born := fun h => hn1 (List.mem_map.2 ⟨x, hx, h⟩)
    simp [hne]
  ·have he' : e ∈ l := by
    rcases List.mem_cons.1 he with h | h
    ·exact absurd (by rw [h]) ha
    ·exact h
   by_cases hsa : seen.contains a.born = true
   ·rw [List.filter_cons_of_neg (by simpa using hsa)] at hR
    obtain ⟨p, R', h1, h2, h3, h4⟩ := left_outG seen e l R hn2 he' hs hR
    refine ⟨p, R', h1, h2, h3, ?_⟩
    rw [List.filter_cons_of_neg (by simp at hsa ⊢; exact fun h => absurd hsa h), h4]
   ·have hsa' : seen.contains a.born = false := by simpa using hsa
    rw [List.filter_cons_of_pos (by simpa using hsa')] at hR
    match R, hR with
    | q :: R0, hR =>
     simp only [List.map_cons, List.cons.injEq] at hR
     obtain ⟨p, R', h1, h2, h3, h4⟩ := left_outG seen e l R0 hn2 he' hs hR.2
     refine ⟨p, q :: R', h1, h2, (List.Perm.cons q h3).trans (List.Perm.swap p q R'), ?_⟩
     rw [List.filter_cons_of_pos (by simp at hsa' ⊢; exact ⟨hsa', ha⟩), List.map_cons, List.map_cons, h4, hR.1]
theorem RangeG.next {P : Program} {w : World} {b r : Nat} {L rem : List (Sg × Value)} (h : RangeG w b r L rem) (ty : TypeId) :
  (rem = [] ∧ (Instr.next (.pointer (some ⟨r, 0, none⟩)) false ty).run P w = .ok (.tuple #[.bool false]) w) ∨
  ∃ p rem' w', rem.Perm (p :: rem') ∧ (Instr.next (.pointer (some ⟨r, 0, none⟩)) false ty).run P w = .ok (.tuple #[.bool true, sgV p.1, p.2]) w' ∧ RangeG w' b r L rem' ∧
   w'.heap.size = w.heap.size ∧ w'.os = w.os ∧ w'.tape = w.tape ∧ w'.output = w.output ∧ (∀ j, j ≠ r → w'.heap[j]? = w.heap[j]?) ∧ (Instr.entry (.pointer (some ⟨r, 0, none⟩))).run P w' = .ok (.tuple #[sgV p.1, p.2]) w' := by
 have hne := h.ne
 obtain ⟨es, clk, since, seen, c0, hb, he, hs, ho, hr, hold, hsc, hsk, hl⟩ := h
 rcases run_next_at (P := P) w ty r b since c0 seen es clk hr hb hold hsc with ⟨h0, hrun⟩ | ⟨e, hem, w1, hal, hrun⟩
 ·refine Or.inl ⟨?_, hrun⟩
  have := congrArg List.length hl
  simp only [List.length_map, Array.length_toList, h0] at this
  exact List.length_eq_zero_iff.1 this.symm
 ·obtain ⟨hm1, hm2⟩ := mem_left hem
  have hl' : (es.toList.filter fun x => !seen.contains x.born).map (fun e => (e.key, e.val)) = rem.map (fun p => (sgV p.1, p.2)) := by
   rw [← hl]; unfold leftOf; rw [Array.toList_filter]
  obtain ⟨p, rem', hk, hv, hperm, hrem⟩ := left_outG seen e es.toList rem hs.2 hm1 hm2 hl'
  have hr1 : w1.heap[r]? = some (.mapIter (some b) since seen c0) := by rcases hal with rfl | rfl <;> exact hr
  have hb1 : w1.heap[b]? = some (.map es clk) := by rcases hal with rfl | rfl <;> exact hb
  have hset := MapKept.heap_set (o' := .mapIter (some b) since (seen.push e.born) clk) hr1
  have hb' : (setBlock w1 r (.mapIter (some b) since (seen.push e.born) clk)).heap[b]? = some (.map es clk) := (hset.2 b (fun e1 => hne e1.symm)).trans hb1
  rw [hk, hv] at hrun
  refine Or.inr ⟨p, rem', _, hperm, hrun, ⟨es, clk, since, seen.push e.born, clk, hb', he, hs, ho, hset.1, hold, hsk, hsk, ?_⟩, ?_, ?_, ?_, ?_, ?_, ?_⟩
  ·rw [← hrem]; unfold leftOf; rw [Array.toList_filter]
  ·rcases hal with rfl | rfl <;> simp [setBlock]
  ·rcases hal with rfl | rfl <;> rfl
  ·rcases hal with rfl | rfl <;> rfl
  ·rcases hal with rfl | rfl <;> rfl
  ·intro j hj
   have := hset.2 j hj
   rcases hal with rfl | rfl <;> exact this
  ·have := run_entry_at (P := P) _ r b since seen es clk e hset.1 hb' hm1 hs.2
   rw [hk, hv] at this
   exact this
def emB (s : Sg) : Bool := s.1.toList.isEmpty
theorem signOf_any (s : ByteArray) (l : List Tm) (a : Option Addr) (c : Nat) (w : World) :
  Calls Tryz.prog 44 #[.agg #[.string s, .slice a l.length c]] w fun e w' => e = .returned (sgV (sgT ⟨s, l⟩)) ∧ Below w.heap.size w w' := by
 by_cases hv : varB s = true
 ·have hg : sgT ⟨s, l⟩ = vsg := sgT_var (t := ⟨s, l⟩) hv
  rw [hg]
  clear hg
  go_enter Tryz.func44, Tryz.ntmps44
  go_wp2_with fail
  refine (isVariable_all s _).mono ?_
  rintro e w1 ⟨rfl, hw1⟩
  rw [hv, hw1]
  clear hw1
  have B2 : Blk ((w.alloc (.cells #[.string s, .slice a l.length c] 26)).alloc (.cells #[.string ⟨#[]⟩, .int .i64 0] 85)) (w.heap.size + 1) #[.string ⟨#[]⟩, .int .i64 0] 85 := by simpa using Blk.new (w.alloc (.cells #[.string s, .slice a l.length c] 26)) #[.string ⟨#[]⟩, .int .i64 0] 85
  have q0 := B2.c0
  have q1 := B2.c1
  clear B2
  go_wp2_with fail
  refine bodyPost_ret (v := sgV vsg) (by simp [results, Tryz.results44, go_sem, q0, q1, sgV, vsg]) rfl ?_
  exact ⟨rfl, ((Below.refl _ _).alloc (Nat.le_refl _) _).alloc (by simp) _⟩
 ·have hg : sgT ⟨s, l⟩ = (s, l.length) := sgT_sym (t := ⟨s, l⟩) (by simpa using hv)
  rw [hg]
  have hv' : varB s = false := by simpa using hv
  clear hg hv
  go_enter Tryz.func44, Tryz.ntmps44
  go_wp2_with fail
  refine (isVariable_all s _).mono ?_
  rintro e w1 ⟨rfl, hw1⟩
  rw [hv', hw1]
  clear hw1
  have B2 : Blk ((w.alloc (.cells #[.string s, .slice a l.length c] 26)).alloc (.cells #[.string s, .int .i64 (l.length : Int)] 85)) (w.heap.size + 1) #[.string s, .int .i64 (l.length : Int)] 85 := by simpa using Blk.new (w.alloc (.cells #[.string s, .slice a l.length c] 26)) #[.string s, .int .i64 (l.length : Int)] 85
  have q0 := B2.c0
  have q1 := B2.c1
  clear B2
  go_wp2_with fail
  refine bodyPost_ret (v := sgV (s, l.length)) (by simp [results, Tryz.results44, go_sem, q0, q1, sgV]) rfl ?_
  exact ⟨rfl, ((Below.refl _ _).alloc (Nat.le_refl _) _).alloc (by simp) _⟩
theorem signIsVar_any (s : Sg) (w : World) : Calls Tryz.prog 67 #[sgV s] w fun e w' => e = .returned (.bool (emB s)) ∧ Below w.heap.size w w' := by
 obtain ⟨n, k⟩ := s
 unfold sgV emB
 go_enter Tryz.func67, Tryz.ntmps67
 go_wp2_with fail
 go_ret
 exact ⟨rfl, (Below.refl _ _).alloc (Nat.le_refl _) _⟩
def spX : List (Sg × Nat) → List Value
 | [] => []
 | p :: r => .string p.1.1 :: .int .i64 (p.1.2 : Int) :: .int .i64 (p.2 : Int) :: spX r
theorem spX_append (a b : List (Sg × Nat)) : spX (a ++ b) = spX a ++ spX b := by
 induction a with
 | nil => rfl
 | cons p r ih => simp [spX, ih]
theorem spX_length (a : List (Sg × Nat)) : (spX a).length = a.length * 3 := by
 induction a with
 | nil => rfl
 | cons p r ih => simp [spX, ih]; omega
theorem spX_set (a r : List (Sg × Nat)) (p : Sg) (x y : Nat) : (spX (a ++ (p, x) :: r)).set (a.length * 3 + 2) (.int .i64 (y : Int)) = spX (a ++ (p, y) :: r) := by
 rw [spX_append, spX_append, List.set_append_right _ _ (by rw [spX_length]; omega), spX_length, show a.length * 3 + 2 - a.length * 3 = 2 by omega]
 rfl
theorem spX_get {a : List (Sg × Nat)} {i : Nat} {p : Sg × Nat} (h : a[i]? = some p) : (spX a)[i * 3]? = some (.string p.1.1) ∧ (spX a)[i * 3 + 1]? = some (.int .i64 (p.1.2 : Int)) ∧ (spX a)[i * 3 + 2]? = some (.int .i64 (p.2 : Int)) := by
 induction a generalizing i with
 | nil => simp at h
 | cons q r ih =>
  cases i with
  | zero => simp at h; subst h; simp [spX]
  | succ i =>
   simp at h
   obtain ⟨h1, h2, h3⟩ := ih h
   have e : (i + 1) * 3 = i * 3 + 3 := by omega
   refine ⟨?_, ?_, ?_⟩
   ·rw [e]; simpa [spX] using h1
   ·rw [e]; simpa [spX] using h2
   ·rw [e]; simpa [spX] using h3
theorem Tryz.infoSpot : (Tryz.prog.info? 87).map (fun i => (i.zero, i.size, i.bytes)) = some (some (.agg #[.string ByteArray.empty, .int .i64 0, .int .i64 0]), 3, 32) := by kernel_rfl
theorem own_sliceI {w : World} {N T s n : Nat} {v : Value} {xs : List Value} (h : w.ownsRow N T s v n xs) : ∃ a c, v = .slice a n c := by
 rcases h.2 with ⟨rfl, rfl⟩ | ⟨g, cap, cur, rfl, _⟩
 ·exact ⟨none, 0, rfl⟩
 ·exact ⟨_, cap, rfl⟩
def SpPost (N : Nat) (sp : List (Sg × Nat)) (t : Tm) (v : Value) (w : World) (e : Ending) (w' : World) : Prop :=
 ∃ g cap, e = .returned (.slice (some ⟨g, 0, none⟩) (sp.length + sizeL [t]) cap) ∧ w'.ownsRow N 87 3 (.slice (some ⟨g, 0, none⟩) (sp.length + sizeL [t]) cap) (sp.length + sizeL [t]) (spX (sp ++ spL sp.length [t])) ∧
  ExQ (fun b => v.ownBlock = some b) w w' ∧ (v.ownBlock = some g ∨ w.heap.size ≤ g)
def SpI (N : Nat) (sp : List (Sg × Nat)) (t : Tm) (v : Value) (w : World) (q i : Value) (wr : World) : Prop :=
 ∃ k g cap : Nat, k ≤ t.args.length ∧ i = .int .i64 (k : Int) ∧ q = .slice (some ⟨g, 0, none⟩) (sp.length + 1 + sizeL (t.args.take k)) cap ∧ wr.ownsRow N 87 3 q (sp.length + 1 + sizeL (t.args.take k)) (spX (sp ++ (sgT t, 0) :: spL (sp.length + 1) (t.args.take k))) ∧
  ExQ (fun b => v.ownBlock = some b) w wr ∧ (v.ownBlock = some g ∨ w.heap.size ≤ g)
theorem app_spot {w : World} {N : Nat} {v : Value} {sp : List (Sg × Nat)} (ho : w.ownsRow N 87 3 v sp.length (spX sp)) (hN : N ≤ w.heap.size) (hsm : sp.length ≤ 1000000) (s : Sg) (B : Nat) (hB : Blk w B #[.string s.1, .int .i64 (s.2 : Int), .int .i64 0] 87) :
  ∃ g cap w', (Builtin.append_ #[62, 62] 62 #[v, .slice (some ⟨B, 0, none⟩) 1 1]).run Tryz.prog w = .ok (.slice (some ⟨g, 0, none⟩) (sp.length + 1) cap) w' ∧
   w'.ownsRow N 87 3 (.slice (some ⟨g, 0, none⟩) (sp.length + 1) cap) (sp.length + 1) (spX (sp ++ [(s, 0)])) ∧ w.grownBy w' v.ownBlock ∧ (v.ownBlock = some g ∨ g = w.heap.size) ∧ g < w'.heap.size := by
 obtain ⟨i0, hi, hz0, hz1, hz2⟩ := info_parts Tryz.infoSpot
 obtain ⟨g, cap, w', h1, h2, h3, h4, h5⟩ := run_append_lies (P := Tryz.prog) w 62 62 N 87 i0 _ 3 32 Tryz.underlying62 hi hz0 hz1 hz2 rfl (by decide) v sp.length (spX sp) ho
  ⟨B, 0, none⟩ 1 1 [.string s.1, .int .i64 (s.2 : Int), .int .i64 0] rfl (World.news_of_block hB) (by simp [Value.oneCell']) (by omega) (by unfold maxLen; omega) (by omega) hN _ rfl
 refine ⟨g, cap, w', h1, ?_, h3, h4, h5⟩
 rw [spX_append]
 exact h2
set_option maxHeartbeats 2000000 in
theorem spots_any (t : Tm) : ∀ (sp : List (Sg × Nat)) (v tv : Value) (w : World) (X : Nat → Prop) (N : Nat), TV w X tv t → sp.length + sizeL [t] ≤ 100000 → N ≤ w.heap.size → (∀ b, X b → b < N) → w.ownsRow N 87 3 v sp.length (spX sp) →
  Calls Tryz.prog 26 #[v, tv] w fun e w' => SpPost N sp t v w e w' := by
 induction t using Tm.ind with
 | h s l ih =>
  intro sp v tv w X N htv hsm hN hX ho
  obtain ⟨a, c, rfl, hs⟩ := htv
  have hll := hs.1
  have IH := hide ih
  have HS := hide hs
  have HO := hide ho
  have hz : sizeL [(⟨s, l⟩ : Tm)] = 1 + sizeL l := by simp [sizeL]
  have HZ := hide hz
  rw [hz] at hsm
  obtain ⟨va, vc, rfl⟩ := own_sliceI ho
  have hspl : (sp.length : Int) ≤ 100000 := by omega
  clear ih hs ho hz
  go_enter Tryz.func26, Tryz.ntmps26
  go_wp2_with fail
  refine (signOf_any s l a c _).mono ?_
  rintro e w1 ⟨rfl, hb1⟩
  have HB1 : Hid (Below w.heap.size w w1) := ((Below.refl _ _).alloc (Nat.le_refl _) _).trans (hb1.mono (by simp))
  obtain ⟨q1, q2, hq⟩ : ∃ q1 q2, sgT ⟨s, l⟩ = (q1, q2) := ⟨_, _, rfl⟩
  have HQ := hide hq
  rw [hq]
  unfold sgV
  have HO2 : Hid ((w1.alloc (.cells #[.string q1, .int .i64 (q2 : Int), .int .i64 0] 87)).ownsRow N 87 3 (.slice va sp.length vc) sp.length (spX sp)) := (HO.out.kept (row := none) ⟨HB1.out.os, HB1.out.tape, HB1.out.output, HB1.out.size, fun j hj _ => HB1.out.block j hj⟩ (by cases va <;> simp [Value.ownBlock])).alloc _
  have hz1 : w.heap.size ≤ w1.heap.size := HB1.out.size
  obtain ⟨g, cap, w3, hr3, ho3, hg3, hat3, hlt3⟩ := app_spot HO2.out (by simp; omega) (by omega) (q1, q2) w1.heap.size (Blk.new _ _ _)
  have HA := hide hr3
  have HO3 : Hid (w3.ownsRow N 87 3 (.slice (some ⟨g, 0, none⟩) (sp.length + 1) cap) (sp.length + 1) (spX (sp ++ [(sgT ⟨s, l⟩, 0)]))) := by rw [HQ.out]; exact ho3
  have HE3 : Hid (ExQ (fun b => (Value.slice va sp.length vc).ownBlock = some b) w w3) := ((ExQ.ofBelow HB1.out).alloc _).grown hg3 fun k hk => Or.inr hk
  have hvl : ∀ b, (Value.slice va sp.length vc).ownBlock = some b → b < w.heap.size := fun b hb => (HO.out.lt b hb).2
  have c1 : w3.cell? ⟨w.heap.size, 1, none⟩ = some (.slice a l.length c) := by
   have h1 : Blk (w.alloc (.cells #[.string s, .slice a l.length c] 26)) w.heap.size #[.string s, .slice a l.length c] 26 := Blk.new _ _ _
   have h2 := ((h1.below hb1 (by simp)).alloc (.cells #[.string q1, .int .i64 (q2 : Int), .int .i64 0] 87)).grown hg3 (fun e => by have := hvl _ e.symm; omega)
   exact h2.c1
  have HG3 : Hid ((Value.slice va sp.length vc).ownBlock = some g ∨ w.heap.size ≤ g) := by
   rcases hat3 with h | h
   ·exact Or.inl h
   ·exact Or.inr (by rw [h]; simp; omega)
  clear hr3 ho3 hg3 hat3 hlt3 hb1 hq hvl
  go_wp2_with (at_builtin; refine wpList_append_eq rfl _ _ _ _ rfl rfl rfl HA.out ?_)
  clear c1 hz1
  go_loopw [0, 19] (fun q i wr => SpI N sp ⟨s, l⟩ (.slice va sp.length vc) w q i wr) (fun q i wr => l.length - (intOf i).toNat)
  case atStart => exact ⟨0, g, cap, Nat.zero_le _, rfl, by simp [sizeL], by simpa [spL, sizeL] using HO3.out, HE3.out, HG3.out⟩
  case round =>
   clear HA HO3 HE3 HG3
   obtain ⟨k, g2, cap2, hk, rfl, rfl, ho, he, hg⟩ := hrel
   have hk' : k ≤ l.length := hk
   have HOW : Hid (∀ b, (Value.slice va sp.length vc).ownBlock = some b → N ≤ b) := fun b hb => (HO.out.lt b hb).1
   have HSR : Hid (Sl wr X a l) := HS.out.exq he fun b hb e => by have := HOW.out b e; have := hX b hb; omega
   have HO4 := hide ho
   have HE4 := hide he
   have HG4 := hide hg
   have hzr : w.heap.size ≤ wr.heap.size := he.size
   have hgl := ho.lt g2 rfl
   clear ho he hg hk
   by_cases hlt : k < l.length
   ·obtain ⟨b, o, a', c', rfl, d0, d1, hx⟩ := HSR.out.get (Below.refl wr.heap.size wr) (fun _ _ h => h) k hlt
    have hki : (k : Int) < (l.length : Int) := by omega
    have hle : sizeL (l.take k) + sizeL [l[k]] ≤ sizeL l := by rw [← sizeL_take l k hlt]; exact sizeL_take_le l (k + 1)
    obtain ⟨z0, hz0⟩ : ∃ z0, z0 = sizeL (l.take k) := ⟨_, rfl⟩
    obtain ⟨sq, hsq⟩ : ∃ sq, sq = sp ++ (sgT ⟨s, l⟩, 0) :: spL (sp.length + 1) (l.take k) := ⟨_, rfl⟩
    have hql : sq.length = sp.length + 1 + z0 := by rw [hsq, hz0]; simp [spL_length]; omega
    have HSQ := hide hsq
    have HZ0 := hide hz0
    have HQL := hide hql
    have HO5 : Hid (wr.ownsRow N 87 3 (.slice (some ⟨g2, 0, none⟩) sq.length cap2) sq.length (spX sq)) := by unfold Hid; rw [hql, hsq, hz0]; exact HO4.out
    have hle2 : sq.length + sizeL [l[k]] ≤ 100000 := by rw [hql]; rw [hz0]; omega
    rw [show sp.length + 1 + sizeL (List.take k (Tm.mk s l).args) = sq.length by rw [hql, hz0]]
    have HTV : Hid (TV (wr.alloc (.cells #[.string l[k].name, .slice a' l[k].args.length c'] 26)) X (.agg #[.string l[k].name, .slice a' l[k].args.length c']) l[k]) := by
     have h1 : TV wr X (.agg #[.string l[k].name, .slice a' l[k].args.length c']) l[k] := hx
     exact h1.alloc _
    have CL := hide (IH.out l[k] (List.getElem_mem hlt) sq (.slice (some ⟨g2, 0, none⟩) sq.length cap2) _ _ X N HTV.out hle2 (by simp; omega) hX (HO5.out.alloc _))
    have HSZ : Hid (sizeL (l.take (k + 1)) = z0 + sizeL [l[k]]) := by unfold Hid; rw [hz0]; exact sizeL_take l k hlt
    have HSP : Hid (sq ++ spL sq.length [l[k]] = sp ++ (sgT ⟨s, l⟩, 0) :: spL (sp.length + 1) (l.take (k + 1))) := by
     unfold Hid
     rw [List.take_succ_eq_append_getElem hlt, spL_append, hql, hz0, hsq]
     simp
    clear hx hle hle2 hz0 hsq hql HTV
    go_wp2_with fail
    refine CL.out.mono ?_
    rintro e w5 ⟨g5, cap5, rfl, ho5, he5, hg5⟩
    have HO6 : Hid (w5.ownsRow N 87 3 (.slice (some ⟨g5, 0, none⟩) (sq.length + sizeL [l[k]]) cap5) (sq.length + sizeL [l[k]]) (spX (sp ++ (sgT ⟨s, l⟩, 0) :: spL (sp.length + 1) (l.take (k + 1))))) := by rw [HSP.out] at ho5; exact ho5
    have HE6 : Hid (ExQ (fun b => (Value.slice va sp.length vc).ownBlock = some b) w w5) := by
     refine (HE4.out.alloc _).transN he5 fun i hi hlt => ?_
     have e : i = g2 := by have h1 : some g2 = some i := hi; exact (Option.some.inj h1).symm
     subst e
     rcases HG4.out with h | h
     ·exact h
     ·omega
    have HG6 : Hid ((Value.slice va sp.length vc).ownBlock = some g5 ∨ w.heap.size ≤ g5) := by
     rcases hg5 with h | h
     ·have e : g2 = g5 := by have h1 : some g2 = some g5 := h; exact Option.some.inj h1
      rw [← e]; exact HG4.out
     ·exact Or.inr (by have h9 : wr.heap.size + 1 ≤ g5 := (by simpa using h); omega)
    clear ho5 he5 hg5 CL
    go_wp2_with fail
    go_roundw
    case rel =>
     refine ⟨k + 1, g5, cap5, hlt, by go_num, ?_, ?_, HE6.out, HG6.out⟩
     ·rw [HQL.out]; show _ = Value.slice _ (sp.length + 1 + sizeL (l.take (k + 1))) _; rw [HSZ.out]; simp [Nat.add_assoc]
     ·have h := HO6.out
      rw [HQL.out] at h ⊢
      show World.ownsRow _ _ _ _ _ (sp.length + 1 + sizeL (l.take (k + 1))) (spX (sp ++ (sgT ⟨s, l⟩, 0) :: spL (sp.length + 1) (l.take (k + 1))))
      rw [HSZ.out]
      simpa [Nat.add_assoc] using h
    case measure => simp [intOf]; omega
   ·have hki : ¬ (k : Int) < (l.length : Int) := by omega
    have htk : List.take k (Tm.mk s l).args = l := List.take_of_length_le (by show l.length ≤ k; omega)
    rw [htk] at HO4
    rw [htk]
    obtain ⟨nn, hnn⟩ : ∃ nn, nn = sp.length + 1 + sizeL l := ⟨_, rfl⟩
    have HNN := hide hnn
    rw [← hnn]
    rw [← hnn] at HO4
    have hin : (sp.length : Int) < (nn : Int) := by omega
    have q2 : wr.cell? ⟨g2, sp.length * 3 + 2, none⟩ = some (.int .i64 0) := by
     rw [HO4.out.cellAt _ (by omega)]
     have h1 := (spX_get (a := sp ++ (sgT ⟨s, l⟩, 0) :: spL (sp.length + 1) l) (i := sp.length) (p := (sgT ⟨s, l⟩, 0)) (by simp)).2.2
     exact h1
    have f2 := HO4.out.frozenAt (sp.length * 3 + 2)
    have HST := hide (HO4.out.stored (sp.length * 3 + 2) (.int .i64 (nn : Int)))
    clear htk hnn
    go_wp2_with fail
    go_ret
    refine ⟨g2, cap2, ?_, ?_, ?_, HG4.out⟩
    ·rw [HZ.out, HNN.out, Nat.add_assoc]; rfl
    ·have h := HST.out.1
     rw [spX_set] at h
     rw [HZ.out, show sp.length + (1 + sizeL l) = nn by rw [HNN.out]; omega, spL_cons]
     show World.ownsRow _ _ _ _ _ _ (spX (sp ++ (sgT ⟨s, l⟩, sp.length + 1 + sizeL l) :: (spL (sp.length + 1) l ++ spL (sp.length + 1 + sizeL l) [])))
     rw [spL_nil, List.append_nil, ← HNN.out]
     exact h
    ·refine ⟨HE4.out.os, HE4.out.tape, HE4.out.output, by simpa [World.setCell] using HE4.out.size, fun b hb hn => ?_⟩
     refine (Below.heap_setCell _ _ _ _ ?_).trans (HE4.out.block b hb hn)
     show b ≠ g2
     rintro rfl
     rcases HG4.out with h | h
     ·exact hn h
     ·omega
def nuV (l : List Nat) : List Value := l.map fun n : Nat => Value.int .i64 (n : Int)
theorem nuV_length (l : List Nat) : (nuV l).length = l.length := by simp [nuV]
def ofN (u : List Sg) : Nat := if u = [] then 1 else 0
def NdB (w : World) (u : List Sg) (b : Nat) (tv mv nv : Value) : Prop :=
 if u = [] then Blk w b #[tv, mv, nv] 59 else Blk w b #[mv, nv] 57
theorem NdB.lt {w : World} {u : List Sg} {b : Nat} {tv mv nv : Value} (h : NdB w u b tv mv nv) : b < w.heap.size := by
 unfold NdB at h
 split at h <;> exact Blk.lt h
theorem NdB.kept {w w' : World} {u : List Sg} {b : Nat} {tv mv nv : Value} (h : NdB w u b tv mv nv) (hk : w'.heap[b]? = w.heap[b]?) : NdB w' u b tv mv nv := by
 unfold NdB at *
 split
 ·rename_i e; rw [if_pos e] at h; unfold Blk at *; rw [hk]; exact h
 ·rename_i e; rw [if_neg e] at h; unfold Blk at *; rw [hk]; exact h
theorem NdB.c0 {w : World} {u : List Sg} {b : Nat} {tv mv nv : Value} (h : NdB w u b tv mv nv) : w.cell? ⟨b, ofN u, none⟩ = some mv := by
 unfold NdB at h
 unfold ofN
 split at h
 ·rename_i e; rw [if_pos e]; exact h.c1
 ·rename_i e; rw [if_neg e]; exact h.c0
theorem NdB.c1 {w : World} {u : List Sg} {b : Nat} {tv mv nv : Value} (h : NdB w u b tv mv nv) : w.cell? ⟨b, ofN u + 1, none⟩ = some nv := by
 unfold NdB at h
 unfold ofN
 split at h
 ·rename_i e; rw [if_pos e]; exact h.c2
 ·rename_i e; rw [if_neg e]; exact h.c1
theorem NdB.fz {w : World} {u : List Sg} {b : Nat} {tv mv nv : Value} (h : NdB w u b tv mv nv) (i : Nat) : w.frozen? ⟨b, i, none⟩ = false := by
 unfold NdB at h
 split at h <;> exact Blk.frozen h i
theorem NdB.set0 {w : World} {u : List Sg} {b : Nat} {tv mv nv : Value} (h : NdB w u b tv mv nv) (v : Value) : NdB (w.setCell ⟨b, ofN u, none⟩ v) u b tv v nv := by
 unfold NdB at *
 unfold ofN
 split
 ·rename_i e; rw [if_pos e] at h; simpa using h.set 1 v
 ·rename_i e; rw [if_neg e] at h; simpa using h.set 0 v
theorem NdB.set1 {w : World} {u : List Sg} {b : Nat} {tv mv nv : Value} (h : NdB w u b tv mv nv) (v : Value) : NdB (w.setCell ⟨b, ofN u + 1, none⟩ v) u b tv mv v := by
 unfold NdB at *
 unfold ofN
 split
 ·rename_i e; rw [if_pos e] at h; simpa using h.set 2 v
 ·rename_i e; rw [if_neg e] at h; simpa using h.set 1 v
structure Lay where
 ad : List Sg → Nat
 mp : List Sg → Option Nat
 nv : List Sg → Value
def OwnT (A : List Sg → Prop) (y : Lay) (b : Nat) : Prop := ∃ u, A u ∧ (y.ad u = b ∨ y.mp u = some b ∨ (y.nv u).ownBlock = some b)
structure Tri (w : World) (N : Nat) (tv : Value) (A : List Sg → Prop) (nm : List Sg → List Nat) (y : Lay) : Prop where
 root : A []
 up : ∀ {u s}, A (u ++ [s]) → A u
 node : ∀ {u}, A u → NdB w u (y.ad u) tv (.map (y.mp u)) (y.nv u)
 inj : ∀ {u v}, A u → A v → y.ad u = y.ad v → u = v
 leaf : ∀ {u}, A u → y.mp u = none → ∀ s, ¬ A (u ++ [s])
 kids : ∀ {u b}, A u → y.mp u = some b → ∃ E : List (Sg × Value), MapG w b E ∧ (E.map (·.1)).Nodup ∧ ∀ s v, (s, v) ∈ E ↔ A (u ++ [s]) ∧ v = .pointer (some ⟨y.ad (u ++ [s]), 0, none⟩)
 minj : ∀ {u v b}, A u → A v → y.mp u = some b → y.mp v = some b → u = v
 nums : ∀ {u}, A u → w.ownsRow N 3 1 (y.nv u) (nm u).length (nuV (nm u))
 ninj : ∀ {u v b}, A u → A v → (y.nv u).ownBlock = some b → (y.nv v).ownBlock = some b → u = v
theorem Tri.lt {w : World} {N : Nat} {tv : Value} {A : List Sg → Prop} {nm : List Sg → List Nat} {y : Lay} (h : Tri w N tv A nm y) {b : Nat} (hb : OwnT A y b) : b < w.heap.size := by
 obtain ⟨u, hu, h1 | h1 | h1⟩ := hb
 ·rw [← h1]; exact (h.node hu).lt
 ·obtain ⟨E, hE, _⟩ := h.kids hu h1; exact hE.lt
 ·exact ((h.nums hu).lt b h1).2
theorem Tri.kept {w w' : World} {N : Nat} {tv : Value} {A : List Sg → Prop} {nm : List Sg → List Nat} {y : Lay} (h : Tri w N tv A nm y) (hk : ∀ b, OwnT A y b → w'.heap[b]? = w.heap[b]?) : Tri w' N tv A nm y :=
 ⟨h.root, h.up, fun hu => (h.node hu).kept (hk _ ⟨_, hu, Or.inl rfl⟩), h.inj, h.leaf, fun hu e => by
  obtain ⟨E, hE, h2⟩ := h.kids hu e
  exact ⟨E, hE.kept (hk _ ⟨_, hu, Or.inr (Or.inl e)⟩), h2⟩, h.minj, fun hu => ownsRow_at (h.nums hu) fun g hg => hk _ ⟨_, hu, Or.inr (Or.inr hg)⟩, h.ninj⟩
theorem Tri.exq {w w' : World} {N : Nat} {tv : Value} {A : List Sg → Prop} {nm : List Sg → List Nat} {y : Lay} {Q : Nat → Prop} (h : Tri w N tv A nm y) (he : ExQ Q w w') (hQ : ∀ b, OwnT A y b → ¬ Q b) : Tri w' N tv A nm y :=
 h.kept fun b hb => he.block b (h.lt hb) (hQ b hb)
theorem Tri.later {w w' : World} {N : Nat} {tv : Value} {A : List Sg → Prop} {nm : List Sg → List Nat} {y : Lay} (h : Tri w N tv A nm y) (he : Below w.heap.size w w') : Tri w' N tv A nm y :=
 h.kept fun b hb => he.block b (h.lt hb)
theorem Tri.congr {w : World} {N : Nat} {tv : Value} {A B : List Sg → Prop} {nm nk : List Sg → List Nat} {y : Lay} (h : Tri w N tv A nm y) (hA : ∀ u, B u ↔ A u) (hn : ∀ u, A u → nk u = nm u) : Tri w N tv B nk y :=
 ⟨(hA _).2 h.root, fun hu => (hA _).2 (h.up ((hA _).1 hu)), fun hu => h.node ((hA _).1 hu), fun a b e => h.inj ((hA _).1 a) ((hA _).1 b) e, fun a e s hs => h.leaf ((hA _).1 a) e s ((hA _).1 hs), fun a e => by
  obtain ⟨E, h1, h2, h3⟩ := h.kids ((hA _).1 a) e
  exact ⟨E, h1, h2, fun s v => by rw [h3, hA]⟩, fun a b e1 e2 => h.minj ((hA _).1 a) ((hA _).1 b) e1 e2, fun a => by rw [hn _ ((hA _).1 a)]; exact h.nums ((hA _).1 a), fun a b e1 e2 => h.ninj ((hA _).1 a) ((hA _).1 b) e1 e2⟩
theorem ndb_map {w : World} {u : List Sg} {b : Nat} {tv mv nv : Value} {E : List (Sg × Value)} (h : NdB w u b tv mv nv) (hE : MapG w b E) : False := by
 obtain ⟨es, clk, h1, _⟩ := hE
 unfold NdB at h
 split at h <;> (unfold Blk at h; rw [h] at h1; cases h1)
theorem own_map {w : World} {N T s n b : Nat} {v : Value} {xs : List Value} {E : List (Sg × Value)} (h : w.ownsRow N T s v n xs) (hb : v.ownBlock = some b) (hE : MapG w b E) : False := by
 obtain ⟨es, clk, h1, _⟩ := hE
 rcases h.2 with ⟨rfl, _⟩ | ⟨g, cap, cur, rfl, _, hg, _⟩
 ·cases hb
 ·have e : g = b := by simpa [Value.ownBlock] using hb
  subst e; rw [hg] at h1; cases h1
theorem own_ndb {w : World} {N n b : Nat} {u : List Sg} {v tv mv nv : Value} {xs : List Value} (h : w.ownsRow N 3 1 v n xs) (hb : v.ownBlock = some b) (hn : NdB w u b tv mv nv) : False := by
 rcases h.2 with ⟨rfl, _⟩ | ⟨g, cap, cur, rfl, _, hg, _⟩
 ·cases hb
 ·have e : g = b := by simpa [Value.ownBlock] using hb
  subst e
  unfold NdB Blk at hn
  split at hn
  ·rw [hg] at hn; injection hn with h1; injection h1 with h2 h3; exact absurd h3 (by decide)
  ·rw [hg] at hn; injection hn with h1; injection h1 with h2 h3; exact absurd h3 (by decide)
def Lay.withMap (y : Lay) (p : List Sg) (b : Nat) : Lay := ⟨y.ad, fun u => if u = p then some b else y.mp u, y.nv⟩
theorem Tri.mapNew {w : World} {N : Nat} {tv : Value} {A : List Sg → Prop} {nm : List Sg → List Nat} {y : Lay} {p : List Sg} (h : Tri w N tv A nm y) (hp : A p) (hm : y.mp p = none) :
  Tri ((w.alloc (.map #[] 0)).setCell ⟨y.ad p, ofN p, none⟩ (.map (some w.heap.size))) N tv A nm (y.withMap p w.heap.size) := by
 have h1 : Tri (w.alloc (.map #[] 0)) N tv A nm y := h.later ((Below.refl _ _).alloc (Nat.le_refl _) _)
 have hne : w.heap.size ≠ y.ad p := by have := (h.node hp).lt; omega
 have hk : ∀ b, b ≠ y.ad p → ((w.alloc (.map #[] 0)).setCell ⟨y.ad p, ofN p, none⟩ (.map (some w.heap.size))).heap[b]? = (w.alloc (.map #[] 0)).heap[b]? := fun b hb => Below.heap_setCell _ _ _ _ hb
 refine ⟨h.root, h.up, fun {u} hu => ?_, h.inj, fun {u} hu e => ?_, fun {u b} hu e => ?_, fun {u v b} hu hv e1 e2 => ?_, fun {u} hu => ?_, h.ninj⟩
 ·by_cases e : u = p
  ·subst e
   have := (h1.node hu).set0 (.map (some w.heap.size))
   simpa [Lay.withMap] using this
  ·have h2 := (h1.node hu).kept (hk (y.ad u) fun e2 => e (h.inj hu hp e2))
   simpa [Lay.withMap, e] using h2
 ·by_cases e2 : u = p
  ·subst e2; simp [Lay.withMap] at e
  ·simp only [Lay.withMap, if_neg e2] at e
   exact h.leaf hu e
 ·by_cases e2 : u = p
  ·subst e2
   simp only [Lay.withMap, if_true, Option.some.injEq] at e
   subst e
   refine ⟨[], (MapG.new w).kept (hk _ hne), List.nodup_nil, fun s v => ?_⟩
   constructor
   ·intro h0; cases h0
   ·rintro ⟨h0, _⟩; exact absurd h0 (h.leaf hp hm s)
  ·simp only [Lay.withMap, if_neg e2] at e
   obtain ⟨E, h3, h4⟩ := h1.kids hu e
   exact ⟨E, h3.kept (hk b fun e3 => ndb_map (h1.node hp) (e3 ▸ h3)), h4⟩
 ·have key : ∀ {u}, A u → (y.withMap p w.heap.size).mp u = some b → (u = p ∧ b = w.heap.size) ∨ (u ≠ p ∧ y.mp u = some b ∧ b < w.heap.size) := fun {u} hu e => by
   by_cases e2 : u = p
   ·subst e2
    simp only [Lay.withMap, if_true, Option.some.injEq] at e
    exact Or.inl ⟨rfl, e.symm⟩
   ·simp only [Lay.withMap, if_neg e2] at e
    exact Or.inr ⟨e2, e, h.lt ⟨u, hu, Or.inr (Or.inl e)⟩⟩
  rcases key hu e1 with ⟨a1, b1⟩ | ⟨a1, b1, c1⟩ <;> rcases key hv e2 with ⟨a2, b2⟩ | ⟨a2, b2, c2⟩
  ·rw [a1, a2]
  ·omega
  ·omega
  ·exact h.minj hu hv b1 b2
 ·refine ownsRow_at (h1.nums hu) fun g hg => hk g fun e => ?_
  subst e
  exact own_ndb (h1.nums hu) hg (h1.node hp)
def Lay.more (y : Lay) (q : List Sg) (b : Nat) : Lay := ⟨fun u => if u = q then b else y.ad u, fun u => if u = q then none else y.mp u, fun u => if u = q then .slice none 0 0 else y.nv u⟩
theorem Tri.child {w w' : World} {N : Nat} {tv : Value} {A : List Sg → Prop} {nm : List Sg → List Nat} {y : Lay} {p : List Sg} {s : Sg} {b : Nat} {E : List (Sg × Value)} (h : Tri w N tv A nm y) (hp : A p) (hm : y.mp p = some b) (hn : ¬ A (p ++ [s])) (hnm : nm (p ++ [s]) = [])
  (hE : ∀ s v, (s, v) ∈ E ↔ A (p ++ [s]) ∧ v = .pointer (some ⟨y.ad (p ++ [s]), 0, none⟩)) (hEn : (E.map (·.1)).Nodup) (hM : MapG w' b (E ++ [(s, .pointer (some ⟨w.heap.size, 0, none⟩))]))
  (hk : ∀ i, i ≠ b → w'.heap[i]? = (w.alloc (.cells #[.map none, .slice none 0 0] 57)).heap[i]?) :
  Tri w' N tv (fun u => A u ∨ u = p ++ [s]) nm (y.more (p ++ [s]) w.heap.size) := by
 obtain ⟨E0, hE0, _⟩ := h.kids hp hm
 have hbl := hE0.lt
 have h1 : Tri (w.alloc (.cells #[.map none, .slice none 0 0] 57)) N tv A nm y := h.later ((Below.refl _ _).alloc (Nat.le_refl _) _)
 have hE1 : MapG (w.alloc (.cells #[.map none, .slice none 0 0] 57)) b E0 := hE0.kept (Below.heap_alloc _ _ _ hbl)
 have hne : ∀ u, A u → u ≠ p ++ [s] := fun u hu e => hn (e ▸ hu)
 have hnil : ¬ (p ++ [s] = []) := by simp
 have hdeep : ∀ t, ¬ A (p ++ [s] ++ [t]) := fun t ht => hn (h.up ht)
 refine ⟨Or.inl h.root, fun {u t} hu => ?_, fun {u} hu => ?_, fun {u v} hu hv e => ?_, fun {u} hu e t => ?_, fun {u c} hu e => ?_, fun {u v c} hu hv e1 e2 => ?_, fun {u} hu => ?_, fun {u v c} hu hv e1 e2 => ?_⟩
 ·rcases hu with hu | hu
  ·exact Or.inl (h.up hu)
  ·exact Or.inl ((List.append_inj' hu rfl).1 ▸ hp)
 ·rcases hu with hu | rfl
  ·have := (h1.node hu).kept (hk (y.ad u) fun e => ndb_map (h1.node hu) (e ▸ hE1))
   simpa [Lay.more, hne u hu] using this
  ·unfold NdB
   rw [if_neg hnil]
   simp only [Lay.more, if_true]
   unfold Blk
   rw [hk _ (by omega)]
   exact Blk.new w _ _
 ·have key : ∀ {u}, (A u ∨ u = p ++ [s]) → (A u ∧ (y.more (p ++ [s]) w.heap.size).ad u = y.ad u ∧ y.ad u < w.heap.size) ∨ (u = p ++ [s] ∧ (y.more (p ++ [s]) w.heap.size).ad u = w.heap.size) := fun {u} hu => by
   rcases hu with hu | rfl
   ·exact Or.inl ⟨hu, by simp [Lay.more, hne u hu], h.lt ⟨u, hu, Or.inl rfl⟩⟩
   ·exact Or.inr ⟨rfl, by simp [Lay.more]⟩
  rcases key hu with ⟨a1, b1, c1⟩ | ⟨a1, b1⟩ <;> rcases key hv with ⟨a2, b2, c2⟩ | ⟨a2, b2⟩
  ·exact h.inj a1 a2 (by rw [← b1, ← b2]; exact e)
  ·omega
  ·omega
  ·rw [a1, a2]
 ·rcases hu with hu | rfl
  ·simp only [Lay.more, if_neg (hne u hu)] at e
   rintro (h3 | h3)
   ·exact h.leaf hu e t h3
   ·have e4 := (List.append_inj' h3 rfl).1
    subst e4
    rw [hm] at e; cases e
  ·rintro (h3 | h3)
   ·exact hdeep t h3
   ·have := congrArg List.length h3; simp at this
 ·rcases hu with hu | rfl
  ·simp only [Lay.more, if_neg (hne u hu)] at e
   by_cases e5 : u = p
   ·subst e5
    have e6 : b = c := by rw [hm] at e; exact Option.some.inj e
    subst e6
    refine ⟨_, hM, ?_, fun t v => ?_⟩
    ·rw [List.map_append, List.nodup_append]
     refine ⟨hEn, by simp, fun a ha x hx e7 => ?_⟩
     subst e7
     obtain ⟨⟨a', v'⟩, hav, rfl⟩ := List.mem_map.1 ha
     have e8 : a' = s := by simpa using hx
     subst e8
     exact hn ((hE _ _).1 hav).1
    ·rw [List.mem_append, hE]
     constructor
     ·rintro (⟨h3, h4⟩ | h3)
      ·exact ⟨Or.inl h3, by rw [h4]; simp [Lay.more, hne _ h3]⟩
      ·have e9 : t = s ∧ v = .pointer (some ⟨w.heap.size, 0, none⟩) := by simpa using h3
       obtain ⟨rfl, rfl⟩ := e9
       exact ⟨Or.inr rfl, by simp [Lay.more]⟩
     ·rintro ⟨h3 | h3, h4⟩
      ·exact Or.inl ⟨h3, by rw [h4]; simp [Lay.more, hne _ h3]⟩
      ·have e9 : t = s := by simpa using h3
       subst e9
       rw [h4]; right; simp [Lay.more]
   ·obtain ⟨E2, h3, h4, h5⟩ := h1.kids hu e
    refine ⟨E2, h3.kept (hk c fun e6 => e5 (h.minj hu hp (by rw [e, e6]) hm)), h4, fun t v => ?_⟩
    rw [h5]
    have e7 : ∀ t, u ++ [t] ≠ p ++ [s] := fun t e8 => e5 (List.append_inj' e8 rfl).1
    constructor
    ·rintro ⟨h6, h7⟩; exact ⟨Or.inl h6, by rw [h7]; simp [Lay.more, e7 t]⟩
    ·rintro ⟨h6 | h6, h7⟩
     ·exact ⟨h6, by rw [h7]; simp [Lay.more, e7 t]⟩
     ·exact absurd h6 (e7 t)
  ·simp [Lay.more] at e
 ·have key : ∀ {u}, (A u ∨ u = p ++ [s]) → (y.more (p ++ [s]) w.heap.size).mp u = some c → A u ∧ y.mp u = some c := fun {u} hu e => by
   rcases hu with hu | rfl
   ·simp only [Lay.more, if_neg (hne u hu)] at e; exact ⟨hu, e⟩
   ·simp [Lay.more] at e
  exact h.minj (key hu e1).1 (key hv e2).1 (key hu e1).2 (key hv e2).2
 ·rcases hu with hu | rfl
  ·have h3 := h1.nums hu
   simp only [Lay.more, if_neg (hne u hu)]
   exact ownsRow_at h3 fun g hg => hk g fun e => own_map h3 hg (e ▸ hE1)
  ·simp only [Lay.more, if_true, hnm]
   exact World.ownsRow_nil _ _ _ _
 ·have key : ∀ {u}, (A u ∨ u = p ++ [s]) → ((y.more (p ++ [s]) w.heap.size).nv u).ownBlock = some c → A u ∧ (y.nv u).ownBlock = some c := fun {u} hu e => by
   rcases hu with hu | rfl
   ·simp only [Lay.more, if_neg (hne u hu)] at e; exact ⟨hu, e⟩
   ·simp [Lay.more, Value.ownBlock] at e
  exact h.ninj (key hu e1).1 (key hv e2).1 (key hu e1).2 (key hv e2).2
def Lay.withNum (y : Lay) (p : List Sg) (v : Value) : Lay := ⟨y.ad, y.mp, fun u => if u = p then v else y.nv u⟩
theorem Tri.num {w w1 : World} {N : Nat} {tv : Value} {A : List Sg → Prop} {nm : List Sg → List Nat} {y : Lay} {p : List Sg} {n : Nat} {v : Value} (h : Tri w N tv A nm y) (hp : A p)
  (ho : w1.ownsRow N 3 1 v (nm p ++ [n]).length (nuV (nm p ++ [n]))) (hg : w.grownBy w1 (y.nv p).ownBlock) (hv : ∀ b, v.ownBlock = some b → (y.nv p).ownBlock = some b ∨ w.heap.size ≤ b) :
  Tri (w1.setCell ⟨y.ad p, ofN p + 1, none⟩ v) N tv A (fun u => if u = p then nm p ++ [n] else nm u) (y.withNum p v) := by
 have hk1 : ∀ b, b < w.heap.size → (y.nv p).ownBlock ≠ some b → w1.heap[b]? = w.heap[b]? := fun b hb hne => hg.block b hb (fun e => hne e.symm)
 have hk2 : ∀ b, b ≠ y.ad p → (w1.setCell ⟨y.ad p, ofN p + 1, none⟩ v).heap[b]? = w1.heap[b]? := fun b hb => Below.heap_setCell _ _ _ _ hb
 have hnd : ∀ {u}, A u → NdB w1 u (y.ad u) tv (.map (y.mp u)) (y.nv u) := fun {u} hu => (h.node hu).kept (hk1 _ (h.node hu).lt fun e => own_ndb (h.nums hp) e (h.node hu))
 refine ⟨h.root, h.up, fun {u} hu => ?_, h.inj, h.leaf, fun {u b} hu e => ?_, h.minj, fun {u} hu => ?_, fun {u u' b} hu hu' e1 e2 => ?_⟩
 ·by_cases e : u = p
  ·subst e
   have := (hnd hu).set1 v
   simpa [Lay.withNum] using this
  ·have h2 := (hnd hu).kept (hk2 (y.ad u) fun e2 => e (h.inj hu hp e2))
   simpa [Lay.withNum, e] using h2
 ·obtain ⟨E, h3, h4⟩ := h.kids hu e
  have h5 : MapG w1 b E := h3.kept (hk1 b h3.lt fun e2 => own_map (h.nums hp) e2 h3)
  exact ⟨E, h5.kept (hk2 b fun e2 => ndb_map (hnd hp) (e2 ▸ h5)), h4⟩
 ·by_cases e : u = p
  ·subst e
   simp only [Lay.withNum, if_true]
   exact ownsRow_at ho fun g hg2 => hk2 g fun e2 => by
    subst e2
    exact own_ndb ho hg2 (hnd hp)
  ·simp only [Lay.withNum, if_neg e]
   have h3 := h.nums hu
   have h4 : w1.ownsRow N 3 1 (y.nv u) (nm u).length (nuV (nm u)) := ownsRow_at h3 fun g hg2 => hk1 g (h3.lt g hg2).2 fun e2 => e (h.ninj hu hp hg2 e2)
   exact ownsRow_at h4 fun g hg2 => hk2 g fun e2 => by
    subst e2
    exact own_ndb h4 hg2 (hnd hp)
 ·have key : ∀ {u}, A u → ((y.withNum p v).nv u).ownBlock = some b → (u = p ∧ v.ownBlock = some b) ∨ (u ≠ p ∧ (y.nv u).ownBlock = some b ∧ b < w.heap.size) := fun {u} hu e => by
   by_cases e2 : u = p
   ·subst e2
    simp only [Lay.withNum, if_true] at e
    exact Or.inl ⟨rfl, e⟩
   ·simp only [Lay.withNum, if_neg e2] at e
    exact Or.inr ⟨e2, e, ((h.nums hu).lt b e).2⟩
  rcases key hu e1 with ⟨a1, b1⟩ | ⟨a1, b1, c1⟩ <;> rcases key hu' e2 with ⟨a2, b2⟩ | ⟨a2, b2, c2⟩
  ·rw [a1, a2]
  ·rcases hv b b1 with h6 | h6
   ·exact absurd (h.ninj hu' hp b2 h6) a2
   ·omega
  ·rcases hv b b2 with h6 | h6
   ·exact absurd (h.ninj hu hp b1 h6) a1
   ·omega
  ·exact h.ninj hu hu' b1 b2
theorem look_in {w : World} {b : Nat} {E : List (Sg × Value)} (h : MapG w b E) (hn : (E.map (·.1)).Nodup) {s : Sg} (hs : SgOk s) {v : Value} (hv : (s, v) ∈ E) : (Instr.lookup 55 (.map (some b)) (sgV s) false).run Tryz.prog w = .ok v w := by
 rcases run_lookG h s hs with ⟨v', hm, hr⟩ | ⟨h0, _⟩
 ·have e : v' = v := by
   clear hr h
   induction E with
   | nil => cases hv
   | cons p r ih =>
    simp only [List.map_cons, List.nodup_cons] at hn
    rcases List.mem_cons.1 hm with h1 | h1 <;> rcases List.mem_cons.1 hv with h2 | h2
    ·rw [← h2] at h1; exact congrArg Prod.snd h1
    ·exact absurd (List.mem_map.2 ⟨_, h2, by rw [← h1]⟩) hn.1
    ·exact absurd (List.mem_map.2 ⟨_, h1, by rw [← h2]⟩) hn.1
    ·exact ih hn.2 h2 h1
  rw [← e]; exact hr
 ·exact absurd hv (h0 v)
theorem look_out {w : World} {b : Nat} {E : List (Sg × Value)} (h : MapG w b E) {s : Sg} (hs : SgOk s) (hv : ∀ v, (s, v) ∉ E) : (Instr.lookup 55 (.map (some b)) (sgV s) false).run Tryz.prog w = .ok (.pointer none) w := by
 rcases run_lookG h s hs with ⟨v', hm, _⟩ | ⟨_, hr⟩
 ·exact absurd hm (hv v')
 ·exact hr
theorem nd_snoc {L : List (List Sg)} {x u : List Sg} : Nd (L ++ [x]) u ↔ Nd L u ∨ u <+: x := by
 unfold Nd
 constructor
 ·rintro (h | ⟨y, hy, hp⟩)
  ·exact Or.inl (Or.inl h)
  ·rcases List.mem_append.1 hy with hy | hy
   ·exact Or.inl (Or.inr ⟨y, hy, hp⟩)
   ·have e : y = x := by simpa using hy
    subst e; exact Or.inr hp
 ·rintro ((h | ⟨y, hy, hp⟩) | h)
  ·exact Or.inl h
  ·exact Or.inr ⟨y, List.mem_append_left _ hy, hp⟩
  ·exact Or.inr ⟨x, by simp, h⟩
theorem nmL_none {L : List (List Sg)} {u : List Sg} (h : ¬ Nd L u) : nmL L u = [] := by
 cases hl : nmL L u with
 | nil => rfl
 | cons n r =>
  have h1 : n ∈ nmL L u := by rw [hl]; simp
  exact absurd (Or.inr ⟨u, List.mem_of_getElem? (nmL_mem.1 h1), List.prefix_refl u⟩) h
theorem nmL_snoc (L : List (List Sg)) (x u : List Sg) : nmL (L ++ [x]) u = if u = x then nmL L x ++ [L.length] else nmL L u := by
 split
 ·rename_i e; rw [e]; exact nmL_same L x
 ·rename_i e; exact nmL_other L e
theorem pre_snoc {x u : List Sg} {k : Nat} (h : k < x.length) : u <+: x.take (k + 1) ↔ u <+: x.take k ∨ u = x.take k ++ [x[k]] := by
 rw [List.take_succ_eq_append_getElem h, List.prefix_concat_iff]
 constructor
 ·rintro (h | h)
  ·exact Or.inr (by simpa using h)
  ·exact Or.inl h
 ·rintro (h | h)
  ·exact Or.inr h
  ·exact Or.inl (by simpa using h)
theorem snoc_nil (u : List Sg) (s : Sg) : ¬ u ++ [s] = [] := by simp
theorem nil_snoc (u : List Sg) (s : Sg) : ¬ [] = u ++ [s] := by simp
theorem of_snoc (u : List Sg) (s : Sg) : ofN (u ++ [s]) = 0 := if_neg (snoc_nil u s)
theorem ExQ.setOr {Q : Nat → Prop} {a w : World} (h : ExQ Q a w) {B : Nat} (hB : Q B ∨ a.heap.size ≤ B) (i : Nat) (v : Value) : ExQ Q a (w.setCell ⟨B, i, none⟩ v) := by
 rcases hB with hB | hB
 ·exact h.set hB i v
 ·exact h.setNew hB i v
theorem ExQ.putOr {Q : Nat → Prop} {a w w' : World} (h : ExQ Q a w) {B : Nat} (hB : Q B ∨ a.heap.size ≤ B) (h1 : w'.heap.size = w.heap.size) (h2 : w'.os = w.os) (h3 : w'.tape = w.tape) (h4 : w'.output = w.output) (h5 : ∀ b, b ≠ B → w'.heap[b]? = w.heap[b]?) : ExQ Q a w' :=
 ⟨h2.trans h.os, h3.trans h.tape, h4.trans h.output, by rw [h1]; exact h.size, fun k hk hn => (h5 k (fun e => by rcases hB with h6 | h6; exact hn (e ▸ h6); omega)).trans (h.block k hk hn)⟩
theorem Tryz.infoIntI : (Tryz.prog.info? 3).map (fun i => (i.zero, i.size, i.bytes)) = some (some (.int .i64 0), 1, 8) := by kernel_rfl
theorem app_num {w : World} {N : Nat} {v : Value} {l : List Nat} (ho : w.ownsRow N 3 1 v l.length (nuV l)) (hN : N ≤ w.heap.size) (hsm : l.length ≤ 1000000) (n : Nat) (B : Nat) (hB : Blk w B #[.int .i64 (n : Int)] 3) :
  ∃ g cap w', (Builtin.append_ #[22, 22] 22 #[v, .slice (some ⟨B, 0, none⟩) 1 1]).run Tryz.prog w = .ok (.slice (some ⟨g, 0, none⟩) (l.length + 1) cap) w' ∧
   w'.ownsRow N 3 1 (.slice (some ⟨g, 0, none⟩) (l.length + 1) cap) (l ++ [n]).length (nuV (l ++ [n])) ∧ w.grownBy w' v.ownBlock ∧ (v.ownBlock = some g ∨ g = w.heap.size) := by
 obtain ⟨i0, hi, hz0, hz1, hz2⟩ := info_parts Tryz.infoIntI
 obtain ⟨g, cap, w', h1, h2, h3, h4, h5⟩ := run_append_lies (P := Tryz.prog) w 22 22 N 3 i0 _ 1 8 Tryz.underlying22 hi hz0 hz1 hz2 rfl (by decide) v l.length (nuV l) ho
  ⟨B, 0, none⟩ 1 1 [.int .i64 (n : Int)] rfl (World.news_of_block hB) (by simp [Value.oneCell']) (by omega) (by unfold maxLen; omega) (by omega) hN _ rfl
 refine ⟨g, cap, w', h1, ?_, h3, h4⟩
 have e : nuV (l ++ [n]) = nuV l ++ [.int .i64 (n : Int)] := by simp [nuV]
 rw [e, List.length_append]
 exact h2
def LyPost (L : List (List Sg)) (x : List Sg) (N : Nat) (tv : Value) (y0 : Lay) (w : World) (w' : World) : Prop :=
 ∃ y, Tri w' N tv (Nd (L ++ [x])) (nmL (L ++ [x])) y ∧ y.ad [] = y0.ad [] ∧ ExQ (OwnT (Nd L) y0) w w' ∧ ∀ b, OwnT (Nd (L ++ [x])) y b → OwnT (Nd L) y0 b ∨ w.heap.size ≤ b
def NdK (L : List (List Sg)) (p : List Sg) (u : List Sg) : Prop := Nd L u ∨ u <+: p
def LyS (L : List (List Sg)) (p : List Sg) (N : Nat) (tv : Value) (y0 y : Lay) (w wr : World) : Prop :=
 Tri wr N tv (NdK L p) (nmL L) y ∧ y.ad [] = y0.ad [] ∧ ExQ (OwnT (Nd L) y0) w wr ∧ ∀ b, OwnT (NdK L p) y b → OwnT (Nd L) y0 b ∨ w.heap.size ≤ b
theorem LyS.alloc {L : List (List Sg)} {p : List Sg} {N : Nat} {tv : Value} {y0 y : Lay} {w wr : World} (h : LyS L p N tv y0 y w wr) (o : Obj) : LyS L p N tv y0 y w (wr.alloc o) :=
 ⟨h.1.later ((Below.refl _ _).alloc (Nat.le_refl _) o), h.2.1, h.2.2.1.alloc o, h.2.2.2⟩
theorem LyS.drew {L : List (List Sg)} {p : List Sg} {N : Nat} {tv : Value} {y0 y : Lay} {w wr : World} (h : LyS L p N tv y0 y w wr) : LyS L p N tv y0 y w wr.drew :=
 ⟨h.1.kept fun b _ => rfl, h.2.1, h.2.2.1.drew, h.2.2.2⟩
theorem LyS.map {L : List (List Sg)} {p : List Sg} {N : Nat} {tv : Value} {y0 y : Lay} {w wr : World} (h : LyS L p N tv y0 y w wr) (hp : NdK L p p) (hm : y.mp p = none) :
  LyS L p N tv y0 (y.withMap p wr.heap.size) w ((wr.alloc (.map #[] 0)).setCell ⟨y.ad p, ofN p, none⟩ (.map (some wr.heap.size))) := by
 obtain ⟨h1, h2, h3, h4⟩ := h
 refine ⟨h1.mapNew hp hm, h2, (h3.alloc _).setOr (h4 _ ⟨p, hp, Or.inl rfl⟩) _ _, ?_⟩
 rintro b ⟨u, hu, h5 | h5 | h5⟩
 ·exact h4 b ⟨u, hu, Or.inl h5⟩
 ·by_cases e : u = p
  ·subst e
   simp only [Lay.withMap, if_true, Option.some.injEq] at h5
   exact Or.inr (by rw [← h5]; exact h3.size)
  ·simp only [Lay.withMap, if_neg e] at h5
   exact h4 b ⟨u, hu, Or.inr (Or.inl h5)⟩
 ·exact h4 b ⟨u, hu, Or.inr (Or.inr h5)⟩
theorem LyS.same {L : List (List Sg)} {x : List Sg} {k N : Nat} {tv : Value} {y0 y : Lay} {w wr : World} (h : LyS L (x.take k) N tv y0 y w wr) (hk : k < x.length) (hc : NdK L (x.take k) (x.take k ++ [x[k]])) : LyS L (x.take (k + 1)) N tv y0 y w wr := by
 obtain ⟨h1, h2, h3, h4⟩ := h
 have hA : ∀ u, NdK L (x.take (k + 1)) u ↔ NdK L (x.take k) u := fun u => by
  unfold NdK
  rw [pre_snoc hk]
  constructor
  ·rintro (h | h | h)
   ·exact Or.inl h
   ·exact Or.inr h
   ·rw [h]; exact hc
  ·rintro (h | h)
   ·exact Or.inl h
   ·exact Or.inr (Or.inl h)
 refine ⟨h1.congr hA fun _ _ => rfl, h2, h3, ?_⟩
 rintro b ⟨u, hu, h5⟩
 exact h4 b ⟨u, (hA u).1 hu, h5⟩
theorem LyS.child {L : List (List Sg)} {x : List Sg} {k N b : Nat} {tv : Value} {y0 y : Lay} {w wr w' : World} {E : List (Sg × Value)} (h : LyS L (x.take k) N tv y0 y w wr) (hk : k < x.length) (hn : ¬ NdK L (x.take k) (x.take k ++ [x[k]])) (hm : y.mp (x.take k) = some b)
  (hE : ∀ s v, (s, v) ∈ E ↔ NdK L (x.take k) (x.take k ++ [s]) ∧ v = .pointer (some ⟨y.ad (x.take k ++ [s]), 0, none⟩)) (hEn : (E.map (·.1)).Nodup) (hM : MapG w' b (E ++ [(x[k], .pointer (some ⟨wr.heap.size, 0, none⟩))]))
  (h6 : w'.heap.size = (wr.alloc (.cells #[.map none, .slice none 0 0] 57)).heap.size) (h7 : w'.os = wr.os) (h8 : w'.tape = wr.tape) (h9 : w'.output = wr.output) (hf : ∀ i, i ≠ b → w'.heap[i]? = (wr.alloc (.cells #[.map none, .slice none 0 0] 57)).heap[i]?) :
  LyS L (x.take (k + 1)) N tv y0 (y.more (x.take k ++ [x[k]]) wr.heap.size) w w' := by
 obtain ⟨h1, h2, h3, h4⟩ := h
 have hp : NdK L (x.take k) (x.take k) := Or.inr (List.prefix_refl _)
 have hnL : ¬ Nd L (x.take k ++ [x[k]]) := fun h => hn (Or.inl h)
 have hA : ∀ u, NdK L (x.take (k + 1)) u ↔ NdK L (x.take k) u ∨ u = x.take k ++ [x[k]] := fun u => by
  unfold NdK
  rw [pre_snoc hk, or_assoc]
 refine ⟨(h1.child hp hm hn (nmL_none hnL) hE hEn hM hf).congr hA fun _ _ => rfl, ?_, (h3.alloc _).putOr (h4 b ⟨_, hp, Or.inr (Or.inl hm)⟩) h6 h7 h8 h9 hf, ?_⟩
 ·simp only [Lay.more]
  rw [if_neg (nil_snoc _ _)]
  exact h2
 ·rintro c ⟨u, hu, h5⟩
  by_cases e : u = x.take k ++ [x[k]]
  ·subst e
   simp only [Lay.more, if_true] at h5
   rcases h5 with h5 | h5 | h5
   ·exact Or.inr (by rw [← h5]; exact h3.size)
   ·cases h5
   ·cases h5
  ·simp only [Lay.more, if_neg e] at h5
   rcases (hA u).1 hu with hu | hu
   ·exact h4 c ⟨u, hu, h5⟩
   ·exact absurd hu e
theorem LyS.done {L : List (List Sg)} {x : List Sg} {N : Nat} {tv v : Value} {y0 y : Lay} {w wr w1 : World} (h : LyS L x N tv y0 y w wr)
  (ho : w1.ownsRow N 3 1 v (nmL L x ++ [L.length]).length (nuV (nmL L x ++ [L.length]))) (hg : wr.grownBy w1 (y.nv x).ownBlock) (hv : ∀ b, v.ownBlock = some b → (y.nv x).ownBlock = some b ∨ wr.heap.size ≤ b) :
  LyPost L x N tv y0 w (w1.setCell ⟨y.ad x, ofN x + 1, none⟩ v) := by
 obtain ⟨h1, h2, h3, h4⟩ := h
 have hp : NdK L x x := Or.inr (List.prefix_refl _)
 refine ⟨y.withNum x v, (h1.num hp ho hg hv).congr (fun u => nd_snoc) (fun u _ => nmL_snoc L x u), h2, (h3.grown hg ?_).setOr (h4 _ ⟨x, hp, Or.inl rfl⟩) _ _, ?_⟩
 ·intro b hb
  rcases h4 b ⟨x, hp, Or.inr (Or.inr hb)⟩ with h | h
  ·exact Or.inr h
  ·exact Or.inl h
 ·rintro b ⟨u, hu, h5 | h5 | h5⟩
  ·exact h4 b ⟨u, nd_snoc.1 hu, Or.inl h5⟩
  ·exact h4 b ⟨u, nd_snoc.1 hu, Or.inr (Or.inl h5)⟩
  ·by_cases e : u = x
   ·subst e
    simp only [Lay.withNum, if_true] at h5
    rcases hv b h5 with h6 | h6
    ·exact h4 b ⟨u, nd_snoc.1 hu, Or.inr (Or.inr h6)⟩
    ·exact Or.inr (Nat.le_trans h3.size h6)
   ·simp only [Lay.withNum, if_neg e] at h5
    exact h4 b ⟨u, nd_snoc.1 hu, Or.inr (Or.inr h5)⟩
theorem mapNil (m : Option Nat) (w : World) : (binOp .eql 55 (.map m) (.map none)).run Tryz.prog w = .ok (.bool m.isNone) w := by
 simp only [binOp]
 simp [run_equal_map_nil w _ _ _ m Tryz.underlying55]
def LyIx (L : List (List Sg)) (x : List Sg) (N : Nat) (tv : Value) (y0 : Lay) (w : World) (q i : Value) (wr : World) : Prop :=
 ∃ (k : Nat) (y : Lay), k ≤ x.length ∧ i = .int .i64 (k : Int) ∧ q = .pointer (some ⟨y.ad (x.take k), ofN (x.take k), none⟩) ∧ LyS L (x.take k) N tv y0 y w wr
set_option maxHeartbeats 4000000 in
theorem lay_any {L : List (List Sg)} {x : List Sg} {N M g cap : Nat} {tv : Value} {y0 : Lay} {sp : List (Sg × Nat)} (w : World) (hT : Tri w N tv (Nd L) (nmL L) y0) (hN : N ≤ w.heap.size) (hx : sp.map (·.1) = x) (hok : ∀ s ∈ x, SgOk s) (hL : L.length ≤ 100000)
  (ho : w.ownsRow M 87 3 (.slice (some ⟨g, 0, none⟩) sp.length cap) sp.length (spX sp)) (hg : ¬ OwnT (Nd L) y0 g) :
  Calls Tryz.prog 25 #[.pointer (some ⟨y0.ad [], 1, none⟩), .slice (some ⟨g, 0, none⟩) sp.length cap, .int .i64 (L.length : Int)] w fun e w' => e = .returned (.tuple #[]) ∧ LyPost L x N tv y0 w w' := by
 have hxl : x.length = sp.length := by rw [← hx]; simp
 have hsl : sp.length ≤ 9223372036854775807 := by
  rcases ho.2 with ⟨h, _⟩ | ⟨g', cap', cur, h1, h2, h3, h4, h5, h6⟩
  ·cases h
  ·have h7 : maxLen ≤ 9223372036854775807 := by decide
   omega
 have HX := hide hx
 have HXL := hide hxl
 have HOK := hide hok
 have HO := hide ho
 have HG := hide hg
 have HT : Hid (LyS L [] N tv y0 y0 w w) := ⟨hT.congr (fun u => by unfold NdK; constructor; (rintro (h | h); exact h; exact Or.inl (List.prefix_nil.1 h)); exact Or.inl) (fun _ _ => rfl), rfl, ExQ.refl _ _, fun b hb => Or.inl (by
  obtain ⟨u, hu, h⟩ := hb
  refine ⟨u, ?_, h⟩
  rcases hu with h1 | h1
  ·exact h1
  ·exact Or.inl (List.prefix_nil.1 h1))⟩
 clear hx hxl hok ho hg hT
 go_enter Tryz.func25, Tryz.ntmps25
 go_wp2_with fail
 go_loopw [0, 10] (fun q i wr => LyIx L x N tv y0 w q i wr) (fun q i wr => sp.length - (intOf i).toNat)
 case atStart => exact ⟨0, y0, Nat.zero_le _, rfl, by simp [ofN], by simpa using HT.out⟩
 case round =>
  obtain ⟨k, y, hk, rfl, rfl, hS⟩ := hrel
  have HS := hide hS
  have HP : Hid (NdK L (x.take k) (x.take k)) := Or.inr (List.prefix_refl _)
  clear hS
  by_cases hlt0 : k < sp.length
  ·have hlt : k < x.length := by rw [HXL.out]; exact hlt0
   have hki : (k : Int) < (sp.length : Int) := by omega
   obtain ⟨⟨⟨s1, s2⟩, s3⟩, hsk⟩ : ∃ p, sp[k]? = some p := ⟨sp[k], List.getElem?_eq_getElem hlt0⟩
   have HXK : Hid (x[k] = (s1, s2)) := by
    have h1 : x[k]? = some (s1, s2) := by rw [← HX.out, List.getElem?_map, hsk]; rfl
    rw [List.getElem?_eq_getElem hlt] at h1
    exact Option.some.inj h1
   have hsok : SgOk (s1, s2) := by rw [← HXK.out]; exact HOK.out _ (List.getElem_mem hlt)
   have HTK : Hid (x.take (k + 1) = x.take k ++ [x[k]]) := List.take_succ_eq_append_getElem hlt
   have HOF : Hid (ofN (x.take k ++ [x[k]]) = 0) := of_snoc _ _
   have HGW : Hid (wr.heap[g]? = w.heap[g]?) := HS.out.2.2.1.block g (HO.out.lt g rfl).2 HG.out
   have hcel : ∀ j, j < sp.length * 3 → wr.cell? ⟨g, j, none⟩ = (spX sp)[j]? := fun j hj => by
    rw [World.cell?_of_block (w := w) (a := ⟨g, j, none⟩) HGW.out]
    exact HO.out.cellAt j hj
   obtain ⟨e1, e2, e3⟩ := spX_get hsk
   have d0 : wr.cell? ⟨g, k * 3, none⟩ = some (.string s1) := by rw [hcel _ (by omega)]; exact e1
   have d1 : wr.cell? ⟨g, k * 3 + 1, none⟩ = some (.int .i64 (s2 : Int)) := by rw [hcel _ (by omega)]; exact e2
   have d2 : wr.cell? ⟨g, k * 3 + 2, none⟩ = some (.int .i64 (s3 : Int)) := by rw [hcel _ (by omega)]; exact e3
   clear hcel e1 e2 e3 hsk
   obtain ⟨PA, hPA⟩ : ∃ PA, y.ad (x.take k) = PA := ⟨_, rfl⟩
   obtain ⟨PO, hPO⟩ : ∃ PO, ofN (x.take k) = PO := ⟨_, rfl⟩
   rw [hPA, hPO]
   have HPA := hide hPA
   have HPO := hide hPO
   have HL1 : Hid (LyS L (x.take k) N tv y0 y w (wr.alloc (.cells #[.string s1, .int .i64 (s2 : Int), .int .i64 (s3 : Int)] 87))) := HS.out.alloc _
   have HQB : Hid (Blk (wr.alloc (.cells #[.string s1, .int .i64 (s2 : Int), .int .i64 (s3 : Int)] 87)) wr.heap.size #[.string s1, .int .i64 (s2 : Int), .int .i64 (s3 : Int)] 87) := Blk.new _ _ _
   have c0 : (wr.alloc (.cells #[.string s1, .int .i64 (s2 : Int), .int .i64 (s3 : Int)] 87)).cell? ⟨PA, PO, none⟩ = some (.map (y.mp (x.take k))) := by
    have h := (HL1.out.1.node HP.out).c0
    rw [hPA, hPO] at h
    exact h
   clear hPA hPO
   go_upto_region 3 with fail
   clear d0 d1 d2
   generalize wr.heap.size = QB at *
   generalize wr.alloc (.cells #[.string s1, .int .i64 (s2 : Int), .int .i64 (s3 : Int)] 87) = w1 at *
   cases hm : y.mp (x.take k) with
   | none =>
    rw [hm] at c0
    have hme := mapNil none w1
    have hmk : (Instr.makeMap 55 none).run Tryz.prog w1 = .ok (.map (some w1.heap.size)) (w1.alloc (.map #[] 0)) := rfl
    have hf0 : w1.frozen? ⟨PA, PO, none⟩ = false := by have h := (HL1.out.1.node HP.out).fz PO; rw [HPA.out] at h; exact h
    have hlp : PA < w1.heap.size := by have h := (HL1.out.1.node HP.out).lt; rw [HPA.out] at h; exact h
    have HL2 : Hid (LyS L (x.take k) N tv y0 (y.withMap (x.take k) w1.heap.size) w ((w1.setCell ⟨PA, PO, none⟩ (.map (some w1.heap.size))).alloc (.map #[] 0))) := by
     have h := HL1.out.map HP.out hm
     rw [HPA.out, HPO.out, World.setCell_alloc_past _ _ _ _ hlp] at h
     exact h
    have HNE : Hid (QB ≠ PA) := fun e => by
     have h1 := HL1.out.1.node HP.out
     have h2 := HQB.out
     rw [HPA.out, ← e] at h1
     unfold NdB Blk at h1
     unfold Blk at h2
     split at h1
     ·rw [h2] at h1; injection h1 with h3; injection h3 with h4 h5; exact absurd h5 (by decide)
     ·rw [h2] at h1; injection h1 with h3; injection h3 with h4 h5; exact absurd h5 (by decide)
    have HQB2 : Hid (Blk ((w1.setCell ⟨PA, PO, none⟩ (.map (some w1.heap.size))).alloc (.map #[] 0)) QB #[.string s1, .int .i64 (s2 : Int), .int .i64 (s3 : Int)] 87) := (HQB.out.setOther _ _ HNE.out).alloc _
    go_upto_region 5 with fail
    clear c0 hf0 hlp HL1 HQB HNE hme hmk
    generalize ((w1.setCell ⟨PA, PO, none⟩ (.map (some w1.heap.size))).alloc (.map #[] 0)) = W2 at *
    generalize w1.heap.size = b at *
    have HPA2 : Hid ((y.withMap (x.take k) b).ad (x.take k) = PA) := HPA.out
    have hm2 : (y.withMap (x.take k) b).mp (x.take k) = some b := by simp [Lay.withMap]
    clear HPA hm HS
    generalize y.withMap (x.take k) b = y1 at *
    clear y
    have HQ0 : Hid (W2.cell? ⟨QB, 0, none⟩ = some (.string s1)) := HQB2.out.c0
    have HQ1 : Hid (W2.cell? ⟨QB, 1, none⟩ = some (.int .i64 (s2 : Int))) := HQB2.out.c1
    obtain ⟨E, hE, hEn, hEi⟩ := HL2.out.1.kids HP.out hm2
    have HE := hide hE
    have HEN := hide hEn
    have HEI := hide hEi
    clear hE hEn hEi
    have c0 : W2.cell? ⟨PA, PO, none⟩ = some (.map (some b)) := by have h := (HL2.out.1.node HP.out).c0; rw [hm2, HPA2.out, HPO.out] at h; exact h
    have HC0 := hide c0
    clear c0
    have HM := hide hm2
    clear hm2
    by_cases hch : NdK L (x.take k) (x.take k ++ [x[k]])
    ·have hlk : ∀ w', MapG w' b E → (Instr.lookup 55 (.map (some b)) (.agg #[.string s1, .int .i64 (s2 : Int)]) false).run Tryz.prog w' = .ok (.pointer (some ⟨y1.ad (x.take k ++ [x[k]]), 0, none⟩)) w' := fun w' hM => by
      have h := look_in hM HEN.out (s := x[k]) (HXK.out ▸ hsok) ((HEI.out _ _).2 ⟨hch, rfl⟩)
      rw [HXK.out] at h ⊢
      exact h
     have HLK := hide hlk
     clear hlk
     have HLN : Hid (LyS L (x.take (k + 1)) N tv y0 y1 w W2.drew.drew) := (HL2.out.same hlt hch).drew.drew
     obtain ⟨CA, hCA⟩ : ∃ CA, CA = y1.ad (x.take k ++ [x[k]]) := ⟨_, rfl⟩
     rw [← hCA] at HLK
     have HCA := hide hCA
     clear hCA
     go_upto_region 5 with fail
     refine wp_region_held_drew (S := fun w' => w'.cell? ⟨PA, PO, none⟩ = some (.map (some b)) ∧ w'.cell? ⟨QB, 0, none⟩ = some (.string s1) ∧ w'.cell? ⟨QB, 1, none⟩ = some (.int .i64 (s2 : Int)) ∧ MapG w' b E) (by kernel_rfl) (by exact ⟨HC0.out, HQ0.out, HQ1.out, HE.out⟩) (fun hHeld => ?_)
     refine tkq (v := ?_) 0 rfl ?_ ?_
     rotate_left
     ·intro w' hSw
      obtain ⟨x0, x1, x2, x3⟩ := hSw
      go_simp <;> with_reducible rfl
     try simp only [Act.put, sq]
     refine tkq (v := ?_) 1 rfl ?_ ?_
     rotate_left
     ·intro w' hSw
      obtain ⟨x0, x1, x2, x3⟩ := hSw
      go_simp <;> with_reducible rfl
     try simp only [Act.put, sq]
     refine tkq (v := ?_) 2 rfl ?_ ?_
     rotate_left
     ·intro w' hSw
      obtain ⟨x0, x1, x2, x3⟩ := hSw
      go_simp <;> with_reducible rfl
     try simp only [Act.put, sq]
     refine tkq (v := ?_) 3 rfl ?_ ?_
     rotate_left
     ·intro w' hSw
      obtain ⟨x0, x1, x2, x3⟩ := hSw
      go_simp <;> with_reducible rfl
     try simp only [Act.put, sq]
     refine tkq (v := ?_) 4 rfl ?_ ?_
     rotate_left
     ·intro w' hSw
      obtain ⟨x0, x1, x2, x3⟩ := hSw
      go_simp <;> with_reducible rfl
     try simp only [Act.put, sq]
     refine tkq (v := ?_) 5 rfl ?_ ?_
     rotate_left
     ·intro w' hSw
      obtain ⟨x0, x1, x2, x3⟩ := hSw
      go_simp <;> with_reducible rfl
     try simp only [Act.put, sq]
     refine tkq (v := ?_) 6 rfl ?_ ?_
     rotate_left
     ·intro w' hSw
      obtain ⟨x0, x1, x2, x3⟩ := hSw
      have hlk := HLK.out w' x3
      go_simp <;> with_reducible rfl
     try simp only [Act.put, sq]
     refine tkq (v := ?_) 7 rfl ?_ ?_
     rotate_left
     ·intro w' hSw
      obtain ⟨x0, x1, x2, x3⟩ := hSw
      go_simp <;> with_reducible rfl
     try simp only [Act.put, sq]
     refine wpAnyH_done (by kernel_rfl) ?_ _
     go_upto_region 7 with fail
     refine wp_region_held_drew (S := fun w' => w'.cell? ⟨PA, PO, none⟩ = some (.map (some b)) ∧ w'.cell? ⟨QB, 0, none⟩ = some (.string s1) ∧ w'.cell? ⟨QB, 1, none⟩ = some (.int .i64 (s2 : Int)) ∧ MapG w' b E) (by kernel_rfl) (by exact ⟨HC0.out, HQ0.out, HQ1.out, HE.out⟩) (fun hHeld => ?_)
     refine tkq (v := ?_) 0 rfl ?_ ?_
     rotate_left
     ·intro w' hSw
      obtain ⟨x0, x1, x2, x3⟩ := hSw
      go_simp <;> with_reducible rfl
     try simp only [Act.put, sq]
     refine tkq (v := ?_) 1 rfl ?_ ?_
     rotate_left
     ·intro w' hSw
      obtain ⟨x0, x1, x2, x3⟩ := hSw
      go_simp <;> with_reducible rfl
     try simp only [Act.put, sq]
     refine tkq (v := ?_) 2 rfl ?_ ?_
     rotate_left
     ·intro w' hSw
      obtain ⟨x0, x1, x2, x3⟩ := hSw
      go_simp <;> with_reducible rfl
     try simp only [Act.put, sq]
     refine tkq (v := ?_) 3 rfl ?_ ?_
     rotate_left
     ·intro w' hSw
      obtain ⟨x0, x1, x2, x3⟩ := hSw
      go_simp <;> with_reducible rfl
     try simp only [Act.put, sq]
     refine tkq (v := ?_) 4 rfl ?_ ?_
     rotate_left
     ·intro w' hSw
      obtain ⟨x0, x1, x2, x3⟩ := hSw
      go_simp <;> with_reducible rfl
     try simp only [Act.put, sq]
     refine tkq (v := ?_) 5 rfl ?_ ?_
     rotate_left
     ·intro w' hSw
      obtain ⟨x0, x1, x2, x3⟩ := hSw
      go_simp <;> with_reducible rfl
     try simp only [Act.put, sq]
     refine tkq (v := ?_) 6 rfl ?_ ?_
     rotate_left
     ·intro w' hSw
      obtain ⟨x0, x1, x2, x3⟩ := hSw
      have hlk := HLK.out w' x3
      go_simp <;> with_reducible rfl
     try simp only [Act.put, sq]
     refine tkq (v := ?_) 7 rfl ?_ ?_
     rotate_left
     ·intro w' hSw
      obtain ⟨x0, x1, x2, x3⟩ := hSw
      go_simp <;> with_reducible rfl
     try simp only [Act.put, sq]
     refine wpAnyH_done (by kernel_rfl) ?_ _
     generalize W2.drew.drew = W5 at *
     go_wp2_with fail
     go_roundw
     case rel => exact ⟨k + 1, y1, hlt, by go_num, by rw [HCA.out, HTK.out, HOF.out], HLN.out⟩
     case measure => simp [intOf]; omega
    ·have hlk : ∀ w', MapG w' b E → (Instr.lookup 55 (.map (some b)) (.agg #[.string s1, .int .i64 (s2 : Int)]) false).run Tryz.prog w' = .ok (.pointer none) w' := fun w' hM => by
      have h := look_out hM (s := x[k]) (HXK.out ▸ hsok) (fun v hv => hch ((HEI.out _ _).1 hv).1)
      rw [HXK.out] at h
      exact h
     have HLK := hide hlk
     clear hlk
     go_upto_region 5 with fail
     refine wp_region_held_drew (S := fun w' => w'.cell? ⟨PA, PO, none⟩ = some (.map (some b)) ∧ w'.cell? ⟨QB, 0, none⟩ = some (.string s1) ∧ w'.cell? ⟨QB, 1, none⟩ = some (.int .i64 (s2 : Int)) ∧ MapG w' b E) (by kernel_rfl) (by exact ⟨HC0.out, HQ0.out, HQ1.out, HE.out⟩) (fun hHeld => ?_)
     refine tkq (v := ?_) 0 rfl ?_ ?_
     rotate_left
     ·intro w' hSw
      obtain ⟨x0, x1, x2, x3⟩ := hSw
      go_simp <;> with_reducible rfl
     try simp only [Act.put, sq]
     refine tkq (v := ?_) 1 rfl ?_ ?_
     rotate_left
     ·intro w' hSw
      obtain ⟨x0, x1, x2, x3⟩ := hSw
      go_simp <;> with_reducible rfl
     try simp only [Act.put, sq]
     refine tkq (v := ?_) 2 rfl ?_ ?_
     rotate_left
     ·intro w' hSw
      obtain ⟨x0, x1, x2, x3⟩ := hSw
      go_simp <;> with_reducible rfl
     try simp only [Act.put, sq]
     refine tkq (v := ?_) 3 rfl ?_ ?_
     rotate_left
     ·intro w' hSw
      obtain ⟨x0, x1, x2, x3⟩ := hSw
      go_simp <;> with_reducible rfl
     try simp only [Act.put, sq]
     refine tkq (v := ?_) 4 rfl ?_ ?_
     rotate_left
     ·intro w' hSw
      obtain ⟨x0, x1, x2, x3⟩ := hSw
      go_simp <;> with_reducible rfl
     try simp only [Act.put, sq]
     refine tkq (v := ?_) 5 rfl ?_ ?_
     rotate_left
     ·intro w' hSw
      obtain ⟨x0, x1, x2, x3⟩ := hSw
      go_simp <;> with_reducible rfl
     try simp only [Act.put, sq]
     refine tkq (v := ?_) 6 rfl ?_ ?_
     rotate_left
     ·intro w' hSw
      obtain ⟨x0, x1, x2, x3⟩ := hSw
      have hlk := HLK.out w' x3
      go_simp <;> with_reducible rfl
     try simp only [Act.put, sq]
     refine tkq (v := ?_) 7 rfl ?_ ?_
     rotate_left
     ·intro w' hSw
      obtain ⟨x0, x1, x2, x3⟩ := hSw
      go_simp <;> with_reducible rfl
     try simp only [Act.put, sq]
     refine wpAnyH_done (by kernel_rfl) ?_ _
     have HL3 : Hid (LyS L (x.take k) N tv y0 y1 w W2.drew.drew) := HL2.out.drew.drew
     have HE3 : Hid (MapG W2.drew.drew b E) := HE.out
     have HC3 : Hid (W2.drew.drew.cell? ⟨PA, PO, none⟩ = some (.map (some b)) ∧ W2.drew.drew.cell? ⟨QB, 0, none⟩ = some (.string s1) ∧ W2.drew.drew.cell? ⟨QB, 1, none⟩ = some (.int .i64 (s2 : Int))) := ⟨HC0.out, HQ0.out, HQ1.out⟩
     have HNQ : Hid (PA ≠ b ∧ QB ≠ b) := ⟨fun e => ndb_map (HL2.out.1.node HP.out) (by rw [HPA2.out, e]; exact HE.out), fun e => by obtain ⟨es, clk, h1, _⟩ := HE.out; have h2 := HQB2.out; unfold Blk at h2; rw [e, h1] at h2; cases h2⟩
     have HLT : Hid (PA < W2.drew.drew.heap.size ∧ QB < W2.drew.drew.heap.size) := ⟨by have h := (HL2.out.1.node HP.out).lt; rw [HPA2.out] at h; exact h, HQB2.out.lt⟩
     go_upto_region 6 with fail
     refine wp_region_held_drew (S := fun w' => w'.cell? ⟨PA, PO, none⟩ = some (.map (some b)) ∧ w'.cell? ⟨QB, 0, none⟩ = some (.string s1) ∧ w'.cell? ⟨QB, 1, none⟩ = some (.int .i64 (s2 : Int))) (by kernel_rfl) (by exact HC3.out) (fun hHeld => ?_)
     generalize W2.drew.drew = W3 at *
     clear HLK HL2 HE HC0 HQ0 HQ1 HQB2
     refine tkq (v := ?_) 0 rfl ?_ ?_
     rotate_left
     ·intro w' hSw
      obtain ⟨x0, x1, x2⟩ := hSw
      go_simp <;> with_reducible rfl
     try simp only [Act.put, sq]
     refine tkq (v := ?_) 1 rfl ?_ ?_
     rotate_left
     ·intro w' hSw
      obtain ⟨x0, x1, x2⟩ := hSw
      go_simp <;> with_reducible rfl
     try simp only [Act.put, sq]
     refine tkq (v := ?_) 2 rfl ?_ ?_
     rotate_left
     ·intro w' hSw
      obtain ⟨x0, x1, x2⟩ := hSw
      go_simp <;> with_reducible rfl
     try simp only [Act.put, sq]
     refine tkq (v := ?_) 3 rfl ?_ ?_
     rotate_left
     ·intro w' hSw
      obtain ⟨x0, x1, x2⟩ := hSw
      go_simp <;> with_reducible rfl
     try simp only [Act.put, sq]
     refine tkq (v := ?_) 4 rfl ?_ ?_
     rotate_left
     ·intro w' hSw
      obtain ⟨x0, x1, x2⟩ := hSw
      go_simp <;> with_reducible rfl
     try simp only [Act.put, sq]
     refine tkq (v := ?_) 5 rfl ?_ ?_
     rotate_left
     ·intro w' hSw
      obtain ⟨x0, x1, x2⟩ := hSw
      go_simp <;> with_reducible rfl
     try simp only [Act.put, sq]
     refine tkq (v := ?_) 6 rfl ?_ ?_
     rotate_left
     ·intro w' hSw
      obtain ⟨x0, x1, x2⟩ := hSw
      go_simp <;> with_reducible rfl
     try simp only [Act.put, sq]
     obtain ⟨W4, hr4, hM4, h41, h42, h43, h44, h45⟩ := run_putG (w := W3.alloc (.cells #[.map none, .slice none 0 0] 57)) (HE3.out.kept (Below.heap_alloc _ _ _ HE3.out.lt)) x[k] (HXK.out ▸ hsok) (fun v hv => hch ((HEI.out _ _).1 hv).1) (.pointer (some ⟨W3.heap.size, 0, none⟩))
     have HR4 : Hid ((Instr.mapUpdate 55 (.map (some b)) (.agg #[.string s1, .int .i64 (s2 : Int)]) (.pointer (some ⟨W3.heap.size, 0, none⟩))).run Tryz.prog (W3.alloc (.cells #[.map none, .slice none 0 0] 57)) = .ok () W4) := by rw [HXK.out] at hr4; exact hr4
     have HC4 : Hid (W4.cell? ⟨PA, PO, none⟩ = some (.map (some b)) ∧ W4.cell? ⟨QB, 0, none⟩ = some (.string s1) ∧ W4.cell? ⟨QB, 1, none⟩ = some (.int .i64 (s2 : Int))) := by
      obtain ⟨h1, h2, h3⟩ := HC3.out
      have hk : ∀ {B i v}, W3.cell? ⟨B, i, none⟩ = some v → B ≠ b → B < W3.heap.size → W4.cell? ⟨B, i, none⟩ = some v := fun {B i v} h hne hl => by
       rw [World.cell?_of_block (w := W3.alloc (.cells #[.map none, .slice none 0 0] 57)) (a := ⟨B, i, none⟩) (h45 B hne)]
       rw [World.cell?_of_block (w := W3) (a := ⟨B, i, none⟩) (Below.heap_alloc _ _ _ hl)]
       exact h
      exact ⟨hk h1 HNQ.out.1 HLT.out.1, hk h2 HNQ.out.2 HLT.out.2, hk h3 HNQ.out.2 HLT.out.2⟩
     have HL4 : Hid (LyS L (x.take (k + 1)) N tv y0 (y1.more (x.take k ++ [x[k]]) W3.heap.size) w W4) := HL3.out.child hlt hch HM.out HEI.out HEN.out hM4 h41 h42 h43 h44 h45
     have HM4 := hide hM4
     have HCA : Hid (W3.heap.size = (y1.more (x.take k ++ [x[k]]) W3.heap.size).ad (x.take k ++ [x[k]])) := by simp [Lay.more, Hid]
     have HEN2 : Hid (((E ++ [(x[k], Value.pointer (some ⟨W3.heap.size, 0, none⟩))]).map (·.1)).Nodup) := by
      unfold Hid
      rw [List.map_append, List.nodup_append]
      refine ⟨HEN.out, by simp, fun a ha c hc e7 => ?_⟩
      subst e7
      obtain ⟨⟨a', v'⟩, hav, rfl⟩ := List.mem_map.1 ha
      have e8 : a' = x[k] := by simpa using hc
      subst e8
      exact hch ((HEI.out _ _).1 hav).1
     clear hr4 hM4 h41 h42 h43 h44 h45
     refine rdq 7 rfl fun K hK => ?_
     go_simp
     refine hK.out _ _ (by exact ⟨(World.cell?_of_block (w := W3) (a := ⟨PA, PO, none⟩) (Below.heap_alloc _ _ _ HLT.out.1)).trans HC3.out.1, (World.cell?_of_block (w := W3) (a := ⟨QB, 0, none⟩) (Below.heap_alloc _ _ _ HLT.out.2)).trans HC3.out.2.1, (World.cell?_of_block (w := W3) (a := ⟨QB, 1, none⟩) (Below.heap_alloc _ _ _ HLT.out.2)).trans HC3.out.2.2⟩) (fun hHeld => ?_)
     clear hK K
     try simp only [Act.put, sq]
     refine rdq 8 rfl fun K hK => ?_
     have hr4 := HR4.out
     go_simp
     refine hK.out _ _ (by exact HC4.out) (fun hHeld => ?_)
     clear hK K
     try simp only [Act.put, sq]
     clear hr4
     refine wpAnyH_done (by kernel_rfl) ?_ _
     obtain ⟨NB, hNB⟩ : ∃ NB, NB = W3.heap.size := ⟨_, rfl⟩
     have hlk : ∀ w', MapG w' b (E ++ [(x[k], .pointer (some ⟨W3.heap.size, 0, none⟩))]) → (Instr.lookup 55 (.map (some b)) (.agg #[.string s1, .int .i64 (s2 : Int)]) false).run Tryz.prog w' = .ok (.pointer (some ⟨W3.heap.size, 0, none⟩)) w' := fun w' hM => by
      have h := look_in hM HEN2.out (s := x[k]) (HXK.out ▸ hsok) (v := .pointer (some ⟨W3.heap.size, 0, none⟩)) (by simp)
      rw [HXK.out] at h
      exact h
     obtain ⟨E2, hE2⟩ : ∃ E2, E2 = E ++ [(x[k], Value.pointer (some ⟨W3.heap.size, 0, none⟩))] := ⟨_, rfl⟩
     rw [← hE2] at hlk HM4
     have HLK := hide hlk
     clear hlk hE2
     have HLN : Hid (LyS L (x.take (k + 1)) N tv y0 (y1.more (x.take k ++ [x[k]]) W3.heap.size) w W4.drew) := HL4.out.drew
     generalize W3.heap.size = NC at *
     clear hNB NB HR4 HL3 HE3 HC3 HNQ HLT HEN2
     go_upto_region 7 with fail
     refine wp_region_held_drew (S := fun w' => w'.cell? ⟨PA, PO, none⟩ = some (.map (some b)) ∧ w'.cell? ⟨QB, 0, none⟩ = some (.string s1) ∧ w'.cell? ⟨QB, 1, none⟩ = some (.int .i64 (s2 : Int)) ∧ MapG w' b E2) (by kernel_rfl) (by exact ⟨HC4.out.1, HC4.out.2.1, HC4.out.2.2, HM4.out⟩) (fun hHeld => ?_)
     refine tkq (v := ?_) 0 rfl ?_ ?_
     rotate_left
     ·intro w' hSw
      obtain ⟨x0, x1, x2, x3⟩ := hSw
      go_simp <;> with_reducible rfl
     try simp only [Act.put, sq]
     refine tkq (v := ?_) 1 rfl ?_ ?_
     rotate_left
     ·intro w' hSw
      obtain ⟨x0, x1, x2, x3⟩ := hSw
      go_simp <;> with_reducible rfl
     try simp only [Act.put, sq]
     refine tkq (v := ?_) 2 rfl ?_ ?_
     rotate_left
     ·intro w' hSw
      obtain ⟨x0, x1, x2, x3⟩ := hSw
      go_simp <;> with_reducible rfl
     try simp only [Act.put, sq]
     refine tkq (v := ?_) 3 rfl ?_ ?_
     rotate_left
     ·intro w' hSw
      obtain ⟨x0, x1, x2, x3⟩ := hSw
      go_simp <;> with_reducible rfl
     try simp only [Act.put, sq]
     refine tkq (v := ?_) 4 rfl ?_ ?_
     rotate_left
     ·intro w' hSw
      obtain ⟨x0, x1, x2, x3⟩ := hSw
      go_simp <;> with_reducible rfl
     try simp only [Act.put, sq]
     refine tkq (v := ?_) 5 rfl ?_ ?_
     rotate_left
     ·intro w' hSw
      obtain ⟨x0, x1, x2, x3⟩ := hSw
      go_simp <;> with_reducible rfl
     try simp only [Act.put, sq]
     refine tkq (v := ?_) 6 rfl ?_ ?_
     rotate_left
     ·intro w' hSw
      obtain ⟨x0, x1, x2, x3⟩ := hSw
      have hlk := HLK.out w' x3
      go_simp <;> with_reducible rfl
     try simp only [Act.put, sq]
     refine tkq (v := ?_) 7 rfl ?_ ?_
     rotate_left
     ·intro w' hSw
      obtain ⟨x0, x1, x2, x3⟩ := hSw
      go_simp <;> with_reducible rfl
     try simp only [Act.put, sq]
     refine wpAnyH_done (by kernel_rfl) ?_ _
     generalize W4.drew = W5 at *
     go_wp2_with fail
     go_roundw
     case rel => exact ⟨k + 1, y1.more (x.take k ++ [x[k]]) NC, hlt, by go_num, by rw [HTK.out, HOF.out, ← HCA.out], HLN.out⟩
     case measure => simp [intOf]; omega
   | some b =>
    rw [hm] at c0
    have hme := mapNil (some b) w1
    go_upto_region 5 with fail
    clear c0 HS hme
    have HQ0 : Hid (w1.cell? ⟨QB, 0, none⟩ = some (.string s1)) := HQB.out.c0
    have HQ1 : Hid (w1.cell? ⟨QB, 1, none⟩ = some (.int .i64 (s2 : Int))) := HQB.out.c1
    obtain ⟨E, hE, hEn, hEi⟩ := HL1.out.1.kids HP.out hm
    have HE := hide hE
    have HEN := hide hEn
    have HEI := hide hEi
    clear hE hEn hEi
    have c0 : w1.cell? ⟨PA, PO, none⟩ = some (.map (some b)) := by have h := (HL1.out.1.node HP.out).c0; rw [hm, HPA.out, HPO.out] at h; exact h
    have HC0 := hide c0
    clear c0
    have HM := hide hm
    clear hm
    by_cases hch : NdK L (x.take k) (x.take k ++ [x[k]])
    ·have hlk : ∀ w', MapG w' b E → (Instr.lookup 55 (.map (some b)) (.agg #[.string s1, .int .i64 (s2 : Int)]) false).run Tryz.prog w' = .ok (.pointer (some ⟨y.ad (x.take k ++ [x[k]]), 0, none⟩)) w' := fun w' hM => by
      have h := look_in hM HEN.out (s := x[k]) (HXK.out ▸ hsok) ((HEI.out _ _).2 ⟨hch, rfl⟩)
      rw [HXK.out] at h ⊢
      exact h
     have HLK := hide hlk
     clear hlk
     have HLN : Hid (LyS L (x.take (k + 1)) N tv y0 y w w1.drew.drew) := (HL1.out.same hlt hch).drew.drew
     obtain ⟨CA, hCA⟩ : ∃ CA, CA = y.ad (x.take k ++ [x[k]]) := ⟨_, rfl⟩
     rw [← hCA] at HLK
     have HCA := hide hCA
     clear hCA
     go_upto_region 5 with fail
     refine wp_region_held_drew (S := fun w' => w'.cell? ⟨PA, PO, none⟩ = some (.map (some b)) ∧ w'.cell? ⟨QB, 0, none⟩ = some (.string s1) ∧ w'.cell? ⟨QB, 1, none⟩ = some (.int .i64 (s2 : Int)) ∧ MapG w' b E) (by kernel_rfl) (by exact ⟨HC0.out, HQ0.out, HQ1.out, HE.out⟩) (fun hHeld => ?_)
     refine tkq (v := ?_) 0 rfl ?_ ?_
     rotate_left
     ·intro w' hSw
      obtain ⟨x0, x1, x2, x3⟩ := hSw
      go_simp <;> with_reducible rfl
     try simp only [Act.put, sq]
     refine tkq (v := ?_) 1 rfl ?_ ?_
     rotate_left
     ·intro w' hSw
      obtain ⟨x0, x1, x2, x3⟩ := hSw
      go_simp <;> with_reducible rfl
     try simp only [Act.put, sq]
     refine tkq (v := ?_) 2 rfl ?_ ?_
     rotate_left
     ·intro w' hSw
      obtain ⟨x0, x1, x2, x3⟩ := hSw
      go_simp <;> with_reducible rfl
     try simp only [Act.put, sq]
     refine tkq (v := ?_) 3 rfl ?_ ?_
     rotate_left
     ·intro w' hSw
      obtain ⟨x0, x1, x2, x3⟩ := hSw
      go_simp <;> with_reducible rfl
     try simp only [Act.put, sq]
     refine tkq (v := ?_) 4 rfl ?_ ?_
     rotate_left
     ·intro w' hSw
      obtain ⟨x0, x1, x2, x3⟩ := hSw
      go_simp <;> with_reducible rfl
     try simp only [Act.put, sq]
     refine tkq (v := ?_) 5 rfl ?_ ?_
     rotate_left
     ·intro w' hSw
      obtain ⟨x0, x1, x2, x3⟩ := hSw
      go_simp <;> with_reducible rfl
     try simp only [Act.put, sq]
     refine tkq (v := ?_) 6 rfl ?_ ?_
     rotate_left
     ·intro w' hSw
      obtain ⟨x0, x1, x2, x3⟩ := hSw
      have hlk := HLK.out w' x3
      go_simp <;> with_reducible rfl
     try simp only [Act.put, sq]
     refine tkq (v := ?_) 7 rfl ?_ ?_
     rotate_left
     ·intro w' hSw
      obtain ⟨x0, x1, x2, x3⟩ := hSw
      go_simp <;> with_reducible rfl
     try simp only [Act.put, sq]
     refine wpAnyH_done (by kernel_rfl) ?_ _
     go_upto_region 7 with fail
     refine wp_region_held_drew (S := fun w' => w'.cell? ⟨PA, PO, none⟩ = some (.map (some b)) ∧ w'.cell? ⟨QB, 0, none⟩ = some (.string s1) ∧ w'.cell? ⟨QB, 1, none⟩ = some (.int .i64 (s2 : Int)) ∧ MapG w' b E) (by kernel_rfl) (by exact ⟨HC0.out, HQ0.out, HQ1.out, HE.out⟩) (fun hHeld => ?_)
     refine tkq (v := ?_) 0 rfl ?_ ?_
     rotate_left
     ·intro w' hSw
      obtain ⟨x0, x1, x2, x3⟩ := hSw
      go_simp <;> with_reducible rfl
     try simp only [Act.put, sq]
     refine tkq (v := ?_) 1 rfl ?_ ?_
     rotate_left
     ·intro w' hSw
      obtain ⟨x0, x1, x2, x3⟩ := hSw
      go_simp <;> with_reducible rfl
     try simp only [Act.put, sq]
     refine tkq (v := ?_) 2 rfl ?_ ?_
     rotate_left
     ·intro w' hSw
      obtain ⟨x0, x1, x2, x3⟩ := hSw
      go_simp <;> with_reducible rfl
     try simp only [Act.put, sq]
     refine tkq (v := ?_) 3 rfl ?_ ?_
     rotate_left
     ·intro w' hSw
      obtain ⟨x0, x1, x2, x3⟩ := hSw
      go_simp <;> with_reducible rfl
     try simp only [Act.put, sq]
     refine tkq (v := ?_) 4 rfl ?_ ?_
     rotate_left
     ·intro w' hSw
      obtain ⟨x0, x1, x2, x3⟩ := hSw
      go_simp <;> with_reducible rfl
     try simp only [Act.put, sq]
     refine tkq (v := ?_) 5 rfl ?_ ?_
     rotate_left
     ·intro w' hSw
      obtain ⟨x0, x1, x2, x3⟩ := hSw
      go_simp <;> with_reducible rfl
     try simp only [Act.put, sq]
     refine tkq (v := ?_) 6 rfl ?_ ?_
     rotate_left
     ·intro w' hSw
      obtain ⟨x0, x1, x2, x3⟩ := hSw
      have hlk := HLK.out w' x3
      go_simp <;> with_reducible rfl
     try simp only [Act.put, sq]
     refine tkq (v := ?_) 7 rfl ?_ ?_
     rotate_left
     ·intro w' hSw
      obtain ⟨x0, x1, x2, x3⟩ := hSw
      go_simp <;> with_reducible rfl
     try simp only [Act.put, sq]
     refine wpAnyH_done (by kernel_rfl) ?_ _
     generalize w1.drew.drew = W5 at *
     go_wp2_with fail
     go_roundw
     case rel => exact ⟨k + 1, y, hlt, by go_num, by rw [HCA.out, HTK.out, HOF.out], HLN.out⟩
     case measure => simp [intOf]; omega
    ·have hlk : ∀ w', MapG w' b E → (Instr.lookup 55 (.map (some b)) (.agg #[.string s1, .int .i64 (s2 : Int)]) false).run Tryz.prog w' = .ok (.pointer none) w' := fun w' hM => by
      have h := look_out hM (s := x[k]) (HXK.out ▸ hsok) (fun v hv => hch ((HEI.out _ _).1 hv).1)
      rw [HXK.out] at h
      exact h
     have HLK := hide hlk
     clear hlk
     go_upto_region 5 with fail
     refine wp_region_held_drew (S := fun w' => w'.cell? ⟨PA, PO, none⟩ = some (.map (some b)) ∧ w'.cell? ⟨QB, 0, none⟩ = some (.string s1) ∧ w'.cell? ⟨QB, 1, none⟩ = some (.int .i64 (s2 : Int)) ∧ MapG w' b E) (by kernel_rfl) (by exact ⟨HC0.out, HQ0.out, HQ1.out, HE.out⟩) (fun hHeld => ?_)
     refine tkq (v := ?_) 0 rfl ?_ ?_
     rotate_left
     ·intro w' hSw
      obtain ⟨x0, x1, x2, x3⟩ := hSw
      go_simp <;> with_reducible rfl
     try simp only [Act.put, sq]
     refine tkq (v := ?_) 1 rfl ?_ ?_
     rotate_left
     ·intro w' hSw
      obtain ⟨x0, x1, x2, x3⟩ := hSw
      go_simp <;> with_reducible rfl
     try simp only [Act.put, sq]
     refine tkq (v := ?_) 2 rfl ?_ ?_
     rotate_left
     ·intro w' hSw
      obtain ⟨x0, x1, x2, x3⟩ := hSw
      go_simp <;> with_reducible rfl
     try simp only [Act.put, sq]
     refine tkq (v := ?_) 3 rfl ?_ ?_
     rotate_left
     ·intro w' hSw
      obtain ⟨x0, x1, x2, x3⟩ := hSw
      go_simp <;> with_reducible rfl
     try simp only [Act.put, sq]
     refine tkq (v := ?_) 4 rfl ?_ ?_
     rotate_left
     ·intro w' hSw
      obtain ⟨x0, x1, x2, x3⟩ := hSw
      go_simp <;> with_reducible rfl
     try simp only [Act.put, sq]
     refine tkq (v := ?_) 5 rfl ?_ ?_
     rotate_left
     ·intro w' hSw
      obtain ⟨x0, x1, x2, x3⟩ := hSw
      go_simp <;> with_reducible rfl
     try simp only [Act.put, sq]
     refine tkq (v := ?_) 6 rfl ?_ ?_
     rotate_left
     ·intro w' hSw
      obtain ⟨x0, x1, x2, x3⟩ := hSw
      have hlk := HLK.out w' x3
      go_simp <;> with_reducible rfl
     try simp only [Act.put, sq]
     refine tkq (v := ?_) 7 rfl ?_ ?_
     rotate_left
     ·intro w' hSw
      obtain ⟨x0, x1, x2, x3⟩ := hSw
      go_simp <;> with_reducible rfl
     try simp only [Act.put, sq]
     refine wpAnyH_done (by kernel_rfl) ?_ _
     have HL3 : Hid (LyS L (x.take k) N tv y0 y w w1.drew.drew) := HL1.out.drew.drew
     have HE3 : Hid (MapG w1.drew.drew b E) := HE.out
     have HC3 : Hid (w1.drew.drew.cell? ⟨PA, PO, none⟩ = some (.map (some b)) ∧ w1.drew.drew.cell? ⟨QB, 0, none⟩ = some (.string s1) ∧ w1.drew.drew.cell? ⟨QB, 1, none⟩ = some (.int .i64 (s2 : Int))) := ⟨HC0.out, HQ0.out, HQ1.out⟩
     have HNQ : Hid (PA ≠ b ∧ QB ≠ b) := ⟨fun e => ndb_map (HL1.out.1.node HP.out) (by rw [HPA.out, e]; exact HE.out), fun e => by obtain ⟨es, clk, h1, _⟩ := HE.out; have h2 := HQB.out; unfold Blk at h2; rw [e, h1] at h2; cases h2⟩
     have HLT : Hid (PA < w1.drew.drew.heap.size ∧ QB < w1.drew.drew.heap.size) := ⟨by have h := (HL1.out.1.node HP.out).lt; rw [HPA.out] at h; exact h, HQB.out.lt⟩
     go_upto_region 6 with fail
     refine wp_region_held_drew (S := fun w' => w'.cell? ⟨PA, PO, none⟩ = some (.map (some b)) ∧ w'.cell? ⟨QB, 0, none⟩ = some (.string s1) ∧ w'.cell? ⟨QB, 1, none⟩ = some (.int .i64 (s2 : Int))) (by kernel_rfl) (by exact HC3.out) (fun hHeld => ?_)
     generalize w1.drew.drew = W3 at *
     clear HLK HL1 HE HC0 HQ0 HQ1 HQB
     refine tkq (v := ?_) 0 rfl ?_ ?_
     rotate_left
     ·intro w' hSw
      obtain ⟨x0, x1, x2⟩ := hSw
      go_simp <;> with_reducible rfl
     try simp only [Act.put, sq]
     refine tkq (v := ?_) 1 rfl ?_ ?_
     rotate_left
     ·intro w' hSw
      obtain ⟨x0, x1, x2⟩ := hSw
      go_simp <;> with_reducible rfl
     try simp only [Act.put, sq]
     refine tkq (v := ?_) 2 rfl ?_ ?_
     rotate_left
     ·intro w' hSw
      obtain ⟨x0, x1, x2⟩ := hSw
      go_simp <;> with_reducible rfl
     try simp only [Act.put, sq]
     refine tkq (v := ?_) 3 rfl ?_ ?_
     rotate_left
     ·intro w' hSw
      obtain ⟨x0, x1, x2⟩ := hSw
      go_simp <;> with_reducible rfl
     try simp only [Act.put, sq]
     refine tkq (v := ?_) 4 rfl ?_ ?_
     rotate_left
     ·intro w' hSw
      obtain ⟨x0, x1, x2⟩ := hSw
      go_simp <;> with_reducible rfl
     try simp only [Act.put, sq]
     refine tkq (v := ?_) 5 rfl ?_ ?_
     rotate_left
     ·intro w' hSw
      obtain ⟨x0, x1, x2⟩ := hSw
      go_simp <;> with_reducible rfl
     try simp only [Act.put, sq]
     refine tkq (v := ?_) 6 rfl ?_ ?_
     rotate_left
     ·intro w' hSw
      obtain ⟨x0, x1, x2⟩ := hSw
      go_simp <;> with_reducible rfl
     try simp only [Act.put, sq]
     obtain ⟨W4, hr4, hM4, h41, h42, h43, h44, h45⟩ := run_putG (w := W3.alloc (.cells #[.map none, .slice none 0 0] 57)) (HE3.out.kept (Below.heap_alloc _ _ _ HE3.out.lt)) x[k] (HXK.out ▸ hsok) (fun v hv => hch ((HEI.out _ _).1 hv).1) (.pointer (some ⟨W3.heap.size, 0, none⟩))
     have HR4 : Hid ((Instr.mapUpdate 55 (.map (some b)) (.agg #[.string s1, .int .i64 (s2 : Int)]) (.pointer (some ⟨W3.heap.size, 0, none⟩))).run Tryz.prog (W3.alloc (.cells #[.map none, .slice none 0 0] 57)) = .ok () W4) := by rw [HXK.out] at hr4; exact hr4
     have HC4 : Hid (W4.cell? ⟨PA, PO, none⟩ = some (.map (some b)) ∧ W4.cell? ⟨QB, 0, none⟩ = some (.string s1) ∧ W4.cell? ⟨QB, 1, none⟩ = some (.int .i64 (s2 : Int))) := by
      obtain ⟨h1, h2, h3⟩ := HC3.out
      have hk : ∀ {B i v}, W3.cell? ⟨B, i, none⟩ = some v → B ≠ b → B < W3.heap.size → W4.cell? ⟨B, i, none⟩ = some v := fun {B i v} h hne hl => by
       rw [World.cell?_of_block (w := W3.alloc (.cells #[.map none, .slice none 0 0] 57)) (a := ⟨B, i, none⟩) (h45 B hne)]
       rw [World.cell?_of_block (w := W3) (a := ⟨B, i, none⟩) (Below.heap_alloc _ _ _ hl)]
       exact h
      exact ⟨hk h1 HNQ.out.1 HLT.out.1, hk h2 HNQ.out.2 HLT.out.2, hk h3 HNQ.out.2 HLT.out.2⟩
     have HL4 : Hid (LyS L (x.take (k + 1)) N tv y0 (y.more (x.take k ++ [x[k]]) W3.heap.size) w W4) := HL3.out.child hlt hch HM.out HEI.out HEN.out hM4 h41 h42 h43 h44 h45
     have HM4 := hide hM4
     have HCA : Hid (W3.heap.size = (y.more (x.take k ++ [x[k]]) W3.heap.size).ad (x.take k ++ [x[k]])) := by simp [Lay.more, Hid]
     have HEN2 : Hid (((E ++ [(x[k], Value.pointer (some ⟨W3.heap.size, 0, none⟩))]).map (·.1)).Nodup) := by
      unfold Hid
      rw [List.map_append, List.nodup_append]
      refine ⟨HEN.out, by simp, fun a ha c hc e7 => ?_⟩
      subst e7
      obtain ⟨⟨a', v'⟩, hav, rfl⟩ := List.mem_map.1 ha
      have e8 : a' = x[k] := by simpa using hc
      subst e8
      exact hch ((HEI.out _ _).1 hav).1
     clear hr4 hM4 h41 h42 h43 h44 h45
     refine rdq 7 rfl fun K hK => ?_
     go_simp
     refine hK.out _ _ (by exact ⟨(World.cell?_of_block (w := W3) (a := ⟨PA, PO, none⟩) (Below.heap_alloc _ _ _ HLT.out.1)).trans HC3.out.1, (World.cell?_of_block (w := W3) (a := ⟨QB, 0, none⟩) (Below.heap_alloc _ _ _ HLT.out.2)).trans HC3.out.2.1, (World.cell?_of_block (w := W3) (a := ⟨QB, 1, none⟩) (Below.heap_alloc _ _ _ HLT.out.2)).trans HC3.out.2.2⟩) (fun hHeld => ?_)
     clear hK K
     try simp only [Act.put, sq]
     refine rdq 8 rfl fun K hK => ?_
     have hr4 := HR4.out
     go_simp
     refine hK.out _ _ (by exact HC4.out) (fun hHeld => ?_)
     clear hK K
     try simp only [Act.put, sq]
     clear hr4
     refine wpAnyH_done (by kernel_rfl) ?_ _
     obtain ⟨NB, hNB⟩ : ∃ NB, NB = W3.heap.size := ⟨_, rfl⟩
     have hlk : ∀ w', MapG w' b (E ++ [(x[k], .pointer (some ⟨W3.heap.size, 0, none⟩))]) → (Instr.lookup 55 (.map (some b)) (.agg #[.string s1, .int .i64 (s2 : Int)]) false).run Tryz.prog w' = .ok (.pointer (some ⟨W3.heap.size, 0, none⟩)) w' := fun w' hM => by
      have h := look_in hM HEN2.out (s := x[k]) (HXK.out ▸ hsok) (v := .pointer (some ⟨W3.heap.size, 0, none⟩)) (by simp)
      rw [HXK.out] at h
      exact h
     obtain ⟨E2, hE2⟩ : ∃ E2, E2 = E ++ [(x[k], Value.pointer (some ⟨W3.heap.size, 0, none⟩))] := ⟨_, rfl⟩
     rw [← hE2] at hlk HM4
     have HLK := hide hlk
     clear hlk hE2
     have HLN : Hid (LyS L (x.take (k + 1)) N tv y0 (y.more (x.take k ++ [x[k]]) W3.heap.size) w W4.drew) := HL4.out.drew
     generalize W3.heap.size = NC at *
     clear hNB NB HR4 HL3 HE3 HC3 HNQ HLT HEN2
     go_upto_region 7 with fail
     refine wp_region_held_drew (S := fun w' => w'.cell? ⟨PA, PO, none⟩ = some (.map (some b)) ∧ w'.cell? ⟨QB, 0, none⟩ = some (.string s1) ∧ w'.cell? ⟨QB, 1, none⟩ = some (.int .i64 (s2 : Int)) ∧ MapG w' b E2) (by kernel_rfl) (by exact ⟨HC4.out.1, HC4.out.2.1, HC4.out.2.2, HM4.out⟩) (fun hHeld => ?_)
     refine tkq (v := ?_) 0 rfl ?_ ?_
     rotate_left
     ·intro w' hSw
      obtain ⟨x0, x1, x2, x3⟩ := hSw
      go_simp <;> with_reducible rfl
     try simp only [Act.put, sq]
     refine tkq (v := ?_) 1 rfl ?_ ?_
     rotate_left
     ·intro w' hSw
      obtain ⟨x0, x1, x2, x3⟩ := hSw
      go_simp <;> with_reducible rfl
     try simp only [Act.put, sq]
     refine tkq (v := ?_) 2 rfl ?_ ?_
     rotate_left
     ·intro w' hSw
      obtain ⟨x0, x1, x2, x3⟩ := hSw
      go_simp <;> with_reducible rfl
     try simp only [Act.put, sq]
     refine tkq (v := ?_) 3 rfl ?_ ?_
     rotate_left
     ·intro w' hSw
      obtain ⟨x0, x1, x2, x3⟩ := hSw
      go_simp <;> with_reducible rfl
     try simp only [Act.put, sq]
     refine tkq (v := ?_) 4 rfl ?_ ?_
     rotate_left
     ·intro w' hSw
      obtain ⟨x0, x1, x2, x3⟩ := hSw
      go_simp <;> with_reducible rfl
     try simp only [Act.put, sq]
     refine tkq (v := ?_) 5 rfl ?_ ?_
     rotate_left
     ·intro w' hSw
      obtain ⟨x0, x1, x2, x3⟩ := hSw
      go_simp <;> with_reducible rfl
     try simp only [Act.put, sq]
     refine tkq (v := ?_) 6 rfl ?_ ?_
     rotate_left
     ·intro w' hSw
      obtain ⟨x0, x1, x2, x3⟩ := hSw
      have hlk := HLK.out w' x3
      go_simp <;> with_reducible rfl
     try simp only [Act.put, sq]
     refine tkq (v := ?_) 7 rfl ?_ ?_
     rotate_left
     ·intro w' hSw
      obtain ⟨x0, x1, x2, x3⟩ := hSw
      go_simp <;> with_reducible rfl
     try simp only [Act.put, sq]
     refine wpAnyH_done (by kernel_rfl) ?_ _
     generalize W4.drew = W5 at *
     go_wp2_with fail
     go_roundw
     case rel => exact ⟨k + 1, y.more (x.take k ++ [x[k]]) NC, hlt, by go_num, by rw [HTK.out, HOF.out, ← HCA.out], HLN.out⟩
     case measure => simp [intOf]; omega
  ·have hki : ¬ (k : Int) < (sp.length : Int) := by omega
   have htk : x.take k = x := List.take_of_length_le (by rw [HXL.out]; omega)
   rw [htk] at HS HP
   rw [htk]
   clear htk
   obtain ⟨PA, hPA⟩ : ∃ PA, y.ad x = PA := ⟨_, rfl⟩
   obtain ⟨PO, hPO⟩ : ∃ PO, ofN x = PO := ⟨_, rfl⟩
   have hnd := HS.out.1.node HP.out
   have hnu := HS.out.1.nums HP.out
   have HL1 : Hid (LyS L x N tv y0 y w (wr.alloc (.cells #[.int .i64 (L.length : Int)] 3))) := HS.out.alloc _
   have hzr : w.heap.size ≤ wr.heap.size := HS.out.2.2.1.size
   have hnl : (nmL L x).length ≤ L.length := by unfold nmL; exact Nat.le_trans (List.length_filter_le _ _) (by simp)
   obtain ⟨g2, cap2, w3, hr3, ho3, hg3, hat3⟩ := app_num (hnu.alloc (.cells #[.int .i64 (L.length : Int)] 3)) (by simp; omega) (by omega) L.length wr.heap.size (Blk.new _ _ _)
   have HD := hide (HL1.out.done ho3 hg3 (fun b hb => by
    have e : g2 = b := by simpa [Value.ownBlock] using hb
    subst e
    rcases hat3 with h | h
    ·exact Or.inl h
    ·exact Or.inr (by rw [h]; exact Nat.le_refl _)))
   rw [hPA, hPO] at HD
   rw [hPA, hPO]
   have c1 := hnd.c1
   rw [hPA, hPO] at c1
   have hnd3 : NdB w3 x PA tv (.map (y.mp x)) (y.nv x) := by
    have h1 := HL1.out.1.node HP.out
    rw [hPA] at h1
    exact h1.kept (hg3.block PA h1.lt fun e => own_ndb (HL1.out.1.nums HP.out) e.symm h1)
   have c3 := hnd3.c1
   rw [hPO] at c3
   have f3 := hnd3.fz (PO + 1)
   have l3 := hnd3.lt
   have HA := hide hr3
   obtain ⟨va, vc, hva⟩ := own_sliceI hnu
   rw [hva] at c1 c3 HA
   clear hr3 ho3 hg3 hat3 hnd hnu hnd3 hPA hPO hva HL1 HS HP
   go_wp2_with (at_builtin; refine wpList_append_eq rfl _ _ _ _ rfl rfl rfl HA.out ?_)
   go_end0
   exact ⟨rfl, HD.out⟩
structure RowX (w : World) (N : Nat) (Z : Nat → Prop) (v : Value) (l : List Tm) (xs : List Value) : Prop where
 own : w.ownsRow N 26 2 v l.length xs
 row : RowT w Z l xs
theorem RowX.start (w : World) (N : Nat) (Z : Nat → Prop) : RowX w N Z (.slice none 0 0) [] [] := ⟨World.ownsRow_nil w N _ 2, rfl⟩
theorem RowX.mono {w : World} {N : Nat} {Z Z' : Nat → Prop} {v : Value} {l : List Tm} {xs : List Value} (h : RowX w N Z v l xs) (hZ : ∀ b, Z b → b < w.heap.size → Z' b) : RowX w N Z' v l xs :=
 ⟨h.own, h.row.imp fun a l hs => hs.mono hZ⟩
theorem RowX.exq {w w' : World} {N : Nat} {Q Z : Nat → Prop} {v : Value} {l : List Tm} {xs : List Value} (h : RowX w N Z v l xs) (he : ExQ Q w w') (hv : ∀ b, v.ownBlock = some b → ¬ Q b) (hZ : ∀ b, Z b → ¬ Q b) : RowX w' N Z v l xs :=
 ⟨ownsRow_at h.own fun g hg => he.block g (h.own.lt g hg).2 (hv g hg), h.row.imp fun a l hs => hs.exq he hZ⟩
theorem RowX.below {w w' : World} {N : Nat} {Z : Nat → Prop} {v : Value} {l : List Tm} {xs : List Value} (h : RowX w N Z v l xs) (hb : Below w.heap.size w w') : RowX w' N Z v l xs :=
 ⟨ownsRow_at h.own fun g hg => hb.block g (h.own.lt g hg).2, h.row.imp fun a l hs => hs.later hb⟩
theorem RowX.shape {w : World} {N : Nat} {Z : Nat → Prop} {v : Value} {l : List Tm} {xs : List Value} (h : RowX w N Z v l xs) : ∃ a c, v = .slice a l.length c := by
 rcases h.own.2 with ⟨h1, h0⟩ | ⟨g, cap, cur, h1, _⟩
 ·exact ⟨none, 0, by rw [h1, h0]⟩
 ·exact ⟨_, _, h1⟩
theorem RowX.sl {w : World} {N : Nat} {Z : Nat → Prop} {a : Option Addr} {c : Nat} {l : List Tm} {xs : List Value} (h : RowX w N Z (.slice a l.length c) l xs) : Sl w (fun b => Z b ∨ (Value.slice a l.length c).ownBlock = some b) a l := by
 rcases h.own.2 with ⟨h1, h0⟩ | ⟨g, cap, cur, h1, _, _, hnc, hcm, _⟩
 ·have : l = [] := List.length_eq_zero_iff.1 h0
  subst this
  exact ⟨by simp, Or.inl rfl⟩
 ·have hc := h.own.cells (g := g) (by rw [h1]; rfl)
  cases h1
  unfold maxLen at hcm
  refine ⟨by omega, Or.inr ⟨g, 0, rfl, ?_⟩⟩
  refine lies_of_rowT (w := w) (X := Z) g (Or.inr rfl) l xs 0 h.row (fun a k hs => hs.mono fun b hb _ => Or.inl hb) fun j u hj => ?_
  have := hc j u hj
  rw [show (⟨g, 0, none⟩ : Addr).add j = ⟨g, 0 + j, none⟩ by by_cases h0 : j = 0 <;> simp [Addr.add, h0]] at this
  exact this
theorem app_zeroX {w : World} {N : Nat} {Z : Nat → Prop} {u : Value} {L : List Tm} {xs : List Value} (h : RowX w N Z u L xs) (hN : N ≤ w.heap.size) (hl : L.length ≤ 1000000) (B : Nat) (hB : Blk w B #[.string ⟨#[]⟩, .slice none 0 0] 26) :
  ∃ g cap w3, (Builtin.append_ #[23, 23] 23 #[u, .slice (some ⟨B, 0, none⟩) 1 1]).run Tryz.prog w = .ok (.slice (some ⟨g, 0, none⟩) (L.length + 1) cap) w3 ∧
   w3.ownsRow N 26 2 (.slice (some ⟨g, 0, none⟩) (L.length + 1) cap) (L.length + 1) (xs ++ [.string ⟨#[]⟩, .slice none 0 0]) ∧ w.grownBy w3 u.ownBlock ∧ (u.ownBlock = some g ∨ g = w.heap.size) ∧ g < w3.heap.size := by
 obtain ⟨i0, hi, hz0, hz1, hz2⟩ := info_parts Tryz.infoTerm
 exact run_append_lies (P := Tryz.prog) (w := w) 23 23 N 26 i0 _ 2 40 Tryz.underlying23 hi hz0 hz1 hz2 rfl (by decide) u L.length xs h.own ⟨B, 0, none⟩ 1 1 [.string ⟨#[]⟩, .slice none 0 0] rfl (World.news_of_block hB) (fun x hx => by simp at hx; rcases hx with rfl | rfl <;> rfl) (by decide) (by unfold maxLen; omega) (by omega) hN _ rfl
theorem setC_swap (w : World) {a b : Nat} (i j : Nat) (u v : Value) (h : a ≠ b) : (w.setCell ⟨a, i, none⟩ u).setCell ⟨b, j, none⟩ v = (w.setCell ⟨b, j, none⟩ v).setCell ⟨a, i, none⟩ u := by
 have hh : ((w.setCell ⟨a, i, none⟩ u).setCell ⟨b, j, none⟩ v).heap = ((w.setCell ⟨b, j, none⟩ v).setCell ⟨a, i, none⟩ u).heap := by
  apply Array.ext_getElem?
  intro k
  by_cases hb : k = b
  ·subst hb
   rw [Below.heap_setCell (w.setCell ⟨k, j, none⟩ v) ⟨a, i, none⟩ u k (Ne.symm h)]
   simp only [World.setCell, Array.getElem?_modify]
   simp [h, Ne.symm h]
  ·rw [Below.heap_setCell (w.setCell ⟨a, i, none⟩ u) ⟨b, j, none⟩ v k hb]
   by_cases ha : k = a
   ·subst ha
    simp only [World.setCell, Array.getElem?_modify]
    simp [h, Ne.symm h]
   ·rw [Below.heap_setCell _ _ _ _ ha, Below.heap_setCell _ _ _ _ ha, Below.heap_setCell _ _ _ _ hb]
 unfold World.setCell at *
 simpa using hh
theorem row_last {w : World} {N g k cap : Nat} {xs : List Value} (ho : w.ownsRow N 26 2 (.slice (some ⟨g, 0, none⟩) (k + 1) cap) (k + 1) (xs ++ [.string ⟨#[]⟩, .slice none 0 0])) (hx : xs.length = k * 2) : w.cell? ⟨g, k * 2, none⟩ = some (.string ⟨#[]⟩) ∧ w.cell? ⟨g, k * 2 + 1, none⟩ = some (.slice none 0 0) := by
 refine ⟨?_, ?_⟩
 ·rw [ho.cellAt _ (by omega), ← hx, List.getElem?_append_right (Nat.le_refl _)]; simp
 ·rw [ho.cellAt _ (by omega), ← hx, List.getElem?_append_right (by omega)]; simp
theorem set_two (xs : List Value) (a b c d : Value) : ((xs ++ [a, b]).set xs.length c).set (xs.length + 1) d = xs ++ [c, d] := by
 rw [List.set_append_right _ _ (Nat.le_refl _), Nat.sub_self, List.set_append_right _ _ (by omega), show xs.length + 1 - xs.length = 1 by omega]
 rfl
theorem Tri.setT {w : World} {N : Nat} {tv : Value} {A : List Sg → Prop} {nm : List Sg → List Nat} {y : Lay} (h : Tri w N tv A nm y) (v : Value) : Tri (w.setCell ⟨y.ad [], 0, none⟩ v) N v A nm y := by
 have hk : ∀ b, b ≠ y.ad [] → (w.setCell ⟨y.ad [], 0, none⟩ v).heap[b]? = w.heap[b]? := fun b hb => Below.heap_setCell _ _ _ _ hb
 refine ⟨h.root, h.up, fun {u} hu => ?_, h.inj, h.leaf, fun {u b} hu e => ?_, h.minj, fun {u} hu => ?_, h.ninj⟩
 ·have h0 := h.node hu
  by_cases e : u = []
  ·subst e
   unfold NdB at *
   rw [if_pos rfl] at *
   simpa using h0.set 0 v
  ·unfold NdB at *
   rw [if_neg e] at *
   exact h0.setOther 0 v fun e2 => e (h.inj hu h.root e2)
 ·obtain ⟨E, h3, h4⟩ := h.kids hu e
  exact ⟨E, h3.kept (hk b fun e2 => ndb_map (h.node h.root) (e2 ▸ h3)), h4⟩
 ·refine ownsRow_at (h.nums hu) fun g hg => hk g fun e => ?_
  subst e
  exact own_ndb (h.nums hu) hg (h.node h.root)
def wsL (ts : List Tm) : List (List Sg) := ts.map fun t => wdL [t]
theorem wsL_snoc (ts : List Tm) (t : Tm) : wsL (ts ++ [t]) = wsL ts ++ [wdL [t]] := by simp [wsL]
theorem wsL_length (ts : List Tm) : (wsL ts).length = ts.length := by simp [wsL]
structure NwS (N X : Nat) (ts ks : List Tm) (w : World) (y : Lay) (tv : Value) (Z : Nat → Prop) : Prop where
 tri : Tri w N tv (Nd (wsL ts)) (nmL (wsL ts)) y
 here : y.ad [] = X
 row : ∃ xs, RowX w N Z tv ks xs
 zin : ∀ b, Z b → N ≤ b ∧ b < w.heap.size ∧ ¬ OwnT (Nd (wsL ts)) y b ∧ tv.ownBlock ≠ some b
 own : ∀ b, tv.ownBlock = some b → ¬ OwnT (Nd (wsL ts)) y b
 ge : ∀ b, OwnT (Nd (wsL ts)) y b → N ≤ b
theorem NwS.later {N X : Nat} {ts ks : List Tm} {w w' : World} {y : Lay} {tv : Value} {Z : Nat → Prop} (h : NwS N X ts ks w y tv Z) (hb : Below w.heap.size w w') : NwS N X ts ks w' y tv Z :=
 ⟨h.tri.later hb, h.here, h.row.imp fun xs hr => hr.below hb, fun b hz => ⟨(h.zin b hz).1, Nat.lt_of_lt_of_le (h.zin b hz).2.1 hb.size, (h.zin b hz).2.2⟩, h.own, h.ge⟩
theorem NwS.xlt {N X : Nat} {ts ks : List Tm} {w : World} {y : Lay} {tv : Value} {Z : Nat → Prop} (h : NwS N X ts ks w y tv Z) : X < w.heap.size := by
 rw [← h.here]; exact (h.tri.node h.tri.root).lt
theorem NwS.blk {N X : Nat} {ts ks : List Tm} {w : World} {y : Lay} {tv : Value} {Z : Nat → Prop} (h : NwS N X ts ks w y tv Z) : Blk w X #[tv, .map (y.mp []), y.nv []] 59 := by
 have h1 := h.tri.node h.tri.root
 unfold NdB at h1
 rw [if_pos rfl, h.here] at h1
 exact h1
theorem NwS.push {N X g cap c1 : Nat} {ts ks : List Tm} {w W W8 : World} {y : Lay} {tv : Value} {Z : Nat → Prop} {t : Tm} {a1 : Option Addr} {xs : List Value} (h : NwS N X ts ks w y tv Z) (hN : N ≤ w.heap.size) (hb : Below w.heap.size w W) (hr : RowX W N Z tv ks xs)
  (hs : Sl W (fun b => w.heap.size ≤ b) a1 t.args)
  (ho : W8.ownsRow N 26 2 (.slice (some ⟨g, 0, none⟩) (ks.length + 1) cap) (ks.length + 1) (xs ++ [.string ⟨#[]⟩, .slice none 0 0])) (hg : W.grownBy W8 tv.ownBlock) (hat : tv.ownBlock = some g ∨ g = W.heap.size) :
  NwS N X ts (ks ++ [t]) (((W8.setCell ⟨g, ks.length * 2, none⟩ (.string t.name)).setCell ⟨g, ks.length * 2 + 1, none⟩ (.slice a1 t.args.length c1)).setCell ⟨X, 0, none⟩ (.slice (some ⟨g, 0, none⟩) (ks.length + 1) cap)) y (.slice (some ⟨g, 0, none⟩) (ks.length + 1) cap) (fun b => Z b ∨ (w.heap.size ≤ b ∧ b < W.heap.size)) ∧
  ExQ (fun b => b = X ∨ tv.ownBlock = some b) w (((W8.setCell ⟨g, ks.length * 2, none⟩ (.string t.name)).setCell ⟨g, ks.length * 2 + 1, none⟩ (.slice a1 t.args.length c1)).setCell ⟨X, 0, none⟩ (.slice (some ⟨g, 0, none⟩) (ks.length + 1) cap)) := by
 have hxl := h.xlt
 have hzs := hb.size
 have hgs := hg.size
 have hot : ∀ b, OwnT (Nd (wsL ts)) y b → b < w.heap.size := fun b hb => h.tri.lt hb
 have hgo : ¬ OwnT (Nd (wsL ts)) y g := fun e => by
  rcases hat with h1 | h1
  ·exact h.own g h1 e
  ·have := hot g e; omega
 have hxo : OwnT (Nd (wsL ts)) y X := ⟨[], h.tri.root, Or.inl h.here⟩
 have hxg : X ≠ g := fun e => hgo (e ▸ hxo)
 have hxl8 : xs.length = ks.length * 2 := hr.own.1
 have st1 := ho.stored (ks.length * 2) (.string t.name)
 have st2 := st1.1.stored (ks.length * 2 + 1) (.slice a1 t.args.length c1)
 have e2 : ((xs ++ [Value.string ⟨#[]⟩, Value.slice none 0 0]).set (ks.length * 2) (.string t.name)).set (ks.length * 2 + 1) (.slice a1 t.args.length c1) = xs ++ [.string t.name, .slice a1 t.args.length c1] := by
  rw [← hxl8]; exact set_two _ _ _ _ _
 rw [e2] at st2
 -- frames
 have E1 : ExQ (fun b => b = X ∨ tv.ownBlock = some b) w W8 := (ExQ.ofBelow hb).grown hg fun k hk => Or.inr (Or.inr hk)
 have hgQ : (g = X ∨ tv.ownBlock = some g) ∨ w.heap.size ≤ g := by
  rcases hat with h1 | h1
  ·exact Or.inl (Or.inr h1)
  ·exact Or.inr (by omega)
 have E2 := (E1.setOr hgQ (ks.length * 2) (.string t.name)).setOr hgQ (ks.length * 2 + 1) (.slice a1 t.args.length c1)
 have E3 := E2.setOr (B := X) (Or.inl (Or.inl rfl)) 0 (.slice (some ⟨g, 0, none⟩) (ks.length + 1) cap)
 have T2 : Tri ((W8.setCell ⟨g, ks.length * 2, none⟩ (.string t.name)).setCell ⟨g, ks.length * 2 + 1, none⟩ (.slice a1 t.args.length c1)) N tv (Nd (wsL ts)) (nmL (wsL ts)) y := by
  refine h.tri.kept fun b hbo => ?_
  have hbg : b ≠ g := fun e => hgo (e ▸ hbo)
  have hbl := hot b hbo
  rw [Below.heap_setCell _ _ _ _ hbg, Below.heap_setCell _ _ _ _ hbg, hg.block b (by omega) (fun e => h.own b e.symm hbo)]
  exact hb.block b hbl
 refine ⟨⟨?_, h.here, ⟨xs ++ [.string t.name, .slice a1 t.args.length c1], ?_, ?_⟩, fun b hz => ?_, fun b hv => ?_, h.ge⟩, E3⟩
 ·have h4 := T2.setT (.slice (some ⟨g, 0, none⟩) (ks.length + 1) cap)
  rw [h.here] at h4
  exact h4
 ·rw [List.length_append]
  exact ownsRow_at st2.1 fun b hv => Below.heap_setCell _ _ _ _ (by
   have e : g = b := by simpa [Value.ownBlock] using hv
   rw [← e]; exact fun e3 => hxg e3.symm)
 ·have key : ∀ (a : Option Addr) (l : List Tm), Sl W (fun b => Z b ∨ (w.heap.size ≤ b ∧ b < W.heap.size)) a l → Sl (((W8.setCell ⟨g, ks.length * 2, none⟩ (.string t.name)).setCell ⟨g, ks.length * 2 + 1, none⟩ (.slice a1 t.args.length c1)).setCell ⟨X, 0, none⟩ (.slice (some ⟨g, 0, none⟩) (ks.length + 1) cap)) (fun b => Z b ∨ (w.heap.size ≤ b ∧ b < W.heap.size)) a l := fun a l hsl => by
   refine hsl.kept fun b hbz => ?_
   have hlt : b < W.heap.size := by
    rcases hbz with h1 | h1
    ·have := (h.zin b h1).2.1; omega
    ·exact h1.2
   have hbt : tv.ownBlock ≠ some b := by
    rcases hbz with h1 | h1
    ·exact (h.zin b h1).2.2.2
    ·intro e; obtain ⟨xs0, hr0⟩ := h.row; have := (hr0.own.lt b e).2; omega
   have hbg : b ≠ g := fun e => by
    subst e
    rcases hat with h1 | h1
    ·exact hbt h1
    ·omega
   have hbx : b ≠ X := fun e => by
    subst e
    rcases hbz with h1 | h1
    ·exact (h.zin _ h1).2.2.1 hxo
    ·omega
   rw [Below.heap_setCell _ _ _ _ hbx, Below.heap_setCell _ _ _ _ hbg, Below.heap_setCell _ _ _ _ hbg]
   exact hg.block b hlt (fun e => hbt e.symm)
  refine RowT.append (hr.row.imp fun a l hsl => key a l (hsl.mono fun b hz _ => Or.inl hz)) ⟨a1, c1, [], rfl, key _ _ (hs.mono fun b hz hl => Or.inr ⟨hz, hl⟩), rfl⟩
 ·have hsz : w.heap.size ≤ (((W8.setCell ⟨g, ks.length * 2, none⟩ (.string t.name)).setCell ⟨g, ks.length * 2 + 1, none⟩ (.slice a1 t.args.length c1)).setCell ⟨X, 0, none⟩ (.slice (some ⟨g, 0, none⟩) (ks.length + 1) cap)).heap.size := E3.size
  have hsz2 : W.heap.size ≤ (((W8.setCell ⟨g, ks.length * 2, none⟩ (.string t.name)).setCell ⟨g, ks.length * 2 + 1, none⟩ (.slice a1 t.args.length c1)).setCell ⟨X, 0, none⟩ (.slice (some ⟨g, 0, none⟩) (ks.length + 1) cap)).heap.size := by simpa [World.setCell] using hgs
  rcases hz with h1 | h1
  ·obtain ⟨z1, z2, z3, z4⟩ := h.zin b h1
   refine ⟨z1, by omega, z3, fun e => ?_⟩
   have e3 : g = b := by simpa [Value.ownBlock] using e
   subst e3
   rcases hat with h5 | h5
   ·exact z4 h5
   ·omega
  ·refine ⟨by omega, by omega, fun e => by have := hot b e; omega, fun e => ?_⟩
   have e3 : g = b := by simpa [Value.ownBlock] using e
   subst e3
   rcases hat with h5 | h5
   ·obtain ⟨xs0, hr0⟩ := h.row; have := (hr0.own.lt _ h5).2; omega
   ·omega
 ·have e3 : g = b := by simpa [Value.ownBlock] using hv
  rw [← e3]; exact hgo
theorem ly_frame {L : List (List Sg)} {x : List Sg} {N : Nat} {tv : Value} {y0 : Lay} {w w' : World} (h : LyPost L x N tv y0 w w') : ExQ (OwnT (Nd L) y0) w w' := by
 obtain ⟨y, _, _, h3, _⟩ := h
 exact h3
theorem NwS.laid {N X : Nat} {ts ks : List Tm} {w w' : World} {y : Lay} {tv : Value} {Z : Nat → Prop} {t : Tm} (hN : N ≤ w.heap.size) (h : NwS N X ts ks w y tv Z) (hl : LyPost (wsL ts) (wdL [t]) N tv y w w') : ∃ y', NwS N X (ts ++ [t]) ks w' y' tv Z := by
 obtain ⟨y', h1, h2, h3, h4⟩ := hl
 rw [← wsL_snoc] at h1 h4
 refine ⟨y', h1, h2.trans h.here, ?_, fun b hz => ?_, fun b hv e => ?_, fun b hb => ?_⟩
 ·obtain ⟨xs, hr⟩ := h.row
  exact ⟨xs, hr.exq h3 (fun b hv => h.own b hv) (fun b hz => (h.zin b hz).2.2.1)⟩
 ·obtain ⟨z1, z2, z3, z4⟩ := h.zin b hz
  refine ⟨z1, Nat.lt_of_lt_of_le z2 h3.size, fun e => ?_, z4⟩
  rcases h4 b e with h5 | h5
  ·exact z3 h5
  ·omega
 ·obtain ⟨xs, hr⟩ := h.row
  rcases h4 b e with h5 | h5
  ·exact h.own b hv h5
  ·have := (hr.own.lt b hv).2; omega
 ·rcases h4 b hb with h5 | h5
  ·exact h.ge b h5
  ·omega
theorem sg_ok (l : List Tm) : errL l = 0 → sizeL l ≤ 1000 → ∀ s ∈ wdL l, SgOk s := by
 induction l using Tm.indL with
 | h0 => intro _ _ s hs; simp [wdL] at hs
 | h n l r ihl ihr =>
  intro he hz s hs
  obtain ⟨h1, h2⟩ := errL_cons_zero.1 he
  obtain ⟨hn, _, hl⟩ := errL_knot h1
  rw [sizeI_cons] at hz
  have hz2 : 1 + (sizeL l + sizeL r) ≤ 1000 := hz
  rw [wdL_cons] at hs
  rcases List.mem_cons.1 hs with rfl | hs
  ·unfold sgT
   split
   ·exact ⟨Nat.zero_le _, Nat.zero_le _⟩
   ·have h3 : n.size ≤ 8 := by simp [nameB] at hn; omega
    have h4 := sizeL_len l
    exact ⟨by show n.size ≤ _; omega, by show l.length ≤ _; omega⟩
  ·rcases List.mem_append.1 hs with hs | hs
   ·exact ihl hl (by omega) s hs
   ·exact ihr h2 (by omega) s hs
def rowTE : List Tm → Int
 | [] => 0
 | t :: r => if mayE t = 0 then rowTE r else mayE t
theorem rowTE_take {l : List Tm} : ∀ {k : Nat} (h : k < l.length), rowTE (l.take k) = 0 → rowTE (l.take (k + 1)) = mayE l[k] := by
 induction l with
 | nil => intro k h; simp at h
 | cons t r ih =>
  intro k h h0
  cases k with
  | zero => simp [rowTE]; intro h1; exact h1.symm
  | succ k =>
   simp only [List.take_succ_cons, rowTE] at h0 ⊢
   split at h0
   ·rename_i h1
    rw [if_pos h1]
    exact ih (by simpa using h) h0
   ·rename_i h1; exact absurd h0 h1
theorem rowTE_first {l : List Tm} : ∀ {k : Nat} (h : k < l.length), rowTE (l.take k) = 0 → mayE l[k] ≠ 0 → rowTE l = mayE l[k] := by
 induction l with
 | nil => intro k h; simp at h
 | cons t r ih =>
  intro k h h0 hk
  cases k with
  | zero => simp only [List.getElem_cons_zero] at hk ⊢; simp [rowTE, hk]
  | succ k =>
   simp only [List.take_succ_cons, rowTE] at h0
   split at h0
   ·rename_i h1
    simp only [List.getElem_cons_succ] at hk ⊢
    rw [rowTE, if_pos h1]
    exact ih (by simpa using h) h0 hk
   ·rename_i h1; exact absurd h0 h1
theorem rowTE_all {l : List Tm} (h : rowTE l = 0) : ∀ t ∈ l, mayE t = 0 := by
 induction l with
 | nil => intro t ht; cases ht
 | cons a r ih =>
  simp only [rowTE] at h
  split at h
  ·rename_i h1
   intro t ht
   rcases List.mem_cons.1 ht with rfl | ht
   ·exact h1
   ·exact ih h t ht
  ·rename_i h1; exact absurd h h1
theorem mayE_zero {t : Tm} (h : mayE t = 0) : sizeL [t] ≤ 200 ∧ errL [t] = 0 := by
 unfold mayE at h
 split at h
 ·cases h
 ·rename_i h1; exact ⟨by omega, h⟩
def newE (l : List Tm) : Int := if 40 < l.length then 3 else rowTE l
def NwPost (l : List Tm) (w : World) (e : Ending) (w' : World) : Prop :=
 Below w.heap.size w w' ∧ ((newE l ≠ 0 ∧ e = .returned (.tuple #[.pointer none, .int .i64 (newE l)])) ∨
  (newE l = 0 ∧ ∃ X y tv Z, e = .returned (.tuple #[.pointer (some ⟨X, 0, none⟩), .int .i64 0]) ∧ NwS w.heap.size X l l w' y tv Z))
def TmS (N : Nat) (w : World) (v : Value) (l : List Tm) : Prop := ∃ xs, RowX w N (fun b => some b ≠ v.ownBlock) v l xs
theorem TmS.start (N : Nat) (w : World) : TmS N w (.slice none 0 0) [] := ⟨[], RowX.start _ _ _⟩
theorem TmS.later {N : Nat} {w w' : World} {v : Value} {l : List Tm} (h : TmS N w v l) (hb : Below w.heap.size w w') : TmS N w' v l := h.imp fun xs h => h.below hb
theorem TmS.shape {N : Nat} {w : World} {v : Value} {l : List Tm} (h : TmS N w v l) : ∃ a c, v = .slice a l.length c ∧ Sl w (fun _ => True) a l := by
 obtain ⟨xs, h⟩ := h
 obtain ⟨a, c, rfl⟩ := h.shape
 exact ⟨a, c, rfl, h.sl.mono fun _ _ _ => trivial⟩
theorem TmS.lt {N : Nat} {w : World} {v : Value} {l : List Tm} (h : TmS N w v l) (b : Nat) (hb : v.ownBlock = some b) : N ≤ b ∧ b < w.heap.size := by
 obtain ⟨xs, h⟩ := h
 exact h.own.lt b hb
theorem news_term (w : World) (s : ByteArray) (u : Value) (T : Nat) : ∀ j v, [Value.string s, u][j]? = some v → (w.alloc (.cells #[.string s, u] T)).cell? ((⟨w.heap.size, 0, none⟩ : Addr).add j) = some v :=
 World.news_of_block (cs := #[.string s, u]) (heap_alloc_new w _)
theorem TmS.add {N : Nat} {w W2 : World} {u : Value} {L : List Tm} {z : Tm} {a1 : Option Addr} {c : Nat} (h : TmS N w u L) (hN : N ≤ w.heap.size) (hB : Below N W2 w) (hl : L.length ≤ 1000000) (hz : Sl w (fun b => some b ≠ u.ownBlock) a1 z.args) :
  ∃ v' w3, (Builtin.append_ #[23, 23] 23 #[u, .slice (some ⟨w.heap.size, 0, none⟩) 1 1]).run Tryz.prog (w.alloc (.cells #[.string z.name, .slice a1 z.args.length c] 26)) = .ok v' w3 ∧ TmS N w3 v' (L ++ [z]) ∧ Below N W2 w3 := by
 obtain ⟨xs, h⟩ := h
 obtain ⟨i0, hi, hz0, hz1, hz2⟩ := info_parts Tryz.infoTerm
 obtain ⟨g, cap, w3, hr, ho, hg, hat, _⟩ := run_append_lies (P := Tryz.prog) (w := w.alloc (.cells #[.string z.name, .slice a1 z.args.length c] 26)) 23 23 N 26 i0 _ 2 40 Tryz.underlying23 hi hz0 hz1 hz2 rfl (by decide) u L.length xs (h.own.alloc _) ⟨w.heap.size, 0, none⟩ 1 1 [.string z.name, .slice a1 z.args.length c] rfl (news_term _ _ _ _) (fun x hx => by simp at hx; rcases hx with rfl | rfl <;> rfl) (by decide) (by unfold maxLen; omega) (by omega) (by rw [World.size_alloc]; omega) _ rfl
 have he : ExQ (fun b => some b = u.ownBlock) w w3 := ((ExQ.refl _ w).alloc _).grown hg (fun k hk => Or.inr hk.symm)
 have hold : ∀ (a : Option Addr) (l : List Tm), Sl w (fun b => some b ≠ u.ownBlock) a l → Sl w3 (fun b => some b ≠ (Value.slice (some ⟨g, 0, none⟩) (L.length + 1) cap).ownBlock) a l := fun a l hs =>
  ((hs.mono (Y := fun b => some b ≠ u.ownBlock ∧ b < w.heap.size) fun b h1 h2 => ⟨h1, h2⟩).exq he (fun b hb e => hb.1 e)).mono fun b hb _ e => by
   have e2 : b = g := by simpa [Value.ownBlock] using e
   subst e2
   rcases hat with e' | e'
   ·exact hb.1 e'.symm
   ·rw [World.size_alloc] at e'; have := hb.2; omega
 have hB1 : Below N W2 (w.alloc (.cells #[.string z.name, .slice a1 z.args.length c] 26)) := hB.alloc hN _
 exact ⟨_, w3, hr, ⟨_, by simpa using ho, RowT.append (h.row.imp hold) ⟨a1, c, [], rfl, hold _ _ hz, rfl⟩⟩, hB1.grown hg (by rw [World.size_alloc]; omega) fun k hk => (h.own.lt k hk).1⟩
theorem wrap_rng (z : Int) : -9223372036854775808 ≤ wrap64 z ∧ wrap64 z ≤ 9223372036854775807 := by unfold wrap64; omega
def RowP (w : World) (Z : Nat → Prop) : List (List Int) → List Value → Prop
 | [], xs => xs = []
 | z :: r, xs => ∃ u xs', xs = u :: xs' ∧ PV w Z u z ∧ RowP w Z r xs'
theorem RowP.len {w : World} {Z : Nat → Prop} : ∀ {l : List (List Int)} {xs : List Value}, RowP w Z l xs → xs.length = l.length
 | [], xs, h => by simp [RowP] at h; simp [h]
 | z :: l, xs, h => by obtain ⟨u, xs', rfl, _, h⟩ := h; simp [RowP.len h]
theorem RowP.append {w : World} {Z : Nat → Prop} : ∀ {l k : List (List Int)} {xs ys : List Value}, RowP w Z l xs → RowP w Z k ys → RowP w Z (l ++ k) (xs ++ ys)
 | [], k, xs, ys, h, h' => by simp [RowP] at h; subst h; simpa using h'
 | z :: l, k, xs, ys, h, h' => by obtain ⟨u, xs', rfl, hp, h⟩ := h; exact ⟨u, xs' ++ ys, rfl, hp, RowP.append h h'⟩
theorem RowP.imp {w w' : World} {Z Z' : Nat → Prop} (hs : ∀ u z, PV w Z u z → PV w' Z' u z) : ∀ {l : List (List Int)} {xs : List Value}, RowP w Z l xs → RowP w' Z' l xs
 | [], xs, h => h
 | z :: l, xs, h => by obtain ⟨u, xs', e, hp, h⟩ := h; exact ⟨u, xs', e, hs _ _ hp, RowP.imp hs h⟩
theorem RowP.get {w : World} {Z : Nat → Prop} : ∀ {l : List (List Int)} {xs : List Value}, RowP w Z l xs → ∀ i (h : i < l.length), ∃ u, xs[i]? = some u ∧ PV w Z u l[i]
 | [], xs, h, i, hi => by simp at hi
 | z :: l, xs, h, i, hi => by
  obtain ⟨u, xs', rfl, hp, h⟩ := h
  cases i with
  | zero => exact ⟨u, rfl, hp⟩
  | succ i => obtain ⟨u', h1, h2⟩ := RowP.get h i (by simpa using hi); exact ⟨u', by simpa using h1, h2⟩
theorem PV.one {w : World} {Z : Nat → Prop} {u : Value} {z : List Int} (h : PV w Z u z) : u.oneCell' = true := by obtain ⟨a, c, rfl, _⟩ := h; rfl
def OutAt (w0 : World) (N : Nat) (q0 : Value) (ps : List (List Int)) (q : Value) (xs : List Value) (wr : World) : Prop :=
 wr.ownsRow N 22 1 q ps.length xs ∧ RowP wr (fun b => N ≤ b ∧ some b ≠ q.ownBlock) ps xs ∧ w0.grownBy wr q0.ownBlock ∧ (∀ k, q.ownBlock = some k → q0.ownBlock = some k ∨ w0.heap.size ≤ k)
theorem PV.grownBy {w w' : World} {Z : Nat → Prop} {u : Value} {z : List Int} {r : Option Nat} (h : PV w Z u z) (hg : w.grownBy w' r) (hZ : ∀ b, Z b → some b ≠ r) : PV w' Z u z := by
 have h1 : PV w (fun b => Z b ∧ b < w.heap.size) u z := h.mono fun b h1 h2 => ⟨h1, h2⟩
 have h2 : PV w' (fun b => Z b ∧ b < w.heap.size) u z := h1.kept fun b hx => hg.block b hx.2 (hZ b hx.1)
 exact h2.mono fun b hx _ => hx.1
theorem OutAt.mono {w0 w1 wr : World} {N : Nat} {q0 q1 q : Value} {ps ps1 : List (List Int)} {xs xs1 : List Value} (h : OutAt w0 N q0 ps1 q1 xs1 w1) (h1 : OutAt w1 N q1 ps q xs wr) : OutAt w0 N q0 ps q xs wr := by
 refine ⟨h1.1, h1.2.1, grown_trans h.2.2.1 h1.2.2.1 h.2.2.2, fun k hk => ?_⟩
 rcases h1.2.2.2 k hk with e | e
 ·exact h.2.2.2 k e
 ·exact Or.inr (Nat.le_trans h.2.2.1.size e)
theorem OutAt.later {w0 w1 w2 : World} {N : Nat} {q0 q : Value} {ps : List (List Int)} {xs : List Value} (h : OutAt w0 N q0 ps q xs w1) (hb : Below w1.heap.size w1 w2) : OutAt w0 N q0 ps q xs w2 :=
 ⟨h.1.kept (w' := w2) (row := none) ⟨hb.os, hb.tape, hb.output, hb.size, fun j hj _ => hb.block j hj⟩ (by rcases Option.eq_none_or_eq_some (Value.ownBlock q) with h | ⟨x, h⟩; exact Or.inl h; exact Or.inr (by rw [h]; simp)),
  h.2.1.imp fun u z hp => hp.later hb, grown_trans h.2.2.1 (grown_of_below hb q.ownBlock) h.2.2.2, h.2.2.2⟩
theorem OutAt.here {w1 : World} {N : Nat} {q0 q : Value} {ps : List (List Int)} {xs : List Value} {w0 : World} (h : OutAt w0 N q0 ps q xs w1) : OutAt w1 N q ps q xs w1 := ⟨h.1, h.2.1, grown_of_below (Below.refl _ _) _, fun _ h => Or.inl h⟩
open Go.RowKit Go.Shelf
theorem yield_on {P : Program} {n l : Nat} {r : Loop} {args : Array Value} {W : World} {Post : World → Prop} {assign body : Code} {ps : Array Tmp} {tmps : Array Value} {rb : Loop} (hrbz : rb = { r with state := .busy }) (hra : r.assign = assign) (hrb : r.body = body) (hrp : r.params = ps) (hrt : r.tmps = tmps) (hl : W.heap[l]? = some (.loop r)) (hr : r.state = .ready) (hp0 : r.pending = none) (hps : args.size = ps.size)
  (h : assign.wpIn (Fence.wide.inRound l) n P (Exit.then (fun a₁ w₁ => w₁.heap[l]? = some (.loop r) ∧ body.wpIn (Fence.wide.inRound l) n P (fun e _ w3 => e = .normal ∧ w3.heap[l]? = some (.loop rb) ∧ Post (w3.putObj l (.loop r))) a₁ (w₁.putObj l (.loop rb))) (fun _ _ _ => False)) { tmps := (ps.zip args).foldl (fun t (p, v) => t.setIfInBounds p v) tmps, defers := [] } W) :
  YieldAt Fence.wide n P l args W fun e W' => e = .returned (.bool true) ∧ Post W' := by
 subst hrbz; subst hra; subst hrb; subst hrp; subst hrt
 refine ⟨r.fn, _, r.assign, r.body, run_yield hl hps, roundIn_of_wpIn trivial (wpIn_mono h ?_)⟩
 rintro e a w1 hp
 cases e with
 | normal =>
  obtain ⟨h1, h2⟩ := hp
  refine ⟨_, run_beginRound h1 hr, wpIn_mono h2 ?_⟩
  rintro e3 a3 w3 ⟨rfl, h3, h4⟩
  refine ⟨_, _, run_endRound none h3, rfl, ?_⟩
  have e4 : ({ r with state := .ready, pending := none } : Loop) = r := by
   obtain ⟨_, _, _, _, _, _, _, _⟩ := r
   simp at hr hp0
   subst hr; subst hp0
   rfl
  have e5 : ({ ({ r with state := .busy } : Loop) with state := if (none : Option Code).isNone then .ready else .done, pending := none } : Loop) = r := by rw [← e4]; rfl
  rw [e5]
  exact h4
 | ret => exact hp.elim
 | exit id => exact hp.elim
 | goto t => exact hp.elim
 | panic c => exact hp.elim
 | outgrown => exact hp.elim
theorem wp_range {P : Program} {n : Nat} {g : Operand} {ps : Array Tmp} {assign body : Code} {Q : Exit → Act → World → Prop} {a : Act} {w : World} {gf : Nat} {lb : Array Value} (hg : a.eval g = .func (.func gf) #[] lb) (eg : ∀ args w, (callFunc gf args).run P w = .ok (.enter gf args) w)
  (h : ∀ (r : Loop), r.state = .ready → r.pending = none → r.tmps = a.tmps → r.params = ps → r.assign = assign → r.body = body → 
   Calls P gf (#[.func (.yield (w.heap.size + 1)) #[] #[]] ++ lb) ((w.alloc (.deferred (some []))).alloc (.loop r)) fun e W => (∃ v, e = .returned v) ∧ W.heap[w.heap.size + 1]? = some (.loop r) ∧ Q .normal { a with defers := { target := .collected w.heap.size, args := #[] } :: a.defers } (W.putObj (w.heap.size + 1) (.loop { r with state := .exhausted }))) :
  (Code.rangeFunc g ps assign body).wpIn Fence.wide n P Q a w := by
 refine wpIn_rangeFunc ?_
 intro fn hfn
 obtain ⟨r, hr⟩ : ∃ r : Loop, r = { state := .ready, pending := none, fn, tmps := a.tmps, params := ps, assign, body, defers := w.heap.size } := ⟨_, rfl⟩
 refine ⟨w.heap.size + 1, [{ target := .collected w.heap.size, args := #[] }], (w.alloc (.deferred (some []))).alloc (.loop r), { target := .fn (.func gf) lb, args := #[.func (.yield (w.heap.size + 1)) #[] #[]] }, (w.alloc (.deferred (some []))).alloc (.loop r), gf, #[.func (.yield (w.heap.size + 1)) #[] #[]] ++ lb, (w.alloc (.deferred (some []))).alloc (.loop r), ?_, ?_, ?_, ?_, ?_, ?_⟩
 ·rw [hr]; exact run_enterLoop_outer _ _ _ _ _
 ·simp only [resolve, hg]
  simp [go_sem]
 ·intro f' hf'; trivial
 ·simp [invoke, go_sem, eg]
 ·intro h; simp [Fence.wide] at h
 ·refine (callsIn_wide.2 (h r (by rw [hr]) (by rw [hr]) (by rw [hr]) (by rw [hr]) (by rw [hr]) (by rw [hr]))).mono ?_
  rintro e W ⟨⟨v, rfl⟩, hl, hq⟩
  have e1 := run_endLoop (P := P) hl (by rw [hr]; simp)
  have e2 : r.pending = none := by rw [hr]
  exact ⟨none, _, e1.trans (by rw [e2]), hq⟩
abbrev Tk (α : Type) := List α → Bool → (Nat → Prop) → World → Prop
structure TkOk {α : Type} (J : Tk α) (K : Nat → Prop) : Prop where
 inside : ∀ {pre s f W}, J pre s f W → ∀ b, f b ∨ K b → b < W.heap.size
 apart : ∀ {pre s f W}, J pre s f W → ∀ b, K b → ¬ f b
 abide : ∀ {pre s f W W'}, J pre s f W → W.heap.size ≤ W'.heap.size → (∀ b, f b ∨ K b → W'.heap[b]? = W.heap[b]?) → J pre s f W'
theorem TkOk.exq {α : Type} {J : Tk α} {K : Nat → Prop} (h : TkOk J K) {pre : List α} {s : Bool} {f g : Nat → Prop} {W W' : World} (hj : J pre s f W) (he : ExQ g W W') (hg : ∀ b, f b ∨ K b → ¬ g b) : J pre s f W' :=
 h.abide hj he.size fun b hb => he.block b (h.inside hj b hb) (hg b hb)
def StopOk (S : World → Prop) : Prop := ∀ (W W' : World), S W → W.heap.size ≤ W'.heap.size → (∀ b, b < W.heap.size → W'.heap[b]? = W.heap[b]? ∨ (∃ r, W.heap[b]? = some (.loop r)) ∨ ∃ d, W.heap[b]? = some (.deferred d)) → S W'
theorem StopOk.put {S : World → Prop} (h : StopOk S) {W : World} (hs : S W) {l : Nat} {r : Loop} (hl : W.heap[l]? = some (.loop r)) (o : Obj) : S (W.putObj l o) :=
 h _ _ hs (by simp) fun b hb => by
  by_cases e : b = l
  ·subst e; exact Or.inr (Or.inl ⟨r, hl⟩)
  ·exact Or.inl (World.putObj_heap_other e)
def Went {α : Type} (J : Tk α) (all pre : List α) (f g : Nat → Prop) (W : World) (s : Bool) (W' : World) : Prop :=
 ∃ (m : Nat) (f' : Nat → Prop), m ≤ all.length ∧ (s = true → m = all.length) ∧ J (pre ++ all.take m) s f' W' ∧ ExQ (fun b => f b ∨ g b) W W' ∧ ∀ b, f' b → f b ∨ W.heap.size ≤ b
theorem Went.nil {α : Type} {J : Tk α} {pre : List α} {f g : Nat → Prop} {W : World} (h : J pre true f W) : Went J [] pre f g W true W :=
 ⟨0, f, Nat.le_refl _, fun _ => rfl, by simpa using h, ExQ.refl _ _, fun b hb => Or.inl hb⟩
theorem Went.one {α : Type} {J : Tk α} {pre : List α} {x : α} {f f' g : Nat → Prop} {W W' : World} {s : Bool} (h : J (pre ++ [x]) s f' W') (he : ExQ f W W') (hf : ∀ b, f' b → f b ∨ W.heap.size ≤ b) : Went J [x] pre f g W s W' :=
 ⟨1, f', by simp, fun _ => rfl, by simpa using h, he.mono fun b hb _ => Or.inl hb, hf⟩
theorem Went.trans {α : Type} {J : Tk α} {a1 a2 pre : List α} {f f1 g g2 : Nat → Prop} {W W1 W2 : World} {s : Bool} (hj : J (pre ++ a1) true f1 W1) (he : ExQ (fun b => f b ∨ g b) W W1) (hf : ∀ b, f1 b → f b ∨ W.heap.size ≤ b) (h : Went J a2 (pre ++ a1) f1 g2 W1 s W2) (hg : ∀ b, g2 b → g b ∨ W.heap.size ≤ b) : Went J (a1 ++ a2) pre f g W s W2 := by
 obtain ⟨m, f', hm, hs, hj2, he2, hf2⟩ := h
 refine ⟨a1.length + m, f', by simp; omega, fun h => by simp [hs h], ?_, he.transN he2 ?_, ?_⟩
 ·rw [List.take_append, List.take_of_length_le (by omega)]
  simpa [List.append_assoc] using hj2
 ·rintro i hi hl
  rcases hi with hi | hi
  ·rcases hf i hi with h | h
   ·exact Or.inl h
   ·omega
  ·rcases hg i hi with h | h
   ·exact Or.inr h
   ·omega
 ·intro b hb
  have := he.size
  rcases hf2 b hb with h | h
  ·exact hf b h
  ·right; omega
theorem Went.stop {α : Type} {J : Tk α} {a1 a2 pre : List α} {f g : Nat → Prop} {W W' : World} (h : Went J a1 pre f g W false W') : Went J (a1 ++ a2) pre f g W false W' := by
 obtain ⟨m, f', hm, hs, hj, he, hf⟩ := h
 exact ⟨m, f', by simp; omega, by simp, by rw [List.take_append_of_le_length hm]; exact hj, he, hf⟩
theorem Went.mono {α : Type} {J : Tk α} {a pre : List α} {f g g' : Nat → Prop} {W W' : World} {s : Bool} (h : Went J a pre f g W s W') (hg : ∀ b, g b → b < W.heap.size → g' b) : Went J a pre f g' W s W' := by
 obtain ⟨m, f', hm, hs, hj, he, hf⟩ := h
 exact ⟨m, f', hm, hs, hj, he.mono fun b hb hl => hb.imp id (fun h => hg b h hl), hf⟩
theorem Went.exq {α : Type} {J : Tk α} {a pre : List α} {f g : Nat → Prop} {W W' : World} {s : Bool} (h : Went J a pre f g W s W') : ExQ (fun b => f b ∨ g b) W W' := by
 obtain ⟨_, _, _, _, _, he, _⟩ := h
 exact he
theorem Went.from {α : Type} {J : Tk α} {a pre : List α} {f g g' : Nat → Prop} {W0 W W' : World} {s : Bool} (h : Went J a pre f g W s W') (he : ExQ g' W0 W) (hg : ∀ b, g b → g' b ∨ W0.heap.size ≤ b) : Went J a pre f g' W0 s W' := by
 obtain ⟨m, f', hm, hs, hj, he2, hf⟩ := h
 refine ⟨m, f', hm, hs, hj, (he.mono (R := fun b => f b ∨ g' b) fun b hb _ => Or.inr hb).transN he2 ?_, fun b hb => ?_⟩
 ·rintro i hi hl
  rcases hi with hi | hi
  ·exact Or.inl hi
  ·rcases hg i hi with h | h
   ·exact Or.inr h
   ·omega
 ·have := he.size
  rcases hf b hb with h | h
  ·exact Or.inl h
  ·right; omega
end Go.Proofs.YtdebiiodhkcnkaaGreat

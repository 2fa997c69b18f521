/- What makes terms one, made of known bindings: plain. -/
import Derived.Test.YtkfppicbningaaaZBTopRobinsonOwn
import Derived.Test.YtkfppicbningaaaTcP
import Derived.Test.YtkfppicbningaaaStM
import Derived.Test.YtkfppicbningaaaZCTopRobinsonOwn
import Derived.Test.YtkfppicbningaaaZTopRobinsonOwn
namespace Go.Proofs.Ytkfppicbningaaa
open Go.RowKit
set_option linter.unusedSimpArgs false
set_option linter.unusedVariables false

/-- How it ends with a limit on equations is how it ends without any, but for what is too great. -/
theorem FR.of_run : ∀ (n : Nat) (s : List Bd) (l : List Pr) (e : Int) (sf : List Bd), uRun false n s l = some (e, sf) → e ≠ 8 → FR s l e sf
  | 0, _, _, _, _, h, _ => by cases h
  | n + 1, s, [], e, sf, h, _ => by
    rw [uRun] at h
    cases h
    exact FR.done s
  | n + 1, s, p :: l, e, sf, h, h8 => by
    rw [uRun, uNext_cons] at h
    by_cases hz : 2000 < sizeL [onT s p.l] ∨ 2000 < sizeL [onT s p.r]
    · unfold uPair at h
      rw [if_pos hz] at h
      cases h
      exact absurd rfl h8
    · rw [uPair_of (by omega) (by omega)] at h
      cases hf : fPair s (onT s p.l) (onT s p.r) with
      | go s' l' =>
        rw [hf] at h
        exact FR.step hf (FR.of_run n s' (l' ++ l) e sf h h8)
      | stop e' =>
        rw [hf] at h
        cases h
        exact FR.stop hf
theorem fr_sorted {s sf : List Bd} {l : List Pr} {e : Int} (h : FR s l e sf) : OkS s → SortedB s → errL (flatP l) = 0 → SortedB sf := by
  induction h with
  | done s => intro _ hs _; exact hs
  | @step s s' sf p l' rest e h1 h2 ih =>
    intro ho hs he
    obtain ⟨e1, e2⟩ := err_two.1 he
    obtain ⟨e2, e3⟩ := err_two.1 e2
    obtain ⟨g1, g2, g3, _⟩ := fPair_go ho (errL_onT2 ho e1) (errL_onT2 ho e2) (ho.goneT e1) (ho.goneT e2) h1
    refine ih g1 ?_ (by rw [flatP_append]; exact err_append.2 ⟨g3, e3⟩)
    have bind : ∀ x t, fBind s x t = .go s' l' → (∀ d ∈ s, d.nm ≠ x) → SortedB s' := fun x t h hn => by
      unfold fBind at h
      split at h
      · cases h
      · cases h
        exact srtB_sorted _ (add_apart ho.1 hn)
    unfold fPair at h1
    split at h1
    · split at h1
      · cases h1; exact hs
      · exact bind _ _ h1 fun d hd e => ho.goneT e1 d hd (by rw [e]; exact occ_self _)
    · split at h1
      · exact bind _ _ h1 fun d hd e => ho.goneT e2 d hd (by rw [e]; exact occ_self _)
      · split at h1
        · cases h1; exact hs
        · cases h1
  | stop h1 => intro _ hs _; exact hs

theorem forT_none_of {s : List Bd} {n : ByteArray} (h : ∀ d ∈ s, d.nm ≠ n) : forT s n = none := by
  induction s with
  | nil => rfl
  | cons d r ih => rw [forT, if_neg (h d (by simp))]; exact ih fun e he => h e (by simp [he])
abbrev xN : ByteArray := ⟨#[88]⟩
abbrev yN : ByteArray := ⟨#[89]⟩
abbrev zN : ByteArray := ⟨#[90]⟩
abbrev uN : ByteArray := ⟨#[85]⟩
/-- A term with no variable but U. -/
def OnlyU (t : Tm) : Prop := errL [t] = 0 ∧ ∀ y, varB y = true → occL y [t] → y = uN
/-- X, Y, Z by terms of U alone. -/
structure Sxyz (s : List Bd) : Prop where
  names : s.map (·.nm) = [xN, yN, zN]
  terms : ∀ d ∈ s, OnlyU d.t ∧ sizeL [d.t] ≤ 11
theorem Sxyz.vars {s : List Bd} (h : Sxyz s) : ∀ d ∈ s, varB d.nm = true := fun d hd => by
  have h1 : d.nm ∈ s.map (·.nm) := List.mem_map.2 ⟨d, hd, rfl⟩
  rw [h.names] at h1
  exact (show ∀ n ∈ [xN, yN, zN], varB n = true by decide) _ h1
theorem Sxyz.notU {s : List Bd} (h : Sxyz s) : ∀ d ∈ s, d.nm ≠ uN := fun d hd => by
  have h1 : d.nm ∈ s.map (·.nm) := List.mem_map.2 ⟨d, hd, rfl⟩
  rw [h.names] at h1
  exact (show ∀ n ∈ [xN, yN, zN], n ≠ uN by decide) _ h1
theorem Sxyz.apart {s : List Bd} (h : Sxyz s) : ApartB s := by
  have h1 : (s.map (·.nm)).Nodup := by rw [h.names]; decide
  unfold ApartB
  rw [List.nodup_iff_pairwise_ne, List.pairwise_map] at h1
  exact h1
/-- What holds U alone is left as it is. -/
theorem Sxyz.keeps {s : List Bd} (h : Sxyz s) {t : Tm} (ht : OnlyU t) : onT s t = t := onT_id fun d hd ho => h.notU d hd (ht.2 _ (h.vars d hd) ho)
theorem Sxyz.ok {s : List Bd} (h : Sxyz s) : OkS s := ⟨h.apart, fun d hd => ⟨h.vars d hd, (h.terms d hd).1.1⟩, fun d hd e he ho => h.notU e he ((h.terms d hd).1.2 _ (h.vars e he) ho)⟩
theorem Sxyz.drop {s : List Bd} (h : Sxyz s) (k : Nat) {L : List Tm} (he : errL L = 0) : onL s (onL (s.drop k) L) = onL s L := by
  have hm : ∀ d ∈ s.drop k, d ∈ s := fun d hd => List.mem_of_mem_drop hd
  refine agr_onL h.vars (fun d hd => h.vars d (hm d hd)) (fun d hd => ?_) L he
  rw [onT_leaf, forT_of h.apart (hm d hd)]
  exact (h.keeps (h.terms d (hm d hd)).1).symm
theorem Sxyz.dropT {s : List Bd} (h : Sxyz s) (k : Nat) {t : Tm} (he : errL [t] = 0) : onT s (onT (s.drop k) t) = onT s t := by
  have h1 := h.drop k he
  rw [onL_cons, onL_cons, onL_cons] at h1
  injection h1
theorem onlyU_of {r : Tm} (h : okV 1 [r]) : OnlyU (onT [⟨xN, ⟨uN, []⟩⟩] r) := by
  have hv : ∀ d ∈ [(⟨xN, ⟨uN, []⟩⟩ : Bd)], varB d.nm = true := one_vars (by decide)
  have hok : OkS [(⟨xN, ⟨uN, []⟩⟩ : Bd)] := by
    refine ⟨by simp [ApartB], fun d hd => ?_, fun d hd e he ho => ?_⟩
    · have e : d = ⟨xN, ⟨uN, []⟩⟩ := by simpa using hd
      subst e
      exact ⟨by decide, err_leaf (by decide)⟩
    · have e1 : d = ⟨xN, ⟨uN, []⟩⟩ := by simpa using hd
      have e2 : e = ⟨xN, ⟨uN, []⟩⟩ := by simpa using he
      subst e1; subst e2
      rcases occL_node.1 ho with h | h | h
      · exact absurd h (by decide)
      · exact occL_nil h
      · exact occL_nil h
  refine ⟨errL_onT2 hok h.1, fun y hy ho => ?_⟩
  have h1 := occ_on hv hy [r] h.1 (by rw [onL_cons]; simpa [onL] using ho)
  rcases h1 with ⟨⟨k, hk, e⟩, hf⟩ | ⟨d, hd, _, h2⟩
  · have h3 := h.2 k hk (by rw [e]; exact hy)
    rw [e] at h3
    have e3 : y = xN := by simpa using h3
    rw [e3] at hf
    simp [forT] at hf
  · have e1 : d = ⟨xN, ⟨uN, []⟩⟩ := by simpa using hd
    subst e1
    rcases occL_node.1 h2 with h | h | h
    · exact h.symm
    · exact absurd h occL_nil
    · exact absurd h occL_nil
theorem size_u {r : Tm} {m : Nat} (h : sizeL [r] ≤ m) : sizeL [onT [⟨xN, ⟨uN, []⟩⟩] r] ≤ m := by
  have h1 := onT_size (ls := [⟨xN, ⟨uN, []⟩⟩]) (M := 1) (by omega) (fun d hd => by
    have e : d = (⟨xN, ⟨uN, []⟩⟩ : Bd) := by simpa using hd
    subst e
    simp [sizeL]) r
  omega
/-- A pair that the law makes. -/
def RbPair (s : List Bd) (k : Nat) (p : Pr) : Prop := okV 3 [p.l] ∧ sizeL [p.l] ≤ 17 ∧ p.r = onT (s.drop k) p.l ∧ sizeL [p.r] ≤ 200
theorem Sxyz.drop_ok {s : List Bd} (h : Sxyz s) (k : Nat) : OkS (s.drop k) :=
  ⟨List.Pairwise.sublist (List.drop_sublist k s) h.ok.1, fun d hd => h.ok.2.1 d (List.mem_of_mem_drop hd), fun d hd e he => h.ok.2.2 d (List.mem_of_mem_drop hd) e (List.mem_of_mem_drop he)⟩
theorem Sxyz.size {s : List Bd} (h : Sxyz s) {t : Tm} (hz : sizeL [t] ≤ 17) : sizeL [onT s t] ≤ 187 := by
  have h1 := onT_size (M := 11) (by omega) (fun d hd => (h.terms d hd).2) t
  have h2 := Nat.mul_le_mul_right 11 hz
  omega
theorem rb_err {s : List Bd} (h : Sxyz s) {k : Nat} {p : Pr} (hp : RbPair s k p) : errL [p.l] = 0 ∧ errL [p.r] = 0 := ⟨hp.1.1, by rw [hp.2.2.1]; exact errL_onT2 (h.drop_ok k) hp.1.1⟩
theorem rb_vars {s : List Bd} (h : Sxyz s) {k : Nat} {p : Pr} (hp : RbPair s k p) : ∀ y, varB y = true → (occL y [p.l] ∨ occL y [p.r]) → y ∈ [xN, yN, zN, uN] := fun y hy ho => by
  have hl : occL y [p.l] → y ∈ [xN, yN, zN, uN] := fun ⟨k, hk, e⟩ => by
    have h1 := hp.1.2 k hk (by rw [e]; exact hy)
    rw [e] at h1
    exact List.mem_of_mem_take h1
  rcases ho with ho | ho
  · exact hl ho
  · rw [hp.2.2.1] at ho
    have h1 := occ_on (h.drop_ok k).vars hy [p.l] hp.1.1 (by rw [onL_cons]; simpa [onL] using ho)
    rcases h1 with ⟨h1, _⟩ | ⟨d, hd, _, h2⟩
    · exact hl h1
    · have := (h.terms d (List.mem_of_mem_drop hd)).1.2 y hy h2
      rw [this]; simp
/-- All that the law asks of what is found. -/
theorem rb_all {s : List Bd} (h : Sxyz s) {k : Nat} {l : List Pr} (hl : ∀ p ∈ l, RbPair s k p) (hlen : l.length ≤ 40) {V : List ByteArray} (hU : UI V [] l) {n : Nat} {R : Int × List Bd} (hR : uRun false n [] l = some R) :
    R.1 = 0 ∧ grtB R.2 = false ∧ Gd 4 11 R.2 ∧ stB R.2 R.2 = true ∧ (∀ p ∈ l, onT R.2 p.l = onT R.2 p.r ∧ sizeL [onT R.2 p.l] ≤ 2000) ∧ ∀ n ∈ [xN, yN, zN, uN], sizeL [onT R.2 ⟨n, []⟩] ≤ 11 ∧ onT s (onT R.2 ⟨n, []⟩) = onT s ⟨n, []⟩ := by
  have hlp : ∀ p ∈ l, onT s p.r = onT s p.l := fun p hp => by rw [(hl p hp).2.2.1]; exact h.dropT k (hl p hp).1.1
  obtain ⟨r1, r2, r3, r4, r5⟩ := run_solves h.vars (fun d hd => by have := (h.terms d hd).2; omega) hU (fun p hp => (hlp p hp).symm) (fun p hp => by have := h.size (hl p hp).2.1; omega) hR
  have he : errL (flatP l) = 0 := hU.err
  have hF : FR [] l R.1 R.2 := FR.of_run n [] l R.1 R.2 hR (by rw [r1]; decide)
  obtain ⟨_, _, hV⟩ := hF.run okS_nil he
  have hN := hV [xN, yN, zN, uN] (by simp) (fun y hy ho => by
    rw [onL_id _ (by simp)] at ho
    obtain ⟨p, hp, ho⟩ := occ_flat ho
    exact rb_vars h (hl p hp) y hy ho)
  have hsort : SortedB R.2 := fr_sorted hF okS_nil (by simp [SortedB]) he
  have hagr : ∀ {x : Tm}, errL [x] = 0 → onT s (onT R.2 x) = onT s x := fun he => agr_on h.vars r3.vars r4 he
  have hname : ∀ d ∈ R.2, nameB d.nm = true := fun d hd => (show ∀ n ∈ [xN, yN, zN, uN], nameB n = true by decide) _ (hN d hd)
  have hleaf : ∀ n ∈ [xN, yN, zN, uN], sizeL [onT s ⟨n, []⟩] ≤ 11 := fun n hn => by
    rw [onT_leaf]
    cases hf : forT s n with
    | none => simp [sizeL]
    | some x =>
      have : ∃ d ∈ s, d.t = x := by
        by_cases hex : ∃ d ∈ s, d.nm = n
        · obtain ⟨d, hd, e⟩ := hex
          have h1 := forT_of h.apart hd
          rw [e, hf] at h1
          cases h1
          exact ⟨d, hd, rfl⟩
        · have h9 : forT s n = none := forT_none_of fun d hd e => hex ⟨d, hd, e⟩
          rw [h9] at hf; cases hf
      obtain ⟨d, hd, rfl⟩ := this
      exact (h.terms d hd).2
  have hsz : ∀ n ∈ [xN, yN, zN, uN], sizeL [onT R.2 ⟨n, []⟩] ≤ 11 := fun n hn => by
    have e1 : errL [(⟨n, []⟩ : Tm)] = 0 := err_leaf ((show ∀ n ∈ [xN, yN, zN, uN], nameB n = true by decide) _ hn)
    have h1 := onT_grow s (onT R.2 ⟨n, []⟩)
    rw [hagr e1] at h1
    have := hleaf n hn
    omega
  have hterm : ∀ d ∈ R.2, sizeL [d.t] ≤ 11 := fun d hd => by
    have h1 := hsz d.nm (hN d hd)
    rw [onT_leaf, forT_of r3.1 hd] at h1
    exact h1
  refine ⟨r1, r2, ⟨hsort, ?_, fun d hd => ⟨by rw [hname d hd, r3.vars d hd]; rfl, (r3.2.1 d hd).2, hterm d hd⟩⟩, ?_, fun p hp => ⟨r5 p hp, ?_⟩, fun n hn => ⟨hsz n hn, hagr (err_leaf ((show ∀ n ∈ [xN, yN, zN, uN], nameB n = true by decide) _ hn))⟩⟩
  · have h1 := le_of_apart (R.2.map (·.nm)) [xN, yN, zN, uN] (by rw [List.nodup_iff_pairwise_ne, List.pairwise_map]; exact r3.1) (fun x hx => by
      obtain ⟨d, hd, rfl⟩ := List.mem_map.1 hx
      exact hN d hd)
    simpa using h1
  · unfold stB
    rw [List.all_eq_true]
    intro d hd
    have key : ∀ L : List Tm, (∀ e ∈ R.2, ¬ occL e.nm L) → stL R.2 L = true := by
      intro L
      induction L using Tm.indL with
      | h0 => intro _; simp [stL]
      | h s2 a r iha ihr =>
        intro hno
        have f1 : forT R.2 s2 = none := forT_none_of fun e he e2 => hno e he (occL_node.2 (Or.inl e2.symm))
        rw [stL, stN, f1]
        simp only [Bool.and_eq_true]
        exact ⟨iha fun e he ho => hno e he (occL_node.2 (Or.inr (Or.inl ho))), ihr fun e he ho => hno e he (occL_node.2 (Or.inr (Or.inr ho)))⟩
    have h1 := key [d.t] fun e he => r3.2.2 d hd e he
    rw [stL_cons] at h1
    simpa [stL] using h1
  · have h1 := onT_grow s (onT R.2 p.l)
    rw [hagr (hl p hp).1.1] at h1
    have := h.size (hl p hp).2.1
    omega
#print axioms rb_all
end Go.Proofs.Ytkfppicbningaaa

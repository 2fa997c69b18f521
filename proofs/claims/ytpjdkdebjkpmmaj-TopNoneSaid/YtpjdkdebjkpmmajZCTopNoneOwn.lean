/- Several texts in one. -/
import Derived.Test.YtpjdkdebjkpmmajZBTopNoneOwn
import Derived.Test.YtpjdkdebjkpmmajU3
import Derived.Test.YtpjdkdebjkpmmajZTopNoneOwn
import Derived.Test.YtpjdkdebjkpmmajW29
import Derived.Test.YtpjdkdebjkpmmajBmE
import Derived.Test.YtpjdkdebjkpmmajW3
import Derived.Test.YtpjdkdebjkpmmajMem
import Derived.Test.YtpjdkdebjkpmmajExM
import Derived.Test.YtpjdkdebjkpmmajW8
import Derived.Deep.RegionHeld3
import Derived.Test.YtpjdkdebjkpmmajW9
import Derived.Deep.RegionLaw
import Derived.Defers
import Derived.Recover
import Derived.Laws.Pointers
import Derived.Test.YtpjdkdebjkpmmajW28
import Derived.Test.YtpjdkdebjkpmmajNn1
import Derived.Test.YtpjdkdebjkpmmajRows
import Derived.Test.YtpjdkdebjkpmmajW7
import Derived.ProofKit

/- Walks: Unify, and what the law says of it. -/
namespace Go.Proofs.Ytpjdkdebjkpmmaj
open Go.RowKit
set_option linter.unusedSimpArgs false
set_option linter.unusedVariables false
set_option maxRecDepth 8000

theorem may_parts {t : Tm} (h : mayE t = 0) : errL [t] = 0 ∧ sizeL [t] ≤ 2000 := by
  unfold mayE at h
  split at h
  · cases h
  · exact ⟨h, by omega⟩
theorem flat_size : ∀ (l : List Pr), (∀ p ∈ l, sizeL [p.l] ≤ 2000 ∧ sizeL [p.r] ≤ 2000) → sizeL (flatP l) ≤ 4000 * l.length
  | [], _ => by simp [flatP, sizeL]
  | p :: l, h => by
    have h1 := h p (by simp)
    have h2 := flat_size l fun q hq => h q (by simp [hq])
    have e1 := size_cons p.l (p.r :: flatP l)
    have e2 := size_cons p.r (flatP l)
    rw [flatP]
    simp only [List.length_cons]
    omega
theorem flat_err : ∀ (l : List Pr), (∀ p ∈ l, errL [p.l] = 0 ∧ errL [p.r] = 0) → errL (flatP l) = 0
  | [], _ => by simp [flatP, errL]
  | p :: l, h => by
    rw [flatP]
    exact err_two.2 ⟨(h p (by simp)).1, err_two.2 ⟨(h p (by simp)).2, flat_err l fun q hq => h q (by simp [hq])⟩⟩
/-- What may be, begins so. -/
theorem pairs_start {ls : List Pr} (h : pairsE ls = 0) : errL (flatP ls) = 0 ∧ ls.length ≤ 40 ∧ UI ((preL (onL [] (flatP ls))).map (·.name)) [] ls ∧ ((preL (onL [] (flatP ls))).map (·.name)).length ≤ 400000 := by
  have h1 := pairsE_all h
  have h2 := pairsE_len h
  have he : errL (flatP ls) = 0 := flat_err ls fun p hp => ⟨(may_parts (h1 p hp).1).1, (may_parts (h1 p hp).2).1⟩
  have hs : ∀ p ∈ ls, sizeL [p.l] ≤ 2000 ∧ sizeL [p.r] ≤ 2000 := fun p hp => ⟨(may_parts (h1 p hp).1).2, (may_parts (h1 p hp).2).2⟩
  refine ⟨he, h2, UI.start he hs h2, ?_⟩
  rw [List.length_map, preL_length, onL_id _ (by simp)]
  have := flat_size ls hs
  omega
theorem solve_any {ls : List Pr} (hp : pairsE ls = 0) (R : Int × List Bd) (g0 : Nat) (hrun : uRun false g0 [] ls = some R) (u : Value) (w : World) (X : Nat → Prop) (hu : QV w X u ls) :
    Calls Try.prog 45 #[u] w fun e w' => SoPost R w e w' := by
  obtain ⟨he, hl, hU, hV⟩ := pairs_start hp
  obtain ⟨a, c, rfl, _, hc⟩ := hu.mono (Y := fun b => b < w.heap.size) fun _ _ h => h
  rcases hc with rfl | ⟨b, o, rfl, hb, hcell⟩
  · exact callsIn_wide.1 (solve_in (hide sortedKeys) 6 (by omega) 0 0 a [] c (Or.inl rfl) (by simp) _ hV hU R g0 hrun w (Nat.zero_le _) (Or.inl rfl) (fun j u h => by simp [flat4] at h) (by simp))
  · obtain ⟨xs, hx1, hx2, hx3⟩ := pairs_cells ls b o hcell
    subst hx1
    have hl2 : xs.length ≤ 40 := by simpa using hl
    have := solve_in (hide sortedKeys) 6 (by omega) b o (some ⟨b, o, none⟩) xs c (Or.inr rfl) hl2 _ hV hU R g0 hrun w (Nat.le_of_lt hb) (Or.inr hb) hx2 hx3
    rw [List.length_map]
    exact callsIn_wide.1 this
def UnPost (ls : List Pr) (R : Int × List Bd) (w : World) (e : Ending) (w' : World) : Prop :=
  (pairsE ls ≠ 0 ∧ Below w.heap.size w w' ∧ e = .returned (.tuple #[.slice none 0 0, .int .i64 (pairsE ls)])) ∨ (pairsE ls = 0 ∧ SoPost R w e w')
theorem unify_any (ls : List Pr) (R : Int × List Bd) (g0 : Nat) (hrun : pairsE ls = 0 → uRun false g0 [] ls = some R) (u : Value) (w : World) (X : Nat → Prop) (hu : QV w X u ls) :
    Calls Try.prog 19 #[u] w fun e w' => UnPost ls R w e w' := by
  have HU := hide hu
  have HR := hide hrun
  clear hu hrun
  by_cases hp : pairsE ls = 0
  · have HP := hide hp
    go_enter Try.func19, Try.ntmps19
    go_wp2_with (go_at_call 43; refine (ucheck_any ls u w X HU.out).mono ?_; rintro e w1 ⟨rfl, hb1⟩; rw [HP.out]; have HB1 := hide hb1; clear hb1)
    refine (uRefusal_any ls (pairs_start HP.out).1 u w1 X (HU.out.later HB1.out)).mono ?_
    rintro e w9 ⟨code, rfl, hb9, hcd⟩
    have HB9 := hide (HB1.out.trans (hb9.mono HB1.out.size))
    have HCD := hide hcd
    clear hb9 hcd
    by_cases hc0 : code = 0
    · subst hc0
      go_wp2_with fail
      refine (solve_any HP.out R g0 (HR.out HP.out) u w9 X (HU.out.later HB9.out)).mono ?_
      rintro e w2 ⟨hb2, hc⟩
      have HB2 := hide (HB9.out.trans (hb2.mono HB9.out.size))
      have HC := hide hc
      clear hb2 hc
      rcases HC.out with ⟨h1, rfl⟩ | ⟨h1, h2, rfl⟩ | ⟨h1, h2, v, rfl, h3⟩
      · go_wp2_with fail
        refine bodyPost_ret (v := .tuple #[.slice none 0 0, .int .i64 8]) (by simp [results, Try.results19, go_sem]) rfl ?_
        exact Or.inr ⟨HP.out, HB2.out, Or.inl ⟨h1, rfl⟩⟩
      · go_wp2_with fail
        refine bodyPost_ret (v := .tuple #[.slice none 0 0, .int .i64 R.1]) (by simp [results, Try.results19, go_sem]) rfl ?_
        exact Or.inr ⟨HP.out, HB2.out, Or.inr (Or.inl ⟨h1, h2, rfl⟩)⟩
      · have H3 := hide h3
        clear h3
        go_wp2_with fail
        refine bodyPost_ret (v := .tuple #[v, .int .i64 0]) (by simp [results, Try.results19, go_sem]) rfl ?_
        exact Or.inr ⟨HP.out, HB2.out, Or.inr (Or.inr ⟨h1, h2, v, rfl, H3.out.mono fun b hb _ => Nat.le_trans HB9.out.size hb⟩)⟩
    · obtain ⟨n9, sf, hr9, hg9⟩ := HCD.out hc0
      have hRR := uRun_det _ _ _ _ _ _ (HR.out HP.out) hr9
      subst hRR
      have hcb : (code == 0) = false := beq_eq_false_iff_ne.2 hc0
      have hcn : (code != 0) = true := by simp [bne, hcb]
      have HG9 := hide hg9
      have HC0 := hide hc0
      clear hr9 hg9 hc0
      go_wp2_with fail
      refine bodyPost_ret (v := .tuple #[.slice none 0 0, .int .i64 code]) (by simp [results, Try.results19, go_sem]) rfl ?_
      exact Or.inr ⟨HP.out, HB9.out, Or.inr (Or.inl ⟨HG9.out, HC0.out, rfl⟩)⟩
  · have hpb : (pairsE ls == 0) = false := beq_eq_false_iff_ne.2 hp
    have HP := hide hp
    clear hp
    go_enter Try.func19, Try.ntmps19
    go_wp2_with (go_at_call 43; refine (ucheck_any ls u w X HU.out).mono ?_; rintro e w1 ⟨rfl, hb1⟩; have HB1 := hide hb1; clear hb1)
    refine bodyPost_ret (v := .tuple #[.slice none 0 0, .int .i64 (pairsE ls)]) (by simp [results, Try.results19, go_sem]) rfl ?_
    exact Or.inl ⟨HP.out, HB1.out, rfl⟩

/-- Both sides answer the same. -/
theorem two_runs {ls : List Pr} (hp : pairsE ls = 0) : ∃ (g : Nat) (R R' : Int × List Bd), uRun false g [] ls = some R ∧ uRun true g [] ls = some R' ∧ (grtB R.2 = true → R'.1 = 8) ∧ (grtB R.2 = false → R' = R) := by
  obtain ⟨n, r, hr⟩ := u_ends0 ls (pairs_start hp).1
  obtain ⟨e, sf⟩ := r
  obtain ⟨e', sf', h1, h2, h3⟩ := uRun_lim n [] ls e sf hr (by simp [grtB])
  refine ⟨n, (e, sf), (e', sf'), hr, h1, h2, fun hg => ?_⟩
  obtain ⟨rfl, rfl⟩ := h3 hg
  rfl

theorem unify_bad (ls : List Pr) (hp : pairsE ls ≠ 0) (u : Value) (w : World) (X : Nat → Prop) (hu : QV w X u ls) :
    Calls Try.prog 19 #[u] w fun e w' => e = .returned (.tuple #[.slice none 0 0, .int .i64 (pairsE ls)]) ∧ Below w.heap.size w w' := by
  refine (unify_any ls (0, []) 0 (fun h => absurd h hp) u w X hu).mono ?_
  rintro e w' (⟨_, hb, rfl⟩ | ⟨h, _⟩)
  · exact ⟨rfl, hb⟩
  · exact absurd h hp
theorem unify_great (ls : List Pr) (hp : pairsE ls = 0) (R : Int × List Bd) (g : Nat) (hR : uRun false g [] ls = some R) (hg : grtB R.2 = true) (u : Value) (w : World) (X : Nat → Prop) (hu : QV w X u ls) :
    Calls Try.prog 19 #[u] w fun e w' => e = .returned (.tuple #[.slice none 0 0, .int .i64 8]) ∧ Below w.heap.size w w' := by
  refine (unify_any ls R g (fun _ => hR) u w X hu).mono ?_
  rintro e w' (⟨h, _⟩ | ⟨_, hb, ⟨_, rfl⟩ | ⟨h, _⟩ | ⟨h, _⟩⟩)
  · exact absurd hp h
  · exact ⟨rfl, hb⟩
  · rw [hg] at h; cases h
  · rw [hg] at h; cases h
theorem unify_none (ls : List Pr) (hp : pairsE ls = 0) (R : Int × List Bd) (g : Nat) (hR : uRun false g [] ls = some R) (hg : grtB R.2 = false) (h0 : R.1 ≠ 0) (u : Value) (w : World) (X : Nat → Prop) (hu : QV w X u ls) :
    Calls Try.prog 19 #[u] w fun e w' => e = .returned (.tuple #[.slice none 0 0, .int .i64 R.1]) ∧ Below w.heap.size w w' := by
  refine (unify_any ls R g (fun _ => hR) u w X hu).mono ?_
  rintro e w' (⟨h, _⟩ | ⟨_, hb, ⟨h, _⟩ | ⟨_, _, rfl⟩ | ⟨_, h, _⟩⟩)
  · exact absurd hp h
  · rw [hg] at h; cases h
  · exact ⟨rfl, hb⟩
  · exact absurd h h0
theorem unify_some (ls : List Pr) (hp : pairsE ls = 0) (R : Int × List Bd) (g : Nat) (hR : uRun false g [] ls = some R) (hg : grtB R.2 = false) (h0 : R.1 = 0) (u : Value) (w : World) (X : Nat → Prop) (hu : QV w X u ls) :
    Calls Try.prog 19 #[u] w fun e w' => ∃ v, e = .returned (.tuple #[v, .int .i64 0]) ∧ BV w' (fun b => w.heap.size ≤ b) v R.2 ∧ Below w.heap.size w w' := by
  refine (unify_any ls R g (fun _ => hR) u w X hu).mono ?_
  rintro e w' (⟨h, _⟩ | ⟨_, hb, ⟨h, _⟩ | ⟨_, h, _⟩ | ⟨_, _, v, rfl, hv⟩⟩)
  · exact absurd hp h
  · rw [hg] at h; cases h
  · exact absurd h0 h
  · exact ⟨v, rfl, hv, hb⟩
end Go.Proofs.Ytpjdkdebjkpmmaj

/- Where two small terms cannot be made one, no instances of theirs can: plain. -/
namespace Go.Proofs.Ytpjdkdebjkpmmaj
open Go.RowKit
set_option linter.unusedSimpArgs false
set_option linter.unusedVariables false

/-- One behind the other. -/
def thenS (s t : List Bd) : List Bd := (s.map fun d => ⟨d.nm, onT t d.t⟩) ++ t
theorem forT_mapT (s t : List Bd) (n : ByteArray) : forT (s.map fun d => (⟨d.nm, onT t d.t⟩ : Bd)) n = (forT s n).map (onT t) := by
  induction s with
  | nil => rfl
  | cons d s ih =>
    rw [List.map_cons, forT, forT, ih]
    by_cases h : d.nm = n
    · rw [if_pos h, if_pos h]; rfl
    · rw [if_neg h, if_neg h]
theorem thenS_vars {s t : List Bd} (hs : ∀ d ∈ s, varB d.nm = true) (ht : ∀ d ∈ t, varB d.nm = true) : ∀ d ∈ thenS s t, varB d.nm = true := fun d hd => by
  rcases List.mem_append.1 hd with hd | hd
  · obtain ⟨e, he, rfl⟩ := List.mem_map.1 hd
    exact hs e he
  · exact ht d hd
theorem thenS_leaf (s t : List Bd) (n : ByteArray) : onT (thenS s t) ⟨n, []⟩ = onT t (onT s ⟨n, []⟩) := by
  rw [onT_leaf, onT_leaf s]
  unfold thenS
  rw [forT_append, forT_mapT]
  cases h : forT s n with
  | none => simp [onT_leaf]
  | some x => simp
theorem thenS_onL {s t : List Bd} (hs : ∀ d ∈ s, varB d.nm = true) (ht : ∀ d ∈ t, varB d.nm = true) : ∀ l : List Tm, errL l = 0 → onL (thenS s t) l = onL t (onL s l) := by
  intro l
  induction l using Tm.indL with
  | h0 => intro _; simp [onL]
  | h n a r iha ihr =>
    intro he
    obtain ⟨g1, g2, g3⟩ := errL_parts he
    rw [onL_cons, onL_cons, onL_cons, ihr g3]
    congr 1
    cases hv : varB n with
    | true =>
      have e := g1 hv
      subst e
      exact thenS_leaf s t n
    | false => rw [onT_sym2 (thenS_vars hs ht) hv, onT_sym2 hs hv, onT_sym2 ht hv, iha g2]
theorem thenS_onT {s t : List Bd} (hs : ∀ d ∈ s, varB d.nm = true) (ht : ∀ d ∈ t, varB d.nm = true) {x : Tm} (he : errL [x] = 0) : onT (thenS s t) x = onT t (onT s x) := by
  have h := thenS_onL hs ht [x] he
  rw [onL_cons, onL_cons, onL_cons] at h
  simpa [onL] using h
theorem pair_code {lim : Bool} {s : List Bd} {l : List Pr} {a b : Tm} {e : Int} {s' : List Bd} (h : uPair lim s l a b = .stop e s') : e = 5 ∨ e = 6 ∨ e = 8 := by
  unfold uPair uBind at h
  repeat' split at h
  all_goals first | (cases h; done) | (injection h with h1 h2; subst h1; decide)
theorem run_code : ∀ (n : Nat) (s : List Bd) (l : List Pr) (R : Int × List Bd), uRun false n s l = some R → R.1 = 0 ∨ R.1 = 5 ∨ R.1 = 6 ∨ R.1 = 8
  | 0, s, l, R, h => by cases h
  | n + 1, s, [], R, h => by
    simp [uRun, uNext] at h
    subst h
    exact Or.inl rfl
  | n + 1, s, p :: l, R, h => by
    rw [uRun, uNext_cons] at h
    cases hp : uPair false s l (onT s p.l) (onT s p.r) with
    | stop e s' =>
      rw [hp] at h
      simp at h
      subst h
      exact Or.inr (pair_code hp)
    | go s' l' =>
      rw [hp] at h
      exact run_code n s' l' R h
theorem none_pure {p q : Tm} (vp : ∀ y, varB y = true → occL y [p, q] → y ∈ ([⟨#[88]⟩, ⟨#[89]⟩, ⟨#[90]⟩] : List ByteArray)) (h2 : Ar2 [p, q]) (he : errL [p, q] = 0) (hp : sizeL [p] ≤ 17) (hq : sizeL [q] ≤ 17) {n : Nat} {R : Int × List Bd} (hr : uRun false n [] [⟨p, q⟩] = some R) :
    grtB R.2 = false ∧ (R.1 = 0 ∨ ((R.1 = 5 ∨ R.1 = 6) ∧ ∀ s t : List Bd, (∀ d ∈ s, varB d.nm = true) → (∀ d ∈ t, varB d.nm = true) → onT t (onT s p) ≠ onT t (onT s q))) := by
  have hfl : flatP [(⟨p, q⟩ : Pr)] = [p, q] := rfl
  have u : UI ([⟨#[88]⟩, ⟨#[89]⟩, ⟨#[90]⟩] : List ByteArray) [] [⟨p, q⟩] :=
    ⟨goodH_nil, fun i hi => by simp at hi, fun i hi => by simp at hi, by rw [hfl]; exact he, fun y hy ho => by
      rw [hfl] at ho
      have e : onL (sAt []) [p, q] = [p, q] := onL_id _ (by simp [sAt])
      rw [e] at ho
      exact vp y hy ho, fun x hx => by
      have e : x = ⟨p, q⟩ := by simpa using hx
      subst e
      exact ⟨by simp only; omega, by simp only; omega⟩, [], [⟨p, q⟩], rfl, by simp, by simp [sizeL], by simp⟩
  have mp : p ∈ preL [p, q] := by obtain ⟨x, y⟩ := p; simp [preL]
  have mq : q ∈ preL [p, q] := by
    rw [preL_cons2]
    obtain ⟨x, y⟩ := q
    simp [preL]
  have ni : NI (preL [p, q]) (sAt []) [⟨p, q⟩] := ⟨fun x hx => by
    have e : x = ⟨p, q⟩ := by simpa using hx
    subst e
    exact ⟨⟨p, mp, rfl⟩, q, mq, rfl⟩, fun d hd => by simp [sAt] at hd⟩
  obtain ⟨k1, k2⟩ := run_small h2 he hp hq (by simp) n [] _ R u ni hr
  refine ⟨k2, ?_⟩
  obtain ⟨h', _, _, _, _, k3⟩ := run_agr n [] _ R u hr
  obtain ⟨e1, e2⟩ := err_two.1 he
  rcases run_code n [] _ R hr with h | h
  · exact Or.inl h
  · refine Or.inr ⟨by omega, fun s t hs ht hh => ?_⟩
    refine k3 (by omega) k1 (thenS s t) (thenS_vars hs ht) ⟨by simp [sAt, Agr], fun x hx => ?_⟩
    have e : x = ⟨p, q⟩ := by simpa using hx
    subst e
    show onT (thenS s t) p = onT (thenS s t) q
    rw [thenS_onT hs ht e1, thenS_onT hs ht e2, hh]
theorem none_next {a b : Tm} (no : ∀ t : List Bd, (∀ d ∈ t, varB d.nm = true) → onT t a ≠ onT t b) (hp : pairsE [⟨a, b⟩] = 0) {n : Nat} {R : Int × List Bd} (hr : uRun false n [] [⟨a, b⟩] = some R) : R.1 ≠ 0 := fun h0 => by
  obtain ⟨he, hl, hU, hV⟩ := pairs_start hp
  obtain ⟨h', e, g, _, k, _⟩ := run_agr n [] _ R hU hr
  have ok : OkS R.2 := by rw [e]; exact g.all
  have hself : Agr R.2 R.2 := fun d hd => by
    rw [onT_some (forT_of ok.1 hd), onT_id (fun e he => ok.2.2 d hd e he)]
  exact no R.2 ok.vars (((k h0 R.2 ok.vars).1 hself).2 ⟨a, b⟩ (by simp))
#print axioms none_pure
#print axioms none_next
end Go.Proofs.Ytpjdkdebjkpmmaj

/- Walks: a term out of raw numbers, and the law on all its places. -/
namespace Go.Proofs.Ytpjdkdebjkpmmaj
open Go.RowKit
set_option linter.unusedSimpArgs false
set_option linter.unusedVariables false
set_option maxRecDepth 8000

theorem one_world {w w5 : World} {Z : Nat → Prop} {a : Option Addr} {l : List Tm} {v0 v1 : Value} {o1 : Obj} (hs : Sl w5 Z a l) (hZ : ∀ b, Z b → w.heap.size < b) : Sl (((w5.setCell ⟨w.heap.size, 0, none⟩ v0).setCell ⟨w.heap.size, 1, none⟩ v1).alloc o1) (fun b => Z b ∧ b < w5.heap.size) a l := by
  refine (hs.mono (Y := fun b => Z b ∧ b < w5.heap.size) fun b h1 h2 => ⟨h1, h2⟩).kept fun b hb => ?_
  have := hZ b hb.1
  rw [Below.heap_alloc _ _ _ (by simp [World.setCell]; omega), Below.heap_setCell _ _ _ _ (by simp; omega), Below.heap_setCell _ _ _ _ (by simp; omega)]

theorem termOfV_any (nv : Nat) (hnv : 1 ≤ nv) (hnv4 : nv ≤ 4) (zs : List Int) (hr : ∀ z ∈ zs, Rng z) (hzl : zs.length ≤ 1000000) (m i : Nat) (u : Value) (w : World) (X : Nat → Prop) (hu : PV w X u zs) (hm : m ≤ 100) (hi : i + top m ≤ 1000) :
    Calls Try.prog 8 #[u, .int .i64 (i : Int), .int .i64 (m : Int), .int .i64 (nv : Int)] w fun e w' => ∃ (t : Tm) (a : Option Addr) (c : Nat), e = .returned (.agg #[.string t.name, .slice a t.args.length c]) ∧ Sl w' (fun b => w.heap.size ≤ b) a t.args ∧ sizeL [t] ≤ top m ∧ Below w.heap.size w w' ∧ okV nv [t] := by
  have HU := hide hu
  clear hu
  go_enter Try.func8, Try.ntmps8
  go_wp2_with fail
  refine (growV_any nv hnv hnv4 zs hr hzl m i u _ X (by exact HU.out.alloc _) hm hi).mono ?_
  rintro e w5 ⟨a5, c5, n5, t5, rfl, hs5, hc5, hc5', hz5, hn5, hn5', hb5, he5⟩
  have HE5 := hide he5
  clear he5
  have R5 := hide ((Blk.new w #[.string ⟨#[]⟩, .slice none 0 0] 25).below hb5 (by simp))
  have B5 := hide (((Below.refl w.heap.size w).alloc (Nat.le_refl _) (.cells #[.string ⟨#[]⟩, .slice none 0 0] 25)).trans (hb5.mono (by simp)))
  have S5 := hide hs5
  have hlt5 : w.heap.size < w5.heap.size := R5.out.lt
  clear hb5 hs5
  have r0 : w5.cell? ⟨w.heap.size, 0, none⟩ = some (.string ⟨#[]⟩) := R5.out.cell 0
  have r1 : w5.cell? ⟨w.heap.size, 1, none⟩ = some (.slice none 0 0) := R5.out.cell 1
  have rf := R5.out.frozen
  go_wp2_with fail
  refine bodyPost_ret (v := .agg #[.string t5.name, .slice a5 t5.args.length c5]) (by simp [results, Try.results8, go_sem, World.cell?_setCell_same, World.cell?_setCell_other, r0, r1, hlt5, World.cell?_alloc_old]) rfl ?_
  refine ⟨t5, a5, c5, rfl, (one_world S5.out (fun b hb => ?_)).mono (fun b hb _ => ?_), hz5, ?_, HE5.out⟩
  · simp at hb; omega
  · have := hb.1; simp at this; omega
  · exact ((B5.out.setCell (by simp) _).setCell (by simp) _).alloc (by simp [World.setCell]; omega) _

theorem termOf_any (nv : Nat) (hnv : 1 ≤ nv) (hnv4 : nv ≤ 4) (zs : List Int) (hr : ∀ z ∈ zs, Rng z) (hzl : zs.length ≤ 1000000) (m i : Nat) (u : Value) (w : World) (X : Nat → Prop) (hu : PV w X u zs) (hm : m ≤ 100) (hi : i + top m ≤ 1000) :
    Calls Try.prog 8 #[u, .int .i64 (i : Int), .int .i64 (m : Int), .int .i64 (nv : Int)] w fun e w' => ∃ (t : Tm) (a : Option Addr) (c : Nat), e = .returned (.agg #[.string t.name, .slice a t.args.length c]) ∧ Sl w' (fun b => w.heap.size ≤ b) a t.args ∧ sizeL [t] ≤ top m ∧ Below w.heap.size w w' ∧ errL [t] = 0 := by
  refine (termOfV_any nv hnv hnv4 zs hr hzl m i u w X hu hm hi).mono ?_
  rintro e w' ⟨t, a, c, rfl, h1, h2, h3, h4⟩
  exact ⟨t, a, c, rfl, h1, h2, h3, h4.1⟩
end Go.Proofs.Ytpjdkdebjkpmmaj

/- Walks: bindings out of raw numbers. -/
namespace Go.Proofs.Ytpjdkdebjkpmmaj
open Go.RowKit
set_option linter.unusedSimpArgs false
set_option linter.unusedVariables false
set_option maxRecDepth 8000

/-- The names of made bindings. -/
def four : List ByteArray := [⟨#[85]⟩, ⟨#[88]⟩, ⟨#[89]⟩, ⟨#[90]⟩]
theorem four_at (k : Nat) (h : k < 4) : ∃ s, (#[Value.string ⟨#[85]⟩, .string ⟨#[88]⟩, .string ⟨#[89]⟩, .string ⟨#[90]⟩] : Array Value)[k]? = some (.string s) ∧ four.take (k + 1) = four.take k ++ [s] := by
  match k, h with
  | 0, _ => exact ⟨_, rfl, rfl⟩
  | 1, _ => exact ⟨_, rfl, rfl⟩
  | 2, _ => exact ⟨_, rfl, rfl⟩
  | 3, _ => exact ⟨_, rfl, rfl⟩
def BfInv (w : World) (m : Nat) (u v : Value) (wr : World) : Prop :=
  ∃ (k : Nat) (cs : List Bc), k ≤ 4 ∧ v = .int .i64 (k : Int) ∧ BRow wr (w.heap.size + 1) (fun _ => False) u cs ∧ (cs.map fun x => x.1.nm).Sublist (four.take k) ∧ (∀ x ∈ cs, sizeL [x.1.t] ≤ top m ∧ errL [x.1.t] = 0) ∧ Blk wr w.heap.size #[.string ⟨#[85]⟩, .string ⟨#[88]⟩, .string ⟨#[89]⟩, .string ⟨#[90]⟩] 9 ∧ Below w.heap.size w wr

set_option maxHeartbeats 1000000 in
theorem bindsFrom_any (nv : Nat) (hnv : 1 ≤ nv) (hnv4 : nv ≤ 4) (zs : List Int) (hr : ∀ z ∈ zs, Rng z) (hzl : zs.length ≤ 1000000) (m i : Nat) (u : Value) (w : World) (X : Nat → Prop) (hu : PV w X u zs) (hm : m ≤ 100) (hi : i + 30 + top m ≤ 1000) :
    Calls Try.prog 11 #[u, .int .i64 (i : Int), .int .i64 (m : Int), .int .i64 (nv : Int)] w fun e w' => ∃ v ls, e = .returned v ∧ BV w' (fun b => w.heap.size ≤ b) v ls ∧ (ls.map (·.nm)).Sublist four ∧ (∀ d ∈ ls, sizeL [d.t] ≤ top m ∧ errL [d.t] = 0) ∧ Below w.heap.size w w' := by
  have HU := hide hu
  clear hu
  obtain ⟨i0, hi0, hz0, hz1, hz2⟩ := info_parts Try.infoBind
  go_enter Try.func11, Try.ntmps11
  go_wp2_with fail
  go_loopw [9, 11] (fun u v wr => BfInv w m u v wr) (fun u v wr => 4 - (intOf v).toNat)
  case atStart => exact ⟨0, [], by omega, rfl, BRow.start _ _ _, by simp, by simp, Blk.new w _ _, (Below.refl _ _).alloc (Nat.le_refl _) _⟩
  case round =>
    obtain ⟨k, cs, hk, rfl, hrow, hnm, hall, hnb, hb⟩ := hrel
    have HROW := hide hrow
    have HNM := hide hnm
    have HALL := hide hall
    have HNB := hide hnb
    have HB := hide hb
    clear hrow hnm hall hnb
    by_cases hlt : k < 4
    · have hlt2 : (k : Int) < 4 := by omega
      have RA := hide (raw_any zs u wr X (HU.out.later hb) hr (i + k) (by omega) hzl)
      have e1 : ((i + k : Nat) : Int) = (i : Int) + (k : Int) := by omega
      rw [e1] at RA
      clear hb e1
      go_wp2_with fail
      refine RA.out.mono ?_
      rintro e w1 ⟨c1, rfl, hc1, hb1⟩
      have HB1 := hide (HB.out.trans (hb1.mono HB.out.size))
      have HROW1 := hide (HROW.out.below hb1)
      have HNB1 := hide (HNB.out.below hb1 HNB.out.lt)
      clear hb1
      go_wp2_with fail
      refine (pick_any _ 4 (by decide) (by decide) ⟨by omega, by omega⟩ _).mono ?_
      rintro e w2 ⟨k2, rfl, hk2, rfl⟩
      by_cases hk0 : 0 < k2
      · have hk0I : (0 : Int) < (k2 : Int) := by omega
        obtain ⟨s, hs4, htk⟩ := four_at k hlt
        have hn0 : w2.cell? ⟨w.heap.size, k, none⟩ = some (.string s) := (HNB1.out.cell k).trans hs4
        have HTK := hide htk
        clear hs4 htk
        have hw1 : IntKind.i64.wrap ((i : Int) + 4) = (i : Int) + 4 := by rw [IntKind.wrap_i64]; omega
        have hw2 : IntKind.i64.wrap (7 * (k : Int)) = 7 * (k : Int) := by rw [IntKind.wrap_i64]; omega
        have hw3 : IntKind.i64.wrap ((i : Int) + 4 + 7 * (k : Int)) = (i : Int) + 4 + 7 * (k : Int) := by rw [IntKind.wrap_i64]; omega
        have hlenc : cs.length ≤ 4 := by
          have h := HNM.out.length_le
          simp [four] at h
          omega
        have TO := hide (termOf_any nv hnv hnv4 zs hr hzl m (i + 4 + 7 * k) u w2.drew X (by exact (HU.out.later HB1.out).later (below_drewN (Below.refl _ _) 1)) hm (by omega))
        have e1 : ((i + 4 + 7 * k : Nat) : Int) = (i : Int) + 4 + 7 * (k : Int) := by omega
        rw [e1] at TO
        clear e1
        go_wp2_with fail
        go_region_law (first
          | (go_simp; go_at_call 8; refine TO.out.mono ?_; rintro e w5 ⟨t5, a5, c5, rfl, hs5, hz5, hb5, he5⟩; have hn5 : w5.cell? ⟨w.heap.size, k, none⟩ = some (.string s) := ((HNB1.out.drewN 1).below hb5 (by have := HNB1.out.lt; simp; omega)).cell k ▸ (HNB1.out.cell k) ▸ hn0)
          | (refine step_append_lies _ rfl _ _ 30 rfl (w.heap.size + 1) 46 i0 _ 3 56 Try.underlying30 hi0 hz0 hz1 hz2 rfl (by decide) u9 cs.length (flat3 cs) rfl (by exact ((HROW1.out.below (below_drewN (Below.refl _ _) 1)).below hb5).own.alloc _) ⟨w5.heap.size, 0, none⟩ 1 1 (enc3 (⟨s, t5⟩, a5, c5)) rfl rfl (cell_three_new _ _ _ _ _) (fun x hx => by simp [enc3] at hx; rcases hx with rfl | rfl | rfl <;> rfl) (by decide) (by unfold maxLen; omega) (by omega) (by have := hb5.size; have := HNB1.out.lt; simp at *; omega) _ rfl ?_; intro g cap w6 hown6 hgrow6 hat6 hlt6))
        all_goals
          have hb25 : Below w2.heap.size w2 w5 := (below_drewN (Below.refl _ _) 1).trans (hb5.mono (by simp))
          have hN2 : w.heap.size + 1 ≤ w2.heap.size := HNB1.out.lt
          have hz25 := hb25.size
          have HR6 := hide (HROW1.out.push (w1 := w5) (x := (⟨s, t5⟩, a5, c5)) hN2 (fun _ h => h.elim) hb25 (hs5.mono fun b hb _ => Or.inr (by simpa using hb)) _ rfl hown6 hgrow6 hat6)
          have hltr := HROW1.out.own.lt
          have HB6 : Hid (Below w.heap.size w w6) := ((HB1.out.trans (hb25.mono HB1.out.size)).alloc (by omega) _).grown hgrow6 (by simp; omega) (fun j hj => by have := (hltr j hj).1; omega)
          have HNB6 : Hid (Blk w6 w.heap.size #[.string ⟨#[85]⟩, .string ⟨#[88]⟩, .string ⟨#[89]⟩, .string ⟨#[90]⟩] 9) := ((HNB1.out.below hb25 HNB1.out.lt).alloc _).grown hgrow6 (HROW1.out.ne (Nat.lt_succ_self _))
          have HN6 : Hid (((cs ++ [((⟨s, t5⟩, a5, c5) : Bc)]).map fun x : Bc => x.1.nm).Sublist (four.take (k + 1))) := by
            unfold Hid
            rw [HTK.out, List.map_append]
            exact HNM.out.append (List.Sublist.refl _)
          have HA6 : Hid (∀ x ∈ cs ++ [((⟨s, t5⟩, a5, c5) : Bc)], sizeL [x.1.t] ≤ top m ∧ errL [x.1.t] = 0) := fun x hx => by
            rcases List.mem_append.1 hx with hx | hx
            · exact HALL.out x hx
            · have e : x = (⟨s, t5⟩, a5, c5) := by simpa using hx
              subst e
              exact ⟨hz5, he5⟩
          clear hown6 hgrow6 hat6 hlt6 hb5 hb25 hs5 hn5
          go_wp2_with fail
          go_roundw
          case rel => exact ⟨k + 1, _, by omega, by go_num, HR6.out, HN6.out, HA6.out, HNB6.out, HB6.out⟩
          case measure => simp [intOf]; omega
      · have hk0I : ¬ (0 : Int) < (k2 : Int) := by omega
        have HN : Hid ((cs.map fun x => x.1.nm).Sublist (four.take (k + 1))) := HNM.out.trans (List.take_sublist_take_left (by omega))
        go_wp2_with fail
        go_roundw
        case rel => exact ⟨k + 1, cs, by omega, by go_num, HROW1.out, HN.out, HALL.out, HNB1.out, HB1.out⟩
        case measure => simp [intOf]; omega
    · have HN : Hid ((cs.map fun x => x.1.nm).Sublist four) := by
        have h := HNM.out
        rwa [List.take_of_length_le (by simp [four]; omega)] at h
      go_wp2_with fail
      go_ret
      exact ⟨_, _, rfl, HROW.out.bv.mono (fun b hb _ => by rcases hb with h | h; exact h.elim; omega), by rw [List.map_map]; exact HN.out, fun d hd => by obtain ⟨x, hx, rfl⟩ := List.mem_map.1 hd; exact HALL.out x hx, HB.out⟩
#print axioms bindsFrom_any
end Go.Proofs.Ytpjdkdebjkpmmaj

/- Texts read as terms: what both readers do. -/
namespace Go.Proofs.Ytpjdkdebjkpmmaj
open Go.RowKit
set_option linter.unusedSimpArgs false
set_option linter.unusedVariables false

/-- Where the letters and digits from i on end. -/
def stopF (s : ByteArray) : Nat → Nat → Nat
  | 0, i => i
  | f + 1, i => if i < s.size ∧ alnB (byteAt s i) = true then stopF s f (i + 1) else i
def stopAt (s : ByteArray) (i : Nat) : Nat := stopF s (s.size - i) i

theorem stopF_ge (s : ByteArray) : ∀ f i, i ≤ stopF s f i
  | 0, i => Nat.le_refl _
  | f + 1, i => by
    unfold stopF; split
    · have := stopF_ge s f (i + 1); omega
    · exact Nat.le_refl _
theorem stopF_le (s : ByteArray) : ∀ f i, i ≤ s.size → stopF s f i ≤ s.size
  | 0, i, h => h
  | f + 1, i, h => by
    unfold stopF; split
    · rename_i hc; exact stopF_le s f (i + 1) hc.1
    · exact h
theorem stopAt_ge (s : ByteArray) (i : Nat) : i ≤ stopAt s i := stopF_ge s _ i
theorem stopAt_le (s : ByteArray) {i : Nat} (h : i ≤ s.size) : stopAt s i ≤ s.size := stopF_le s _ i h
theorem stopAt_go {s : ByteArray} {i : Nat} (h : i < s.size) (ha : alnB (byteAt s i) = true) : stopAt s i = stopAt s (i + 1) := by
  have e : s.size - i = (s.size - (i + 1)) + 1 := by omega
  unfold stopAt
  rw [e, stopF, if_pos ⟨h, ha⟩]
theorem stopAt_end {s : ByteArray} {i : Nat} (h : ¬ (i < s.size ∧ alnB (byteAt s i) = true)) : stopAt s i = i := by
  unfold stopAt
  cases hf : s.size - i with
  | zero => rfl
  | succ f => rw [stopF, if_neg h]

/-- What reading gives: an error (0: none), a term, where it ended, how many knots there were. -/
structure Rd where
  err : Int
  t : Tm
  pos : Nat
  k : Nat
def noRd (e : Int) : Rd := ⟨e, ⟨⟨#[]⟩, []⟩, 0, 0⟩

/-- A term from i on; or, behind a name and some terms below it, the next one from behind i on. -/
def rd (s : ByteArray) : Nat → Option (ByteArray × List Tm) → Nat → Nat → Rd
  | 0, _, _, _ => noRd 99
  | f + 1, none, i, k =>
    if stopAt s i = i then noRd (if i = s.size then 13 else 12)
    else if nameB (s.extract i (stopAt s i)) = false then noRd 1
    else if 200 < k + 1 then noRd 3
    else if stopAt s i < s.size ∧ byteAt s (stopAt s i) = 40 then
      if varB (s.extract i (stopAt s i)) = true then noRd 2 else rd s f (some (s.extract i (stopAt s i), [])) (stopAt s i) (k + 1)
    else ⟨0, ⟨s.extract i (stopAt s i), []⟩, stopAt s i, k + 1⟩
  | f + 1, some (nm, acc), i, k =>
    if (rd s f none (i + 1) k).err ≠ 0 then noRd (rd s f none (i + 1) k).err
    else if (rd s f none (i + 1) k).pos = s.size then noRd 13
    else if byteAt s (rd s f none (i + 1) k).pos = 41 then ⟨0, ⟨nm, acc ++ [(rd s f none (i + 1) k).t]⟩, (rd s f none (i + 1) k).pos + 1, (rd s f none (i + 1) k).k⟩
    else if byteAt s (rd s f none (i + 1) k).pos = 44 then rd s f (some (nm, acc ++ [(rd s f none (i + 1) k).t])) (rd s f none (i + 1) k).pos (rd s f none (i + 1) k).k
    else noRd 12

theorem noRd_err (e : Int) (h : e ≠ 0) : (noRd e).err ≠ 0 := h

/-- Where it ends lies behind where it began, and within the text. -/
theorem rd_pos (s : ByteArray) : ∀ f m i k, (rd s f m i k).err = 0 → i ≤ s.size → (m.isSome = true → i < s.size) → i < (rd s f m i k).pos ∧ (rd s f m i k).pos ≤ s.size := by
  intro f
  induction f with
  | zero => intro m i k h; simp [rd, noRd] at h
  | succ f ih =>
    intro m i k h hi hm
    match m with
    | none =>
      have h1 := stopAt_ge s i
      have h2 := stopAt_le s (i := i) (by omega)
      unfold rd at h ⊢
      split at h
      · exfalso; revert h; simp only [noRd]; split <;> omega
      · rename_i hne
        rw [if_neg hne]
        split at h
        · exfalso; revert h; simp [noRd]
        · rename_i h3
          rw [if_neg h3]
          split at h
          · exfalso; revert h; simp [noRd]
          · rename_i h4
            rw [if_neg h4]
            split at h
            · rename_i h5
              rw [if_pos h5]
              split at h
              · exfalso; revert h; simp [noRd]
              · rename_i h6
                rw [if_neg h6]
                have := ih _ _ _ h (by omega) (fun _ => h5.1)
                omega
            · rename_i h5
              rw [if_neg h5]
              exact ⟨by show i < stopAt s i; omega, h2⟩
    | some (nm, acc) =>
      unfold rd at h ⊢
      split at h
      · rename_i h1
        exact absurd h h1
      · rename_i h1
        rw [if_neg h1]
        simp only [ne_eq, Decidable.not_not] at h1
        split at h
        · exfalso; revert h; simp [noRd]
        · rename_i h2
          rw [if_neg h2]
          have hi2 : i < s.size := hm rfl
          · have h3 := ih none (i + 1) k h1 (by omega) (fun h => by cases h)
            split at h
            · rename_i h4
              rw [if_pos h4]
              exact ⟨by show i < (rd s f none (i + 1) k).pos + 1; omega, by show (rd s f none (i + 1) k).pos + 1 ≤ s.size; omega⟩
            · rename_i h4
              rw [if_neg h4]
              split at h
              · rename_i h5
                rw [if_pos h5]
                have := ih _ _ _ h (by omega) (fun _ => by omega)
                omega
              · exfalso; revert h; simp [noRd]
end Go.Proofs.Ytpjdkdebjkpmmaj

/- Walks: the reader's small functions. -/
namespace Go.Proofs.Ytpjdkdebjkpmmaj
open Go.RowKit
set_option linter.unusedSimpArgs false
set_option linter.unusedVariables false
set_option maxRecDepth 8000

theorem isSign_any (n : Int) (w : World) : Calls Try.prog 130 #[.int .u8 n] w fun e w' => e = .returned (.bool (alnB n)) ∧ w' = w := by
  go_enter Try.func130, Try.ntmps130
  go_wp2_with (first | (go_at_call 88; refine (isLetter_any _ _).mono ?_; rintro e w' ⟨rfl, rfl⟩) | (go_at_call 87; refine (isDigit_any _ _).mono ?_; rintro e w' ⟨rfl, rfl⟩))
  all_goals (go_ret; exact ⟨ret_bool (by simp_all [alnB]), rfl⟩)

/-- The reader's box. -/
def Bx (w : World) (B : Nat) (s : ByteArray) (i k : Nat) : Prop := Blk w B #[.string s, .int .i64 (i : Int), .int .i64 (k : Int)] 115
theorem Bx.c0 {w : World} {B i k : Nat} {s : ByteArray} (h : Bx w B s i k) : w.cell? ⟨B, 0, none⟩ = some (.string s) := Blk.cell h 0
theorem Bx.c1 {w : World} {B i k : Nat} {s : ByteArray} (h : Bx w B s i k) : w.cell? ⟨B, 1, none⟩ = some (.int .i64 (i : Int)) := Blk.cell h 1
theorem Bx.c2 {w : World} {B i k : Nat} {s : ByteArray} (h : Bx w B s i k) : w.cell? ⟨B, 2, none⟩ = some (.int .i64 (k : Int)) := Blk.cell h 2
theorem Bx.lt {w : World} {B i k : Nat} {s : ByteArray} (h : Bx w B s i k) : B < w.heap.size := Blk.lt h
theorem Bx.drewN {w : World} {B i k : Nat} {s : ByteArray} (h : Bx w B s i k) (n : Nat) : Bx (w.drewN n) B s i k := h
theorem Bx.next {w : World} {B i k : Nat} {s : ByteArray} (h : Bx w B s i k) : Bx (w.setCell ⟨B, 1, none⟩ (.int .i64 ((i : Int) + 1))) B s (i + 1) k := Blk.set h 1 _
theorem Bx.more {w : World} {B i k : Nat} {s : ByteArray} (h : Bx w B s i k) : Bx (w.setCell ⟨B, 2, none⟩ (.int .i64 ((k : Int) + 1))) B s i (k + 1) := Blk.set h 2 _

theorem atEnd_any (B i k : Nat) (s : ByteArray) (w : World) (h : Bx w B s i k) :
    Calls Try.prog 77 #[.pointer (some ⟨B, 0, none⟩)] w fun e w' => e = .returned (.bool (decide (i = s.size))) ∧ w' = w.drew := by
  have c0 := h.c0
  have c1 := h.c1
  clear h
  go_enter Try.func77, Try.ntmps77
  go_wp2_with fail
  go_region_held3 (fun w' => w'.cell? ⟨B, 0, none⟩ = some (.string s) ∧ w'.cell? ⟨B, 1, none⟩ = some (.int .i64 (i : Int))) (go_keep) (fail)
  go_wp2_with fail
  go_ret
  refine ⟨ret_bool ?_, rfl⟩
  rw [Bool.eq_iff_iff]; simp <;> omega

theorem refusal_any (B i k : Nat) (s : ByteArray) (w : World) (h : Bx w B s i k) :
    Calls Try.prog 104 #[.pointer (some ⟨B, 0, none⟩)] w fun e w' => e = .returned (.int .i64 (if i = s.size then 13 else 12)) ∧ w' = w.drew := by
  by_cases he : i = s.size
  all_goals
    go_enter Try.func104, Try.ntmps104
    go_wp2_with (go_at_call 77; refine (atEnd_any B i k s _ h).mono ?_; rintro e w' ⟨rfl, rfl⟩)
    all_goals (go_ret; simp_all)

theorem atEnd_yes (B i k : Nat) (s : ByteArray) (he : i = s.size) (w : World) (h : Bx w B s i k) :
    Calls Try.prog 77 #[.pointer (some ⟨B, 0, none⟩)] w fun e w' => e = .returned (.bool true) ∧ ∃ m, w' = w.drewN m := by
  have h1 := atEnd_any B i k s w h
  rw [show decide (i = s.size) = true by simpa using he] at h1
  exact h1.mono fun e w' h => ⟨h.1, 1, h.2⟩
theorem atEnd_no (B i k : Nat) (s : ByteArray) (he : ¬ i = s.size) (w : World) (h : Bx w B s i k) :
    Calls Try.prog 77 #[.pointer (some ⟨B, 0, none⟩)] w fun e w' => e = .returned (.bool false) ∧ ∃ m, w' = w.drewN m := by
  have h1 := atEnd_any B i k s w h
  rw [show decide (i = s.size) = false by simpa using he] at h1
  exact h1.mono fun e w' h => ⟨h.1, 1, h.2⟩

/-- What taking a sign does. -/
def TookPost (w : World) (B i k : Nat) (s : ByteArray) (c : Int) (e : Ending) (w' : World) : Prop :=
  if i < s.size ∧ byteAt s i = c then e = .returned (.bool true) ∧ Bx w' B s (i + 1) k ∧ Ex B w w' ∧ w'.heap.size = w.heap.size else e = .returned (.bool false) ∧ ∃ n, w' = w.drewN n

set_option maxHeartbeats 1000000 in
theorem take_any (B i k : Nat) (s : ByteArray) (c : Int) (hi : i ≤ s.size) (hs : s.size ≤ 4000) (w : World) (h : Bx w B s i k) :
    Calls Try.prog 103 #[.pointer (some ⟨B, 0, none⟩), .int .u8 c] w fun e w' => TookPost w B i k s c e w' := by
  have H := hide h
  have c0 := h.c0
  have c1 := h.c1
  have cf := Blk.frozen h
  clear h
  by_cases he : i = s.size
  · have HP : Hid (∀ w', (∃ n, w' = w.drewN n) → TookPost w B i k s c (.returned (.bool false)) w') := fun w' hw => by
      unfold TookPost; rw [if_neg (by omega)]; exact ⟨rfl, hw⟩
    have HE := hide he
    clear he hi
    go_enter Try.func103, Try.ntmps103
    go_wp2_with fail
    go_quiet ((go_at_call 77; refine Calls.quiet_of (atEnd_yes B i k s HE.out _ ?_); exact H.out.drewN _))
    go_wp2_with fail
    go_ret
    exact HP.out _ ⟨_, rfl⟩
  · have hlt : i < s.size := by omega
    have hb := hide (byteAt_of hlt)
    have HE := hide he
    clear he
    by_cases hc : byteAt s i = c
    · have hc2 : ((s[i].toNat : Int) != c) = false := by rw [hb.out, hc]; simp
      have HC := hide hc
      clear hc
      go_enter Try.func103, Try.ntmps103
      go_wp2_with fail
      go_quiet ((go_at_call 77; refine Calls.quiet_of (atEnd_no B i k s HE.out _ ?_); exact H.out.drewN _))
      go_wp2_with fail
      go_ret
      unfold TookPost
      rw [if_pos ⟨hlt, HC.out⟩]
      exact ⟨rfl, (H.out.drewN _).next, ((Ex.refl _ _).drewN _).set _ _, by simp [World.setCell]⟩
    · have hc2 : ((s[i].toNat : Int) != c) = true := by rw [hb.out]; simpa using hc
      have HC := hide hc
      clear hc
      go_enter Try.func103, Try.ntmps103
      go_wp2_with fail
      go_quiet ((go_at_call 77; refine Calls.quiet_of (atEnd_no B i k s HE.out _ ?_); exact H.out.drewN _))
      go_wp2_with fail
      go_ret
      unfold TookPost
      rw [if_neg (fun h => HC.out h.2)]
      exact ⟨rfl, _, rfl⟩
#print axioms take_any
end Go.Proofs.Ytpjdkdebjkpmmaj

/- Walks: the reader's names. -/
namespace Go.Proofs.Ytpjdkdebjkpmmaj
open Go.RowKit
set_option linter.unusedSimpArgs false
set_option linter.unusedVariables false
set_option maxRecDepth 8000

/-- How far the reader is. -/
def rdAt (w : World) (B : Nat) : Nat := match w.cell? ⟨B, 1, none⟩ with
  | some (.int _ n) => n.toNat
  | _ => 0
theorem Bx.at {w : World} {B i k : Nat} {s : ByteArray} (h : Bx w B s i k) : rdAt w B = i := by unfold rdAt; rw [h.c1]; simp

/-- What reading a name does: the name, or what is thrown. -/
def NamePost (w : World) (B i k : Nat) (s : ByteArray) (e : Ending) (w' : World) : Prop :=
  if stopAt s i = i then e = .panicked [{ v := .iface 33 (.int .i64 (if i = s.size then 13 else 12)), recovered := false }] ∧ Ex B w w'
  else if nameB (s.extract i (stopAt s i)) = false then e = .panicked [{ v := .iface 33 (.int .i64 1), recovered := false }] ∧ Ex B w w'
  else e = .returned (.string (s.extract i (stopAt s i))) ∧ Bx w' B s (stopAt s i) k ∧ Ex B w w' ∧ w'.heap.size = w.heap.size

theorem ext_size (s : ByteArray) {i j : Nat} (hj : j ≤ s.size) : (s.extract i j).size = j - i := by
  rw [ByteArray.size_extract]; omega
theorem ext_empty {s : ByteArray} {i j : Nat} (hj : j ≤ s.size) (h : j ≤ i) : (s.extract i j).toList.isEmpty = true := isEmpty_zero (by rw [ext_size s hj]; omega)
theorem ext_some {s : ByteArray} {i j : Nat} (hj : j ≤ s.size) (h : i < j) : (s.extract i j).toList.isEmpty = false := isEmpty_pos (by rw [ext_size s hj]; omega)

theorem name_ok {w wr : World} {B i j k n : Nat} {s : ByteArray} (hst : stopAt s i = j) (hji : ¬ j = i) (hn : nameB (s.extract i j) = true) (hx : Bx wr B s j k) (he : Ex B w wr) (hz : wr.heap.size = w.heap.size) : NamePost w B i k s (.returned (.string (s.extract i j))) (wr.drewN n) := by
  unfold NamePost
  rw [hst, if_neg hji, if_neg (by rw [hn]; simp)]
  exact ⟨rfl, hx, he.drewN n, hz⟩

theorem name_bad {w wr : World} {B i j k n : Nat} {s : ByteArray} (hst : stopAt s i = j) (hji : ¬ j = i) (hn : nameB (s.extract i j) = false) (he : Ex B w wr) : NamePost w B i k s (.panicked [{ v := .iface 33 (.int .i64 1), recovered := false }]) (wr.drewN n) := by
  unfold NamePost
  rw [hst, if_neg hji, if_pos hn]
  exact ⟨rfl, he.drewN n⟩
theorem name_none {w wr : World} {B i j k n : Nat} {s : ByteArray} {r : Int} (hst : stopAt s i = j) (hji : j = i) (hr : (if j = s.size then (13 : Int) else 12) = r) (he : Ex B w wr) : NamePost w B i k s (.panicked [{ v := .iface 33 (.int .i64 r), recovered := false }]) (wr.drewN n) := by
  unfold NamePost
  rw [hst, if_pos hji, ← hji, hr]
  exact ⟨rfl, he.drewN n⟩

def NmInv (w : World) (B i k : Nat) (s : ByteArray) (wr : World) : Prop := ∃ j, i ≤ j ∧ j ≤ s.size ∧ stopAt s i = stopAt s j ∧ Bx wr B s j k ∧ Ex B w wr ∧ wr.heap.size = w.heap.size

set_option maxHeartbeats 1000000 in
theorem name_any (B i k : Nat) (s : ByteArray) (hi : i ≤ s.size) (hs : s.size ≤ 4000) (w : World) (h : Bx w B s i k) :
    Calls Try.prog 102 #[.pointer (some ⟨B, 0, none⟩)] w fun e w' => NamePost w B i k s e w' := by
  have H := hide h
  have c0 := h.c0
  have c1 := h.c1
  clear h
  go_enter Try.func102, Try.ntmps102
  go_wp2_with fail
  go_loopw [] (fun wr => NmInv w B i k s wr) (fun wr => (s.size - rdAt wr B))
  case atStart => exact ⟨i, Nat.le_refl _, hi, rfl, H.out, Ex.refl _ _, rfl⟩
  case round =>
    obtain ⟨j, hij, hj, hst, hbx, hex, hsz⟩ := hrel
    have HX := hide hbx
    have HE := hide hex
    have HS := hide hst
    have HZ := hide hsz
    have c0 := hbx.c0
    have c1 := hbx.c1
    have cf := Blk.frozen hbx
    clear hbx hex hst hsz
    by_cases he : j = s.size
    · have HEQ := hide he
      have HST : Hid (stopAt s i = j) := HS.out.trans (stopAt_end (fun h => by omega))
      clear he
      go_wp2_with fail
      go_quiet (first | (go_at_call 77; refine Calls.quiet_of (atEnd_yes B j k s HEQ.out _ ?_); exact HX.out.drewN _))
      go_wp2_with fail
      have hij2 : (i : Int) ≤ (j : Int) := by omega
      have hj2 : (j : Int) ≤ (s.size : Int) := by omega
      go_quiet (fail)
      by_cases hji : j = i
      · have hem := ext_empty (s := s) hj (Nat.le_of_eq hji)
        have HJI := hide hji
        clear hji
        go_wp2_with fail
        refine (refusal_any B j k s _ (by exact HX.out)).mono ?_
        rintro e w' ⟨rfl, rfl⟩
        generalize hr : (if j = s.size then (13 : Int) else 12) = r
        have HR := hide hr
        clear hr
        go_wp2_with fail
        exact ⟨rfl, name_none HST.out HJI.out HR.out HE.out⟩
      · have hem := ext_some (s := s) hj (show i < j by omega)
        have HJI := hide hji
        clear hji
        cases hn : nameB (s.extract i j) with
        | true =>
          have HN := hide hn
          clear hn
          go_wp2_with fail
          refine (isName_any _ _).mono ?_
          rintro e w' ⟨rfl, rfl⟩
          rw [HN.out]
          go_wp2_with fail
          go_ret
          exact name_ok HST.out HJI.out HN.out HX.out HE.out HZ.out
        | false =>
          have HN := hide hn
          clear hn
          go_wp2_with fail
          refine (isName_any _ _).mono ?_
          rintro e w' ⟨rfl, rfl⟩
          rw [HN.out]
          go_wp2_with fail
          exact ⟨rfl, name_bad HST.out HJI.out HN.out HE.out⟩
    · have hlt : j < s.size := by omega
      have HEQ := hide he
      clear he
      have hb := hide (byteAt_of hlt)
      cases ha : alnB (byteAt s j) with
      | true =>
        have HA := hide ha
        have HAW : Hid (∀ w, Calls Try.prog 130 #[.int .u8 (s[j].toNat : Int)] w fun e w' => e = .returned (.bool true) ∧ w' = w) := fun w => by
          have := isSign_any (s[j].toNat : Int) w
          rw [hb.out, HA.out] at this
          rw [hb.out]
          exact this
        clear ha
        go_wp2_with fail
        go_quiet (first | (go_at_call 77; refine Calls.quiet_of (atEnd_no B j k s HEQ.out _ ?_); exact HX.out.drewN _) | (go_at_call 130; refine Calls.quiet_of_same (HAW.out _)))
        go_wp2_with fail
        go_roundw
        case rel => exact ⟨j + 1, by omega, by omega, by rw [HS.out, stopAt_go hlt HA.out], (HX.out.drewN _).next, (HE.out.drewN _).set _ _, by have := HZ.out; simpa [World.setCell] using this⟩
        case measure =>
          have e1 := HX.out.at
          have e2 := ((HX.out.drewN nq).next).at
          rw [e1, e2]; omega
      | false =>
        have HA := hide ha
        have HAW : Hid (∀ w, Calls Try.prog 130 #[.int .u8 (s[j].toNat : Int)] w fun e w' => e = .returned (.bool false) ∧ w' = w) := fun w => by
          have := isSign_any (s[j].toNat : Int) w
          rw [hb.out, HA.out] at this
          rw [hb.out]
          exact this
        have HST : Hid (stopAt s i = j) := HS.out.trans (stopAt_end (fun h => by have h1 := h.2; rw [HA.out] at h1; cases h1))
        clear ha
        go_wp2_with fail
        go_quiet (first | (go_at_call 77; refine Calls.quiet_of (atEnd_no B j k s HEQ.out _ ?_); exact HX.out.drewN _) | (go_at_call 130; refine Calls.quiet_of_same (HAW.out _)))
        go_wp2_with fail
        have hij2 : (i : Int) ≤ (j : Int) := by omega
        have hj2 : (j : Int) ≤ (s.size : Int) := by omega
        go_quiet (fail)
        by_cases hji : j = i
        · have hem := ext_empty (s := s) hj (Nat.le_of_eq hji)
          have HJI := hide hji
          clear hji
          go_wp2_with fail
          refine (refusal_any B j k s _ (by exact HX.out)).mono ?_
          rintro e w' ⟨rfl, rfl⟩
          generalize hr : (if j = s.size then (13 : Int) else 12) = r
          have HR := hide hr
          clear hr
          go_wp2_with fail
          exact ⟨rfl, name_none HST.out HJI.out HR.out HE.out⟩
        · have hem := ext_some (s := s) hj (show i < j by omega)
          have HJI := hide hji
          clear hji
          cases hn : nameB (s.extract i j) with
          | true =>
            have HN := hide hn
            clear hn
            go_wp2_with fail
            refine (isName_any _ _).mono ?_
            rintro e w' ⟨rfl, rfl⟩
            rw [HN.out]
            go_wp2_with fail
            go_ret
            exact name_ok HST.out HJI.out HN.out HX.out HE.out HZ.out
          | false =>
            have HN := hide hn
            clear hn
            go_wp2_with fail
            refine (isName_any _ _).mono ?_
            rintro e w' ⟨rfl, rfl⟩
            rw [HN.out]
            go_wp2_with fail
            exact ⟨rfl, name_bad HST.out HJI.out HN.out HE.out⟩
#print axioms name_any
end Go.Proofs.Ytpjdkdebjkpmmaj

/- Walks: the reader's terms. -/
namespace Go.Proofs.Ytpjdkdebjkpmmaj
open Go.RowKit
set_option linter.unusedSimpArgs false
set_option linter.unusedVariables false
set_option maxRecDepth 8000

def RdPost (w : World) (B : Nat) (s : ByteArray) (r : Rd) (e : Ending) (w' : World) : Prop :=
  if r.err = 0 then ∃ a c, e = .returned (.agg #[.string r.t.name, .slice a r.t.args.length c]) ∧ Sl w' (fun b => w.heap.size ≤ b) a r.t.args ∧ Bx w' B s r.pos r.k ∧ Ex B w w'
  else e = .panicked [{ v := .iface 33 (.int .i64 r.err), recovered := false }] ∧ Ex B w w'

theorem rdPost_no {w w' : World} {B : Nat} {s : ByteArray} {r : Rd} {z : Int} (h : r = noRd z) (hz : z ≠ 0) (he : Ex B w w') : RdPost w B s r (.panicked [{ v := .iface 33 (.int .i64 z), recovered := false }]) w' := by
  subst h
  unfold RdPost
  rw [if_neg (by exact hz)]
  exact ⟨rfl, he⟩

theorem rdPost_yes {w w' : World} {B p k c : Nat} {s nm : ByteArray} {r : Rd} {a : Option Addr} {args : List Tm} (h : r = ⟨0, ⟨nm, args⟩, p, k⟩) (hs : Sl w' (fun b => w.heap.size ≤ b) a args) (hx : Bx w' B s p k) (he : Ex B w w') : RdPost w B s r (.returned (.agg #[.string nm, .slice a args.length c])) w' := by
  subst h
  unfold RdPost
  rw [if_pos rfl]
  exact ⟨a, c, rfl, hs, hx, he⟩

/-- No more knots than may be. -/
theorem rd_k (s : ByteArray) : ∀ f m i k, (rd s f m i k).err = 0 → k ≤ 200 → (rd s f m i k).k ≤ 200 := by
  intro f
  induction f with
  | zero => intro m i k h; simp [rd, noRd] at h
  | succ f ih =>
    intro m i k h hk
    match m with
    | none =>
      unfold rd at h ⊢
      split at h
      · exfalso; revert h; simp only [noRd]; split <;> omega
      · rename_i h1
        rw [if_neg h1]
        split at h
        · exfalso; revert h; simp [noRd]
        · rename_i h2
          rw [if_neg h2]
          split at h
          · exfalso; revert h; simp [noRd]
          · rename_i h3
            rw [if_neg h3]
            split at h
            · rename_i h4
              rw [if_pos h4]
              split at h
              · exfalso; revert h; simp [noRd]
              · rename_i h5
                rw [if_neg h5]
                exact ih _ _ _ h (by omega)
            · rename_i h4
              rw [if_neg h4]
              show k + 1 ≤ 200
              omega
    | some (nm, acc) =>
      unfold rd at h ⊢
      split at h
      · rename_i h1
        exact absurd h h1
      · rename_i h1
        rw [if_neg h1]
        simp only [ne_eq, Decidable.not_not] at h1
        have h3 := ih none (i + 1) k h1 hk
        split at h
        · exfalso; revert h; simp [noRd]
        · rename_i h2
          rw [if_neg h2]
          split at h
          · rename_i h4
            rw [if_pos h4]
            exact h3
          · rename_i h4
            rw [if_neg h4]
            split at h
            · rename_i h5
              rw [if_pos h5]
              exact ih _ _ _ h h3
            · exfalso; revert h; simp [noRd]

theorem Bx.alloc {w : World} {B i k : Nat} {s : ByteArray} (h : Bx w B s i k) (o : Obj) : Bx (w.alloc o) B s i k := Blk.alloc h o

theorem read_step {w wr w1 w3 : World} {B T Ty : Nat} {u : Value} {acc : List Tm} {xs : List Value} {o2 : Obj} {s s' nm : ByteArray} {a1 : Option Addr} {n1 c1 g cap p k' : Nat} {cR : Array Value} {t : Tm} (hBw : B < w.heap.size) (hwT : w.heap.size < T) (hTr : T < wr.heap.size)
    (hrow : Row wr (T + 1) Ty (fun _ => False) u acc xs) (hx : Ex B w wr) (hR : Blk wr w.heap.size cR Ty) (hT : Blk wr T #[.string nm, u] Ty)
    (he1 : Ex B wr w1) (hbx : Bx w1 B s p k') (ht : TV w1 (fun b => wr.heap.size ≤ b) (.agg #[.string s', .slice a1 n1 c1]) t)
    (hown : w3.ownsRow (T + 1) Ty 2 (.slice (some ⟨g, 0, none⟩) (acc.length + 1) cap) (acc.length + 1) (xs ++ [.string s', .slice a1 n1 c1])) (hg : (w1.alloc o2).grownBy w3 u.ownBlock) (hat : u.ownBlock = some g ∨ g = (w1.alloc o2).heap.size) :
    let w4 := w3.setCell ⟨T, 1, none⟩ (.slice (some ⟨g, 0, none⟩) (acc.length + 1) cap)
    Row w4 (T + 1) Ty (fun _ => False) (.slice (some ⟨g, 0, none⟩) (acc.length + 1) cap) (acc ++ [t]) (xs ++ [.string s', .slice a1 n1 c1]) ∧ Ex B w w4 ∧ Blk w4 w.heap.size cR Ty ∧ Blk w4 T #[.string nm, .slice (some ⟨g, 0, none⟩) (acc.length + 1) cap] Ty ∧ Bx w4 B s p k' ∧ T < w4.heap.size := by
  intro w4
  have hlt' := hrow.own.lt
  obtain ⟨wm, hbm, hsm, hem⟩ := he1.mid
  have hrm := hrow.ex hem (by omega) (fun h => h)
  have hp := hrm.push (w1 := w1) (w2 := w1.alloc o2) (w3 := w3) (by omega) (fun _ h => h.elim) hbm (ht.mono fun b h _ => Or.inr (by omega)) o2 rfl hown hg hat
  have hne : ∀ b, b < T + 1 → some b ≠ u.ownBlock := fun b hb e => by have := (hlt' b e.symm).1; omega
  have hx3 : Ex B w w3 := ((hx.trans he1).alloc o2).grown hg (fun k hk => by have := (hlt' k hk).1; omega)
  have hs3 := hg.size
  have hs1 := he1.size
  simp at hs3
  refine ⟨hp.setCell (by omega) (fun h => h) _, hx3.setNew (by omega) _ _, ?_, ?_, ?_, by simp [w4, World.setCell]; omega⟩
  · exact (((hR.ex he1 (by omega)).alloc o2).grown hg (hne _ (by omega))).setOther _ _ (by omega)
  · exact (((hT.ex he1 (by omega)).alloc o2).grown hg (hne _ (by omega))).set 1 _
  · exact ((Blk.alloc hbx o2).grown hg (hne _ (by omega))).setOther _ _ (by omega)

/-- Behind a term below a name. -/
def RtGot (w : World) (B T : Nat) (s nm : ByteArray) (args : List Tm) (u : Value) (p k : Nat) (w' : World) : Prop :=
  ∃ xs, Row w' (T + 1) 25 (fun _ => False) u args xs ∧ Ex B w w' ∧ Blk w' w.heap.size #[.string ⟨#[]⟩, .slice none 0 0] 25 ∧ Blk w' T #[.string nm, u] 25 ∧ Bx w' B s p k ∧ T < w'.heap.size
theorem RtGot.bx {w : World} {B T : Nat} {s nm : ByteArray} {args : List Tm} {u : Value} {p k : Nat} {w' : World} (h : RtGot w B T s nm args u p k w') : Bx w' B s p k := by obtain ⟨xs, _, _, _, _, h, _⟩ := h; exact h
theorem RtGot.ex0 {w : World} {B T : Nat} {s nm : ByteArray} {args : List Tm} {u : Value} {p k : Nat} {w' : World} (h : RtGot w B T s nm args u p k w') : Ex B w w' := by obtain ⟨xs, _, h, _⟩ := h; exact h
theorem RtGot.rb {w : World} {B T : Nat} {s nm : ByteArray} {args : List Tm} {u : Value} {p k : Nat} {w' : World} (h : RtGot w B T s nm args u p k w') : Blk w' w.heap.size #[.string ⟨#[]⟩, .slice none 0 0] 25 := by obtain ⟨xs, _, _, h, _⟩ := h; exact h
theorem RtGot.tb {w : World} {B T : Nat} {s nm : ByteArray} {args : List Tm} {u : Value} {p k : Nat} {w' : World} (h : RtGot w B T s nm args u p k w') : Blk w' T #[.string nm, u] 25 := by obtain ⟨xs, _, _, _, h, _⟩ := h; exact h
theorem RtGot.sl {w : World} {B T : Nat} {s nm : ByteArray} {args : List Tm} {u : Value} {p k : Nat} {w' : World} (h : RtGot w B T s nm args u p k w') : ∃ a c, u = .slice a args.length c ∧ Sl w' (fun b => T + 1 ≤ b) a args := by
  obtain ⟨xs, h, _⟩ := h
  obtain ⟨a, c, e, hs⟩ := h.sl
  exact ⟨a, c, e, hs.mono fun b hb _ => hb.elim False.elim id⟩
theorem RtGot.ex {w : World} {B T : Nat} {s nm : ByteArray} {args : List Tm} {u : Value} {p k p' k' : Nat} {w' w'' : World} (h : RtGot w B T s nm args u p k w') (he : Ex B w' w'') (hx : Bx w'' B s p' k') (hB : B < w.heap.size) (hT : w.heap.size < T) : RtGot w B T s nm args u p' k' w'' := by
  obtain ⟨xs, h1, h2, h3, h4, h5, h6⟩ := h
  have := he.size
  exact ⟨xs, h1.ex he (by omega) (fun h => h), h2.trans he, h3.ex he (by omega), h4.ex he (by omega), hx, by omega⟩
theorem sl_set2 {w w7 : World} {T : Nat} {a : Option Addr} {l : List Tm} {v0 v1 : Value} (hs : Sl w7 (fun b => T + 1 ≤ b) a l) (hT : w.heap.size < T) : Sl ((w7.setCell ⟨w.heap.size, 0, none⟩ v0).setCell ⟨w.heap.size, 1, none⟩ v1) (fun b => w.heap.size ≤ b) a l :=
  (hs.kept fun b hb => by rw [Below.heap_setCell _ _ _ _ (by simp; omega), Below.heap_setCell _ _ _ _ (by simp; omega)]).mono fun b hb _ => by omega

/-- Where the reader stands between two terms below a name. -/
def RtInv (w : World) (B T F : Nat) (s nm : ByteArray) (r : Rd) (wr : World) : Prop :=
  ∃ (f' : Nat) (acc : List Tm) (j k' : Nat) (u : Value) (xs : List Value), f' + 1 < F ∧ 2 * (s.size - j) + 1 ≤ f' ∧ j < s.size ∧ acc.length ≤ j ∧ k' ≤ 200 ∧ r = rd s (f' + 1) (some (nm, acc)) j k' ∧ Bx wr B s (j + 1) k' ∧ Ex B w wr ∧ Blk wr w.heap.size #[.string ⟨#[]⟩, .slice none 0 0] 25 ∧ Blk wr T #[.string nm, u] 25 ∧ Row wr (T + 1) 25 (fun _ => False) u acc xs ∧ T < wr.heap.size

set_option maxHeartbeats 1000000 in
theorem rterm_any (B : Nat) (s : ByteArray) (hs : s.size ≤ 4000) : ∀ (F i k : Nat) (w : World), i ≤ s.size → k ≤ 200 → 2 * (s.size - i) + 1 ≤ F → Bx w B s i k →
    Calls Try.prog 76 #[.pointer (some ⟨B, 0, none⟩)] w fun e w' => RdPost w B s (rd s F none i k) e w' := by
  intro F
  induction F using Nat.strongRecOn with
  | ind F ih =>
    intro i k w hi hk hF hbx
    have IH := hide ih
    clear ih
    obtain ⟨f, rfl⟩ : ∃ f, F = f + 1 := ⟨F - 1, by omega⟩
    obtain ⟨i0, hi0, hz0, hz1, hz2⟩ := info_parts Try.infoTerm
    have HRD : Hid (rd s (f + 1) none i k = if stopAt s i = i then noRd (if i = s.size then 13 else 12)
      else if nameB (s.extract i (stopAt s i)) = false then noRd 1
      else if 200 < k + 1 then noRd 3
      else if stopAt s i < s.size ∧ byteAt s (stopAt s i) = 40 then
        if varB (s.extract i (stopAt s i)) = true then noRd 2 else rd s f (some (s.extract i (stopAt s i), [])) (stopAt s i) (k + 1)
      else ⟨0, ⟨s.extract i (stopAt s i), []⟩, stopAt s i, k + 1⟩) := by unfold Hid; rw [rd]
    generalize rd s (f + 1) none i k = r at *
    have HX := hide hbx
    have hBlt := hbx.lt
    clear hbx
    go_enter Try.func76, Try.ntmps76
    go_wp2_with fail
    refine (name_any B i k s hi hs _ (by exact HX.out.alloc _)).mono ?_
    intro e w1 hp
    have E0 := hide ((Ex.refl B w).alloc (.cells #[.string ⟨#[]⟩, .slice none 0 0] 25))
    unfold NamePost at hp
    by_cases h1 : stopAt s i = i
    · rw [if_pos h1] at hp
      obtain ⟨rfl, he⟩ := hp
      exact ⟨rfl, rdPost_no (by rw [HRD.out, if_pos h1]) (by split <;> omega) (E0.out.trans he)⟩
    · rw [if_neg h1] at hp
      by_cases h2 : nameB (s.extract i (stopAt s i)) = false
      · rw [if_pos h2] at hp
        obtain ⟨rfl, he⟩ := hp
        exact ⟨rfl, rdPost_no (by rw [HRD.out, if_neg h1, if_pos h2]) (by omega) (E0.out.trans he)⟩
      · rw [if_neg h2] at hp
        obtain ⟨rfl, hx1, he1, hz1⟩ := hp
        have hjs := stopAt_le s hi
        have hji := stopAt_ge s i
        generalize hj : stopAt s i = j at *
        generalize hnm : s.extract i j = nm at *
        have E1 := hide (E0.out.trans he1)
        have X1 := hide hx1
        have R1 := hide ((Blk.new w #[.string ⟨#[]⟩, .slice none 0 0] 25).ex he1 (by omega))
        have hRlt : w.heap.size < w1.heap.size := R1.out.lt
        have HH : Hid (¬ j = i ∧ ¬ nameB nm = false) := ⟨h1, h2⟩
        clear he1 hx1 hz1 hj hnm h1 h2
        have b0 : ∀ o, (w1.alloc o).cell? ⟨B, 2, none⟩ = some (.int .i64 (k : Int)) := fun o => (X1.out.alloc o).c2
        have bf : ∀ o, (w1.alloc o).frozen? ⟨B, 2, none⟩ = false := fun o => Blk.frozen (X1.out.alloc o) 2
        have b1 := X1.out.c2
        have bf1 := Blk.frozen X1.out 2
        have hB1 : B < w1.heap.size := X1.out.lt
        have X2 : Hid (Bx ((w1.setCell ⟨B, 2, none⟩ (.int .i64 ((k : Int) + 1))).alloc (.cells #[.string nm, .slice none 0 0] 25)) B s j (k + 1)) := X1.out.more.alloc _
        have E2 : Hid (Ex B w ((w1.setCell ⟨B, 2, none⟩ (.int .i64 ((k : Int) + 1))).alloc (.cells #[.string nm, .slice none 0 0] 25))) := (E1.out.set _ _).alloc _
        have R2 : Hid (Blk ((w1.setCell ⟨B, 2, none⟩ (.int .i64 ((k : Int) + 1))).alloc (.cells #[.string nm, .slice none 0 0] 25)) w.heap.size #[.string ⟨#[]⟩, .slice none 0 0] 25) := (R1.out.setOther _ _ (by omega)).alloc _
        have T2 : Hid (Blk ((w1.setCell ⟨B, 2, none⟩ (.int .i64 ((k : Int) + 1))).alloc (.cells #[.string nm, .slice none 0 0] 25)) w1.heap.size #[.string nm, .slice none 0 0] 25) := by
          have h := Blk.new (w1.setCell ⟨B, 2, none⟩ (.int .i64 ((k : Int) + 1))) #[.string nm, .slice none 0 0] 25
          have e : (w1.setCell ⟨B, 2, none⟩ (.int .i64 ((k : Int) + 1))).heap.size = w1.heap.size := by simp [World.setCell]
          rw [e] at h
          exact h
        have HB2 := hide hB1
        by_cases h3 : 200 < k + 1
        · go_wp2_with fail
          exact ⟨rfl, rdPost_no (by rw [HRD.out, if_neg HH.out.1, if_neg HH.out.2, if_pos h3]) (by omega) E2.out⟩
        · go_wp2_with fail
          generalize ((w1.setCell ⟨B, 2, none⟩ (.int .i64 ((k : Int) + 1))).alloc (.cells #[.string nm, .slice none 0 0] 25)) = w2 at *
          generalize w1.heap.size = T at *
          clear b0 bf b1 bf1 X1 R1 E1 E0 HX w1
          refine (take_any B j (k + 1) s 40 hjs hs _ X2.out).mono ?_
          intro e w3 hp
          unfold TookPost at hp
          by_cases h4 : j < s.size ∧ byteAt s j = 40
          · rw [if_pos h4] at hp
            obtain ⟨rfl, hx3, he3, hz3⟩ := hp
            have X3 := hide hx3
            have E3 := hide (E2.out.trans he3)
            have R3 := hide (R2.out.ex he3 (by omega))
            have T3 := hide (T2.out.ex he3 (by omega))
            have HT := hide (show T < w3.heap.size from T3.out.lt)
            clear hx3 he3 hz3
            have t0 : w3.cell? ⟨T, 0, none⟩ = some (.string nm) := T3.out.cell 0
            go_wp2_with fail
            refine (isVariable_all _ _).mono ?_
            rintro e w4 ⟨rfl, rfl⟩
            cases hv : varB nm with
            | true =>
              have HV := hide hv
              clear hv
              go_wp2_with fail
              exact ⟨rfl, rdPost_no (by rw [HRD.out, if_neg HH.out.1, if_neg HH.out.2, if_neg h3, if_pos h4, if_pos HV.out]) (by omega) E3.out⟩
            | false =>
              have HV := hide hv
              have HR0 : Hid (r = rd s f (some (nm, [])) j (k + 1)) := by unfold Hid; rw [HRD.out, if_neg HH.out.1, if_neg HH.out.2, if_neg h3, if_pos h4, if_neg (by rw [HV.out]; simp)]
              clear hv
              have hji3 : i < j := by have := HH.out.1; omega
              obtain ⟨f0, rfl⟩ : ∃ f0, f = f0 + 1 := ⟨f - 1, by omega⟩
              go_wp2_with fail
              go_loopw [] (fun wr => RtInv w B T (f0 + 1 + 1) s nm r wr) (fun wr => s.size - rdAt wr B)
              case atStart => exact ⟨f0, [], j, k + 1, .slice none 0 0, [], by omega, by omega, h4.1, by simp, by omega, HR0.out, X3.out, E3.out, R3.out, T3.out, Row.start _ _ _ _, HT.out⟩
              case round =>
                obtain ⟨f', acc, j2, k2, u, xs, hf1, hf2, hj2, hal, hk2, hr, hbx, hex, hR, hT, hrow, hTl⟩ := hrel
                have IHQ := hide (IH.out f' (by omega) (j2 + 1) k2)
                have HQ : Hid (r = if (rd s f' none (j2 + 1) k2).err ≠ 0 then noRd (rd s f' none (j2 + 1) k2).err
    else if (rd s f' none (j2 + 1) k2).pos = s.size then noRd 13
    else if byteAt s (rd s f' none (j2 + 1) k2).pos = 41 then ⟨0, ⟨nm, acc ++ [(rd s f' none (j2 + 1) k2).t]⟩, (rd s f' none (j2 + 1) k2).pos + 1, (rd s f' none (j2 + 1) k2).k⟩
    else if byteAt s (rd s f' none (j2 + 1) k2).pos = 44 then rd s f' (some (nm, acc ++ [(rd s f' none (j2 + 1) k2).t])) (rd s f' none (j2 + 1) k2).pos (rd s f' none (j2 + 1) k2).k
    else noRd 12) := by unfold Hid; rw [hr, rd]
                have HPOS := hide (rd_pos s f' none (j2 + 1) k2)
                have HKK := hide (rd_k s f' none (j2 + 1) k2)
                generalize rd s f' none (j2 + 1) k2 = q at *
                have XB := hide hbx
                have XE := hide hex
                have XR := hide hR
                have XT := hide hT
                have XW := hide hrow
                have hc1 : wr.cell? ⟨T, 1, none⟩ = some u := hT.cell 1
                clear hbx hex hR hT hrow hr
                by_cases hq : q.err = 0
                · have HQE := hide hq
                  have HP9 := hide (HPOS.out hq (by omega) (fun h => by cases h))
                  have HK9 := hide (HKK.out hq hk2)
                  have IHR : Hid (Calls Try.prog 76 #[.pointer (some ⟨B, 0, none⟩)] wr.drew fun e w'' => ∃ a c, e = .returned (.agg #[.string q.t.name, .slice a q.t.args.length c]) ∧ Sl w'' (fun b => wr.heap.size ≤ b) a q.t.args ∧ Bx w'' B s q.pos q.k ∧ Ex B wr w'') := (IHQ.out wr.drew (by omega) hk2 (by omega) (by exact XB.out)).mono fun e w'' hp => by
                    unfold RdPost at hp
                    rw [if_pos hq] at hp
                    obtain ⟨a, c, h1, h2, h3, h4⟩ := hp
                    exact ⟨a, c, h1, h2, h3, ((Ex.refl B wr).drew).trans h4⟩
                  have HTB : Hid (T ≠ B) := by unfold Hid; omega
                  have hTl2 : T + 1 ≤ wr.heap.size := hTl
                  clear hq IHQ
                  go_wp2_with fail
                  go_region_law (first
                    | (go_simp; go_at_call 76; refine IHR.out.mono ?_; rintro e w1 ⟨a1, c1, rfl, hs1, hb1, he1⟩; have hc3 : ∀ o, (w1.alloc o).cell? ⟨T, 1, none⟩ = some u := fun o => ((Blk.ex XT.out he1 HTB.out).alloc o).cell 1; have hc4 : w1.cell? ⟨T, 1, none⟩ = some u := (Blk.ex XT.out he1 HTB.out).cell 1)
                    | (refine step_append_lies _ rfl _ _ 23 rfl (T + 1) 25 i0 _ 2 40 Try.underlying23 hi0 hz0 hz1 hz2 rfl (by decide) u acc.length xs rfl (by exact (Row.ex (B := B) XW.out he1 (by omega) (fun h => h)).own.alloc _) ⟨w1.heap.size, 0, none⟩ 1 1 [.string q.t.name, .slice a1 q.t.args.length c1] rfl rfl (cell_two_new _ _ _ _) (fun x hx => by simp at hx; rcases hx with rfl | rfl <;> rfl) (by decide) (by unfold maxLen; first | omega | (simp; omega)) (by first | omega | (simp; omega)) (by have := he1.size; first | omega | (simp; omega)) _ rfl ?_; intro g cap w3 hown3 hgrow3 hat3 hlt3; have hB3 := hide (((Blk.ex XT.out he1 HTB.out).alloc _).grown hgrow3 (XW.out.ne (Nat.lt_succ_self _))); have hc5 : w3.cell? ⟨T, 1, none⟩ = some u := hB3.out.cell 1; have hf5 := hB3.out.frozen 1))
                  all_goals
                    have HFIN := hide (read_step hBlt hRlt hTl XW.out XE.out XR.out XT.out he1 hb1 ⟨a1, c1, rfl, hs1⟩ hown3 hgrow3 hat3)
                    clear hown3 hgrow3 hat3 hc3 hc4 hs1 hb1 he1 hlt3 hB3
                    go_wp2_with fail
                    generalize hw6 : w3.setCell ⟨T, 1, none⟩ (.slice (some ⟨g, 0, none⟩) (acc.length + 1) cap) = w6 at *
                    have G : Hid (RtGot w B T s nm (acc ++ [q.t]) (.slice (some ⟨g, 0, none⟩) (acc.length + 1) cap) q.pos q.k w6) := by
                      exact ⟨_, HFIN.out⟩
                    clear hw6 HFIN hc5 hf5 hc1
                    refine (take_any B q.pos q.k s 41 HP9.out.2 hs _ (by exact G.out.bx)).mono ?_
                    intro e w7 hp
                    unfold TookPost at hp
                    by_cases h6 : q.pos < s.size ∧ byteAt s q.pos = 41
                    · rw [if_pos h6] at hp
                      obtain ⟨rfl, hx7, he7, hz7⟩ := hp
                      have G7 := hide (G.out.ex he7 hx7 (by omega) (by omega))
                      have HR7 : Hid (r = ⟨0, ⟨nm, acc ++ [q.t]⟩, q.pos + 1, q.k⟩) := by unfold Hid; rw [HQ.out, if_neg (by rw [HQE.out]; simp), if_neg (by omega), if_pos h6.2]
                      obtain ⟨a7, c7, hu7, hs7⟩ := G7.out.sl
                      clear hx7 he7 hz7 h6
                      rw [hu7] at G7
                      generalize acc ++ [q.t] = args at *
                      have S7 := hide hs7
                      clear hs7 hu7 G
                      have t0 : w7.cell? ⟨T, 0, none⟩ = some (.string nm) := G7.out.tb.cell 0
                      have t1 : w7.cell? ⟨T, 1, none⟩ = some (.slice a7 args.length c7) := G7.out.tb.cell 1
                      have r0 : w7.cell? ⟨w.heap.size, 0, none⟩ = some (.string ⟨#[]⟩) := G7.out.rb.cell 0
                      have r1 : w7.cell? ⟨w.heap.size, 1, none⟩ = some (.slice none 0 0) := G7.out.rb.cell 1
                      have rf := G7.out.rb.frozen
                      go_wp2_with fail
                      refine bodyPost_ret (v := .agg #[.string nm, .slice a7 args.length c7]) (by simp [results, Try.results76, go_sem, World.cell?_setCell_same, World.cell?_setCell_other, r0, r1]) rfl ?_
                      exact rdPost_yes HR7.out (sl_set2 S7.out hRlt) (by exact (Blk.setOther (Blk.setOther G7.out.bx _ _ (by omega)) _ _ (by omega))) ((G7.out.ex0.setNew (Nat.le_refl _) _ _).setNew (Nat.le_refl _) _ _)
                    · rw [if_neg h6] at hp
                      obtain ⟨rfl, n7, rfl⟩ := hp
                      go_wp2_with fail
                      refine (take_any B q.pos q.k s 44 HP9.out.2 hs _ (by exact G.out.bx)).mono ?_
                      intro e w9 hp
                      unfold TookPost at hp
                      by_cases h8 : q.pos < s.size ∧ byteAt s q.pos = 44
                      · rw [if_pos h8] at hp
                        obtain ⟨rfl, hx9, he9, hz9⟩ := hp
                        have G9 := hide (G.out.ex ((Ex.refl B w6).drewN n7 |>.trans he9) hx9 (by omega) (by omega))
                        obtain ⟨f2, rfl⟩ : ∃ f2, f' = f2 + 1 := ⟨f' - 1, by omega⟩
                        have HR9 : Hid (r = rd s (f2 + 1) (some (nm, acc ++ [q.t])) q.pos q.k) := by unfold Hid; rw [HQ.out, if_neg (by rw [HQE.out]; simp), if_neg (by omega), if_neg (fun h => h6 ⟨h8.1, h⟩), if_pos h8.2]
                        clear hx9 he9 hz9
                        go_wp2_with fail
                        go_roundw
                        case rel =>
                          obtain ⟨xs9, g1, g2, g3, g4, g5, g6⟩ := G9.out
                          have hp9 := HP9.out
                          exact ⟨f2, acc ++ [q.t], q.pos, q.k, _, xs9, by omega, by omega, h8.1, by simp; omega, HK9.out, HR9.out, g5, g2, g3, g4, g1, g6⟩
                        case measure =>
                          have e1 := XB.out.at
                          have e2 := G9.out.bx.at
                          have hp9 := HP9.out
                          rw [e1, e2]; omega
                      · rw [if_neg h8] at hp
                        obtain ⟨rfl, n9, rfl⟩ := hp
                        go_wp2_with fail
                        refine (refusal_any B q.pos q.k s _ (by exact G.out.bx)).mono ?_
                        rintro e w' ⟨rfl, rfl⟩
                        generalize hz : (if q.pos = s.size then (13 : Int) else 12) = z
                        have HR9 : Hid (r = noRd z ∧ z ≠ 0) := by
                          unfold Hid
                          rw [HQ.out, if_neg (by rw [HQE.out]; simp), ← hz]
                          have hp9 := HP9.out.2
                          by_cases he : q.pos = s.size
                          · rw [if_pos he, if_pos he]; exact ⟨rfl, by decide⟩
                          · rw [if_neg he, if_neg he, if_neg (fun h => h6 ⟨by omega, h⟩), if_neg (fun h => h8 ⟨by omega, h⟩)]; exact ⟨rfl, by decide⟩
                        clear hz
                        go_wp2_with fail
                        exact ⟨rfl, rdPost_no HR9.out.1 HR9.out.2 ((G.out.ex0.drewN _))⟩
                · have HQE := hide hq
                  clear hq
                  go_wp2_with fail
                  refine wp_region_held_drew (S := fun w' => Blk w' T #[.string nm, u] 25) (by kernel_rfl) (by exact XT.out) (fun hHeld => ?_)
                  refine wpAnyH_take (i := 0) (v := ?_) rfl (by kernel_rfl) (by kernel_rfl) (by kernel_rfl) (fun _ _ _ h => h) (Or.inl ⟨by rfl, ?_⟩) (by assumption) ?_
                  rotate_left
                  · intro w' hSw
                    go_simp <;> with_reducible rfl
                  try simp only [Act.put, List.setIfInBounds_toArray, List.set_cons_zero, List.set_cons_succ, List.getElem_toArray, List.getElem_cons_succ, List.getElem_cons_zero]
                  refine wpAnyH_take (i := 2) (v := ?_) rfl (by kernel_rfl) (by kernel_rfl) (by kernel_rfl) (fun _ _ _ h => h) (Or.inl ⟨by rfl, ?_⟩) (by assumption) ?_
                  rotate_left
                  · intro w' hSw
                    go_simp <;> with_reducible rfl
                  try simp only [Act.put, List.setIfInBounds_toArray, List.set_cons_zero, List.set_cons_succ, List.getElem_toArray, List.getElem_cons_succ, List.getElem_cons_zero]
                  refine wpAnyH_take (i := 1) (v := ?_) rfl (by kernel_rfl) (by kernel_rfl) (by kernel_rfl) (fun _ _ _ h => h) (Or.inl ⟨by rfl, ?_⟩) (by assumption) ?_
                  rotate_left
                  · intro w' hSw
                    have k1 : w'.cell? ⟨T, 1, none⟩ = some u := hSw.cell 1
                    go_simp <;> with_reducible rfl
                  try simp only [Act.put, List.setIfInBounds_toArray, List.set_cons_zero, List.set_cons_succ, List.getElem_toArray, List.getElem_cons_succ, List.getElem_cons_zero]
                  refine wpAnyH_ready (rs := [3]) (by kernel_rfl) (by simp) ?_
                  refine AllReadyH.cons rfl (fun K hK => ?_) AllReadyH.nil
                  go_simp
                  go_at_call 76
                  refine (IHQ.out wr.drew (by omega) hk2 (by omega) (by exact XB.out)).mono ?_
                  intro e w5 hp
                  unfold RdPost at hp
                  rw [if_neg HQE.out] at hp
                  obtain ⟨rfl, he5⟩ := hp
                  exact ⟨rfl, rdPost_no (by rw [HQ.out, if_pos HQE.out]) HQE.out (XE.out.trans (((Ex.refl B wr).drew).trans he5))⟩
          · rw [if_neg h4] at hp
            obtain ⟨rfl, n3, rfl⟩ := hp
            have HR0 : Hid (r = ⟨0, ⟨nm, []⟩, j, k + 1⟩) := by unfold Hid; rw [HRD.out, if_neg HH.out.1, if_neg HH.out.2, if_neg h3, if_neg h4]
            have t0 : w2.cell? ⟨T, 0, none⟩ = some (.string nm) := T2.out.cell 0
            have t1 : w2.cell? ⟨T, 1, none⟩ = some (.slice none 0 0) := T2.out.cell 1
            have r0 : w2.cell? ⟨w.heap.size, 0, none⟩ = some (.string ⟨#[]⟩) := R2.out.cell 0
            have r1 : w2.cell? ⟨w.heap.size, 1, none⟩ = some (.slice none 0 0) := R2.out.cell 1
            have rf := R2.out.frozen
            go_wp2_with fail
            refine bodyPost_ret (v := .agg #[.string nm, .slice none 0 0]) (by simp [results, Try.results76, go_sem, World.cell?_setCell_same, World.cell?_setCell_other, r0, r1]) rfl ?_
            exact rdPost_yes (args := []) HR0.out ⟨by simp, Or.inl rfl⟩ (by exact (Blk.setOther (Blk.setOther (X2.out.drewN n3) _ _ (by omega)) _ _ (by omega))) (((E2.out.drewN n3).setNew (Nat.le_refl _) _ _).setNew (Nat.le_refl _) _ _)
#print axioms rterm_any
end Go.Proofs.Ytpjdkdebjkpmmaj

/- Walks: reading a text, and what is thrown is caught. -/
namespace Go.Proofs.Ytpjdkdebjkpmmaj
open Go.RowKit
set_option linter.unusedSimpArgs false
set_option linter.unusedVariables false
set_option maxRecDepth 8000

theorem assertErrno (v : Value) (xT : TypeId) (w : World) : (Instr.typeAssert (.iface 33 v) xT 33 false).run Try.prog w = .ok v w := by
  simp [Instr.typeAssert, run_underlying Try.underlying33, go_sem, Result.andThen]

theorem catch_panicking (Pt Pe : Nat) (z z0 : Int) (s0 : ByteArray) (u0 : Value) (w : World) (ht : Blk w Pt #[.string s0, u0] 25) (he : Blk w Pe #[.int .i64 z0] 33) :
    CallsD Try.prog 75 #[.pointer (some ⟨Pt, 0, none⟩), .pointer (some ⟨Pe, 0, none⟩)] (.panicking [{ v := .iface 33 (.int .i64 z), recovered := false }]) w fun e u' w' =>
      e = .returned (.tuple #[]) ∧ u' = .panicking [{ v := .iface 33 (.int .i64 z), recovered := true }] ∧ w' = (((w.setCell ⟨Pt, 0, none⟩ (.string ⟨#[]⟩)).setCell ⟨Pt, 1, none⟩ (.slice none 0 0)).setCell ⟨Pe, 0, none⟩ (.int .i64 z)).drew := by
  refine callsD_of_wpS Try.func75 rfl fun c₀ cs hu => ?_
  apply wpS_seq
  apply wpS_region
  simp [wpOpsS, go_sem, recoverD, hu, Try.ntmps75, Exit.thenS]
  apply wpS_seq
  apply wpS_region
  simp [wpOpsS, go_sem, Exit.thenS, Array.replicate]
  refine wpS_cond (t := true) (by simp [Act.eval, Array.replicate]) ?_
  simp only [if_true]
  refine wpS_of_wp ?_
  have t0 : w.cell? ⟨Pt, 0, none⟩ = some (.string s0) := ht.cell 0
  have t1 : w.cell? ⟨Pt, 1, none⟩ = some u0 := ht.cell 1
  have tf := ht.frozen
  have e0 : w.cell? ⟨Pe, 0, none⟩ = some (.int .i64 z0) := he.cell 0
  have ef := he.frozen
  have hne : ¬ Pt = Pe := fun h => by
    subst h
    have h1 := t0
    rw [e0] at h1
    cases h1
  have hne2 : ¬ Pe = Pt := fun h => hne h.symm
  have hta := assertErrno (.int .i64 z)
  go_region
  exact ⟨rfl, _, rfl, .tuple #[], by simp [results, Try.results75, go_sem], rfl, rfl, rfl⟩

theorem catch_idle (Pt Pe : Nat) (w : World) :
    CallsD Try.prog 75 #[.pointer (some ⟨Pt, 0, none⟩), .pointer (some ⟨Pe, 0, none⟩)] .returning w fun e u' w' => e = .returned (.tuple #[]) ∧ u' = .returning ∧ w' = w := by
  refine callsD_of_wpS Try.func75 rfl fun c₀ cs hu => ?_
  apply wpS_seq
  apply wpS_region
  simp [wpOpsS, go_sem, recoverD, hu, Try.ntmps75, Exit.thenS]
  apply wpS_seq
  apply wpS_region
  simp [wpOpsS, go_sem, Exit.thenS, Array.replicate]
  refine wpS_cond (t := false) (by simp [Act.eval, Array.replicate]) ?_
  simp only [Bool.false_eq_true, if_false]
  refine wpS_of_wp (wp_skip ?_)
  cases c₀
  simp_all [bodyPostS, results, Try.results75]

/-- What reading the whole text gives. -/
def rdAll (s : ByteArray) : Rd :=
  if 4000 < s.size then noRd 3
  else if (rd s (2 * s.size + 1) none 0 0).err ≠ 0 then noRd (rd s (2 * s.size + 1) none 0 0).err
  else if (rd s (2 * s.size + 1) none 0 0).pos = s.size then rd s (2 * s.size + 1) none 0 0
  else noRd 12

def ParsePost (w : World) (r : Rd) (e : Ending) (w' : World) : Prop :=
  ∃ v, e = .returned (.tuple #[v, .int .i64 r.err]) ∧ (r.err = 0 → TV w' (fun b => w.heap.size ≤ b) v r.t) ∧ (r.err ≠ 0 → v = .agg #[.string ⟨#[]⟩, .slice none 0 0]) ∧ Below w.heap.size w w'

theorem parse_no {w w' : World} {r : Rd} {z : Int} (h : r = noRd z) (hz : z ≠ 0) (hb : Below w.heap.size w w') : ParsePost w r (.returned (.tuple #[.agg #[.string ⟨#[]⟩, .slice none 0 0], .int .i64 z])) w' := by
  subst h
  exact ⟨_, rfl, fun h => absurd h hz, fun _ => rfl, hb⟩

theorem Ex.below {w w0 w' : World} {B : Nat} (h : Ex B w0 w') (h0 : Below w.heap.size w w0) (hB : w.heap.size ≤ B) : Below w.heap.size w w' :=
  ⟨h.os.trans h0.os, h.tape.trans h0.tape, h.output.trans h0.output, Nat.le_trans h0.size h.size, fun k hk => (h.block k (Nat.lt_of_lt_of_le hk h0.size) (by omega)).trans (h0.block k hk)⟩

set_option maxHeartbeats 1000000 in
theorem parse_any (s : ByteArray) (w : World) :
    Calls Try.prog 48 #[.string s] w fun e w' => ParsePost w (rdAll s) e w' := by
  have hmf : ∀ (fn : Fn) (first cap : Array Value) (w : World), (Instr.makeFunc fn first cap).run Try.prog w = .ok (.func fn first cap) w := fun _ _ _ _ => rfl
  have HR : Hid (rdAll s = rdAll s) := rfl
  unfold rdAll at HR
  generalize hr : rdAll s = r at *
  by_cases hs : 4000 < s.size
  · have HR0 : Hid (r = noRd 3) := by unfold Hid; rw [← hr]; unfold rdAll; rw [if_pos hs]
    clear hr HR
    go_enter_defers Try.func48, Try.ntmps48
    go_wp2_with fail
    have PT : Blk ((w.alloc (.cells #[.string ⟨#[]⟩, .slice none 0 0] 25)).alloc (.cells #[.int .i64 0] 33)) w.heap.size #[.string ⟨#[]⟩, .slice none 0 0] 25 := (Blk.new w _ _).alloc _
    have PE : Blk ((w.alloc (.cells #[.string ⟨#[]⟩, .slice none 0 0] 25)).alloc (.cells #[.int .i64 0] 33)) (w.heap.size + 1) #[.int .i64 0] 33 := by
      have h := Blk.new (w.alloc (.cells #[.string ⟨#[]⟩, .slice none 0 0] 25)) #[.int .i64 0] 33
      simpa using h
    have PB : Below w.heap.size w ((w.alloc (.cells #[.string ⟨#[]⟩, .slice none 0 0] 25)).alloc (.cells #[.int .i64 0] 33)) := ((Below.refl _ _).alloc (Nat.le_refl _) _).alloc (by simp) _
    generalize ((w.alloc (.cells #[.string ⟨#[]⟩, .slice none 0 0] 25)).alloc (.cells #[.int .i64 0] 33)) = w2 at *
    refine leaves_cons (f := 75) (args := #[.pointer (some ⟨w.heap.size, 0, none⟩), .pointer (some ⟨w.heap.size + 1, 0, none⟩)]) (by simp) (by simp [go_sem]) ?_
    refine (catch_panicking w.heap.size (w.heap.size + 1) 3 0 _ _ w2 PT PE).mono ?_
    rintro e u' w'' ⟨rfl, rfl, rfl⟩
    have q0 := (((PT.set 0 (.string ⟨#[]⟩)).set 1 (.slice none 0 0)).setOther (b' := w.heap.size + 1) 0 (.int .i64 3) (by omega)).cell 0
    have q1 := (((PT.set 0 (.string ⟨#[]⟩)).set 1 (.slice none 0 0)).setOther (b' := w.heap.size + 1) 0 (.int .i64 3) (by omega)).cell 1
    have q2 := (((PE.setOther (b' := w.heap.size) 0 (.string ⟨#[]⟩) (by omega)).setOther (b' := w.heap.size) 1 (.slice none 0 0) (by omega)).set 0 (.int .i64 3)).cell 0
    simp at q0 q1 q2
    simp [Leaves, settle, results, Try.results48, go_sem, q0, q1, q2]
    exact parse_no HR0.out (by decide) ((((PB.setCell (by simp) _).setCell (by simp) _).setCell (by simp) _).drew)
  · have HR0 : Hid (r = if (rd s (2 * s.size + 1) none 0 0).err ≠ 0 then noRd (rd s (2 * s.size + 1) none 0 0).err else if (rd s (2 * s.size + 1) none 0 0).pos = s.size then rd s (2 * s.size + 1) none 0 0 else noRd 12) := by unfold Hid; rw [← hr]; unfold rdAll; rw [if_neg hs]
    have IHQ := hide (fun w' hw => rterm_any (w.heap.size + 1 + 1) s (by omega) (2 * s.size + 1) 0 0 w' (by omega) (by omega) (by omega) hw)
    have HPOS := hide (rd_pos s (2 * s.size + 1) none 0 0)
    generalize rd s (2 * s.size + 1) none 0 0 = q at *
    clear hr HR
    go_enter_defers Try.func48, Try.ntmps48
    go_wp2_with fail
    have PT := hide (show Blk (((w.alloc (.cells #[.string ⟨#[]⟩, .slice none 0 0] 25)).alloc (.cells #[.int .i64 0] 33)).alloc (.cells #[.string s, .int .i64 0, .int .i64 0] 115)) w.heap.size #[.string ⟨#[]⟩, .slice none 0 0] 25 from ((Blk.new w _ _).alloc _).alloc _)
    have PE : Hid (Blk (((w.alloc (.cells #[.string ⟨#[]⟩, .slice none 0 0] 25)).alloc (.cells #[.int .i64 0] 33)).alloc (.cells #[.string s, .int .i64 0, .int .i64 0] 115)) (w.heap.size + 1) #[.int .i64 0] 33) := by
      have h := (Blk.new (w.alloc (.cells #[.string ⟨#[]⟩, .slice none 0 0] 25)) #[.int .i64 0] 33).alloc (.cells #[.string s, .int .i64 0, .int .i64 0] 115)
      unfold Hid
      simpa using h
    have PX : Hid (Bx (((w.alloc (.cells #[.string ⟨#[]⟩, .slice none 0 0] 25)).alloc (.cells #[.int .i64 0] 33)).alloc (.cells #[.string s, .int .i64 0, .int .i64 0] 115)) (w.heap.size + 1 + 1) s 0 0) := by
      have h := Blk.new ((w.alloc (.cells #[.string ⟨#[]⟩, .slice none 0 0] 25)).alloc (.cells #[.int .i64 0] 33)) #[.string s, .int .i64 0, .int .i64 0] 115
      unfold Hid Bx
      simpa using h
    have PB := hide (show Below w.heap.size w (((w.alloc (.cells #[.string ⟨#[]⟩, .slice none 0 0] 25)).alloc (.cells #[.int .i64 0] 33)).alloc (.cells #[.string s, .int .i64 0, .int .i64 0] 115)) from (((Below.refl _ _).alloc (Nat.le_refl _) _).alloc (by simp) _).alloc (by simp; omega) _)
    generalize (((w.alloc (.cells #[.string ⟨#[]⟩, .slice none 0 0] 25)).alloc (.cells #[.int .i64 0] 33)).alloc (.cells #[.string s, .int .i64 0, .int .i64 0] 115)) = w3 at *
    refine (IHQ.out w3 PX.out).mono ?_
    intro e w5 hp
    unfold RdPost at hp
    by_cases hq : q.err = 0
    · rw [if_pos hq] at hp
      obtain ⟨a, c, rfl, hs5, hx5, he5⟩ := hp
      have HQE := hide hq
      have HP9 := hide (HPOS.out hq (by omega) (fun h => by cases h))
      have T5 := hide (PT.out.ex he5 (by omega))
      have E5 := hide (PE.out.ex he5 (by omega))
      have B5 := hide (he5.below PB.out (by omega))
      have X5 := hide hx5
      have S5 := hide (hs5.mono (Y := fun b => w.heap.size + 3 ≤ b) fun b hb _ => by have := PX.out.lt; omega)
      clear hq hs5 hx5 he5
      have t0 : w5.cell? ⟨w.heap.size, 0, none⟩ = some (.string ⟨#[]⟩) := T5.out.cell 0
      have t1 : w5.cell? ⟨w.heap.size, 1, none⟩ = some (.slice none 0 0) := T5.out.cell 1
      have tf := T5.out.frozen
      go_wp2_with fail
      have T6 := hide ((T5.out.set 0 (.string q.t.name)).set 1 (.slice a q.t.args.length c))
      have E6 := hide ((E5.out.setOther (b' := w.heap.size) 0 (.string q.t.name) (by omega)).setOther (b' := w.heap.size) 1 (.slice a q.t.args.length c) (by omega))
      have X6 : Hid (Bx ((w5.setCell ⟨w.heap.size, 0, none⟩ (.string q.t.name)).setCell ⟨w.heap.size, 1, none⟩ (.slice a q.t.args.length c)) (w.heap.size + 1 + 1) s q.pos q.k) := Blk.setOther (Blk.setOther X5.out _ _ (by omega)) _ _ (by omega)
      have B6 := hide ((B5.out.setCell (p := ⟨w.heap.size, 0, none⟩) (by simp) (.string q.t.name)).setCell (p := ⟨w.heap.size, 1, none⟩) (by simp) (.slice a q.t.args.length c))
      have S6 : Hid (Sl ((w5.setCell ⟨w.heap.size, 0, none⟩ (.string q.t.name)).setCell ⟨w.heap.size, 1, none⟩ (.slice a q.t.args.length c)) (fun b => w.heap.size + 3 ≤ b) a q.t.args) := S5.out.kept fun b hb => by rw [Below.heap_setCell _ _ _ _ (by simp; omega), Below.heap_setCell _ _ _ _ (by simp; omega)]
      clear t0 t1 tf
      generalize ((w5.setCell ⟨w.heap.size, 0, none⟩ (.string q.t.name)).setCell ⟨w.heap.size, 1, none⟩ (.slice a q.t.args.length c)) = w6 at *
      clear T5 E5 X5 B5 S5
      by_cases hps : q.pos = s.size
      · refine (atEnd_yes (w.heap.size + 1 + 1) q.pos q.k s hps _ X6.out).mono ?_
        rintro e w7 ⟨rfl, n7, rfl⟩
        have T7 : Hid (Blk (w6.drewN n7) w.heap.size #[.string q.t.name, .slice a q.t.args.length c] 25) := T6.out
        have E7 : Hid (Blk (w6.drewN n7) (w.heap.size + 1) #[.int .i64 0] 33) := E6.out
        have B7 : Hid (Below w.heap.size w (w6.drewN n7)) := below_drewN B6.out n7
        have S7 : Hid (Sl (w6.drewN n7) (fun b => w.heap.size + 3 ≤ b) a q.t.args) := S6.out.kept fun b hb => rfl
        generalize w6.drewN n7 = w7 at *
        have t0 : w7.cell? ⟨w.heap.size, 0, none⟩ = some (.string q.t.name) := T7.out.cell 0
        have t1 : w7.cell? ⟨w.heap.size, 1, none⟩ = some (.slice a q.t.args.length c) := T7.out.cell 1
        have tf := T7.out.frozen
        have e0 : w7.cell? ⟨w.heap.size + 1, 0, none⟩ = some (.int .i64 0) := E7.out.cell 0
        have ef := E7.out.frozen
        have HR9 : Hid (r = q) := by unfold Hid; rw [HR0.out, if_neg (by rw [HQE.out]; simp), if_pos hps]
        go_wp2_with fail
        refine leaves_cons (f := 75) (args := #[.pointer (some ⟨w.heap.size, 0, none⟩), .pointer (some ⟨w.heap.size + 1, 0, none⟩)]) (by simp) (by simp [go_sem]) ?_
        refine (catch_idle w.heap.size (w.heap.size + 1) _).mono ?_
        rintro e u' w'' ⟨rfl, rfl, rfl⟩
        have PT5 := T7.out
        have PE5 := E7.out
        have q0 := (((PT5.set 0 (.string q.t.name)).set 1 (.slice a q.t.args.length c)).setOther (b' := w.heap.size + 1) 0 (.int .i64 0) (by omega)).cell 0
        have q1 := (((PT5.set 0 (.string q.t.name)).set 1 (.slice a q.t.args.length c)).setOther (b' := w.heap.size + 1) 0 (.int .i64 0) (by omega)).cell 1
        have q2 := (((PE5.setOther (b' := w.heap.size) 0 (.string q.t.name) (by omega)).setOther (b' := w.heap.size) 1 (.slice a q.t.args.length c) (by omega)).set 0 (.int .i64 0)).cell 0
        simp at q0 q1 q2
        simp [Leaves, settle, results, Try.results48, go_sem, q0, q1, q2]
        refine ⟨.agg #[.string q.t.name, .slice a q.t.args.length c], by rw [HR9.out, HQE.out], fun _ => ?_, fun h => absurd (by rw [HR9.out]; exact HQE.out) h, ((B7.out.setCell (by simp) _).setCell (by simp) _).setCell (by simp) _⟩
        rw [HR9.out]
        exact ⟨a, c, rfl, (S7.out.kept fun b hb => by rw [Below.heap_setCell _ _ _ _ (by simp; omega), Below.heap_setCell _ _ _ _ (by simp; omega), Below.heap_setCell _ _ _ _ (by simp; omega)]).mono fun b hb _ => by omega⟩
      · refine (atEnd_no (w.heap.size + 1 + 1) q.pos q.k s hps _ X6.out).mono ?_
        rintro e w7 ⟨rfl, n7, rfl⟩
        have PT5 : Blk (w6.drewN n7) w.heap.size #[.string q.t.name, .slice a q.t.args.length c] 25 := T6.out
        have PE5 : Blk (w6.drewN n7) (w.heap.size + 1) #[.int .i64 0] 33 := E6.out
        have PB5 : Below w.heap.size w (w6.drewN n7) := below_drewN B6.out n7
        generalize w6.drewN n7 = w7 at *
        go_wp2_with fail
        refine leaves_cons (f := 75) (args := #[.pointer (some ⟨w.heap.size, 0, none⟩), .pointer (some ⟨w.heap.size + 1, 0, none⟩)]) (by simp) (by simp [go_sem]) ?_
        refine (catch_panicking w.heap.size (w.heap.size + 1) 12 0 q.t.name (.slice a q.t.args.length c) w7 PT5 PE5).mono ?_
        rintro e u' w'' ⟨rfl, rfl, rfl⟩
        have q0 := (((PT5.set 0 (.string ⟨#[]⟩)).set 1 (.slice none 0 0)).setOther (b' := w.heap.size + 1) 0 (.int .i64 12) (by omega)).cell 0
        have q1 := (((PT5.set 0 (.string ⟨#[]⟩)).set 1 (.slice none 0 0)).setOther (b' := w.heap.size + 1) 0 (.int .i64 12) (by omega)).cell 1
        have q2 := (((PE5.setOther (b' := w.heap.size) 0 (.string ⟨#[]⟩) (by omega)).setOther (b' := w.heap.size) 1 (.slice none 0 0) (by omega)).set 0 (.int .i64 12)).cell 0
        simp at q0 q1 q2
        simp [Leaves, settle, results, Try.results48, go_sem, q0, q1, q2]
        exact parse_no (by rw [HR0.out, if_neg (by rw [HQE.out]; simp), if_neg hps]) (by decide) ((((PB5.setCell (by simp) _).setCell (by simp) _).setCell (by simp) _).drew)
    · rw [if_neg hq] at hp
      obtain ⟨rfl, he5⟩ := hp
      have PT5 := PT.out.ex he5 (by omega)
      have PE5 := PE.out.ex he5 (by omega)
      have PB5 := he5.below PB.out (by omega)
      refine leaves_cons (f := 75) (args := #[.pointer (some ⟨w.heap.size, 0, none⟩), .pointer (some ⟨w.heap.size + 1, 0, none⟩)]) (by simp) (by simp [go_sem]) ?_
      refine (catch_panicking w.heap.size (w.heap.size + 1) q.err 0 _ _ w5 PT5 PE5).mono ?_
      rintro e u' w'' ⟨rfl, rfl, rfl⟩
      have q0 := (((PT5.set 0 (.string ⟨#[]⟩)).set 1 (.slice none 0 0)).setOther (b' := w.heap.size + 1) 0 (.int .i64 q.err) (by omega)).cell 0
      have q1 := (((PT5.set 0 (.string ⟨#[]⟩)).set 1 (.slice none 0 0)).setOther (b' := w.heap.size + 1) 0 (.int .i64 q.err) (by omega)).cell 1
      have q2 := (((PE5.setOther (b' := w.heap.size) 0 (.string ⟨#[]⟩) (by omega)).setOther (b' := w.heap.size) 1 (.slice none 0 0) (by omega)).set 0 (.int .i64 q.err)).cell 0
      simp at q0 q1 q2
      simp [Leaves, settle, results, Try.results48, go_sem, q0, q1, q2]
      exact parse_no (by rw [HR0.out, if_pos hq]) hq ((((PB5.setCell (by simp) _).setCell (by simp) _).setCell (by simp) _).drew)
#print axioms parse_any
end Go.Proofs.Ytpjdkdebjkpmmaj

/- Walks: the fact that the laws at the top ask besides. -/
namespace Go.Proofs.Ytpjdkdebjkpmmaj
open Go.RowKit
set_option linter.unusedSimpArgs false
set_option linter.unusedVariables false
set_option maxRecDepth 8000

def fT1 : Tm := ⟨⟨#[102]⟩, [⟨⟨#[97]⟩, []⟩, ⟨⟨#[88]⟩, []⟩]⟩
def fT2 : Tm := ⟨⟨#[102]⟩, [⟨⟨#[89]⟩, []⟩, ⟨⟨#[98]⟩, []⟩]⟩
theorem fact_run : uRun false 4 [] [⟨fT1, fT2⟩] = some (0, [⟨⟨#[88]⟩, ⟨⟨#[98]⟩, []⟩⟩, ⟨⟨#[89]⟩, ⟨⟨#[97]⟩, []⟩⟩]) := by
  have v1 : varB ⟨#[102]⟩ = false := by decide
  have v2 : varB ⟨#[97]⟩ = false := by decide
  have v3 : varB ⟨#[98]⟩ = false := by decide
  have v4 : varB ⟨#[88]⟩ = true := by decide
  have v5 : varB ⟨#[89]⟩ = true := by decide
  have l1 : ltB ⟨#[89]⟩ ⟨#[88]⟩ = false := by unfold ltB; rw [ByteArray.toList_eq, ByteArray.toList_eq]; simp [Op.bytesLess]
  have l2 : ltB ⟨#[88]⟩ ⟨#[89]⟩ = true := by unfold ltB; rw [ByteArray.toList_eq, ByteArray.toList_eq]; simp [Op.bytesLess]
  have w1 : varsP [] [⟨⟨#[97]⟩, []⟩] = [] := by decide
  have w2 : varsP [] [⟨⟨#[98]⟩, []⟩] = [] := by decide
  simp [uRun, uNext, uPair, uBind, onT, onL, onN, fT1, fT2, zipP, sizeL, forT, inB, preL, srtB, insB, putB, v1, v2, v3, v4, v5, l1, l2, w1, w2]
theorem fact_may : pairsE [⟨fT1, fT2⟩] = 0 := by
  have v1 : varB ⟨#[102]⟩ = false := by decide
  have n1 : nameB ⟨#[102]⟩ = true := by decide
  have n2 : nameB ⟨#[97]⟩ = true := by decide
  have n3 : nameB ⟨#[98]⟩ = true := by decide
  have n4 : nameB ⟨#[88]⟩ = true := by decide
  have n5 : nameB ⟨#[89]⟩ = true := by decide
  simp [pairsE, pmT, twoE, mayE, fT1, fT2, sizeL, errL, v1, n1, n2, n3, n4, n5]
theorem fact_rd1 : (rdAll ⟨#[102, 40, 97, 44, 88, 41]⟩).err = 0 ∧ (rdAll ⟨#[102, 40, 97, 44, 88, 41]⟩).t = fT1 := by
  constructor <;> kernel_rfl
theorem fact_rd2 : (rdAll ⟨#[102, 40, 89, 44, 98, 41]⟩).err = 0 ∧ (rdAll ⟨#[102, 40, 89, 44, 98, 41]⟩).t = fT2 := by
  constructor <;> kernel_rfl
theorem qv_one {w : World} {B T : Nat} {l r : Tm} {a1 a2 : Option Addr} {c1 c2 : Nat} (h : Blk w B #[.string l.name, .slice a1 l.args.length c1, .string r.name, .slice a2 r.args.length c2] T) (h1 : Sl w (fun _ => True) a1 l.args) (h2 : Sl w (fun _ => True) a2 r.args) : QV w (fun _ => True) (.slice (some ⟨B, 0, none⟩) 1 1) [⟨l, r⟩] := by
  refine ⟨some ⟨B, 0, none⟩, 1, rfl, by simp, Or.inr ⟨B, 0, rfl, trivial, fun i hi => ?_⟩⟩
  have e : i = 0 := by simp at hi; omega
  subst e
  exact ⟨a1, c1, a2, c2, h.cell 0, h.cell 1, h.cell 2, h.cell 3, h1, h2⟩

set_option maxHeartbeats 3000000 in
theorem fact_any (w : World) : Calls Try.prog 21 #[] w fun e w' => e = .returned (.bool true) ∧ Below w.heap.size w w' := by
  have PA : ∀ w0, Calls Try.prog 48 #[.string ⟨#[102, 40, 97, 44, 88, 41]⟩] w0 fun e w' => ∃ a c, e = .returned (.tuple #[.agg #[.string ⟨#[102]⟩, .slice a 2 c], .int .i64 0]) ∧ Sl w' (fun _ => True) a fT1.args ∧ Below w0.heap.size w0 w' := fun w0 => by
    refine (parse_any _ w0).mono ?_
    rintro e w1 ⟨v, rfl, h1, _, hb⟩
    obtain ⟨a, c, rfl, hs⟩ := h1 fact_rd1.1
    rw [fact_rd1.1]
    rw [fact_rd1.2] at hs ⊢
    exact ⟨a, c, rfl, hs.mono fun _ _ _ => trivial, hb⟩
  have PB : ∀ w0, Calls Try.prog 48 #[.string ⟨#[102, 40, 89, 44, 98, 41]⟩] w0 fun e w' => ∃ a c, e = .returned (.tuple #[.agg #[.string ⟨#[102]⟩, .slice a 2 c], .int .i64 0]) ∧ Sl w' (fun _ => True) a fT2.args ∧ Below w0.heap.size w0 w' := fun w0 => by
    refine (parse_any _ w0).mono ?_
    rintro e w1 ⟨v, rfl, h1, _, hb⟩
    obtain ⟨a, c, rfl, hs⟩ := h1 fact_rd2.1
    rw [fact_rd2.1]
    rw [fact_rd2.2] at hs ⊢
    exact ⟨a, c, rfl, hs.mono fun _ _ _ => trivial, hb⟩
  have HPA := hide PA
  have HPB := hide PB
  clear PA PB
  go_enter Try.func21, Try.ntmps21
  go_wp2_with fail
  refine (HPA.out w).mono ?_
  rintro e w1 ⟨a1, c1, rfl, hs1, hb1⟩
  have HS1 := hide hs1
  have HB1 := hide hb1
  clear hs1 hb1
  have hbA : Below w1.heap.size w1 (w1.alloc (.cells #[.string ⟨#[102]⟩, .slice a1 2 c1] 25)) := (Below.refl _ _).alloc (Nat.le_refl _) _
  have A2 := hide (Blk.new w1 #[.string ⟨#[102]⟩, .slice a1 2 c1] 25)
  have S2 := hide (HS1.out.later hbA)
  have HB2 := hide (HB1.out.trans (hbA.mono HB1.out.size))
  clear hbA
  go_wp2_with fail
  generalize w1.alloc (.cells #[.string ⟨#[102]⟩, .slice a1 2 c1] 25) = w2 at *
  generalize w1.heap.size = A at *
  refine (HPB.out w2).mono ?_
  rintro e w3 ⟨a3, c3, rfl, hs3, hb3⟩
  have hbA : Below w3.heap.size w3 (w3.alloc (.cells #[.string ⟨#[102]⟩, .slice a3 2 c3] 25)) := (Below.refl _ _).alloc (Nat.le_refl _) _
  have hb4 := hb3.trans (hbA.mono hb3.size)
  have B4 := hide (Blk.new w3 #[.string ⟨#[102]⟩, .slice a3 2 c3] 25)
  have A4 := hide (A2.out.below hb4 A2.out.lt)
  have S4 := hide (S2.out.later hb4)
  have T4 := hide (hs3.later hbA)
  have HB4 := hide (HB2.out.trans (hb4.mono HB2.out.size))
  clear hbA hb3 hs3 hb4
  have p0 := A4.out.cell 0
  have p1 := A4.out.cell 1
  have q0 := B4.out.cell 0
  have q1 := B4.out.cell 1
  have hbQ : Below (w3.alloc (.cells #[.string ⟨#[102]⟩, .slice a3 2 c3] 25)).heap.size (w3.alloc (.cells #[.string ⟨#[102]⟩, .slice a3 2 c3] 25)) ((w3.alloc (.cells #[.string ⟨#[102]⟩, .slice a3 2 c3] 25)).alloc (.cells #[.string ⟨#[102]⟩, .slice a1 2 c1, .string ⟨#[102]⟩, .slice a3 2 c3] 49)) := (Below.refl _ _).alloc (Nat.le_refl _) _
  have hq : QV ((w3.alloc (.cells #[.string ⟨#[102]⟩, .slice a3 2 c3] 25)).alloc (.cells #[.string ⟨#[102]⟩, .slice a1 2 c1, .string ⟨#[102]⟩, .slice a3 2 c3] 49)) (fun _ => True) (.slice (some ⟨w3.heap.size + 1, 0, none⟩) 1 1) [⟨fT1, fT2⟩] := by
    have h1 := Blk.new (w3.alloc (.cells #[.string ⟨#[102]⟩, .slice a3 2 c3] 25)) #[.string ⟨#[102]⟩, .slice a1 2 c1, .string ⟨#[102]⟩, .slice a3 2 c3] 49
    rw [World.size_alloc] at h1
    exact qv_one (l := fT1) (r := fT2) h1 (S4.out.later hbQ) (T4.out.later hbQ)
  have HUN := hide (unify_some [⟨fT1, fT2⟩] fact_may _ 4 fact_run (by simp [grtB, sizeL]) rfl _ _ (fun _ => True) hq)
  have HBQ := hide (HB4.out.trans (hbQ.mono HB4.out.size))
  clear hq hbQ
  go_wp2_with fail
  refine HUN.out.mono ?_
  rintro e w5 ⟨v5, rfl, hv5, hb5⟩
  have HB5 := hide (HBQ.out.trans (hb5.mono HBQ.out.size))
  clear hb5
  obtain ⟨a5, c5, rfl, hl5, h5⟩ := hv5
  rcases h5 with h5 | ⟨b5, o5, rfl, _, hc5⟩
  · cases h5
  · obtain ⟨g0, g1, _, _, g2, _⟩ := hc5 0 (by simp)
    obtain ⟨f0, f1, _, _, f2, _⟩ := hc5 1 (by simp)
    simp only [Nat.zero_mul, Nat.add_zero, Nat.one_mul, List.getElem_cons_zero, List.getElem_cons_succ] at g0 g1 f0 f1
    clear hc5
    go_wp2_with fail
    refine bodyPost_ret (v := .bool true) (by simp [results, Try.results21, go_sem]) rfl ?_
    exact ⟨rfl, HB5.out⟩
#print axioms fact_any
end Go.Proofs.Ytpjdkdebjkpmmaj

/- Walks: the law on terms that cannot be made one: it answers true. -/
namespace Go.Proofs.Ytpjdkdebjkpmmaj
open Go.RowKit
set_option linter.unusedSimpArgs false
set_option linter.unusedVariables false
set_option maxRecDepth 8000

def PairMade (w : World) (e : Ending) (w' : World) : Prop :=
  ∃ a c p q, e = .returned (.slice a 1 c) ∧ QV w' (fun _ => True) (.slice a 1 c) [⟨p, q⟩] ∧ (okV 3 [p] ∧ Ar2 [p] ∧ sizeL [p] ≤ 17) ∧ (okV 3 [q] ∧ Ar2 [q] ∧ sizeL [q] ≤ 17) ∧ Below w.heap.size w w'
theorem onAll_two (ls : List Bd) (t : Tm) (u v : Value) (w : World) (X : Nat → Prop) (hu : BV w X u ls) (hv : TV w X v t) (hsm : sizeL [t] ≤ 1000000) :
    Calls Try.prog 10 #[u, v] w fun e w' => ∃ (t' : Tm) (a : Option Addr) (c : Nat) (ok : Bool), e = .returned (.tuple #[.agg #[.string t'.name, .slice a t'.args.length c], .bool ok]) ∧ Below w.heap.size w w' ∧ (ok = true → t' = onT ls t) ∧ Sl w' (fun _ => True) a t'.args := by
  refine (onAll_any ls t u v w X hu hv hsm).mono ?_
  rintro e w' ⟨hb, ⟨h1, rfl⟩ | ⟨h1, a, c, rfl, hs⟩⟩
  · exact ⟨⟨⟨#[]⟩, []⟩, none, 0, false, rfl, hb, by simp, ⟨by simp, Or.inl rfl⟩⟩
  · exact ⟨onT ls t, a, c, true, rfl, hb, fun _ => rfl, hs.mono fun _ _ _ => trivial⟩
theorem mayE_small {t : Tm} (he : errL [t] = 0) (hs : sizeL [t] ≤ 200) : mayE t = 0 := by
  unfold mayE
  rw [if_neg (by omega)]
  exact he
theorem pairsE_one {p q : Tm} (h1 : errL [p] = 0) (h2 : errL [q] = 0) (z1 : sizeL [p] ≤ 17) (z2 : sizeL [q] ≤ 17) : pairsE [⟨p, q⟩] = 0 := by
  have m1 : mayE p = 0 := mayE_small h1 (by omega)
  have m2 : mayE q = 0 := mayE_small h2 (by omega)
  simp [pairsE, pmT, twoE, m1, m2]
theorem none_first {p q : Tm} (hp : okV 3 [p] ∧ Ar2 [p] ∧ sizeL [p] ≤ 17) (hq : okV 3 [q] ∧ Ar2 [q] ∧ sizeL [q] ≤ 17) :
    ∃ code : Int, (code = 0 ∨ ((code = 5 ∨ code = 6) ∧ ∀ s t : List Bd, (∀ d ∈ s, varB d.nm = true) → (∀ d ∈ t, varB d.nm = true) → onT t (onT s p) ≠ onT t (onT s q))) ∧
      ∀ (v : Value) (w : World) (X : Nat → Prop), QV w X v [⟨p, q⟩] → Calls Try.prog 19 #[v] w fun e w' => ∃ v3, e = .returned (.tuple #[v3, .int .i64 code]) ∧ Below w.heap.size w w' := by
  obtain ⟨p1, p2, p3⟩ := hp
  obtain ⟨q1, q2, q3⟩ := hq
  have hE := pairsE_one p1.1 q1.1 p3 q3
  have okb := ok_two p1 q1
  obtain ⟨g, R, hR⟩ := u_ends0 [⟨p, q⟩] okb.1
  have ar : Ar2 [p, q] := fun k hk => by
    rw [preL_cons2] at hk
    rcases List.mem_append.1 hk with hk | hk
    · exact p2 k hk
    · exact q2 k hk
  obtain ⟨k1, k2⟩ := none_pure (fun y hy ho => by
    obtain ⟨k, hk, rfl⟩ := ho
    exact okb.2 k hk hy) ar okb.1 p3 q3 hR
  refine ⟨R.1, k2, fun v w X hv => ?_⟩
  refine (unify_any [⟨p, q⟩] R g (fun _ => hR) v w X hv).mono ?_
  rintro e w' (⟨h, _⟩ | ⟨_, hb, ⟨h, _⟩ | ⟨_, _, rfl⟩ | ⟨_, h, v, rfl, _⟩⟩)
  · exact absurd hE h
  · rw [k1] at h; cases h
  · exact ⟨_, rfl, hb⟩
  · exact ⟨v, by rw [h], hb⟩
theorem none_second {a b : Tm} (no : ∀ t : List Bd, (∀ d ∈ t, varB d.nm = true) → onT t a ≠ onT t b) (v : Value) (w : World) (X : Nat → Prop) (hv : QV w X v [⟨a, b⟩]) :
    Calls Try.prog 19 #[v] w fun e w' => ∃ f : Int, f ≠ 0 ∧ e = .returned (.tuple #[.slice none 0 0, .int .i64 f]) ∧ Below w.heap.size w w' := by
  by_cases hE : pairsE [⟨a, b⟩] = 0
  · obtain ⟨g, R, hR⟩ := u_ends0 _ (pairs_start hE).1
    have h0 := none_next no hE hR
    refine (unify_any _ R g (fun _ => hR) v w X hv).mono ?_
    rintro e w' (⟨h, _⟩ | ⟨_, hb, ⟨h, rfl⟩ | ⟨_, h, rfl⟩ | ⟨_, h, _⟩⟩)
    · exact absurd hE h
    · exact ⟨8, by decide, rfl, hb⟩
    · exact ⟨R.1, h, rfl, hb⟩
    · exact absurd h h0
  · refine (unify_any _ (0, []) 0 (fun h => absurd h hE) v w X hv).mono ?_
    rintro e w' (⟨h, hb, rfl⟩ | ⟨h, _⟩)
    · exact ⟨_, h, rfl, hb⟩
    · exact absurd h hE

set_option maxHeartbeats 4000000 in
theorem topNone_any (FA : Hid (∀ w, Calls Try.prog 21 #[] w fun e w' => e = .returned (.bool true) ∧ Below w.heap.size w w')) (zs : List Int) (hr : ∀ z ∈ zs, Rng z) (y1 : Int) (hy1 : Rng y1) (u : Value) (w : World) (X : Nat → Prop) (hu : PV w X u zs)
    (PF : Hid (zs.length ≤ 256 → ∀ k : Nat, k < 9 → Calls Try.prog 22 #[u, .int .i64 1, .int .i64 (1 + (k : Int)), .int .i64 3] w fun e w' => PairMade w e w')) :
    Calls Try.prog 5 #[u, .int .i64 y1] w fun e w' => e = .returned (.bool true) ∧ Below w.heap.size w w' := by
  have HU := hide hu
  obtain ⟨a, c, rfl, hlc, hu2⟩ := hu
  clear hu2
  by_cases h256 : 256 < zs.length
  · go_enter Try.func5, Try.ntmps5
    go_wp2_with fail
    go_ret
    exact ⟨rfl, Below.refl _ _⟩
  · have PF2 : Hid (∀ k : Nat, k < 9 → Calls Try.prog 22 #[.slice a zs.length c, .int .i64 1, .int .i64 ((k : Int) + 1), .int .i64 3] w fun e w' => PairMade w e w') := fun k hk => by
      have h := PF.out (by omega) k hk
      rw [Int.add_comm] at h
      exact h
    go_enter Try.func5, Try.ntmps5
    go_wp2_with fail
    refine (pick_any _ 9 (by decide) (by decide) hy1 _).mono ?_
    rintro e w1 ⟨k1, rfl, hk1, rfl⟩
    go_wp2_with fail
    refine (by first | exact PF.out (by omega) k1 hk1 | exact PF2.out k1 hk1 : Calls Try.prog 22 _ _ _).mono ?_
    rintro e w2 ⟨a2, c2, p, q, rfl, hq2, hp, hq, hb2⟩
    obtain ⟨code, hcode, UN⟩ := none_first hp hq
    have HC := hide hcode
    have HUN := hide UN
    have HP := hide hp
    have HQq := hide hq
    have Q2 := hide hq2
    have B2 := hide hb2
    clear hcode UN hp hq hq2 hb2 PF PF2
    go_wp2_with fail
    refine (HUN.out _ w2 _ Q2.out).mono ?_
    rintro e w3 ⟨v3, rfl, hb3⟩
    have Q3 := hide (Q2.out.later hb3)
    have B3 := hide (B2.out.trans (hb3.mono B2.out.size))
    clear hb3 Q2 HUN
    go_wp2_with fail
    refine (bindsFrom_any 3 (by decide) (by decide) zs hr (by omega) 4 90 _ w3 X (HU.out.later B3.out) (by omega) (by simp [top])).mono ?_
    rintro e w4 ⟨v4, ls, rfl, hv4, hfour, hall, hb4⟩
    have hvl : ∀ d ∈ ls, varB d.nm = true := fun d hd => (show ∀ n ∈ four, varB n = true by unfold four; decide) _ (hfour.subset (List.mem_map.2 ⟨d, hd, rfl⟩))
    have HVL := hide hvl
    have V4 := hide (hv4.mono (Y := fun _ => True) fun _ _ _ => trivial)
    have Q4 := hide (Q3.out.later hb4)
    have B4 := hide (B3.out.trans (hb4.mono B3.out.size))
    clear hv4 hfour hall hb4 hvl Q3
    obtain ⟨b0, o0, x1, d1, x2, d2, e4, k0, k1', k2, k3, hl4, hr4⟩ := Q4.out.get 0 (by simp)
    subst e4
    simp only [Nat.zero_mul, Nat.add_zero, List.getElem_cons_zero] at k0 k1' k2 k3 hl4 hr4
    have HL4 := hide hl4
    have HR4 := hide hr4
    have hbl : b0 < w4.heap.size := cell_lt k0
    have HK2 := hide k2
    have HK3 := hide k3
    clear hl4 hr4 k2 k3
    go_wp2_with fail
    refine (onAll_two ls p _ (.agg #[.string p.name, .slice x1 p.args.length d1]) w4 (fun _ => True) V4.out ⟨_, _, rfl, HL4.out⟩ (by have := HP.out.2.2; omega)).mono ?_
    rintro e w5 ⟨t5, a5, c5, ok5, rfl, hb5, ht5, hs5⟩
    have hbA : Below w5.heap.size w5 (w5.alloc (.cells #[.string t5.name, .slice a5 t5.args.length c5] 25)) := (Below.refl _ _).alloc (Nat.le_refl _) _
    have hb6 := hb5.trans (hbA.mono hb5.size)
    have A6 := hide (Blk.new w5 #[.string t5.name, .slice a5 t5.args.length c5] 25)
    have S6 := hide (hs5.later hbA)
    have T6 := hide ht5
    have V6 := hide (V4.out.later hb6)
    have R6 := hide (HR4.out.later hb6)
    have B6 := hide (B4.out.trans (hb6.mono B4.out.size))
    have q2 := (hb6.cell (p := ⟨b0, o0 + 2, none⟩) hbl).trans HK2.out
    have q3 := (hb6.cell (p := ⟨b0, o0 + 2 + 1, none⟩) hbl).trans HK3.out
    clear hbA hb5 ht5 hs5 hb6 k0 k1'
    go_wp2_with fail
    generalize w5.alloc (.cells #[.string t5.name, .slice a5 t5.args.length c5] 25) = w6 at *
    generalize w5.heap.size = P6 at *
    refine (onAll_two ls q _ (.agg #[.string q.name, .slice x2 q.args.length d2]) w6 (fun _ => True) V6.out ⟨_, _, rfl, R6.out⟩ (by have := HQq.out.2.2; omega)).mono ?_
    rintro e w7 ⟨t7, a7, c7, ok7, rfl, hb7, ht7, hs7⟩
    have hbA : Below w7.heap.size w7 (w7.alloc (.cells #[.string t7.name, .slice a7 t7.args.length c7] 25)) := (Below.refl _ _).alloc (Nat.le_refl _) _
    have hb8 := hb7.trans (hbA.mono hb7.size)
    have A8 := hide (Blk.new w7 #[.string t7.name, .slice a7 t7.args.length c7] 25)
    have C8 := hide (A6.out.below hb8 A6.out.lt)
    have S8 := hide (hs7.later hbA)
    have S68 := hide (S6.out.later hb8)
    have T8 := hide ht7
    have B8 := hide (B6.out.trans (hb8.mono B6.out.size))
    have r0 := A8.out.cell 0
    have r1 := A8.out.cell 1
    have r2 := C8.out.cell 0
    have r3 := C8.out.cell 1
    clear hbA hb7 ht7 hs7 hb8 q2 q3 V6 R6 A6 S6
    cases ok5 with
    | false =>
      go_wp2_with fail
      go_ret
      exact ⟨rfl, B8.out⟩
    | true =>
    cases ok7 with
    | false =>
      go_wp2_with fail
      go_ret
      exact ⟨rfl, B8.out⟩
    | true =>
    have e5 := T6.out rfl
    have e7 := T8.out rfl
    rcases HC.out with h0 | ⟨h56, hno⟩
    · subst h0
      clear HC e5 e7
      go_wp2_with fail
      refine (FA.out _).mono ?_
      rintro e w9 ⟨rfl, hb9⟩
      go_wp2_with fail
      go_ret
      exact ⟨rfl, B8.out.trans (hb9.mono B8.out.size)⟩
    · have no : ∀ t : List Bd, (∀ d ∈ t, varB d.nm = true) → onT t t5 ≠ onT t t7 := fun t ht => by
        rw [e5, e7]
        exact hno ls t HVL.out ht
      have NO := hide no
      clear HC no hno e5 e7 T6 T8
      have hc0 : code ≠ 0 := by omega
      go_wp2_with fail
      have QB := blk_at (w := w7.alloc (.cells #[.string t7.name, .slice a7 t7.args.length c7] 25)) (n := w7.heap.size + 1) (by simp) #[.string t5.name, .slice a5 t5.args.length c5, .string t7.name, .slice a7 t7.args.length c7] 49
      have hbC : Below w1.heap.size w1 ((w7.alloc (.cells #[.string t7.name, .slice a7 t7.args.length c7] 25)).alloc (.cells #[.string t5.name, .slice a5 t5.args.length c5, .string t7.name, .slice a7 t7.args.length c7] 49)) := B8.out.alloc B8.out.size _
      have hbD : Below (w7.alloc (.cells #[.string t7.name, .slice a7 t7.args.length c7] 25)).heap.size (w7.alloc (.cells #[.string t7.name, .slice a7 t7.args.length c7] 25)) ((w7.alloc (.cells #[.string t7.name, .slice a7 t7.args.length c7] 25)).alloc (.cells #[.string t5.name, .slice a5 t5.args.length c5, .string t7.name, .slice a7 t7.args.length c7] 49)) := (Below.refl _ _).alloc (Nat.le_refl _) _
      have QV8 := qv_one QB (S68.out.later hbD) (S8.out.later hbD)
      refine (none_second NO.out _ _ _ QV8).mono ?_
      rintro e w9 ⟨f, hf, rfl, hb9⟩
      have B9 := hide (hbC.trans (hb9.mono hbC.size))
      clear QB hbC hbD QV8 hb9
      have hf2 : (f != 0) = true := by simpa using hf
      rcases h56 with rfl | rfl
      · go_wp2_with fail
        refine (FA.out _).mono ?_
        rintro e w10 ⟨rfl, hb10⟩
        have B10 := hide (B9.out.trans (hb10.mono B9.out.size))
        clear hb10
        go_wp2_with fail
        go_ret
        exact ⟨rfl, B10.out⟩
      · go_wp2_with fail
        refine (FA.out _).mono ?_
        rintro e w10 ⟨rfl, hb10⟩
        have B10 := hide (B9.out.trans (hb10.mono B9.out.size))
        clear hb10
        go_wp2_with fail
        go_ret
        exact ⟨rfl, B10.out⟩
#print axioms topNone_any
end Go.Proofs.Ytpjdkdebjkpmmaj

/- Walks: terms out of raw numbers, with at most two below each knot. -/
namespace Go.Proofs.Ytpjdkdebjkpmmaj
open Go.RowKit
set_option linter.unusedSimpArgs false
set_option linter.unusedVariables false
set_option maxRecDepth 8000

/-- No error, no variables but the first ones, and at most two below each knot. -/
def okA (nv : Nat) (l : List Tm) : Prop := okV nv l ∧ Ar2 l
theorem okA_node {nv : Nat} {s : ByteArray} {l : List Tm} (h : nameB s = true) (hv : varB s = false) (h2 : l.length ≤ 2) (hl : okA nv l) : okA nv [(⟨s, l⟩ : Tm)] := by
  refine ⟨ok_node h hv hl.1, fun k hk => ?_⟩
  simp only [preL, List.append_nil, List.mem_cons] at hk
  rcases hk with rfl | hk
  · exact h2
  · exact hl.2 k hk
theorem okA_two {nv : Nat} {a b : Tm} (ha : okA nv [a]) (hb : okA nv [b]) : okA nv [a, b] := by
  refine ⟨ok_two ha.1 hb.1, fun k hk => ?_⟩
  rw [preL_cons2] at hk
  rcases List.mem_append.1 hk with hk | hk
  · exact ha.2 k hk
  · exact hb.2 k hk
theorem ar_leaf (s : ByteArray) : Ar2 [(⟨s, []⟩ : Tm)] := fun k hk => by
  simp only [preL, List.append_nil, List.mem_cons, List.not_mem_nil, or_false] at hk
  rw [hk]
  simp
def GrowPA (nv : Nat) (w : World) (i m : Nat) (e : Ending) (w' : World) : Prop :=
  ∃ (a : Option Addr) (c n : Nat) (t : Tm), e = .returned (.tuple #[.agg #[.string t.name, .slice a t.args.length c], .int .i64 (n : Int)]) ∧ Sl w' (fun b => w.heap.size ≤ b) a t.args ∧ t.args.length ≤ c ∧ c ≤ 9223372036854775807 ∧ sizeL [t] ≤ top m ∧ i ≤ n ∧ n ≤ i + top m ∧ Below w.heap.size w w' ∧ okA nv [t]
theorem growA_leaf {nv : Nat} {w w' : World} {s : ByteArray} {i m : Nat} (hes : okA nv [(⟨s, []⟩ : Tm)]) (hb : Below w.heap.size w w') : GrowPA nv w i m (.returned (.tuple #[.agg #[.string s, .slice none 0 0], .int .i64 ((i : Int) + 1)])) w' := by
  have := top_pos m
  exact ⟨none, 0, i + 1, ⟨s, []⟩, by simp, ⟨by simp, Or.inl rfl⟩, by simp, by omega, by simp [sizeL]; omega, by omega, by omega, hb, hes⟩
theorem pickA_var (w : World) (T k nv : Nat) (hk : k < nv) (hnv : nv ≤ 4) : ∃ s, okA nv [(⟨s, []⟩ : Tm)] ∧ (w.alloc (.cells #[.string ⟨#[88]⟩, .string ⟨#[89]⟩, .string ⟨#[90]⟩, .string ⟨#[85]⟩] T)).cell? ⟨w.heap.size, k, none⟩ = some (.string s) := by
  obtain ⟨s, h1, h2⟩ := pick_var w T k nv hk hnv
  exact ⟨s, ⟨h1, ar_leaf s⟩, h2⟩
theorem pickA_const (w : World) (T k nv : Nat) (hk : k < 3) : ∃ s, okA nv [(⟨s, []⟩ : Tm)] ∧ (w.alloc (.cells #[.string ⟨#[97]⟩, .string ⟨#[98]⟩, .string ⟨#[99]⟩] T)).cell? ⟨w.heap.size, k, none⟩ = some (.string s) := by
  obtain ⟨s, h1, h2⟩ := pick_const w T k nv hk
  exact ⟨s, ⟨h1, ar_leaf s⟩, h2⟩
theorem growA_one {nv : Nat} {w w5 : World} {Z : Nat → Prop} {s : ByteArray} {i m n T : Nat} {a5 : Option Addr} {c5 : Nat} {t5 : Tm} {v0 v1 : Value} {o1 : Obj} (hB : Below w.heap.size w w5) (hlt : w.heap.size < w5.heap.size) (hs : Sl w5 Z a5 t5.args) (hZ : ∀ b, Z b → w.heap.size < b) (hz : sizeL [t5] ≤ top m) (hm : 3 ≤ m + 1) (hn : i ≤ n) (hn' : n ≤ i + 1 + top m) (hes : okA nv [(⟨s, [t5]⟩ : Tm)]) :
    GrowPA nv w i (m + 1) (.returned (.tuple #[.agg #[.string s, .slice (some ⟨w5.heap.size + 1, 0, none⟩) 1 1], .int .i64 (n : Int)])) ((((w5.setCell ⟨w.heap.size, 0, none⟩ v0).setCell ⟨w.heap.size, 1, none⟩ v1).alloc o1).alloc (.cells #[.string t5.name, .slice a5 t5.args.length c5] T)) := by
  have ht := top_step hm
  have hb0 : Below w.heap.size w (((w5.setCell ⟨w.heap.size, 0, none⟩ v0).setCell ⟨w.heap.size, 1, none⟩ v1).alloc o1) := ((hB.setCell (by simp) _).setCell (by simp) _).alloc (by simp [World.setCell]; omega) _
  refine ⟨some ⟨w5.heap.size + 1, 0, none⟩, 1, n, ⟨s, [t5]⟩, rfl, ?_, by simp, by omega, by simp [sizeL] at hz ⊢; omega, hn, by omega, hb0.alloc hb0.size _, hes⟩
  have hnew := heap_alloc_new (((w5.setCell ⟨w.heap.size, 0, none⟩ v0).setCell ⟨w.heap.size, 1, none⟩ v1).alloc o1) (.cells #[.string t5.name, .slice a5 t5.args.length c5] T)
  have e : (((w5.setCell ⟨w.heap.size, 0, none⟩ v0).setCell ⟨w.heap.size, 1, none⟩ v1).alloc o1).heap.size = w5.heap.size + 1 := by simp [World.setCell]
  rw [e] at hnew
  refine sl_one hnew (by omega) ((hs.mono (Y := fun b => Z b ∧ b < w5.heap.size) fun b h1 h2 => ⟨h1, h2⟩).kept (w' := _) fun b hb => ?_) (fun b hb _ => by have := hZ b hb.1; omega)
  have := hZ b hb.1
  rw [Below.heap_alloc _ _ _ (by rw [e]; omega), Below.heap_alloc _ _ _ (by simp [World.setCell]; omega), Below.heap_setCell _ _ _ _ (by simp; omega), Below.heap_setCell _ _ _ _ (by simp; omega)]
theorem growA_two {nv : Nat} {w w6 : World} {Z5 Z6 : Nat → Prop} {s : ByteArray} {i m n T bA : Nat} {a5 a6 : Option Addr} {c5 c6 : Nat} {t5 t6 : Tm} {v0 v1 : Value} {o1 o2 o3 : Obj} (hB : Below w.heap.size w w6) (hlt : w.heap.size < w6.heap.size) (h5 : Sl w6 Z5 a5 t5.args) (h6 : Sl w6 Z6 a6 t6.args) (hZ5 : ∀ b, Z5 b → w.heap.size < b) (hZ6 : ∀ b, Z6 b → w.heap.size < b) (hbig : i ≤ n ∧ n ≤ i + top (m + 1) ∧ sizeL [t5] + sizeL [t6] + 1 ≤ top (m + 1)) (hes : okA nv [(⟨s, [t5, t6]⟩ : Tm)]) (hbA : w6.heap.size < bA)
    (hA : Blk (((((w6.setCell ⟨w.heap.size, 0, none⟩ v0).setCell ⟨w.heap.size, 1, none⟩ v1).alloc o1).alloc o2).alloc o3).drew bA #[.string t5.name, .slice a5 t5.args.length c5, .string t6.name, .slice a6 t6.args.length c6] T) :
    GrowPA nv w i (m + 1) (.returned (.tuple #[.agg #[.string s, .slice (some ⟨bA, 0, none⟩) 2 2], .int .i64 (n : Int)])) (((((w6.setCell ⟨w.heap.size, 0, none⟩ v0).setCell ⟨w.heap.size, 1, none⟩ v1).alloc o1).alloc o2).alloc o3).drew := by
  have hb0 : Below w.heap.size w (((((w6.setCell ⟨w.heap.size, 0, none⟩ v0).setCell ⟨w.heap.size, 1, none⟩ v1).alloc o1).alloc o2).alloc o3) := ((((hB.setCell (by simp) _).setCell (by simp) _).alloc (by simp [World.setCell]; omega) _).alloc (by simp [World.setCell]; omega) _).alloc (by simp [World.setCell]; omega) _
  refine ⟨some ⟨bA, 0, none⟩, 2, n, ⟨s, [t5, t6]⟩, rfl, ?_, by simp, by omega, ?_, hbig.1, hbig.2.1, hb0.drew, hes⟩
  · exact sl_two hA (by omega) (two_world h5 hZ5) (two_world h6 hZ6) (fun b hb _ => by have := hZ5 b hb.1; omega) (fun b hb _ => by have := hZ6 b hb.1; omega)
  · have := hbig.2.2
    have e : sizeL [t5, t6] = sizeL [t5] + sizeL [t6] := sizeL_append [t5] [t6]
    have e2 : sizeL [⟨s, [t5, t6]⟩] = 1 + sizeL [t5, t6] := by simp [sizeL]
    omega

set_option maxHeartbeats 8000000 in
theorem growA_any (nv : Nat) (hnv : 1 ≤ nv) (hnv4 : nv ≤ 4) (zs : List Int) (hr : ∀ z ∈ zs, Rng z) (hzl : zs.length ≤ 1000000) : ∀ (m i : Nat) (u : Value) (w : World) (X : Nat → Prop), PV w X u zs → m ≤ 100 → i + top m ≤ 1000 →
    Calls Try.prog 27 #[u, .int .i64 (i : Int), .int .i64 (m : Int), .int .i64 (nv : Int)] w fun e w' => GrowPA nv w i m e w' := by
  have hnvI : (0 : Int) < (nv : Int) := by omega
  intro m
  induction m using Nat.strongRecOn with
  | ind m ih =>
    intro i u w X hu hm hi
    have IH := hide ih
    clear ih
    have HU := hide hu
    clear hu
    go_enter Try.func27, Try.ntmps27
    go_wp2_with fail
    refine (raw_any zs _ _ X (by exact HU.out.alloc _) hr i (by omega) hzl).mono ?_
    rintro e w1 ⟨c, rfl, hc, hb1⟩
    have B1 := hide (((Below.refl w.heap.size w).alloc (Nat.le_refl _) (.cells #[.string ⟨#[]⟩, .slice none 0 0] 25)).trans (hb1.mono (by simp)))
    have R1 := hide ((Blk.new w #[.string ⟨#[]⟩, .slice none 0 0] 25).below hb1 (by simp))
    clear hb1
    by_cases h3 : m < 3
    · go_wp2_with fail
      refine (pick_any _ 3 (by decide) (by decide) ⟨by omega, by omega⟩ _).mono ?_
      rintro e w2 ⟨k2, rfl, hk2, rfl⟩
      by_cases h2 : 0 < k2
      · go_wp2_with fail
        refine (pick_any _ nv (by omega) (by omega) ⟨by omega, by omega⟩ _).mono ?_
        rintro e w3 ⟨k3, rfl, hk3, rfl⟩
        obtain ⟨s5, hes5, hs5⟩ := pickA_var w2 9 k3 nv hk3 hnv4
        have hs6 : (w2.alloc (.cells #[.string ⟨#[88]⟩, .string ⟨#[89]⟩, .string ⟨#[90]⟩, .string ⟨#[85]⟩] 9)).cell? ⟨w2.heap.size, k3, none⟩ = some (.string s5) := hs5
        have hk4 : (k3 : Int) < 4 := by omega
        clear hs5
        go_wp2_with fail
        refine (leaf_any _ _).mono ?_
        rintro e w4 ⟨rfl, hb4⟩
        have R4 := hide ((R1.out.alloc _).below hb4 (by have := R1.out.lt; simp; omega))
        have B4 := hide ((B1.out.alloc B1.out.size _).trans (hb4.mono (by have := B1.out.size; simp; omega)))
        clear hb4 hs6
        have r0 : w4.cell? ⟨w.heap.size, 0, none⟩ = some (.string ⟨#[]⟩) := R4.out.cell 0
        have r1 : w4.cell? ⟨w.heap.size, 1, none⟩ = some (.slice none 0 0) := R4.out.cell 1
        have rf := R4.out.frozen
        go_wp2_with fail
        have q0 := ((R4.out.set 0 (.string s5)).set 1 (.slice none 0 0)).cell 0
        have q1 := ((R4.out.set 0 (.string s5)).set 1 (.slice none 0 0)).cell 1
        refine bodyPost_ret (v := .tuple #[.agg #[.string s5, .slice none 0 0], .int .i64 ((i : Int) + 1)]) (by simp [results, Try.results27, go_sem, q0, q1, World.cell?_setCell_same, World.cell?_setCell_other, r0, r1]) rfl ?_
        exact growA_leaf hes5 ((B4.out.setCell (by simp) _).setCell (by simp) _)
      · go_wp2_with fail
        refine (pick_any _ 3 (by decide) (by decide) ⟨by omega, by omega⟩ _).mono ?_
        rintro e w3 ⟨k3, rfl, hk3, rfl⟩
        obtain ⟨s5, hes5, hs5⟩ := pickA_const w2 9 k3 nv hk3
        have hs6 : (w2.alloc (.cells #[.string ⟨#[97]⟩, .string ⟨#[98]⟩, .string ⟨#[99]⟩] 9)).cell? ⟨w2.heap.size, k3, none⟩ = some (.string s5) := hs5
        have hk4 : (k3 : Int) < 3 := by omega
        clear hs5
        go_wp2_with fail
        refine (leaf_any _ _).mono ?_
        rintro e w4 ⟨rfl, hb4⟩
        have R4 := hide ((R1.out.alloc _).below hb4 (by have := R1.out.lt; simp; omega))
        have B4 := hide ((B1.out.alloc B1.out.size _).trans (hb4.mono (by have := B1.out.size; simp; omega)))
        clear hb4 hs6
        have r0 : w4.cell? ⟨w.heap.size, 0, none⟩ = some (.string ⟨#[]⟩) := R4.out.cell 0
        have r1 : w4.cell? ⟨w.heap.size, 1, none⟩ = some (.slice none 0 0) := R4.out.cell 1
        have rf := R4.out.frozen
        go_wp2_with fail
        have q0 := ((R4.out.set 0 (.string s5)).set 1 (.slice none 0 0)).cell 0
        have q1 := ((R4.out.set 0 (.string s5)).set 1 (.slice none 0 0)).cell 1
        refine bodyPost_ret (v := .tuple #[.agg #[.string s5, .slice none 0 0], .int .i64 ((i : Int) + 1)]) (by simp [results, Try.results27, go_sem, q0, q1, World.cell?_setCell_same, World.cell?_setCell_other, r0, r1]) rfl ?_
        exact growA_leaf hes5 ((B4.out.setCell (by simp) _).setCell (by simp) _)
    · go_wp2_with fail
      refine (pick_any _ 5 (by decide) (by decide) ⟨by omega, by omega⟩ _).mono ?_
      rintro e w1b ⟨k1, rfl, hk1, rfl⟩
      by_cases h1 : k1 < 2
      · go_wp2_with fail
        refine (pick_any _ 3 (by decide) (by decide) ⟨by omega, by omega⟩ _).mono ?_
        rintro e w2 ⟨k2, rfl, hk2, rfl⟩
        by_cases h2 : 0 < k2
        · go_wp2_with fail
          refine (pick_any _ nv (by omega) (by omega) ⟨by omega, by omega⟩ _).mono ?_
          rintro e w3 ⟨k3, rfl, hk3, rfl⟩
          obtain ⟨s5, hes5, hs5⟩ := pickA_var w2 9 k3 nv hk3 hnv4
          have hs6 : (w2.alloc (.cells #[.string ⟨#[88]⟩, .string ⟨#[89]⟩, .string ⟨#[90]⟩, .string ⟨#[85]⟩] 9)).cell? ⟨w2.heap.size, k3, none⟩ = some (.string s5) := hs5
          have hk4 : (k3 : Int) < 4 := by omega
          clear hs5
          go_wp2_with fail
          refine (leaf_any _ _).mono ?_
          rintro e w4 ⟨rfl, hb4⟩
          have R4 := hide ((R1.out.alloc _).below hb4 (by have := R1.out.lt; simp; omega))
          have B4 := hide ((B1.out.alloc B1.out.size _).trans (hb4.mono (by have := B1.out.size; simp; omega)))
          clear hb4 hs6
          have r0 : w4.cell? ⟨w.heap.size, 0, none⟩ = some (.string ⟨#[]⟩) := R4.out.cell 0
          have r1 : w4.cell? ⟨w.heap.size, 1, none⟩ = some (.slice none 0 0) := R4.out.cell 1
          have rf := R4.out.frozen
          go_wp2_with fail
          have q0 := ((R4.out.set 0 (.string s5)).set 1 (.slice none 0 0)).cell 0
          have q1 := ((R4.out.set 0 (.string s5)).set 1 (.slice none 0 0)).cell 1
          refine bodyPost_ret (v := .tuple #[.agg #[.string s5, .slice none 0 0], .int .i64 ((i : Int) + 1)]) (by simp [results, Try.results27, go_sem, q0, q1, World.cell?_setCell_same, World.cell?_setCell_other, r0, r1]) rfl ?_
          exact growA_leaf hes5 ((B4.out.setCell (by simp) _).setCell (by simp) _)
        · go_wp2_with fail
          refine (pick_any _ 3 (by decide) (by decide) ⟨by omega, by omega⟩ _).mono ?_
          rintro e w3 ⟨k3, rfl, hk3, rfl⟩
          obtain ⟨s5, hes5, hs5⟩ := pickA_const w2 9 k3 nv hk3
          have hs6 : (w2.alloc (.cells #[.string ⟨#[97]⟩, .string ⟨#[98]⟩, .string ⟨#[99]⟩] 9)).cell? ⟨w2.heap.size, k3, none⟩ = some (.string s5) := hs5
          have hk4 : (k3 : Int) < 3 := by omega
          clear hs5
          go_wp2_with fail
          refine (leaf_any _ _).mono ?_
          rintro e w4 ⟨rfl, hb4⟩
          have R4 := hide ((R1.out.alloc _).below hb4 (by have := R1.out.lt; simp; omega))
          have B4 := hide ((B1.out.alloc B1.out.size _).trans (hb4.mono (by have := B1.out.size; simp; omega)))
          clear hb4 hs6
          have r0 : w4.cell? ⟨w.heap.size, 0, none⟩ = some (.string ⟨#[]⟩) := R4.out.cell 0
          have r1 : w4.cell? ⟨w.heap.size, 1, none⟩ = some (.slice none 0 0) := R4.out.cell 1
          have rf := R4.out.frozen
          go_wp2_with fail
          have q0 := ((R4.out.set 0 (.string s5)).set 1 (.slice none 0 0)).cell 0
          have q1 := ((R4.out.set 0 (.string s5)).set 1 (.slice none 0 0)).cell 1
          refine bodyPost_ret (v := .tuple #[.agg #[.string s5, .slice none 0 0], .int .i64 ((i : Int) + 1)]) (by simp [results, Try.results27, go_sem, q0, q1, World.cell?_setCell_same, World.cell?_setCell_other, r0, r1]) rfl ?_
          exact growA_leaf hes5 ((B4.out.setCell (by simp) _).setCell (by simp) _)
      · go_wp2_with fail
        refine (pick_eq ((c : Int) / 5) 4 (by decide) (by decide) ⟨by omega, by omega⟩ _).mono ?_
        rintro e w2 ⟨rfl, rfl⟩
        have hk4 := pickN_lt ((c : Int) / 5) 4 (by decide)
        generalize hke : pickN ((c : Int) / 5) 4 = k4 at *
        have HKE := hide hke
        clear hke
        obtain ⟨m, rfl⟩ : ∃ m', m = m' + 1 := ⟨m - 1, by omega⟩
        by_cases h40 : k4 = 0
        · subst h40
          go_wp2_with fail
          refine (IH.out m (by omega) (i + 1) _ _ X (by exact HU.out.later B1.out) (by omega) (by have := top_step (m := m) (by omega); omega)).mono ?_
          rintro e w5 ⟨a5, c5, n5, t5, rfl, hs5, hc5, hc5', hz5, hn5, hn5', hb5, he5⟩
          have R5 := hide (R1.out.below hb5 R1.out.lt)
          have B5 := hide (B1.out.trans (hb5.mono B1.out.size))
          have S5 := hide hs5
          have HE5 := hide he5
          clear he5
          have hlt5 : w.heap.size < w5.heap.size := R5.out.lt
          clear hb5 hs5
          have r0 : w5.cell? ⟨w.heap.size, 0, none⟩ = some (.string ⟨#[]⟩) := R5.out.cell 0
          have r1 : w5.cell? ⟨w.heap.size, 1, none⟩ = some (.slice none 0 0) := R5.out.cell 1
          have rf := R5.out.frozen
          go_wp2_with fail
          refine bodyPost_ret (v := .tuple #[.agg #[.string ⟨#[104]⟩, .slice (some ⟨w5.heap.size + 1, 0, none⟩) 1 1], .int .i64 (n5 : Int)]) (by simp [results, Try.results27, go_sem, World.cell?_setCell_same, World.cell?_setCell_other, r0, r1, hlt5, World.cell?_alloc_old]) rfl ?_
          exact growA_one B5.out hlt5 S5.out (fun b hb => Nat.lt_of_lt_of_le R1.out.lt hb) hz5 (by omega) (by omega) (by omega) (okA_node (by decide) (by decide) (by simp) HE5.out)
        · by_cases h41 : k4 = 1
          · subst h41
            go_wp2_with fail
            refine (IH.out m (by omega) (i + 1) _ _ X (by exact HU.out.later B1.out) (by omega) (by have := top_step (m := m) (by omega); omega)).mono ?_
            rintro e w5 ⟨a5, c5, n5, t5, rfl, hs5, hc5, hc5', hz5, hn5, hn5', hb5, he5⟩
            have R5 := hide (R1.out.below hb5 R1.out.lt)
            have B5 := hide (B1.out.trans (hb5.mono B1.out.size))
            have S5 := hide hs5
            have HE5 := hide he5
            clear he5
            have hlt5 : w.heap.size < w5.heap.size := R5.out.lt
            clear hb5 hs5
            have r0 : w5.cell? ⟨w.heap.size, 0, none⟩ = some (.string ⟨#[]⟩) := R5.out.cell 0
            have r1 : w5.cell? ⟨w.heap.size, 1, none⟩ = some (.slice none 0 0) := R5.out.cell 1
            have rf := R5.out.frozen
            go_wp2_with fail
            refine bodyPost_ret (v := .tuple #[.agg #[.string ⟨#[107]⟩, .slice (some ⟨w5.heap.size + 1, 0, none⟩) 1 1], .int .i64 (n5 : Int)]) (by simp [results, Try.results27, go_sem, World.cell?_setCell_same, World.cell?_setCell_other, r0, r1, hlt5, World.cell?_alloc_old]) rfl ?_
            exact growA_one B5.out hlt5 S5.out (fun b hb => Nat.lt_of_lt_of_le R1.out.lt hb) hz5 (by omega) (by omega) (by omega) (okA_node (by decide) (by decide) (by simp) HE5.out)
          · have h42 : 2 ≤ k4 := by omega
            obtain ⟨h, hh, hh2⟩ : ∃ h : Nat, ((m : Int) + 1) / 2 = h ∧ h = (m + 1) / 2 := ⟨(m + 1) / 2, by omega, rfl⟩
            have hth := top_half (m := m) (by omega) hh2
            have HH2 := hide hh2
            have hhb : h < m + 1 ∧ h ≤ 100 := by omega
            clear hh2
            go_wp2_with fail
            refine (IH.out h (by omega) (i + 1) _ _ X (by exact HU.out.later B1.out) (by omega) (by omega)).mono ?_
            rintro e w5 ⟨a5, c5, n5, t5, rfl, hs5, hc5, hc5', hz5, hn5, hn5', hb5, he5⟩
            have R5 := hide (R1.out.below hb5 R1.out.lt)
            have B5 := hide (B1.out.trans (hb5.mono B1.out.size))
            have S5 := hide hs5
            have HE5 := hide he5
            clear he5
            have X5 := hide (Blk.new w5 #[.string t5.name, .slice a5 t5.args.length c5] 25)
            have hlt5 : w.heap.size < w5.heap.size := R5.out.lt
            clear hb5 hs5
            go_wp2_with fail
            refine (IH.out h (by omega) n5 _ _ X (by exact HU.out.later (B5.out.alloc B5.out.size _)) (by omega) (by omega)).mono ?_
            rintro e w6 ⟨a6, c6, n6, t6, rfl, hs6, hc6, hc6', hz6, hn6, hn6', hb6, he6⟩
            have R6 := hide ((R5.out.alloc _).below hb6 (by simp; omega))
            have X6 := hide (X5.out.below hb6 (by simp))
            have B6 := hide ((B5.out.alloc B5.out.size _).trans (hb6.mono (by have := B5.out.size; simp; omega)))
            have S56 := hide ((S5.out.later ((Below.refl w5.heap.size w5).alloc (Nat.le_refl _) _)).later hb6)
            have S6 := hide hs6
            have HE6 := hide he6
            clear he6
            have hlt6 : w5.heap.size < w6.heap.size := X6.out.lt
            clear hb6 hs6
            go_wp2_with fail
            have Y6 := hide (Blk.new w6 #[.string t6.name, .slice a6 t6.args.length c6] 25)
            have x0 : ∀ o, (w6.alloc o).cell? ⟨w5.heap.size, 0, none⟩ = some (.string t5.name) := fun o => (X6.out.alloc o).cell 0
            have x1 : ∀ o, (w6.alloc o).cell? ⟨w5.heap.size, 1, none⟩ = some (.slice a5 t5.args.length c5) := fun o => (X6.out.alloc o).cell 1
            have y0 := Y6.out.cell 0
            have y1 := Y6.out.cell 1
            have r0 : w6.cell? ⟨w.heap.size, 0, none⟩ = some (.string ⟨#[]⟩) := R6.out.cell 0
            have r1 : w6.cell? ⟨w.heap.size, 1, none⟩ = some (.slice none 0 0) := R6.out.cell 1
            have rf := R6.out.frozen
            have HWR : Hid (IntKind.i64.wrap ((c : Int) / 5) = (c : Int) / 5) := wrapI _ ⟨by omega, by omega⟩
            have HPK : Hid (∀ w', Calls Try.prog 9 #[.int .i64 (IntKind.i64.wrap ((c : Int) / 5)), .int .i64 4] w' fun e w'' => e = .returned (.int .i64 (k4 : Int)) ∧ w'' = w') := fun w' => by
              have h1 := pick_eq ((c : Int) / 5) 4 (by decide) (by decide) ⟨by omega, by omega⟩ w'
              rw [HKE.out] at h1
              rw [HWR.out]
              exact h1
            have HBIG : Hid (i ≤ n6 ∧ n6 ≤ i + top (m + 1) ∧ sizeL [t5] + sizeL [t6] + 1 ≤ top (m + 1)) := ⟨by omega, by omega, by omega⟩
            have hw0 : IntKind.i64.wrap 0 = 0 := by decide
            have hw1 : IntKind.i64.wrap 1 = 1 := by decide
            have hlt56 : w.heap.size < w6.heap.size := by omega
            have hlt57 : w.heap.size < w6.heap.size + 1 := by omega
            have hlt58 : w.heap.size < w6.heap.size + 1 + 1 := by omega
            have r30 : ∀ o1 o2 o3, (((w6.alloc o1).alloc o2).alloc o3).cell? ⟨w.heap.size, 0, none⟩ = some (.string ⟨#[]⟩) := fun o1 o2 o3 => (((R6.out.alloc o1).alloc o2).alloc o3).cell 0
            have r31 : ∀ o1 o2 o3, (((w6.alloc o1).alloc o2).alloc o3).cell? ⟨w.heap.size, 1, none⟩ = some (.slice none 0 0) := fun o1 o2 o3 => (((R6.out.alloc o1).alloc o2).alloc o3).cell 1
            have r3f : ∀ o1 o2 o3 i, (((w6.alloc o1).alloc o2).alloc o3).frozen? ⟨w.heap.size, i, none⟩ = false := fun o1 o2 o3 => (((R6.out.alloc o1).alloc o2).alloc o3).frozen
            have HZ6 : Hid (∀ b, (w5.alloc (.cells #[.string t5.name, .slice a5 t5.args.length c5] 25)).heap.size ≤ b → w.heap.size < b) := fun b hb => by
              simp at hb
              omega
            obtain rfl | rfl : k4 = 2 ∨ k4 = 3 := by omega
            · clear hth hhb hh hn6 hn6' hz6 hz5 hn5 hn5' hc5 hc5' hc6 hc6' hi hm hc hr hzl h42 h41 h40 hk4 h1 hk1 h3
              have HS0 : TwoS w5 w6 t5 t6 a5 a6 c5 c6 (w6.alloc (.cells #[.string t6.name, .slice a6 t6.args.length c6] 25)).drew := ⟨X6.out.alloc _, Y6.out⟩
              refine wp_region_held_drew (S := TwoS w5 w6 t5 t6 a5 a6 c5 c6) (by kernel_rfl) HS0 (fun hHeld => ?_)
              refine wpAnyH_take (i := 1) (v := ?_) rfl (by kernel_rfl) (by kernel_rfl) (by kernel_rfl) (fun _ _ _ h => h) (Or.inl ⟨by rfl, ?_⟩) (by assumption) ?_
              rotate_left
              · intro w' hSw
                go_simp <;> with_reducible rfl
              try simp only [Act.put, List.setIfInBounds_toArray, List.set_cons_zero, List.set_cons_succ, List.getElem_toArray, List.getElem_cons_succ, List.getElem_cons_zero]
              refine wpAnyH_take (i := 2) (v := ?_) rfl (by kernel_rfl) (by kernel_rfl) (by kernel_rfl) (fun _ _ _ h => h) (Or.inl ⟨by rfl, ?_⟩) (by assumption) ?_
              rotate_left
              · intro w' hSw
                go_simp <;> with_reducible rfl
              try simp only [Act.put, List.setIfInBounds_toArray, List.set_cons_zero, List.set_cons_succ, List.getElem_toArray, List.getElem_cons_succ, List.getElem_cons_zero]
              refine wpAnyH_take (i := 7) (v := ?_) rfl (by kernel_rfl) (by kernel_rfl) (by kernel_rfl) (fun _ _ _ h => h) (Or.inl ⟨by rfl, ?_⟩) (by assumption) ?_
              rotate_left
              · intro w' hSw
                have k0 : w'.cell? ⟨w5.heap.size, 0, none⟩ = some (.string t5.name) := hSw.1.cell 0
                have k1 : w'.cell? ⟨w5.heap.size, 1, none⟩ = some (.slice a5 t5.args.length c5) := hSw.1.cell 1
                go_simp <;> with_reducible rfl
              try simp only [Act.put, List.setIfInBounds_toArray, List.set_cons_zero, List.set_cons_succ, List.getElem_toArray, List.getElem_cons_succ, List.getElem_cons_zero]
              refine wpAnyH_take (i := 8) (v := ?_) rfl (by kernel_rfl) (by kernel_rfl) (by kernel_rfl) (fun _ _ _ h => h) (Or.inl ⟨by rfl, ?_⟩) (by assumption) ?_
              rotate_left
              · intro w' hSw
                have k2 : w'.cell? ⟨w6.heap.size, 0, none⟩ = some (.string t6.name) := hSw.2.cell 0
                have k3 : w'.cell? ⟨w6.heap.size, 1, none⟩ = some (.slice a6 t6.args.length c6) := hSw.2.cell 1
                go_simp <;> with_reducible rfl
              try simp only [Act.put, List.setIfInBounds_toArray, List.set_cons_zero, List.set_cons_succ, List.getElem_toArray, List.getElem_cons_succ, List.getElem_cons_zero]
              refine wpAnyH_take (i := 11) (v := ?_) rfl (by kernel_rfl) (by kernel_rfl) (by kernel_rfl) (fun _ _ _ h => h) (Or.inl ⟨by rfl, ?_⟩) (by assumption) ?_
              rotate_left
              · intro w' hSw
                go_simp <;> with_reducible rfl
              try simp only [Act.put, List.setIfInBounds_toArray, List.set_cons_zero, List.set_cons_succ, List.getElem_toArray, List.getElem_cons_succ, List.getElem_cons_zero]
              refine wpAnyH_ready (rs := [0, 3, 9]) (by kernel_rfl) (by simp) ?_
              refine AllReadyH.cons rfl (fun K hK => ?_) (AllReadyH.cons rfl (fun K hK => ?_) (AllReadyH.cons rfl (fun K hK => ?_) AllReadyH.nil))
              · go_simp
                refine hK.out _ _ (by exact hHeld.alloc _) (fun hHeld => ?_)
                clear hK K
                try simp only [Act.put, List.setIfInBounds_toArray, List.set_cons_zero, List.set_cons_succ, List.getElem_toArray, List.getElem_cons_succ, List.getElem_cons_zero]
                refine held_mono (S' := TwoF w5 w6 t5 t6 a5 a6 c5 c6 (w6.heap.size + 1)) (fun _ h => h.1) _ _ _ _ ?_
                replace hHeld := two_up (b := w6.heap.size + 1) hHeld (by exact blk_at (w := w6.alloc (.cells #[.string t6.name, .slice a6 t6.args.length c6] 25)) (by simp) _ _)
                refine wpAnyH_ready (rs := [3, 9]) (by kernel_rfl) (by simp) ?_
                refine AllReadyH.cons rfl (fun K hK => ?_) (AllReadyH.cons rfl (fun K hK => ?_) AllReadyH.nil)
                · go_simp
                  go_at_call 9
                  refine (HPK.out _).mono ?_
                  rintro e w7 ⟨rfl, rfl⟩
                  go_simp
                  refine hK.out _ _ (by exact hHeld) (fun hHeld => ?_)
                  clear hK K
                  try simp only [Act.put, List.setIfInBounds_toArray, List.set_cons_zero, List.set_cons_succ, List.getElem_toArray, List.getElem_cons_succ, List.getElem_cons_zero]
                  refine wpAnyH_take (i := 4) (v := ?_) rfl (by kernel_rfl) (by kernel_rfl) (by kernel_rfl) (fun _ _ _ h => h) (Or.inl ⟨by rfl, ?_⟩) (by assumption) ?_
                  rotate_left
                  · intro w' hSw
                    go_simp <;> with_reducible rfl
                  try simp only [Act.put, List.setIfInBounds_toArray, List.set_cons_zero, List.set_cons_succ, List.getElem_toArray, List.getElem_cons_succ, List.getElem_cons_zero]
                  refine wpAnyH_take (i := 5) (v := ?_) rfl (by kernel_rfl) (by kernel_rfl) (by kernel_rfl) (fun _ _ _ h => h) (Or.inl ⟨by rfl, ?_⟩) (by assumption) ?_
                  rotate_left
                  · intro w' hSw
                    go_simp <;> with_reducible rfl
                  try simp only [Act.put, List.setIfInBounds_toArray, List.set_cons_zero, List.set_cons_succ, List.getElem_toArray, List.getElem_cons_succ, List.getElem_cons_zero]
                  refine wpAnyH_take (i := 6) (v := ?_) rfl (by kernel_rfl) (by kernel_rfl) (by kernel_rfl) (fun _ _ _ h => h) (Or.inl ⟨by rfl, ?_⟩) (by assumption) ?_
                  rotate_left
                  · intro w' hSw
                    have k4 : w'.cell? ⟨w6.heap.size + 1, 0, none⟩ = some (.string ⟨#[102]⟩) := hSw.2.cell 0
                    have k5 : w'.cell? ⟨w6.heap.size + 1, 1, none⟩ = some (.string ⟨#[103]⟩) := hSw.2.cell 1
                    go_simp <;> with_reducible rfl
                  try simp only [Act.put, List.setIfInBounds_toArray, List.set_cons_zero, List.set_cons_succ, List.getElem_toArray, List.getElem_cons_succ, List.getElem_cons_zero]
                  refine wpAnyH_ready (rs := [9]) (by kernel_rfl) (by simp) ?_
                  refine AllReadyH.cons rfl (fun K hK => ?_) AllReadyH.nil
                  · go_simp
                    refine hK.out _ _ (by exact hHeld.alloc _) (fun hHeld => ?_)
                    clear hK K
                    try simp only [Act.put, List.setIfInBounds_toArray, List.set_cons_zero, List.set_cons_succ, List.getElem_toArray, List.getElem_cons_succ, List.getElem_cons_zero]
                    refine wpAnyH_take (i := 10) (v := ?_) rfl (by kernel_rfl) (by kernel_rfl) (by kernel_rfl) (fun _ _ _ h => h) (Or.inl ⟨by rfl, ?_⟩) (by assumption) ?_
                    rotate_left
                    · intro w' hSw
                      go_simp <;> with_reducible rfl
                    try simp only [Act.put, List.setIfInBounds_toArray, List.set_cons_zero, List.set_cons_succ, List.getElem_toArray, List.getElem_cons_succ, List.getElem_cons_zero]
                    refine wpAnyH_ready (rs := [12]) (by kernel_rfl) (by simp) ?_
                    refine AllReadyH.cons rfl (fun K hK => ?_) AllReadyH.nil
                    · go_simp
                      refine hK.out _ _ (by exact two_endA _ _ _ X6.out (Nat.ne_of_gt hlt5)) (fun hHeld => ?_)
                      clear hK K
                      try simp only [Act.put, List.setIfInBounds_toArray, List.set_cons_zero, List.set_cons_succ, List.getElem_toArray, List.getElem_cons_succ, List.getElem_cons_zero]
                      refine wpAnyH_take (i := 13) (v := ?_) rfl (by kernel_rfl) (by kernel_rfl) (by kernel_rfl) (fun _ _ _ h => h) (Or.inl ⟨by rfl, ?_⟩) (by assumption) ?_
                      rotate_left
                      · intro w' hSw
                        go_simp <;> with_reducible rfl
                      try simp only [Act.put, List.setIfInBounds_toArray, List.set_cons_zero, List.set_cons_succ, List.getElem_toArray, List.getElem_cons_succ, List.getElem_cons_zero]
                      refine wpAnyH_done (by kernel_rfl) ?_ _
                      go_wp2_with fail
                      refine bodyPost_ret (v := .tuple #[.agg #[.string ⟨#[102]⟩, .slice (some ⟨w6.heap.size + 1 + 1, 0, none⟩) 2 2], .int .i64 (n6 : Int)]) (by simp [results, Try.results27, go_sem, World.cell?_setCell_same, World.cell?_setCell_other, r0, r1, hlt56, hlt57, hlt58, World.cell?_alloc_old]) rfl ?_
                      exact growA_two B6.out hlt56 S56.out S6.out (fun b hb => Nat.lt_of_lt_of_le R1.out.lt hb) HZ6.out HBIG.out (okA_node (by decide) (by decide) (by simp) (okA_two HE5.out HE6.out)) (by omega) (by exact blk_at (by simp [World.setCell]) _ _)
                · go_simp
                  refine hK.out _ _ (by exact hHeld.alloc _) (fun hHeld => ?_)
                  clear hK K
                  try simp only [Act.put, List.setIfInBounds_toArray, List.set_cons_zero, List.set_cons_succ, List.getElem_toArray, List.getElem_cons_succ, List.getElem_cons_zero]
                  refine wpAnyH_ready (rs := [3]) (by kernel_rfl) (by simp) ?_
                  refine AllReadyH.cons rfl (fun K hK => ?_) AllReadyH.nil
                  · go_simp
                    go_at_call 9
                    refine (HPK.out _).mono ?_
                    rintro e w7 ⟨rfl, rfl⟩
                    go_simp
                    refine hK.out _ _ (by exact hHeld) (fun hHeld => ?_)
                    clear hK K
                    try simp only [Act.put, List.setIfInBounds_toArray, List.set_cons_zero, List.set_cons_succ, List.getElem_toArray, List.getElem_cons_succ, List.getElem_cons_zero]
                    refine wpAnyH_take (i := 4) (v := ?_) rfl (by kernel_rfl) (by kernel_rfl) (by kernel_rfl) (fun _ _ _ h => h) (Or.inl ⟨by rfl, ?_⟩) (by assumption) ?_
                    rotate_left
                    · intro w' hSw
                      go_simp <;> with_reducible rfl
                    try simp only [Act.put, List.setIfInBounds_toArray, List.set_cons_zero, List.set_cons_succ, List.getElem_toArray, List.getElem_cons_succ, List.getElem_cons_zero]
                    refine wpAnyH_take (i := 5) (v := ?_) rfl (by kernel_rfl) (by kernel_rfl) (by kernel_rfl) (fun _ _ _ h => h) (Or.inl ⟨by rfl, ?_⟩) (by assumption) ?_
                    rotate_left
                    · intro w' hSw
                      go_simp <;> with_reducible rfl
                    try simp only [Act.put, List.setIfInBounds_toArray, List.set_cons_zero, List.set_cons_succ, List.getElem_toArray, List.getElem_cons_succ, List.getElem_cons_zero]
                    refine wpAnyH_take (i := 6) (v := ?_) rfl (by kernel_rfl) (by kernel_rfl) (by kernel_rfl) (fun _ _ _ h => h) (Or.inl ⟨by rfl, ?_⟩) (by assumption) ?_
                    rotate_left
                    · intro w' hSw
                      have k4 : w'.cell? ⟨w6.heap.size + 1, 0, none⟩ = some (.string ⟨#[102]⟩) := hSw.2.cell 0
                      have k5 : w'.cell? ⟨w6.heap.size + 1, 1, none⟩ = some (.string ⟨#[103]⟩) := hSw.2.cell 1
                      go_simp <;> with_reducible rfl
                    try simp only [Act.put, List.setIfInBounds_toArray, List.set_cons_zero, List.set_cons_succ, List.getElem_toArray, List.getElem_cons_succ, List.getElem_cons_zero]
                    refine wpAnyH_take (i := 10) (v := ?_) rfl (by kernel_rfl) (by kernel_rfl) (by kernel_rfl) (fun _ _ _ h => h) (Or.inl ⟨by rfl, ?_⟩) (by assumption) ?_
                    rotate_left
                    · intro w' hSw
                      go_simp <;> with_reducible rfl
                    try simp only [Act.put, List.setIfInBounds_toArray, List.set_cons_zero, List.set_cons_succ, List.getElem_toArray, List.getElem_cons_succ, List.getElem_cons_zero]
                    refine wpAnyH_ready (rs := [12]) (by kernel_rfl) (by simp) ?_
                    refine AllReadyH.cons rfl (fun K hK => ?_) AllReadyH.nil
                    · go_simp
                      refine hK.out _ _ (by exact two_endA _ _ _ X6.out (Nat.ne_of_gt hlt5)) (fun hHeld => ?_)
                      clear hK K
                      try simp only [Act.put, List.setIfInBounds_toArray, List.set_cons_zero, List.set_cons_succ, List.getElem_toArray, List.getElem_cons_succ, List.getElem_cons_zero]
                      refine wpAnyH_take (i := 13) (v := ?_) rfl (by kernel_rfl) (by kernel_rfl) (by kernel_rfl) (fun _ _ _ h => h) (Or.inl ⟨by rfl, ?_⟩) (by assumption) ?_
                      rotate_left
                      · intro w' hSw
                        go_simp <;> with_reducible rfl
                      try simp only [Act.put, List.setIfInBounds_toArray, List.set_cons_zero, List.set_cons_succ, List.getElem_toArray, List.getElem_cons_succ, List.getElem_cons_zero]
                      refine wpAnyH_done (by kernel_rfl) ?_ _
                      go_wp2_with fail
                      refine bodyPost_ret (v := .tuple #[.agg #[.string ⟨#[102]⟩, .slice (some ⟨w6.heap.size + 1 + 1, 0, none⟩) 2 2], .int .i64 (n6 : Int)]) (by simp [results, Try.results27, go_sem, World.cell?_setCell_same, World.cell?_setCell_other, r0, r1, hlt56, hlt57, hlt58, World.cell?_alloc_old]) rfl ?_
                      exact growA_two B6.out hlt56 S56.out S6.out (fun b hb => Nat.lt_of_lt_of_le R1.out.lt hb) HZ6.out HBIG.out (okA_node (by decide) (by decide) (by simp) (okA_two HE5.out HE6.out)) (by omega) (by exact blk_at (by simp [World.setCell]) _ _)
              · go_simp
                go_at_call 9
                refine (HPK.out _).mono ?_
                rintro e w7 ⟨rfl, rfl⟩
                go_simp
                refine hK.out _ _ (by exact hHeld) (fun hHeld => ?_)
                clear hK K
                try simp only [Act.put, List.setIfInBounds_toArray, List.set_cons_zero, List.set_cons_succ, List.getElem_toArray, List.getElem_cons_succ, List.getElem_cons_zero]
                refine wpAnyH_take (i := 4) (v := ?_) rfl (by kernel_rfl) (by kernel_rfl) (by kernel_rfl) (fun _ _ _ h => h) (Or.inl ⟨by rfl, ?_⟩) (by assumption) ?_
                rotate_left
                · intro w' hSw
                  go_simp <;> with_reducible rfl
                try simp only [Act.put, List.setIfInBounds_toArray, List.set_cons_zero, List.set_cons_succ, List.getElem_toArray, List.getElem_cons_succ, List.getElem_cons_zero]
                refine wpAnyH_ready (rs := [0, 9]) (by kernel_rfl) (by simp) ?_
                refine AllReadyH.cons rfl (fun K hK => ?_) (AllReadyH.cons rfl (fun K hK => ?_) AllReadyH.nil)
                · go_simp
                  refine hK.out _ _ (by exact hHeld.alloc _) (fun hHeld => ?_)
                  clear hK K
                  try simp only [Act.put, List.setIfInBounds_toArray, List.set_cons_zero, List.set_cons_succ, List.getElem_toArray, List.getElem_cons_succ, List.getElem_cons_zero]
                  refine held_mono (S' := TwoF w5 w6 t5 t6 a5 a6 c5 c6 (w6.heap.size + 1)) (fun _ h => h.1) _ _ _ _ ?_
                  replace hHeld := two_up (b := w6.heap.size + 1) hHeld (by exact blk_at (w := w6.alloc (.cells #[.string t6.name, .slice a6 t6.args.length c6] 25)) (by simp) _ _)
                  refine wpAnyH_take (i := 5) (v := ?_) rfl (by kernel_rfl) (by kernel_rfl) (by kernel_rfl) (fun _ _ _ h => h) (Or.inl ⟨by rfl, ?_⟩) (by assumption) ?_
                  rotate_left
                  · intro w' hSw
                    go_simp <;> with_reducible rfl
                  try simp only [Act.put, List.setIfInBounds_toArray, List.set_cons_zero, List.set_cons_succ, List.getElem_toArray, List.getElem_cons_succ, List.getElem_cons_zero]
                  refine wpAnyH_take (i := 6) (v := ?_) rfl (by kernel_rfl) (by kernel_rfl) (by kernel_rfl) (fun _ _ _ h => h) (Or.inl ⟨by rfl, ?_⟩) (by assumption) ?_
                  rotate_left
                  · intro w' hSw
                    have k4 : w'.cell? ⟨w6.heap.size + 1, 0, none⟩ = some (.string ⟨#[102]⟩) := hSw.2.cell 0
                    have k5 : w'.cell? ⟨w6.heap.size + 1, 1, none⟩ = some (.string ⟨#[103]⟩) := hSw.2.cell 1
                    go_simp <;> with_reducible rfl
                  try simp only [Act.put, List.setIfInBounds_toArray, List.set_cons_zero, List.set_cons_succ, List.getElem_toArray, List.getElem_cons_succ, List.getElem_cons_zero]
                  refine wpAnyH_ready (rs := [9]) (by kernel_rfl) (by simp) ?_
                  refine AllReadyH.cons rfl (fun K hK => ?_) AllReadyH.nil
                  · go_simp
                    refine hK.out _ _ (by exact hHeld.alloc _) (fun hHeld => ?_)
                    clear hK K
                    try simp only [Act.put, List.setIfInBounds_toArray, List.set_cons_zero, List.set_cons_succ, List.getElem_toArray, List.getElem_cons_succ, List.getElem_cons_zero]
                    refine wpAnyH_take (i := 10) (v := ?_) rfl (by kernel_rfl) (by kernel_rfl) (by kernel_rfl) (fun _ _ _ h => h) (Or.inl ⟨by rfl, ?_⟩) (by assumption) ?_
                    rotate_left
                    · intro w' hSw
                      go_simp <;> with_reducible rfl
                    try simp only [Act.put, List.setIfInBounds_toArray, List.set_cons_zero, List.set_cons_succ, List.getElem_toArray, List.getElem_cons_succ, List.getElem_cons_zero]
                    refine wpAnyH_ready (rs := [12]) (by kernel_rfl) (by simp) ?_
                    refine AllReadyH.cons rfl (fun K hK => ?_) AllReadyH.nil
                    · go_simp
                      refine hK.out _ _ (by exact two_endA _ _ _ X6.out (Nat.ne_of_gt hlt5)) (fun hHeld => ?_)
                      clear hK K
                      try simp only [Act.put, List.setIfInBounds_toArray, List.set_cons_zero, List.set_cons_succ, List.getElem_toArray, List.getElem_cons_succ, List.getElem_cons_zero]
                      refine wpAnyH_take (i := 13) (v := ?_) rfl (by kernel_rfl) (by kernel_rfl) (by kernel_rfl) (fun _ _ _ h => h) (Or.inl ⟨by rfl, ?_⟩) (by assumption) ?_
                      rotate_left
                      · intro w' hSw
                        go_simp <;> with_reducible rfl
                      try simp only [Act.put, List.setIfInBounds_toArray, List.set_cons_zero, List.set_cons_succ, List.getElem_toArray, List.getElem_cons_succ, List.getElem_cons_zero]
                      refine wpAnyH_done (by kernel_rfl) ?_ _
                      go_wp2_with fail
                      refine bodyPost_ret (v := .tuple #[.agg #[.string ⟨#[102]⟩, .slice (some ⟨w6.heap.size + 1 + 1, 0, none⟩) 2 2], .int .i64 (n6 : Int)]) (by simp [results, Try.results27, go_sem, World.cell?_setCell_same, World.cell?_setCell_other, r0, r1, hlt56, hlt57, hlt58, World.cell?_alloc_old]) rfl ?_
                      exact growA_two B6.out hlt56 S56.out S6.out (fun b hb => Nat.lt_of_lt_of_le R1.out.lt hb) HZ6.out HBIG.out (okA_node (by decide) (by decide) (by simp) (okA_two HE5.out HE6.out)) (by omega) (by exact blk_at (by simp [World.setCell]) _ _)
                · go_simp
                  refine hK.out _ _ (by exact hHeld.alloc _) (fun hHeld => ?_)
                  clear hK K
                  try simp only [Act.put, List.setIfInBounds_toArray, List.set_cons_zero, List.set_cons_succ, List.getElem_toArray, List.getElem_cons_succ, List.getElem_cons_zero]
                  refine wpAnyH_ready (rs := [0]) (by kernel_rfl) (by simp) ?_
                  refine AllReadyH.cons rfl (fun K hK => ?_) AllReadyH.nil
                  · go_simp
                    refine hK.out _ _ (by exact hHeld.alloc _) (fun hHeld => ?_)
                    clear hK K
                    try simp only [Act.put, List.setIfInBounds_toArray, List.set_cons_zero, List.set_cons_succ, List.getElem_toArray, List.getElem_cons_succ, List.getElem_cons_zero]
                    refine held_mono (S' := TwoF w5 w6 t5 t6 a5 a6 c5 c6 (w6.heap.size + 1 + 1)) (fun _ h => h.1) _ _ _ _ ?_
                    replace hHeld := two_up (b := w6.heap.size + 1 + 1) hHeld (by exact blk_at (w := (w6.alloc (.cells #[.string t6.name, .slice a6 t6.args.length c6] 25)).alloc (.cells #[.string t5.name, .slice a5 t5.args.length c5, .string t6.name, .slice a6 t6.args.length c6] 25)) (by simp) _ _)
                    refine wpAnyH_take (i := 5) (v := ?_) rfl (by kernel_rfl) (by kernel_rfl) (by kernel_rfl) (fun _ _ _ h => h) (Or.inl ⟨by rfl, ?_⟩) (by assumption) ?_
                    rotate_left
                    · intro w' hSw
                      go_simp <;> with_reducible rfl
                    try simp only [Act.put, List.setIfInBounds_toArray, List.set_cons_zero, List.set_cons_succ, List.getElem_toArray, List.getElem_cons_succ, List.getElem_cons_zero]
                    refine wpAnyH_take (i := 6) (v := ?_) rfl (by kernel_rfl) (by kernel_rfl) (by kernel_rfl) (fun _ _ _ h => h) (Or.inl ⟨by rfl, ?_⟩) (by assumption) ?_
                    rotate_left
                    · intro w' hSw
                      have k4 : w'.cell? ⟨w6.heap.size + 1 + 1, 0, none⟩ = some (.string ⟨#[102]⟩) := hSw.2.cell 0
                      have k5 : w'.cell? ⟨w6.heap.size + 1 + 1, 1, none⟩ = some (.string ⟨#[103]⟩) := hSw.2.cell 1
                      go_simp <;> with_reducible rfl
                    try simp only [Act.put, List.setIfInBounds_toArray, List.set_cons_zero, List.set_cons_succ, List.getElem_toArray, List.getElem_cons_succ, List.getElem_cons_zero]
                    refine wpAnyH_take (i := 10) (v := ?_) rfl (by kernel_rfl) (by kernel_rfl) (by kernel_rfl) (fun _ _ _ h => h) (Or.inl ⟨by rfl, ?_⟩) (by assumption) ?_
                    rotate_left
                    · intro w' hSw
                      go_simp <;> with_reducible rfl
                    try simp only [Act.put, List.setIfInBounds_toArray, List.set_cons_zero, List.set_cons_succ, List.getElem_toArray, List.getElem_cons_succ, List.getElem_cons_zero]
                    refine wpAnyH_ready (rs := [12]) (by kernel_rfl) (by simp) ?_
                    refine AllReadyH.cons rfl (fun K hK => ?_) AllReadyH.nil
                    · go_simp
                      refine hK.out _ _ (by exact two_endB _ _ _ X6.out (Nat.ne_of_gt hlt5)) (fun hHeld => ?_)
                      clear hK K
                      try simp only [Act.put, List.setIfInBounds_toArray, List.set_cons_zero, List.set_cons_succ, List.getElem_toArray, List.getElem_cons_succ, List.getElem_cons_zero]
                      refine wpAnyH_take (i := 13) (v := ?_) rfl (by kernel_rfl) (by kernel_rfl) (by kernel_rfl) (fun _ _ _ h => h) (Or.inl ⟨by rfl, ?_⟩) (by assumption) ?_
                      rotate_left
                      · intro w' hSw
                        go_simp <;> with_reducible rfl
                      try simp only [Act.put, List.setIfInBounds_toArray, List.set_cons_zero, List.set_cons_succ, List.getElem_toArray, List.getElem_cons_succ, List.getElem_cons_zero]
                      refine wpAnyH_done (by kernel_rfl) ?_ _
                      go_wp2_with fail
                      refine bodyPost_ret (v := .tuple #[.agg #[.string ⟨#[102]⟩, .slice (some ⟨w6.heap.size + 1, 0, none⟩) 2 2], .int .i64 (n6 : Int)]) (by simp [results, Try.results27, go_sem, World.cell?_setCell_same, World.cell?_setCell_other, r0, r1, hlt56, hlt57, hlt58, World.cell?_alloc_old]) rfl ?_
                      exact growA_two B6.out hlt56 S56.out S6.out (fun b hb => Nat.lt_of_lt_of_le R1.out.lt hb) HZ6.out HBIG.out (okA_node (by decide) (by decide) (by simp) (okA_two HE5.out HE6.out)) (by omega) (by exact (blk_at (by simp [World.setCell]) _ _).alloc _)
              · go_simp
                refine hK.out _ _ (by exact hHeld.alloc _) (fun hHeld => ?_)
                clear hK K
                try simp only [Act.put, List.setIfInBounds_toArray, List.set_cons_zero, List.set_cons_succ, List.getElem_toArray, List.getElem_cons_succ, List.getElem_cons_zero]
                refine wpAnyH_ready (rs := [0, 3]) (by kernel_rfl) (by simp) ?_
                refine AllReadyH.cons rfl (fun K hK => ?_) (AllReadyH.cons rfl (fun K hK => ?_) AllReadyH.nil)
                · go_simp
                  refine hK.out _ _ (by exact hHeld.alloc _) (fun hHeld => ?_)
                  clear hK K
                  try simp only [Act.put, List.setIfInBounds_toArray, List.set_cons_zero, List.set_cons_succ, List.getElem_toArray, List.getElem_cons_succ, List.getElem_cons_zero]
                  refine held_mono (S' := TwoF w5 w6 t5 t6 a5 a6 c5 c6 (w6.heap.size + 1 + 1)) (fun _ h => h.1) _ _ _ _ ?_
                  replace hHeld := two_up (b := w6.heap.size + 1 + 1) hHeld (by exact blk_at (w := (w6.alloc (.cells #[.string t6.name, .slice a6 t6.args.length c6] 25)).alloc (.cells #[.string t5.name, .slice a5 t5.args.length c5, .string t6.name, .slice a6 t6.args.length c6] 25)) (by simp) _ _)
                  refine wpAnyH_ready (rs := [3]) (by kernel_rfl) (by simp) ?_
                  refine AllReadyH.cons rfl (fun K hK => ?_) AllReadyH.nil
                  · go_simp
                    go_at_call 9
                    refine (HPK.out _).mono ?_
                    rintro e w7 ⟨rfl, rfl⟩
                    go_simp
                    refine hK.out _ _ (by exact hHeld) (fun hHeld => ?_)
                    clear hK K
                    try simp only [Act.put, List.setIfInBounds_toArray, List.set_cons_zero, List.set_cons_succ, List.getElem_toArray, List.getElem_cons_succ, List.getElem_cons_zero]
                    refine wpAnyH_take (i := 4) (v := ?_) rfl (by kernel_rfl) (by kernel_rfl) (by kernel_rfl) (fun _ _ _ h => h) (Or.inl ⟨by rfl, ?_⟩) (by assumption) ?_
                    rotate_left
                    · intro w' hSw
                      go_simp <;> with_reducible rfl
                    try simp only [Act.put, List.setIfInBounds_toArray, List.set_cons_zero, List.set_cons_succ, List.getElem_toArray, List.getElem_cons_succ, List.getElem_cons_zero]
                    refine wpAnyH_take (i := 5) (v := ?_) rfl (by kernel_rfl) (by kernel_rfl) (by kernel_rfl) (fun _ _ _ h => h) (Or.inl ⟨by rfl, ?_⟩) (by assumption) ?_
                    rotate_left
                    · intro w' hSw
                      go_simp <;> with_reducible rfl
                    try simp only [Act.put, List.setIfInBounds_toArray, List.set_cons_zero, List.set_cons_succ, List.getElem_toArray, List.getElem_cons_succ, List.getElem_cons_zero]
                    refine wpAnyH_take (i := 6) (v := ?_) rfl (by kernel_rfl) (by kernel_rfl) (by kernel_rfl) (fun _ _ _ h => h) (Or.inl ⟨by rfl, ?_⟩) (by assumption) ?_
                    rotate_left
                    · intro w' hSw
                      have k4 : w'.cell? ⟨w6.heap.size + 1 + 1, 0, none⟩ = some (.string ⟨#[102]⟩) := hSw.2.cell 0
                      have k5 : w'.cell? ⟨w6.heap.size + 1 + 1, 1, none⟩ = some (.string ⟨#[103]⟩) := hSw.2.cell 1
                      go_simp <;> with_reducible rfl
                    try simp only [Act.put, List.setIfInBounds_toArray, List.set_cons_zero, List.set_cons_succ, List.getElem_toArray, List.getElem_cons_succ, List.getElem_cons_zero]
                    refine wpAnyH_take (i := 10) (v := ?_) rfl (by kernel_rfl) (by kernel_rfl) (by kernel_rfl) (fun _ _ _ h => h) (Or.inl ⟨by rfl, ?_⟩) (by assumption) ?_
                    rotate_left
                    · intro w' hSw
                      go_simp <;> with_reducible rfl
                    try simp only [Act.put, List.setIfInBounds_toArray, List.set_cons_zero, List.set_cons_succ, List.getElem_toArray, List.getElem_cons_succ, List.getElem_cons_zero]
                    refine wpAnyH_ready (rs := [12]) (by kernel_rfl) (by simp) ?_
                    refine AllReadyH.cons rfl (fun K hK => ?_) AllReadyH.nil
                    · go_simp
                      refine hK.out _ _ (by exact two_endB _ _ _ X6.out (Nat.ne_of_gt hlt5)) (fun hHeld => ?_)
                      clear hK K
                      try simp only [Act.put, List.setIfInBounds_toArray, List.set_cons_zero, List.set_cons_succ, List.getElem_toArray, List.getElem_cons_succ, List.getElem_cons_zero]
                      refine wpAnyH_take (i := 13) (v := ?_) rfl (by kernel_rfl) (by kernel_rfl) (by kernel_rfl) (fun _ _ _ h => h) (Or.inl ⟨by rfl, ?_⟩) (by assumption) ?_
                      rotate_left
                      · intro w' hSw
                        go_simp <;> with_reducible rfl
                      try simp only [Act.put, List.setIfInBounds_toArray, List.set_cons_zero, List.set_cons_succ, List.getElem_toArray, List.getElem_cons_succ, List.getElem_cons_zero]
                      refine wpAnyH_done (by kernel_rfl) ?_ _
                      go_wp2_with fail
                      refine bodyPost_ret (v := .tuple #[.agg #[.string ⟨#[102]⟩, .slice (some ⟨w6.heap.size + 1, 0, none⟩) 2 2], .int .i64 (n6 : Int)]) (by simp [results, Try.results27, go_sem, World.cell?_setCell_same, World.cell?_setCell_other, r0, r1, hlt56, hlt57, hlt58, World.cell?_alloc_old]) rfl ?_
                      exact growA_two B6.out hlt56 S56.out S6.out (fun b hb => Nat.lt_of_lt_of_le R1.out.lt hb) HZ6.out HBIG.out (okA_node (by decide) (by decide) (by simp) (okA_two HE5.out HE6.out)) (by omega) (by exact (blk_at (by simp [World.setCell]) _ _).alloc _)
                · go_simp
                  go_at_call 9
                  refine (HPK.out _).mono ?_
                  rintro e w7 ⟨rfl, rfl⟩
                  go_simp
                  refine hK.out _ _ (by exact hHeld) (fun hHeld => ?_)
                  clear hK K
                  try simp only [Act.put, List.setIfInBounds_toArray, List.set_cons_zero, List.set_cons_succ, List.getElem_toArray, List.getElem_cons_succ, List.getElem_cons_zero]
                  refine wpAnyH_take (i := 4) (v := ?_) rfl (by kernel_rfl) (by kernel_rfl) (by kernel_rfl) (fun _ _ _ h => h) (Or.inl ⟨by rfl, ?_⟩) (by assumption) ?_
                  rotate_left
                  · intro w' hSw
                    go_simp <;> with_reducible rfl
                  try simp only [Act.put, List.setIfInBounds_toArray, List.set_cons_zero, List.set_cons_succ, List.getElem_toArray, List.getElem_cons_succ, List.getElem_cons_zero]
                  refine wpAnyH_ready (rs := [0]) (by kernel_rfl) (by simp) ?_
                  refine AllReadyH.cons rfl (fun K hK => ?_) AllReadyH.nil
                  · go_simp
                    refine hK.out _ _ (by exact hHeld.alloc _) (fun hHeld => ?_)
                    clear hK K
                    try simp only [Act.put, List.setIfInBounds_toArray, List.set_cons_zero, List.set_cons_succ, List.getElem_toArray, List.getElem_cons_succ, List.getElem_cons_zero]
                    refine held_mono (S' := TwoF w5 w6 t5 t6 a5 a6 c5 c6 (w6.heap.size + 1 + 1)) (fun _ h => h.1) _ _ _ _ ?_
                    replace hHeld := two_up (b := w6.heap.size + 1 + 1) hHeld (by exact blk_at (w := (w6.alloc (.cells #[.string t6.name, .slice a6 t6.args.length c6] 25)).alloc (.cells #[.string t5.name, .slice a5 t5.args.length c5, .string t6.name, .slice a6 t6.args.length c6] 25)) (by simp) _ _)
                    refine wpAnyH_take (i := 5) (v := ?_) rfl (by kernel_rfl) (by kernel_rfl) (by kernel_rfl) (fun _ _ _ h => h) (Or.inl ⟨by rfl, ?_⟩) (by assumption) ?_
                    rotate_left
                    · intro w' hSw
                      go_simp <;> with_reducible rfl
                    try simp only [Act.put, List.setIfInBounds_toArray, List.set_cons_zero, List.set_cons_succ, List.getElem_toArray, List.getElem_cons_succ, List.getElem_cons_zero]
                    refine wpAnyH_take (i := 6) (v := ?_) rfl (by kernel_rfl) (by kernel_rfl) (by kernel_rfl) (fun _ _ _ h => h) (Or.inl ⟨by rfl, ?_⟩) (by assumption) ?_
                    rotate_left
                    · intro w' hSw
                      have k4 : w'.cell? ⟨w6.heap.size + 1 + 1, 0, none⟩ = some (.string ⟨#[102]⟩) := hSw.2.cell 0
                      have k5 : w'.cell? ⟨w6.heap.size + 1 + 1, 1, none⟩ = some (.string ⟨#[103]⟩) := hSw.2.cell 1
                      go_simp <;> with_reducible rfl
                    try simp only [Act.put, List.setIfInBounds_toArray, List.set_cons_zero, List.set_cons_succ, List.getElem_toArray, List.getElem_cons_succ, List.getElem_cons_zero]
                    refine wpAnyH_take (i := 10) (v := ?_) rfl (by kernel_rfl) (by kernel_rfl) (by kernel_rfl) (fun _ _ _ h => h) (Or.inl ⟨by rfl, ?_⟩) (by assumption) ?_
                    rotate_left
                    · intro w' hSw
                      go_simp <;> with_reducible rfl
                    try simp only [Act.put, List.setIfInBounds_toArray, List.set_cons_zero, List.set_cons_succ, List.getElem_toArray, List.getElem_cons_succ, List.getElem_cons_zero]
                    refine wpAnyH_ready (rs := [12]) (by kernel_rfl) (by simp) ?_
                    refine AllReadyH.cons rfl (fun K hK => ?_) AllReadyH.nil
                    · go_simp
                      refine hK.out _ _ (by exact two_endB _ _ _ X6.out (Nat.ne_of_gt hlt5)) (fun hHeld => ?_)
                      clear hK K
                      try simp only [Act.put, List.setIfInBounds_toArray, List.set_cons_zero, List.set_cons_succ, List.getElem_toArray, List.getElem_cons_succ, List.getElem_cons_zero]
                      refine wpAnyH_take (i := 13) (v := ?_) rfl (by kernel_rfl) (by kernel_rfl) (by kernel_rfl) (fun _ _ _ h => h) (Or.inl ⟨by rfl, ?_⟩) (by assumption) ?_
                      rotate_left
                      · intro w' hSw
                        go_simp <;> with_reducible rfl
                      try simp only [Act.put, List.setIfInBounds_toArray, List.set_cons_zero, List.set_cons_succ, List.getElem_toArray, List.getElem_cons_succ, List.getElem_cons_zero]
                      refine wpAnyH_done (by kernel_rfl) ?_ _
                      go_wp2_with fail
                      refine bodyPost_ret (v := .tuple #[.agg #[.string ⟨#[102]⟩, .slice (some ⟨w6.heap.size + 1, 0, none⟩) 2 2], .int .i64 (n6 : Int)]) (by simp [results, Try.results27, go_sem, World.cell?_setCell_same, World.cell?_setCell_other, r0, r1, hlt56, hlt57, hlt58, World.cell?_alloc_old]) rfl ?_
                      exact growA_two B6.out hlt56 S56.out S6.out (fun b hb => Nat.lt_of_lt_of_le R1.out.lt hb) HZ6.out HBIG.out (okA_node (by decide) (by decide) (by simp) (okA_two HE5.out HE6.out)) (by omega) (by exact (blk_at (by simp [World.setCell]) _ _).alloc _)
            · clear hth hhb hh hn6 hn6' hz6 hz5 hn5 hn5' hc5 hc5' hc6 hc6' hi hm hc hr hzl h42 h41 h40 hk4 h1 hk1 h3
              have HS0 : TwoS w5 w6 t5 t6 a5 a6 c5 c6 (w6.alloc (.cells #[.string t6.name, .slice a6 t6.args.length c6] 25)).drew := ⟨X6.out.alloc _, Y6.out⟩
              refine wp_region_held_drew (S := TwoS w5 w6 t5 t6 a5 a6 c5 c6) (by kernel_rfl) HS0 (fun hHeld => ?_)
              refine wpAnyH_take (i := 1) (v := ?_) rfl (by kernel_rfl) (by kernel_rfl) (by kernel_rfl) (fun _ _ _ h => h) (Or.inl ⟨by rfl, ?_⟩) (by assumption) ?_
              rotate_left
              · intro w' hSw
                go_simp <;> with_reducible rfl
              try simp only [Act.put, List.setIfInBounds_toArray, List.set_cons_zero, List.set_cons_succ, List.getElem_toArray, List.getElem_cons_succ, List.getElem_cons_zero]
              refine wpAnyH_take (i := 2) (v := ?_) rfl (by kernel_rfl) (by kernel_rfl) (by kernel_rfl) (fun _ _ _ h => h) (Or.inl ⟨by rfl, ?_⟩) (by assumption) ?_
              rotate_left
              · intro w' hSw
                go_simp <;> with_reducible rfl
              try simp only [Act.put, List.setIfInBounds_toArray, List.set_cons_zero, List.set_cons_succ, List.getElem_toArray, List.getElem_cons_succ, List.getElem_cons_zero]
              refine wpAnyH_take (i := 7) (v := ?_) rfl (by kernel_rfl) (by kernel_rfl) (by kernel_rfl) (fun _ _ _ h => h) (Or.inl ⟨by rfl, ?_⟩) (by assumption) ?_
              rotate_left
              · intro w' hSw
                have k0 : w'.cell? ⟨w5.heap.size, 0, none⟩ = some (.string t5.name) := hSw.1.cell 0
                have k1 : w'.cell? ⟨w5.heap.size, 1, none⟩ = some (.slice a5 t5.args.length c5) := hSw.1.cell 1
                go_simp <;> with_reducible rfl
              try simp only [Act.put, List.setIfInBounds_toArray, List.set_cons_zero, List.set_cons_succ, List.getElem_toArray, List.getElem_cons_succ, List.getElem_cons_zero]
              refine wpAnyH_take (i := 8) (v := ?_) rfl (by kernel_rfl) (by kernel_rfl) (by kernel_rfl) (fun _ _ _ h => h) (Or.inl ⟨by rfl, ?_⟩) (by assumption) ?_
              rotate_left
              · intro w' hSw
                have k2 : w'.cell? ⟨w6.heap.size, 0, none⟩ = some (.string t6.name) := hSw.2.cell 0
                have k3 : w'.cell? ⟨w6.heap.size, 1, none⟩ = some (.slice a6 t6.args.length c6) := hSw.2.cell 1
                go_simp <;> with_reducible rfl
              try simp only [Act.put, List.setIfInBounds_toArray, List.set_cons_zero, List.set_cons_succ, List.getElem_toArray, List.getElem_cons_succ, List.getElem_cons_zero]
              refine wpAnyH_take (i := 11) (v := ?_) rfl (by kernel_rfl) (by kernel_rfl) (by kernel_rfl) (fun _ _ _ h => h) (Or.inl ⟨by rfl, ?_⟩) (by assumption) ?_
              rotate_left
              · intro w' hSw
                go_simp <;> with_reducible rfl
              try simp only [Act.put, List.setIfInBounds_toArray, List.set_cons_zero, List.set_cons_succ, List.getElem_toArray, List.getElem_cons_succ, List.getElem_cons_zero]
              refine wpAnyH_ready (rs := [0, 3, 9]) (by kernel_rfl) (by simp) ?_
              refine AllReadyH.cons rfl (fun K hK => ?_) (AllReadyH.cons rfl (fun K hK => ?_) (AllReadyH.cons rfl (fun K hK => ?_) AllReadyH.nil))
              · go_simp
                refine hK.out _ _ (by exact hHeld.alloc _) (fun hHeld => ?_)
                clear hK K
                try simp only [Act.put, List.setIfInBounds_toArray, List.set_cons_zero, List.set_cons_succ, List.getElem_toArray, List.getElem_cons_succ, List.getElem_cons_zero]
                refine held_mono (S' := TwoF w5 w6 t5 t6 a5 a6 c5 c6 (w6.heap.size + 1)) (fun _ h => h.1) _ _ _ _ ?_
                replace hHeld := two_up (b := w6.heap.size + 1) hHeld (by exact blk_at (w := w6.alloc (.cells #[.string t6.name, .slice a6 t6.args.length c6] 25)) (by simp) _ _)
                refine wpAnyH_ready (rs := [3, 9]) (by kernel_rfl) (by simp) ?_
                refine AllReadyH.cons rfl (fun K hK => ?_) (AllReadyH.cons rfl (fun K hK => ?_) AllReadyH.nil)
                · go_simp
                  go_at_call 9
                  refine (HPK.out _).mono ?_
                  rintro e w7 ⟨rfl, rfl⟩
                  go_simp
                  refine hK.out _ _ (by exact hHeld) (fun hHeld => ?_)
                  clear hK K
                  try simp only [Act.put, List.setIfInBounds_toArray, List.set_cons_zero, List.set_cons_succ, List.getElem_toArray, List.getElem_cons_succ, List.getElem_cons_zero]
                  refine wpAnyH_take (i := 4) (v := ?_) rfl (by kernel_rfl) (by kernel_rfl) (by kernel_rfl) (fun _ _ _ h => h) (Or.inl ⟨by rfl, ?_⟩) (by assumption) ?_
                  rotate_left
                  · intro w' hSw
                    go_simp <;> with_reducible rfl
                  try simp only [Act.put, List.setIfInBounds_toArray, List.set_cons_zero, List.set_cons_succ, List.getElem_toArray, List.getElem_cons_succ, List.getElem_cons_zero]
                  refine wpAnyH_take (i := 5) (v := ?_) rfl (by kernel_rfl) (by kernel_rfl) (by kernel_rfl) (fun _ _ _ h => h) (Or.inl ⟨by rfl, ?_⟩) (by assumption) ?_
                  rotate_left
                  · intro w' hSw
                    go_simp <;> with_reducible rfl
                  try simp only [Act.put, List.setIfInBounds_toArray, List.set_cons_zero, List.set_cons_succ, List.getElem_toArray, List.getElem_cons_succ, List.getElem_cons_zero]
                  refine wpAnyH_take (i := 6) (v := ?_) rfl (by kernel_rfl) (by kernel_rfl) (by kernel_rfl) (fun _ _ _ h => h) (Or.inl ⟨by rfl, ?_⟩) (by assumption) ?_
                  rotate_left
                  · intro w' hSw
                    have k4 : w'.cell? ⟨w6.heap.size + 1, 0, none⟩ = some (.string ⟨#[102]⟩) := hSw.2.cell 0
                    have k5 : w'.cell? ⟨w6.heap.size + 1, 1, none⟩ = some (.string ⟨#[103]⟩) := hSw.2.cell 1
                    go_simp <;> with_reducible rfl
                  try simp only [Act.put, List.setIfInBounds_toArray, List.set_cons_zero, List.set_cons_succ, List.getElem_toArray, List.getElem_cons_succ, List.getElem_cons_zero]
                  refine wpAnyH_ready (rs := [9]) (by kernel_rfl) (by simp) ?_
                  refine AllReadyH.cons rfl (fun K hK => ?_) AllReadyH.nil
                  · go_simp
                    refine hK.out _ _ (by exact hHeld.alloc _) (fun hHeld => ?_)
                    clear hK K
                    try simp only [Act.put, List.setIfInBounds_toArray, List.set_cons_zero, List.set_cons_succ, List.getElem_toArray, List.getElem_cons_succ, List.getElem_cons_zero]
                    refine wpAnyH_take (i := 10) (v := ?_) rfl (by kernel_rfl) (by kernel_rfl) (by kernel_rfl) (fun _ _ _ h => h) (Or.inl ⟨by rfl, ?_⟩) (by assumption) ?_
                    rotate_left
                    · intro w' hSw
                      go_simp <;> with_reducible rfl
                    try simp only [Act.put, List.setIfInBounds_toArray, List.set_cons_zero, List.set_cons_succ, List.getElem_toArray, List.getElem_cons_succ, List.getElem_cons_zero]
                    refine wpAnyH_ready (rs := [12]) (by kernel_rfl) (by simp) ?_
                    refine AllReadyH.cons rfl (fun K hK => ?_) AllReadyH.nil
                    · go_simp
                      refine hK.out _ _ (by exact two_endA _ _ _ X6.out (Nat.ne_of_gt hlt5)) (fun hHeld => ?_)
                      clear hK K
                      try simp only [Act.put, List.setIfInBounds_toArray, List.set_cons_zero, List.set_cons_succ, List.getElem_toArray, List.getElem_cons_succ, List.getElem_cons_zero]
                      refine wpAnyH_take (i := 13) (v := ?_) rfl (by kernel_rfl) (by kernel_rfl) (by kernel_rfl) (fun _ _ _ h => h) (Or.inl ⟨by rfl, ?_⟩) (by assumption) ?_
                      rotate_left
                      · intro w' hSw
                        go_simp <;> with_reducible rfl
                      try simp only [Act.put, List.setIfInBounds_toArray, List.set_cons_zero, List.set_cons_succ, List.getElem_toArray, List.getElem_cons_succ, List.getElem_cons_zero]
                      refine wpAnyH_done (by kernel_rfl) ?_ _
                      go_wp2_with fail
                      refine bodyPost_ret (v := .tuple #[.agg #[.string ⟨#[103]⟩, .slice (some ⟨w6.heap.size + 1 + 1, 0, none⟩) 2 2], .int .i64 (n6 : Int)]) (by simp [results, Try.results27, go_sem, World.cell?_setCell_same, World.cell?_setCell_other, r0, r1, hlt56, hlt57, hlt58, World.cell?_alloc_old]) rfl ?_
                      exact growA_two B6.out hlt56 S56.out S6.out (fun b hb => Nat.lt_of_lt_of_le R1.out.lt hb) HZ6.out HBIG.out (okA_node (by decide) (by decide) (by simp) (okA_two HE5.out HE6.out)) (by omega) (by exact blk_at (by simp [World.setCell]) _ _)
                · go_simp
                  refine hK.out _ _ (by exact hHeld.alloc _) (fun hHeld => ?_)
                  clear hK K
                  try simp only [Act.put, List.setIfInBounds_toArray, List.set_cons_zero, List.set_cons_succ, List.getElem_toArray, List.getElem_cons_succ, List.getElem_cons_zero]
                  refine wpAnyH_ready (rs := [3]) (by kernel_rfl) (by simp) ?_
                  refine AllReadyH.cons rfl (fun K hK => ?_) AllReadyH.nil
                  · go_simp
                    go_at_call 9
                    refine (HPK.out _).mono ?_
                    rintro e w7 ⟨rfl, rfl⟩
                    go_simp
                    refine hK.out _ _ (by exact hHeld) (fun hHeld => ?_)
                    clear hK K
                    try simp only [Act.put, List.setIfInBounds_toArray, List.set_cons_zero, List.set_cons_succ, List.getElem_toArray, List.getElem_cons_succ, List.getElem_cons_zero]
                    refine wpAnyH_take (i := 4) (v := ?_) rfl (by kernel_rfl) (by kernel_rfl) (by kernel_rfl) (fun _ _ _ h => h) (Or.inl ⟨by rfl, ?_⟩) (by assumption) ?_
                    rotate_left
                    · intro w' hSw
                      go_simp <;> with_reducible rfl
                    try simp only [Act.put, List.setIfInBounds_toArray, List.set_cons_zero, List.set_cons_succ, List.getElem_toArray, List.getElem_cons_succ, List.getElem_cons_zero]
                    refine wpAnyH_take (i := 5) (v := ?_) rfl (by kernel_rfl) (by kernel_rfl) (by kernel_rfl) (fun _ _ _ h => h) (Or.inl ⟨by rfl, ?_⟩) (by assumption) ?_
                    rotate_left
                    · intro w' hSw
                      go_simp <;> with_reducible rfl
                    try simp only [Act.put, List.setIfInBounds_toArray, List.set_cons_zero, List.set_cons_succ, List.getElem_toArray, List.getElem_cons_succ, List.getElem_cons_zero]
                    refine wpAnyH_take (i := 6) (v := ?_) rfl (by kernel_rfl) (by kernel_rfl) (by kernel_rfl) (fun _ _ _ h => h) (Or.inl ⟨by rfl, ?_⟩) (by assumption) ?_
                    rotate_left
                    · intro w' hSw
                      have k4 : w'.cell? ⟨w6.heap.size + 1, 0, none⟩ = some (.string ⟨#[102]⟩) := hSw.2.cell 0
                      have k5 : w'.cell? ⟨w6.heap.size + 1, 1, none⟩ = some (.string ⟨#[103]⟩) := hSw.2.cell 1
                      go_simp <;> with_reducible rfl
                    try simp only [Act.put, List.setIfInBounds_toArray, List.set_cons_zero, List.set_cons_succ, List.getElem_toArray, List.getElem_cons_succ, List.getElem_cons_zero]
                    refine wpAnyH_take (i := 10) (v := ?_) rfl (by kernel_rfl) (by kernel_rfl) (by kernel_rfl) (fun _ _ _ h => h) (Or.inl ⟨by rfl, ?_⟩) (by assumption) ?_
                    rotate_left
                    · intro w' hSw
                      go_simp <;> with_reducible rfl
                    try simp only [Act.put, List.setIfInBounds_toArray, List.set_cons_zero, List.set_cons_succ, List.getElem_toArray, List.getElem_cons_succ, List.getElem_cons_zero]
                    refine wpAnyH_ready (rs := [12]) (by kernel_rfl) (by simp) ?_
                    refine AllReadyH.cons rfl (fun K hK => ?_) AllReadyH.nil
                    · go_simp
                      refine hK.out _ _ (by exact two_endA _ _ _ X6.out (Nat.ne_of_gt hlt5)) (fun hHeld => ?_)
                      clear hK K
                      try simp only [Act.put, List.setIfInBounds_toArray, List.set_cons_zero, List.set_cons_succ, List.getElem_toArray, List.getElem_cons_succ, List.getElem_cons_zero]
                      refine wpAnyH_take (i := 13) (v := ?_) rfl (by kernel_rfl) (by kernel_rfl) (by kernel_rfl) (fun _ _ _ h => h) (Or.inl ⟨by rfl, ?_⟩) (by assumption) ?_
                      rotate_left
                      · intro w' hSw
                        go_simp <;> with_reducible rfl
                      try simp only [Act.put, List.setIfInBounds_toArray, List.set_cons_zero, List.set_cons_succ, List.getElem_toArray, List.getElem_cons_succ, List.getElem_cons_zero]
                      refine wpAnyH_done (by kernel_rfl) ?_ _
                      go_wp2_with fail
                      refine bodyPost_ret (v := .tuple #[.agg #[.string ⟨#[103]⟩, .slice (some ⟨w6.heap.size + 1 + 1, 0, none⟩) 2 2], .int .i64 (n6 : Int)]) (by simp [results, Try.results27, go_sem, World.cell?_setCell_same, World.cell?_setCell_other, r0, r1, hlt56, hlt57, hlt58, World.cell?_alloc_old]) rfl ?_
                      exact growA_two B6.out hlt56 S56.out S6.out (fun b hb => Nat.lt_of_lt_of_le R1.out.lt hb) HZ6.out HBIG.out (okA_node (by decide) (by decide) (by simp) (okA_two HE5.out HE6.out)) (by omega) (by exact blk_at (by simp [World.setCell]) _ _)
              · go_simp
                go_at_call 9
                refine (HPK.out _).mono ?_
                rintro e w7 ⟨rfl, rfl⟩
                go_simp
                refine hK.out _ _ (by exact hHeld) (fun hHeld => ?_)
                clear hK K
                try simp only [Act.put, List.setIfInBounds_toArray, List.set_cons_zero, List.set_cons_succ, List.getElem_toArray, List.getElem_cons_succ, List.getElem_cons_zero]
                refine wpAnyH_take (i := 4) (v := ?_) rfl (by kernel_rfl) (by kernel_rfl) (by kernel_rfl) (fun _ _ _ h => h) (Or.inl ⟨by rfl, ?_⟩) (by assumption) ?_
                rotate_left
                · intro w' hSw
                  go_simp <;> with_reducible rfl
                try simp only [Act.put, List.setIfInBounds_toArray, List.set_cons_zero, List.set_cons_succ, List.getElem_toArray, List.getElem_cons_succ, List.getElem_cons_zero]
                refine wpAnyH_ready (rs := [0, 9]) (by kernel_rfl) (by simp) ?_
                refine AllReadyH.cons rfl (fun K hK => ?_) (AllReadyH.cons rfl (fun K hK => ?_) AllReadyH.nil)
                · go_simp
                  refine hK.out _ _ (by exact hHeld.alloc _) (fun hHeld => ?_)
                  clear hK K
                  try simp only [Act.put, List.setIfInBounds_toArray, List.set_cons_zero, List.set_cons_succ, List.getElem_toArray, List.getElem_cons_succ, List.getElem_cons_zero]
                  refine held_mono (S' := TwoF w5 w6 t5 t6 a5 a6 c5 c6 (w6.heap.size + 1)) (fun _ h => h.1) _ _ _ _ ?_
                  replace hHeld := two_up (b := w6.heap.size + 1) hHeld (by exact blk_at (w := w6.alloc (.cells #[.string t6.name, .slice a6 t6.args.length c6] 25)) (by simp) _ _)
                  refine wpAnyH_take (i := 5) (v := ?_) rfl (by kernel_rfl) (by kernel_rfl) (by kernel_rfl) (fun _ _ _ h => h) (Or.inl ⟨by rfl, ?_⟩) (by assumption) ?_
                  rotate_left
                  · intro w' hSw
                    go_simp <;> with_reducible rfl
                  try simp only [Act.put, List.setIfInBounds_toArray, List.set_cons_zero, List.set_cons_succ, List.getElem_toArray, List.getElem_cons_succ, List.getElem_cons_zero]
                  refine wpAnyH_take (i := 6) (v := ?_) rfl (by kernel_rfl) (by kernel_rfl) (by kernel_rfl) (fun _ _ _ h => h) (Or.inl ⟨by rfl, ?_⟩) (by assumption) ?_
                  rotate_left
                  · intro w' hSw
                    have k4 : w'.cell? ⟨w6.heap.size + 1, 0, none⟩ = some (.string ⟨#[102]⟩) := hSw.2.cell 0
                    have k5 : w'.cell? ⟨w6.heap.size + 1, 1, none⟩ = some (.string ⟨#[103]⟩) := hSw.2.cell 1
                    go_simp <;> with_reducible rfl
                  try simp only [Act.put, List.setIfInBounds_toArray, List.set_cons_zero, List.set_cons_succ, List.getElem_toArray, List.getElem_cons_succ, List.getElem_cons_zero]
                  refine wpAnyH_ready (rs := [9]) (by kernel_rfl) (by simp) ?_
                  refine AllReadyH.cons rfl (fun K hK => ?_) AllReadyH.nil
                  · go_simp
                    refine hK.out _ _ (by exact hHeld.alloc _) (fun hHeld => ?_)
                    clear hK K
                    try simp only [Act.put, List.setIfInBounds_toArray, List.set_cons_zero, List.set_cons_succ, List.getElem_toArray, List.getElem_cons_succ, List.getElem_cons_zero]
                    refine wpAnyH_take (i := 10) (v := ?_) rfl (by kernel_rfl) (by kernel_rfl) (by kernel_rfl) (fun _ _ _ h => h) (Or.inl ⟨by rfl, ?_⟩) (by assumption) ?_
                    rotate_left
                    · intro w' hSw
                      go_simp <;> with_reducible rfl
                    try simp only [Act.put, List.setIfInBounds_toArray, List.set_cons_zero, List.set_cons_succ, List.getElem_toArray, List.getElem_cons_succ, List.getElem_cons_zero]
                    refine wpAnyH_ready (rs := [12]) (by kernel_rfl) (by simp) ?_
                    refine AllReadyH.cons rfl (fun K hK => ?_) AllReadyH.nil
                    · go_simp
                      refine hK.out _ _ (by exact two_endA _ _ _ X6.out (Nat.ne_of_gt hlt5)) (fun hHeld => ?_)
                      clear hK K
                      try simp only [Act.put, List.setIfInBounds_toArray, List.set_cons_zero, List.set_cons_succ, List.getElem_toArray, List.getElem_cons_succ, List.getElem_cons_zero]
                      refine wpAnyH_take (i := 13) (v := ?_) rfl (by kernel_rfl) (by kernel_rfl) (by kernel_rfl) (fun _ _ _ h => h) (Or.inl ⟨by rfl, ?_⟩) (by assumption) ?_
                      rotate_left
                      · intro w' hSw
                        go_simp <;> with_reducible rfl
                      try simp only [Act.put, List.setIfInBounds_toArray, List.set_cons_zero, List.set_cons_succ, List.getElem_toArray, List.getElem_cons_succ, List.getElem_cons_zero]
                      refine wpAnyH_done (by kernel_rfl) ?_ _
                      go_wp2_with fail
                      refine bodyPost_ret (v := .tuple #[.agg #[.string ⟨#[103]⟩, .slice (some ⟨w6.heap.size + 1 + 1, 0, none⟩) 2 2], .int .i64 (n6 : Int)]) (by simp [results, Try.results27, go_sem, World.cell?_setCell_same, World.cell?_setCell_other, r0, r1, hlt56, hlt57, hlt58, World.cell?_alloc_old]) rfl ?_
                      exact growA_two B6.out hlt56 S56.out S6.out (fun b hb => Nat.lt_of_lt_of_le R1.out.lt hb) HZ6.out HBIG.out (okA_node (by decide) (by decide) (by simp) (okA_two HE5.out HE6.out)) (by omega) (by exact blk_at (by simp [World.setCell]) _ _)
                · go_simp
                  refine hK.out _ _ (by exact hHeld.alloc _) (fun hHeld => ?_)
                  clear hK K
                  try simp only [Act.put, List.setIfInBounds_toArray, List.set_cons_zero, List.set_cons_succ, List.getElem_toArray, List.getElem_cons_succ, List.getElem_cons_zero]
                  refine wpAnyH_ready (rs := [0]) (by kernel_rfl) (by simp) ?_
                  refine AllReadyH.cons rfl (fun K hK => ?_) AllReadyH.nil
                  · go_simp
                    refine hK.out _ _ (by exact hHeld.alloc _) (fun hHeld => ?_)
                    clear hK K
                    try simp only [Act.put, List.setIfInBounds_toArray, List.set_cons_zero, List.set_cons_succ, List.getElem_toArray, List.getElem_cons_succ, List.getElem_cons_zero]
                    refine held_mono (S' := TwoF w5 w6 t5 t6 a5 a6 c5 c6 (w6.heap.size + 1 + 1)) (fun _ h => h.1) _ _ _ _ ?_
                    replace hHeld := two_up (b := w6.heap.size + 1 + 1) hHeld (by exact blk_at (w := (w6.alloc (.cells #[.string t6.name, .slice a6 t6.args.length c6] 25)).alloc (.cells #[.string t5.name, .slice a5 t5.args.length c5, .string t6.name, .slice a6 t6.args.length c6] 25)) (by simp) _ _)
                    refine wpAnyH_take (i := 5) (v := ?_) rfl (by kernel_rfl) (by kernel_rfl) (by kernel_rfl) (fun _ _ _ h => h) (Or.inl ⟨by rfl, ?_⟩) (by assumption) ?_
                    rotate_left
                    · intro w' hSw
                      go_simp <;> with_reducible rfl
                    try simp only [Act.put, List.setIfInBounds_toArray, List.set_cons_zero, List.set_cons_succ, List.getElem_toArray, List.getElem_cons_succ, List.getElem_cons_zero]
                    refine wpAnyH_take (i := 6) (v := ?_) rfl (by kernel_rfl) (by kernel_rfl) (by kernel_rfl) (fun _ _ _ h => h) (Or.inl ⟨by rfl, ?_⟩) (by assumption) ?_
                    rotate_left
                    · intro w' hSw
                      have k4 : w'.cell? ⟨w6.heap.size + 1 + 1, 0, none⟩ = some (.string ⟨#[102]⟩) := hSw.2.cell 0
                      have k5 : w'.cell? ⟨w6.heap.size + 1 + 1, 1, none⟩ = some (.string ⟨#[103]⟩) := hSw.2.cell 1
                      go_simp <;> with_reducible rfl
                    try simp only [Act.put, List.setIfInBounds_toArray, List.set_cons_zero, List.set_cons_succ, List.getElem_toArray, List.getElem_cons_succ, List.getElem_cons_zero]
                    refine wpAnyH_take (i := 10) (v := ?_) rfl (by kernel_rfl) (by kernel_rfl) (by kernel_rfl) (fun _ _ _ h => h) (Or.inl ⟨by rfl, ?_⟩) (by assumption) ?_
                    rotate_left
                    · intro w' hSw
                      go_simp <;> with_reducible rfl
                    try simp only [Act.put, List.setIfInBounds_toArray, List.set_cons_zero, List.set_cons_succ, List.getElem_toArray, List.getElem_cons_succ, List.getElem_cons_zero]
                    refine wpAnyH_ready (rs := [12]) (by kernel_rfl) (by simp) ?_
                    refine AllReadyH.cons rfl (fun K hK => ?_) AllReadyH.nil
                    · go_simp
                      refine hK.out _ _ (by exact two_endB _ _ _ X6.out (Nat.ne_of_gt hlt5)) (fun hHeld => ?_)
                      clear hK K
                      try simp only [Act.put, List.setIfInBounds_toArray, List.set_cons_zero, List.set_cons_succ, List.getElem_toArray, List.getElem_cons_succ, List.getElem_cons_zero]
                      refine wpAnyH_take (i := 13) (v := ?_) rfl (by kernel_rfl) (by kernel_rfl) (by kernel_rfl) (fun _ _ _ h => h) (Or.inl ⟨by rfl, ?_⟩) (by assumption) ?_
                      rotate_left
                      · intro w' hSw
                        go_simp <;> with_reducible rfl
                      try simp only [Act.put, List.setIfInBounds_toArray, List.set_cons_zero, List.set_cons_succ, List.getElem_toArray, List.getElem_cons_succ, List.getElem_cons_zero]
                      refine wpAnyH_done (by kernel_rfl) ?_ _
                      go_wp2_with fail
                      refine bodyPost_ret (v := .tuple #[.agg #[.string ⟨#[103]⟩, .slice (some ⟨w6.heap.size + 1, 0, none⟩) 2 2], .int .i64 (n6 : Int)]) (by simp [results, Try.results27, go_sem, World.cell?_setCell_same, World.cell?_setCell_other, r0, r1, hlt56, hlt57, hlt58, World.cell?_alloc_old]) rfl ?_
                      exact growA_two B6.out hlt56 S56.out S6.out (fun b hb => Nat.lt_of_lt_of_le R1.out.lt hb) HZ6.out HBIG.out (okA_node (by decide) (by decide) (by simp) (okA_two HE5.out HE6.out)) (by omega) (by exact (blk_at (by simp [World.setCell]) _ _).alloc _)
              · go_simp
                refine hK.out _ _ (by exact hHeld.alloc _) (fun hHeld => ?_)
                clear hK K
                try simp only [Act.put, List.setIfInBounds_toArray, List.set_cons_zero, List.set_cons_succ, List.getElem_toArray, List.getElem_cons_succ, List.getElem_cons_zero]
                refine wpAnyH_ready (rs := [0, 3]) (by kernel_rfl) (by simp) ?_
                refine AllReadyH.cons rfl (fun K hK => ?_) (AllReadyH.cons rfl (fun K hK => ?_) AllReadyH.nil)
                · go_simp
                  refine hK.out _ _ (by exact hHeld.alloc _) (fun hHeld => ?_)
                  clear hK K
                  try simp only [Act.put, List.setIfInBounds_toArray, List.set_cons_zero, List.set_cons_succ, List.getElem_toArray, List.getElem_cons_succ, List.getElem_cons_zero]
                  refine held_mono (S' := TwoF w5 w6 t5 t6 a5 a6 c5 c6 (w6.heap.size + 1 + 1)) (fun _ h => h.1) _ _ _ _ ?_
                  replace hHeld := two_up (b := w6.heap.size + 1 + 1) hHeld (by exact blk_at (w := (w6.alloc (.cells #[.string t6.name, .slice a6 t6.args.length c6] 25)).alloc (.cells #[.string t5.name, .slice a5 t5.args.length c5, .string t6.name, .slice a6 t6.args.length c6] 25)) (by simp) _ _)
                  refine wpAnyH_ready (rs := [3]) (by kernel_rfl) (by simp) ?_
                  refine AllReadyH.cons rfl (fun K hK => ?_) AllReadyH.nil
                  · go_simp
                    go_at_call 9
                    refine (HPK.out _).mono ?_
                    rintro e w7 ⟨rfl, rfl⟩
                    go_simp
                    refine hK.out _ _ (by exact hHeld) (fun hHeld => ?_)
                    clear hK K
                    try simp only [Act.put, List.setIfInBounds_toArray, List.set_cons_zero, List.set_cons_succ, List.getElem_toArray, List.getElem_cons_succ, List.getElem_cons_zero]
                    refine wpAnyH_take (i := 4) (v := ?_) rfl (by kernel_rfl) (by kernel_rfl) (by kernel_rfl) (fun _ _ _ h => h) (Or.inl ⟨by rfl, ?_⟩) (by assumption) ?_
                    rotate_left
                    · intro w' hSw
                      go_simp <;> with_reducible rfl
                    try simp only [Act.put, List.setIfInBounds_toArray, List.set_cons_zero, List.set_cons_succ, List.getElem_toArray, List.getElem_cons_succ, List.getElem_cons_zero]
                    refine wpAnyH_take (i := 5) (v := ?_) rfl (by kernel_rfl) (by kernel_rfl) (by kernel_rfl) (fun _ _ _ h => h) (Or.inl ⟨by rfl, ?_⟩) (by assumption) ?_
                    rotate_left
                    · intro w' hSw
                      go_simp <;> with_reducible rfl
                    try simp only [Act.put, List.setIfInBounds_toArray, List.set_cons_zero, List.set_cons_succ, List.getElem_toArray, List.getElem_cons_succ, List.getElem_cons_zero]
                    refine wpAnyH_take (i := 6) (v := ?_) rfl (by kernel_rfl) (by kernel_rfl) (by kernel_rfl) (fun _ _ _ h => h) (Or.inl ⟨by rfl, ?_⟩) (by assumption) ?_
                    rotate_left
                    · intro w' hSw
                      have k4 : w'.cell? ⟨w6.heap.size + 1 + 1, 0, none⟩ = some (.string ⟨#[102]⟩) := hSw.2.cell 0
                      have k5 : w'.cell? ⟨w6.heap.size + 1 + 1, 1, none⟩ = some (.string ⟨#[103]⟩) := hSw.2.cell 1
                      go_simp <;> with_reducible rfl
                    try simp only [Act.put, List.setIfInBounds_toArray, List.set_cons_zero, List.set_cons_succ, List.getElem_toArray, List.getElem_cons_succ, List.getElem_cons_zero]
                    refine wpAnyH_take (i := 10) (v := ?_) rfl (by kernel_rfl) (by kernel_rfl) (by kernel_rfl) (fun _ _ _ h => h) (Or.inl ⟨by rfl, ?_⟩) (by assumption) ?_
                    rotate_left
                    · intro w' hSw
                      go_simp <;> with_reducible rfl
                    try simp only [Act.put, List.setIfInBounds_toArray, List.set_cons_zero, List.set_cons_succ, List.getElem_toArray, List.getElem_cons_succ, List.getElem_cons_zero]
                    refine wpAnyH_ready (rs := [12]) (by kernel_rfl) (by simp) ?_
                    refine AllReadyH.cons rfl (fun K hK => ?_) AllReadyH.nil
                    · go_simp
                      refine hK.out _ _ (by exact two_endB _ _ _ X6.out (Nat.ne_of_gt hlt5)) (fun hHeld => ?_)
                      clear hK K
                      try simp only [Act.put, List.setIfInBounds_toArray, List.set_cons_zero, List.set_cons_succ, List.getElem_toArray, List.getElem_cons_succ, List.getElem_cons_zero]
                      refine wpAnyH_take (i := 13) (v := ?_) rfl (by kernel_rfl) (by kernel_rfl) (by kernel_rfl) (fun _ _ _ h => h) (Or.inl ⟨by rfl, ?_⟩) (by assumption) ?_
                      rotate_left
                      · intro w' hSw
                        go_simp <;> with_reducible rfl
                      try simp only [Act.put, List.setIfInBounds_toArray, List.set_cons_zero, List.set_cons_succ, List.getElem_toArray, List.getElem_cons_succ, List.getElem_cons_zero]
                      refine wpAnyH_done (by kernel_rfl) ?_ _
                      go_wp2_with fail
                      refine bodyPost_ret (v := .tuple #[.agg #[.string ⟨#[103]⟩, .slice (some ⟨w6.heap.size + 1, 0, none⟩) 2 2], .int .i64 (n6 : Int)]) (by simp [results, Try.results27, go_sem, World.cell?_setCell_same, World.cell?_setCell_other, r0, r1, hlt56, hlt57, hlt58, World.cell?_alloc_old]) rfl ?_
                      exact growA_two B6.out hlt56 S56.out S6.out (fun b hb => Nat.lt_of_lt_of_le R1.out.lt hb) HZ6.out HBIG.out (okA_node (by decide) (by decide) (by simp) (okA_two HE5.out HE6.out)) (by omega) (by exact (blk_at (by simp [World.setCell]) _ _).alloc _)
                · go_simp
                  go_at_call 9
                  refine (HPK.out _).mono ?_
                  rintro e w7 ⟨rfl, rfl⟩
                  go_simp
                  refine hK.out _ _ (by exact hHeld) (fun hHeld => ?_)
                  clear hK K
                  try simp only [Act.put, List.setIfInBounds_toArray, List.set_cons_zero, List.set_cons_succ, List.getElem_toArray, List.getElem_cons_succ, List.getElem_cons_zero]
                  refine wpAnyH_take (i := 4) (v := ?_) rfl (by kernel_rfl) (by kernel_rfl) (by kernel_rfl) (fun _ _ _ h => h) (Or.inl ⟨by rfl, ?_⟩) (by assumption) ?_
                  rotate_left
                  · intro w' hSw
                    go_simp <;> with_reducible rfl
                  try simp only [Act.put, List.setIfInBounds_toArray, List.set_cons_zero, List.set_cons_succ, List.getElem_toArray, List.getElem_cons_succ, List.getElem_cons_zero]
                  refine wpAnyH_ready (rs := [0]) (by kernel_rfl) (by simp) ?_
                  refine AllReadyH.cons rfl (fun K hK => ?_) AllReadyH.nil
                  · go_simp
                    refine hK.out _ _ (by exact hHeld.alloc _) (fun hHeld => ?_)
                    clear hK K
                    try simp only [Act.put, List.setIfInBounds_toArray, List.set_cons_zero, List.set_cons_succ, List.getElem_toArray, List.getElem_cons_succ, List.getElem_cons_zero]
                    refine held_mono (S' := TwoF w5 w6 t5 t6 a5 a6 c5 c6 (w6.heap.size + 1 + 1)) (fun _ h => h.1) _ _ _ _ ?_
                    replace hHeld := two_up (b := w6.heap.size + 1 + 1) hHeld (by exact blk_at (w := (w6.alloc (.cells #[.string t6.name, .slice a6 t6.args.length c6] 25)).alloc (.cells #[.string t5.name, .slice a5 t5.args.length c5, .string t6.name, .slice a6 t6.args.length c6] 25)) (by simp) _ _)
                    refine wpAnyH_take (i := 5) (v := ?_) rfl (by kernel_rfl) (by kernel_rfl) (by kernel_rfl) (fun _ _ _ h => h) (Or.inl ⟨by rfl, ?_⟩) (by assumption) ?_
                    rotate_left
                    · intro w' hSw
                      go_simp <;> with_reducible rfl
                    try simp only [Act.put, List.setIfInBounds_toArray, List.set_cons_zero, List.set_cons_succ, List.getElem_toArray, List.getElem_cons_succ, List.getElem_cons_zero]
                    refine wpAnyH_take (i := 6) (v := ?_) rfl (by kernel_rfl) (by kernel_rfl) (by kernel_rfl) (fun _ _ _ h => h) (Or.inl ⟨by rfl, ?_⟩) (by assumption) ?_
                    rotate_left
                    · intro w' hSw
                      have k4 : w'.cell? ⟨w6.heap.size + 1 + 1, 0, none⟩ = some (.string ⟨#[102]⟩) := hSw.2.cell 0
                      have k5 : w'.cell? ⟨w6.heap.size + 1 + 1, 1, none⟩ = some (.string ⟨#[103]⟩) := hSw.2.cell 1
                      go_simp <;> with_reducible rfl
                    try simp only [Act.put, List.setIfInBounds_toArray, List.set_cons_zero, List.set_cons_succ, List.getElem_toArray, List.getElem_cons_succ, List.getElem_cons_zero]
                    refine wpAnyH_take (i := 10) (v := ?_) rfl (by kernel_rfl) (by kernel_rfl) (by kernel_rfl) (fun _ _ _ h => h) (Or.inl ⟨by rfl, ?_⟩) (by assumption) ?_
                    rotate_left
                    · intro w' hSw
                      go_simp <;> with_reducible rfl
                    try simp only [Act.put, List.setIfInBounds_toArray, List.set_cons_zero, List.set_cons_succ, List.getElem_toArray, List.getElem_cons_succ, List.getElem_cons_zero]
                    refine wpAnyH_ready (rs := [12]) (by kernel_rfl) (by simp) ?_
                    refine AllReadyH.cons rfl (fun K hK => ?_) AllReadyH.nil
                    · go_simp
                      refine hK.out _ _ (by exact two_endB _ _ _ X6.out (Nat.ne_of_gt hlt5)) (fun hHeld => ?_)
                      clear hK K
                      try simp only [Act.put, List.setIfInBounds_toArray, List.set_cons_zero, List.set_cons_succ, List.getElem_toArray, List.getElem_cons_succ, List.getElem_cons_zero]
                      refine wpAnyH_take (i := 13) (v := ?_) rfl (by kernel_rfl) (by kernel_rfl) (by kernel_rfl) (fun _ _ _ h => h) (Or.inl ⟨by rfl, ?_⟩) (by assumption) ?_
                      rotate_left
                      · intro w' hSw
                        go_simp <;> with_reducible rfl
                      try simp only [Act.put, List.setIfInBounds_toArray, List.set_cons_zero, List.set_cons_succ, List.getElem_toArray, List.getElem_cons_succ, List.getElem_cons_zero]
                      refine wpAnyH_done (by kernel_rfl) ?_ _
                      go_wp2_with fail
                      refine bodyPost_ret (v := .tuple #[.agg #[.string ⟨#[103]⟩, .slice (some ⟨w6.heap.size + 1, 0, none⟩) 2 2], .int .i64 (n6 : Int)]) (by simp [results, Try.results27, go_sem, World.cell?_setCell_same, World.cell?_setCell_other, r0, r1, hlt56, hlt57, hlt58, World.cell?_alloc_old]) rfl ?_
                      exact growA_two B6.out hlt56 S56.out S6.out (fun b hb => Nat.lt_of_lt_of_le R1.out.lt hb) HZ6.out HBIG.out (okA_node (by decide) (by decide) (by simp) (okA_two HE5.out HE6.out)) (by omega) (by exact (blk_at (by simp [World.setCell]) _ _).alloc _)
#print axioms growA_any
end Go.Proofs.Ytpjdkdebjkpmmaj

/- Walks: pairs out of raw numbers, small ones with at most two below each knot. -/
namespace Go.Proofs.Ytpjdkdebjkpmmaj
open Go.RowKit
set_option linter.unusedSimpArgs false
set_option linter.unusedVariables false
set_option maxRecDepth 8000

def PfInvA (nv : Nat) (w : World) (m many : Nat) (u at_ v : Value) (wr : World) : Prop :=
  ∃ (k n : Nat) (cs : List Pc), k ≤ many ∧ v = .int .i64 (k : Int) ∧ at_ = .int .i64 (n : Int) ∧ n ≤ k * (2 * top m) ∧ cs.length = k ∧ QRow wr w.heap.size (fun _ => False) u cs ∧ (∀ x ∈ cs, (sizeL [x.1.l] ≤ top m ∧ okA nv [x.1.l]) ∧ sizeL [x.1.r] ≤ top m ∧ okA nv [x.1.r]) ∧ Below w.heap.size w wr

set_option maxHeartbeats 1000000 in
theorem pairsFromA_any (nv : Nat) (hnv : 1 ≤ nv) (hnv4 : nv ≤ 4) (zs : List Int) (hr : ∀ z ∈ zs, Rng z) (hzl : zs.length ≤ 1000000) (m many : Nat) (u : Value) (w : World) (X : Nat → Prop) (hu : PV w X u zs) (hm : m ≤ 20) (hmany : many ≤ 4) :
    Calls Try.prog 22 #[u, .int .i64 (many : Int), .int .i64 (m : Int), .int .i64 (nv : Int)] w fun e w' => ∃ v ls, e = .returned v ∧ QV w' (fun b => w.heap.size ≤ b) v ls ∧ ls.length = many ∧ (∀ x ∈ ls, (sizeL [x.l] ≤ top m ∧ okA nv [x.l]) ∧ sizeL [x.r] ≤ top m ∧ okA nv [x.r]) ∧ Below w.heap.size w w' := by
  have HU := hide hu
  clear hu
  have htop : top m ≤ 40 := by unfold top; split <;> omega
  obtain ⟨i0, hi0, hz0, hz1, hz2⟩ := info_parts Try.infoPair
  go_enter Try.func22, Try.ntmps22
  go_wp2_with fail
  go_loopw [9, 10, 11] (fun u at_ v wr => PfInvA nv w m many u at_ v wr) (fun u at_ v wr => many - (intOf v).toNat)
  case atStart => exact ⟨0, 0, [], Nat.zero_le _, rfl, rfl, by omega, rfl, QRow.start _ _ _, by simp, Below.refl _ _⟩
  case round =>
    obtain ⟨k, n, cs, hk, rfl, rfl, hn, hlen, hrow, hall, hb⟩ := hrel
    have HROW := hide hrow
    have HALL := hide hall
    have HB := hide hb
    have hn40 : n ≤ 320 := by
      have h1 : k * (2 * top m) ≤ 4 * 80 := Nat.mul_le_mul (by omega) (by omega)
      omega
    have HN := hide hn
    clear hrow hall hn
    by_cases hlt : k < many
    · have hlt2 : (k : Int) < (many : Int) := by omega
      have GA := hide (growA_any nv hnv hnv4 zs hr hzl m n u wr X (HU.out.later hb) (by omega) (by omega))
      clear hb
      go_wp2_with fail
      refine GA.out.mono ?_
      rintro e w1 ⟨a1, c1, n1, t1, rfl, hs1, _, _, hz1', hn1, hn1', hb1, he1⟩
      have hbA : Below w1.heap.size w1 (w1.alloc (.cells #[.string t1.name, .slice a1 t1.args.length c1] 25)) := (Below.refl _ _).alloc (Nat.le_refl _) _
      have hb2 := hb1.trans (hbA.mono hb1.size)
      have A2 := hide (Blk.new w1 #[.string t1.name, .slice a1 t1.args.length c1] 25)
      have S2 := hide (hs1.later hbA)
      have D2 := hide hb2
      have HB2 := hide (HB.out.trans (hb2.mono HB.out.size))
      clear hbA hb1 hs1 hb2 GA
      go_wp2_with fail
      generalize w1.alloc (.cells #[.string t1.name, .slice a1 t1.args.length c1] 25) = w2 at *
      generalize w1.heap.size = A at *
      refine (growA_any nv hnv hnv4 zs hr hzl m n1 u w2 X (HU.out.later HB2.out) (by omega) (by omega)).mono ?_
      rintro e w3 ⟨a3, c3, n3, t3, rfl, hs3, _, _, hz3', hn3, hn3', hb3, he3⟩
      have hbA : Below w3.heap.size w3 (w3.alloc (.cells #[.string t3.name, .slice a3 t3.args.length c3] 25)) := (Below.refl _ _).alloc (Nat.le_refl _) _
      have hb4 := hb3.trans (hbA.mono hb3.size)
      have B4 := hide (Blk.new w3 #[.string t3.name, .slice a3 t3.args.length c3] 25)
      have A4 := hide (A2.out.below hb4 A2.out.lt)
      have S4 := hide (S2.out.later hb4)
      have T4 := hide ((hs3.later hbA).mono (Y := fun b => wr.heap.size ≤ b) fun b hb _ => by have := D2.out.size; omega)
      have D4 := hide (D2.out.trans (hb4.mono D2.out.size))
      have HB4 := hide (HB2.out.trans (hb4.mono HB2.out.size))
      clear hbA hb3 hs3 hb4 A2 S2 D2 HB2
      have p0 := A4.out.cell 0
      have p1 := A4.out.cell 1
      have q0 := B4.out.cell 0
      have q1 := B4.out.cell 1
      have hlenc : cs.length ≤ 1000000 := by omega
      have hsz3 : (w3.alloc (.cells #[.string t3.name, .slice a3 t3.args.length c3] 25)).heap.size = w3.heap.size + 1 := by simp
      obtain ⟨v5, w5, hrun, hrow5, hg5, _⟩ := pairs_append HROW.out HB.out.size (fun _ h => h.elim) D4.out (⟨t1, t3⟩, (a1, c1), (a3, c3)) ⟨S4.out.mono fun b hb _ => Or.inr hb, T4.out.mono fun b hb _ => Or.inr hb⟩ hlenc (w3.heap.size + 1) hsz3
      have HRUN := hide hrun
      have HROW5 := hide hrow5
      have hltr := HROW.out.own.lt
      have HB5 : Hid (Below w.heap.size w w5) := (HB4.out.alloc HB4.out.size _).grown hg5 (by have := HB4.out.size; simp at *; omega) (fun j hj => (hltr j hj).1)
      have HALL5 : Hid (∀ x ∈ cs ++ [((⟨t1, t3⟩, (a1, c1), (a3, c3)) : Pc)], (sizeL [x.1.l] ≤ top m ∧ okA nv [x.1.l]) ∧ sizeL [x.1.r] ≤ top m ∧ okA nv [x.1.r]) := fun x hx => by
        rcases List.mem_append.1 hx with hx | hx
        · exact HALL.out x hx
        · have e : x = (⟨t1, t3⟩, (a1, c1), (a3, c3)) := by simpa using hx
          subst e
          exact ⟨⟨hz1', he1⟩, hz3', he3⟩
      have HN5 : Hid (n3 ≤ (k + 1) * (2 * top m)) := by
        have h1 := HN.out
        unfold Hid
        rw [Nat.add_mul]
        omega
      clear hrun hrow5 hg5 hltr
      go_wp2_with (at_builtin; refine wpList_append_eq rfl _ _ _ _ rfl rfl rfl HRUN.out ?_)
      go_roundw
      case rel => exact ⟨k + 1, n3, _, by omega, by go_num, rfl, HN5.out, by simp; omega, HROW5.out, HALL5.out, HB5.out⟩
      case measure => simp [intOf]; omega
    · have hkm : k = many := by omega
      go_wp2_with fail
      go_ret
      exact ⟨_, _, rfl, HROW.out.qv.mono (fun b hb _ => by rcases hb with h | h; exact h.elim; exact h), by simp; omega, fun d hd => by obtain ⟨x, hx, rfl⟩ := List.mem_map.1 hd; exact HALL.out x hx, HB.out⟩
#print axioms pairsFromA_any
end Go.Proofs.Ytpjdkdebjkpmmaj

/- Walks: the pair that the law on terms that cannot be made one begins with. -/
namespace Go.Proofs.Ytpjdkdebjkpmmaj
open Go.RowKit
set_option linter.unusedSimpArgs false
set_option linter.unusedVariables false
set_option maxRecDepth 8000

theorem pairMade_any (zs : List Int) (hr : ∀ z ∈ zs, Rng z) (hzl : zs.length ≤ 256) (k : Nat) (hk : k < 9) (u : Value) (w : World) (X : Nat → Prop) (hu : PV w X u zs) :
    Calls Try.prog 22 #[u, .int .i64 1, .int .i64 (1 + (k : Int)), .int .i64 3] w fun e w' => PairMade w e w' := by
  have h := pairsFromA_any 3 (by decide) (by decide) zs hr (by omega) (1 + k) 1 u w X hu (by omega) (by omega)
  have e : ((1 + k : Nat) : Int) = 1 + (k : Int) := by omega
  rw [e] at h
  refine (show Calls Try.prog 22 #[u, .int .i64 1, .int .i64 (1 + (k : Int)), .int .i64 3] w _ from h).mono ?_
  rintro e w' ⟨v, ls, rfl, hv, hl, hall, hb⟩
  have ht : top (1 + k) ≤ 17 := by unfold top; split <;> omega
  match ls, hl, hv, hall with
  | [x], _, hv, hall =>
    obtain ⟨⟨z1, o1⟩, z2, o2⟩ := hall x (by simp)
    have hv1 := hv.mono (Y := fun _ => True) fun _ _ _ => trivial
    obtain ⟨a, c, rfl, _, _⟩ := hv
    exact ⟨a, c, x.l, x.r, rfl, hv1, ⟨o1.1, o1.2, by omega⟩, ⟨o2.1, o2.2, by omega⟩, hb⟩
theorem topNone_full (zs : List Int) (hr : ∀ z ∈ zs, Rng z) (y1 : Int) (hy1 : Rng y1) (u : Value) (w : World) (X : Nat → Prop) (hu : PV w X u zs) :
    Calls Try.prog 5 #[u, .int .i64 y1] w fun e w' => e = .returned (.bool true) ∧ Below w.heap.size w w' :=
  topNone_any (hide fact_any) zs hr y1 hy1 u w X hu (hide fun hz k hk => pairMade_any zs hr hz k hk u w X hu)
#print axioms topNone_full
end Go.Proofs.Ytpjdkdebjkpmmaj

/- Terms and lists of numbers as they are read before the call. -/
namespace Go.Proofs.Ytpjdkdebjkpmmaj
open Go.ChangeShapes Go.WideShapes Go.ChangeAt Go.RowKit
set_option linter.unusedSimpArgs false
set_option linter.unusedVariables false
set_option maxRecDepth 8000

theorem Try.cellsTerm : Try.prog.cellsOf 25 = 2 := by kernel_rfl
theorem Try.cellsStr : Try.prog.cellsOf 9 = 1 := by kernel_rfl
theorem Try.cellsSl : Try.prog.cellsOf 23 = 1 := by kernel_rfl
theorem Try.cellsInt : Try.prog.cellsOf 3 = 1 := by kernel_rfl

theorem cells2 {w : World} {a : Addr} {cs : List Value} (h : w.cells? 0 a 2 = some cs) : ∃ c0 c1, cs = [c0, c1] ∧ w.cell? a = some c0 ∧ w.cell? (a.add 1) = some c1 := by
  have e : (List.range 2) = [0, 1] := rfl
  simp only [World.cells?, Nat.zero_le, if_true, e] at h
  simp only [List.mapM_cons, List.mapM_nil, Option.bind_eq_bind, Option.bind_eq_some_iff, Option.pure_def] at h
  obtain ⟨c0, h0, r, ⟨c1, h1, r2, h2, h3⟩, h4⟩ := h
  simp only [Option.some.injEq] at h2 h3 h4
  subst h2; subst h3; subst h4
  exact ⟨c0, c1, rfl, by simpa [Addr.add] using h0, h1⟩

theorem cells1 {w : World} {a : Addr} {cs : List Value} (h : w.cells? 0 a 1 = some cs) : ∃ c0, cs = [c0] ∧ w.cell? a = some c0 := by
  have e : (List.range 1) = [0] := rfl
  simp only [World.cells?, Nat.zero_le, if_true, e] at h
  simp only [List.mapM_cons, List.mapM_nil, Option.bind_eq_bind, Option.bind_eq_some_iff, Option.pure_def] at h
  obtain ⟨c0, h0, r, h1, h2⟩ := h
  simp only [Option.some.injEq] at h1 h2
  subst h1; subst h2
  exact ⟨c0, rfl, by simpa [Addr.add] using h0⟩

theorem open_term {H : Type} {enc : TypeId × Value → H} {w : World} {sp : Nat → Bool} {held : Bool} : ∀ (fuel : Nat) (cs : List Value) (x : DataW H × List MemPlace), DataW.trod enc Try.prog w 0 sp held fuel 25 cs = some x →
    ∃ (t : Tm) (a : Option Addr) (c : Nat), cs = [.string t.name, .slice a t.args.length c] ∧ Sl w (fun _ => True) a t.args := by
  intro fuel
  induction fuel using Nat.strongRecOn with
  | ind fuel ih =>
    intro cs x h
    obtain ⟨xs, n, hfu, hx, hl, hxl, hf⟩ := DataW.trod_struct Try.underlying25 h
    have f0 := hf 0 _ rfl
    have f1 := hf 1 _ rfl
    rw [Try.cellsTerm] at hl
    match cs, hl with
    | [c0, c1], _ =>
      match xs, hxl with
      | [y0, y1], _ =>
        simp [Try.cellsStr, Try.cellsSl] at f0 f1
        obtain ⟨s, e0, _, hs⟩ := DataW.trod_string Try.underlying9 f0
        simp at e0
        subst e0
        rcases DataW.trod_slice Try.underlying23 f1 with ⟨e1, _⟩ | ⟨a, len, cap, elems, rest, n2, hn2, e1, _, hb, hlc, hcm, hel, helem, _⟩
        · simp at e1
          subst e1
          exact ⟨⟨s, []⟩, none, 0, rfl, by simp, Or.inl rfl⟩
        · simp at e1
          subst e1
          unfold maxLen at hcm
          rw [Try.cellsTerm] at helem
          have key : ∀ i, ∃ t : Tm, i < len → ∃ a' c', w.cell? (a.add (i * 2)) = some (.string t.name) ∧ w.cell? ((a.add (i * 2)).add 1) = some (.slice a' t.args.length c') ∧ Sl w (fun _ => True) a' t.args := by
            intro i
            by_cases hi : i < len
            · have h1 := helem i hi
              have hie : i < elems.length := by omega
              rw [List.getElem?_eq_getElem hie, Option.bind_eq_some_iff] at h1
              obtain ⟨cs', h2, h3⟩ := h1
              obtain ⟨d0, d1, rfl, g0, g1⟩ := cells2 h2
              obtain ⟨t, a', c', e3, hsl⟩ := ih n2 (by omega) _ _ h3
              simp at e3
              obtain ⟨rfl, rfl⟩ := e3
              exact ⟨t, fun _ => ⟨a', c', g0, g1, hsl⟩⟩
            · exact ⟨⟨s, []⟩, fun h => absurd h hi⟩
          obtain ⟨T, hT⟩ := Classical.skolem.1 key
          refine ⟨⟨s, (List.range len).map T⟩, some a, cap, by simp, by simp; omega, ?_⟩
          by_cases h0 : len = 0
          · subst h0; exact Or.inl rfl
          · right
            obtain ⟨b, o, sp⟩ := a
            obtain ⟨a0, c0, g0, _, _⟩ := hT 0 (by omega)
            have hsp : sp = none := by simpa [Addr.add] using World.cell?_spot g0
            subst hsp
            refine ⟨b, o, rfl, lies_mk _ _ _ fun i hi => ?_⟩
            simp at hi
            obtain ⟨a', c', g0, g1, hsl⟩ := hT i hi
            refine ⟨trivial, ?_, a', c', ?_, ?_⟩
            · simp only [List.getElem_map, List.getElem_range]
              by_cases h00 : i = 0
              · subst h00; simpa [Addr.add] using g0
              · have : i * 2 ≠ 0 := by omega
                simpa [Addr.add, this] using g0
            · simp only [List.getElem_map, List.getElem_range]
              by_cases h00 : i = 0
              · subst h00; simpa [Addr.add] using g1
              · have : i * 2 ≠ 0 := by omega
                simpa [Addr.add, this] using g1
            · simpa using hsl

theorem open_tv {H : Type} {enc : TypeId × Value → H} {w : World} {sp : Nat → Bool} {held : Bool} {r : Reach} {b0 : Nat} {v : Value} {d : DataW H} {p : List MemPlace} (hv : Value.okWide Try.prog w r b0 25 v) (h : DataW.Trod enc Try.prog w 0 sp held 25 v d p) : ∃ t, TV w (fun _ => True) v t := by
  obtain ⟨cs, rfl, hsz⟩ := okWide_struct Try.underlying25 hv
  obtain ⟨fuel, hf⟩ := h
  obtain ⟨t, a, c, e, hs⟩ := open_term fuel _ _ hf
  refine ⟨t, a, c, ?_, hs⟩
  simp [Value.cells] at e
  congr 1
  apply Array.ext'
  simpa using e

theorem open_pv {H : Type} {enc : TypeId × Value → H} {w : World} {sp : Nat → Bool} {held : Bool} {r : Reach} {b0 : Nat} {v : Value} {d : DataW H} {p : List MemPlace} (hv : Value.okWide Try.prog w r b0 22 v) (h : DataW.Trod enc Try.prog w 0 sp held 22 v d p) : ∃ zs, PV w (fun _ => True) v zs := by
  obtain ⟨a0, len0, cap0, rfl⟩ := okWide_slice Try.underlying22 hv
  obtain ⟨fuel, hf⟩ := h
  rcases DataW.trod_slice Try.underlying22 hf with ⟨e1, _⟩ | ⟨a, len, cap, elems, rest, n2, hn2, e1, _, hb, hlc, hcm, hel, helem, _⟩
  · simp [Value.cells] at e1
    obtain ⟨rfl, rfl, rfl⟩ := e1
    exact ⟨[], none, 0, rfl, by simp, Or.inl rfl⟩
  · simp [Value.cells] at e1
    obtain ⟨rfl, rfl, rfl⟩ := e1
    unfold maxLen at hcm
    rw [Try.cellsInt] at helem
    have key : ∀ i, ∃ z : Int, i < len0 → w.cell? (a.add i) = some (.int .i64 z) := by
      intro i
      by_cases hi : i < len0
      · have h1 := helem i hi
        have hie : i < elems.length := by omega
        rw [List.getElem?_eq_getElem hie, Option.bind_eq_some_iff, Nat.mul_one] at h1
        obtain ⟨cs', h2, h3⟩ := h1
        obtain ⟨d0, rfl, g0⟩ := cells1 h2
        obtain ⟨z, e3, _⟩ := DataW.trod_int Try.underlying3 h3
        simp at e3
        subst e3
        exact ⟨z, fun _ => g0⟩
      · exact ⟨0, fun h => absurd h hi⟩
    obtain ⟨Z, hZ⟩ := Classical.skolem.1 key
    refine ⟨(List.range len0).map Z, some a, cap0, by simp, by simp; omega, ?_⟩
    by_cases h0 : len0 = 0
    · subst h0; exact Or.inl rfl
    · right
      obtain ⟨b, o, sp⟩ := a
      have g0 := hZ 0 (by omega)
      have hsp : sp = none := by simpa [Addr.add] using World.cell?_spot g0
      subst hsp
      refine ⟨b, o, rfl, trivial, fun i hi => ?_⟩
      simp at hi
      have g1 := hZ i hi
      simp only [List.getElem_map, List.getElem_range]
      by_cases h00 : i = 0
      · subst h00; simpa [Addr.add] using g1
      · simpa [Addr.add, h00] using g1
#print axioms open_tv
#print axioms open_pv
end Go.Proofs.Ytpjdkdebjkpmmaj

/- Lists of numbers as they are read before the call, with their bounds. -/
namespace Go.Proofs.Ytpjdkdebjkpmmaj
open Go.ChangeShapes Go.WideShapes Go.ChangeAt Go.RowKit
set_option linter.unusedSimpArgs false
set_option linter.unusedVariables false
set_option maxRecDepth 8000

theorem rng_wf {n : Int} (h : (Lit.int .i64 n).wf = true) : Rng n := by
  have h1 : IntKind.i64.min = -9223372036854775808 := by decide
  have h2 : IntKind.i64.max = 9223372036854775807 := by decide
  simp only [Lit.wf, h1, h2, Bool.and_eq_true, decide_eq_true_eq] at h
  exact h

theorem open_int {H : Type} {enc : TypeId × Value → H} {w : World} {sp : Nat → Bool} {held : Bool} {r : Reach} {b0 : Nat} {v : Value} {d : DataW H} {p : List MemPlace} (hv : Value.okWide Try.prog w r b0 3 v) (h : DataW.Trod enc Try.prog w 0 sp held 3 v d p) : ∃ z, v = .int .i64 z ∧ Rng z := by
  obtain ⟨z, rfl⟩ := okWide_int Try.underlying3 hv
  obtain ⟨fuel, hf⟩ := h
  obtain ⟨z', e3, _, hwf⟩ := DataW.trod_int Try.underlying3 hf
  simp [Value.cells] at e3
  subst e3
  exact ⟨_, rfl, rng_wf hwf⟩

theorem open_pvr {H : Type} {enc : TypeId × Value → H} {w : World} {sp : Nat → Bool} {held : Bool} {r : Reach} {b0 : Nat} {v : Value} {d : DataW H} {p : List MemPlace} (hv : Value.okWide Try.prog w r b0 22 v) (h : DataW.Trod enc Try.prog w 0 sp held 22 v d p) : ∃ zs, PV w (fun _ => True) v zs ∧ ∀ z ∈ zs, Rng z := by
  obtain ⟨a0, len0, cap0, rfl⟩ := okWide_slice Try.underlying22 hv
  obtain ⟨fuel, hf⟩ := h
  rcases DataW.trod_slice Try.underlying22 hf with ⟨e1, _⟩ | ⟨a, len, cap, elems, rest, n2, hn2, e1, _, hb, hlc, hcm, hel, helem, _⟩
  · simp [Value.cells] at e1
    obtain ⟨rfl, rfl, rfl⟩ := e1
    exact ⟨[], ⟨none, 0, rfl, by simp, Or.inl rfl⟩, by simp⟩
  · simp [Value.cells] at e1
    obtain ⟨rfl, rfl, rfl⟩ := e1
    unfold maxLen at hcm
    rw [Try.cellsInt] at helem
    have key : ∀ i, ∃ z : Int, Rng z ∧ (i < len0 → w.cell? (a.add i) = some (.int .i64 z)) := by
      intro i
      by_cases hi : i < len0
      · have h1 := helem i hi
        have hie : i < elems.length := by omega
        rw [List.getElem?_eq_getElem hie, Option.bind_eq_some_iff, Nat.mul_one] at h1
        obtain ⟨cs', h2, h3⟩ := h1
        obtain ⟨d0, rfl, g0⟩ := cells1 h2
        obtain ⟨z, e3, _, hwf⟩ := DataW.trod_int Try.underlying3 h3
        simp at e3
        subst e3
        exact ⟨z, rng_wf hwf, fun _ => g0⟩
      · exact ⟨0, by unfold Rng; omega, fun h => absurd h hi⟩
    obtain ⟨Z, hZ⟩ := Classical.skolem.1 key
    refine ⟨(List.range len0).map Z, ⟨some a, cap0, by simp, by simp; omega, ?_⟩, fun z hz => by obtain ⟨i, _, rfl⟩ := List.mem_map.1 hz; exact (hZ i).1⟩
    by_cases h0 : len0 = 0
    · subst h0; exact Or.inl rfl
    · right
      obtain ⟨b, o, sp⟩ := a
      have g0 := (hZ 0).2 (by omega)
      have hsp : sp = none := by simpa [Addr.add] using World.cell?_spot g0
      subst hsp
      refine ⟨b, o, rfl, trivial, fun i hi => ?_⟩
      simp at hi
      have g1 := (hZ i).2 hi
      simp only [List.getElem_map, List.getElem_range]
      by_cases h00 : i = 0
      · subst h00; simpa [Addr.add] using g1
      · simpa [Addr.add, h00] using g1
#print axioms open_pvr
#print axioms open_int
end Go.Proofs.Ytpjdkdebjkpmmaj

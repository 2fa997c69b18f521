import Derived.Test.YtmkendjmfdaedaaGreatEn2
namespace Go.Proofs.YtmkendjmfdaedaaGreat
open Go.RowKit
set_option linter.unusedSimpArgs false
set_option linter.unusedVariables false
def leftOk (rs : List Pr) : List Int → Tm → Prop
 | [], _ => True
 | i :: r, t => noFit rs (t.args.take i.toNat) ∧ match t.args[i.toNat]? with
  | some a => leftOk rs r a
  | none => True
theorem at_preL : ∀ (p : List Int) (t x : Tm), atT t p = some x → x ∈ preL [t]
 | [], t, x, h => by simp only [atT, Option.some.injEq] at h; subst h; rw [preL_consR]; simp
 | i :: r, t, x, h => by
  obtain ⟨k, hk, rfl, h2⟩ := atT_cons h
  have ih := at_preL r _ x h2
  rw [preL_consR]
  have h3 : ∀ (l : List Tm) (a : Tm), a ∈ l → ∀ y ∈ preL [a], y ∈ preL l := by
   intro l
   induction l with
   | nil => intro a ha; cases ha
   | cons b l ihl =>
    intro a ha y hy
    rw [preL_consR]
    rcases List.mem_cons.1 ha with rfl | ha
    ·rw [preL_consR] at hy
     simp only [List.mem_cons, List.mem_append] at hy ⊢
     rcases hy with h | h | h
     ·exact Or.inl h
     ·exact Or.inr (Or.inl h)
     ·simp [preL] at h
    ·have := ihl a ha y hy
     simp [this]
  have h4 := h3 t.args _ (List.getElem_mem hk) x ih
  simp [h4]
theorem dn_noFit {β : Type} {rs : List Pr} {g : Dn → List β} (hg : ∀ d : Dn, fitsB rs d.2 = false → g d = []) {hs fs : List Int} {t : Tm} (h : noFit rs [t]) : (dnT hs fs t).flatMap g = [] := by
 rw [List.flatMap_eq_nil_iff]
 intro d hd
 obtain ⟨p, _, h2⟩ := dnT_at hd
 exact hg d (h _ (at_preL p t d.2 h2))
theorem dnL_left {β : Type} {rs : List Pr} {g : Dn → List β} (hg : ∀ d : Dn, fitsB rs d.2 = false → g d = []) : ∀ (l : List Tm) (hs : List Int) (j st : Nat) (r : List Int), (∀ k (h : k < l.length), (j + k < st → noFit rs [l[k]]) ∧ (j + k = st → leftOk rs r l[k])) → (dnL hs j st r l).flatMap g = (dnL hs j 0 [] l).flatMap g := by
 intro l
 induction l using Tm.indL with
 | h0 => intro hs j st r _; simp [dnL]
 | h s l rest ih1 ih2 =>
  intro hs j st r h
  have h0 := h 0 (by simp)
  simp only [Nat.add_zero, List.getElem_cons_zero] at h0
  have hrest := ih2 hs (j + 1) st r (fun k hk => by
   have := h (k + 1) (by simp; omega)
   rw [show j + 1 + k = j + (k + 1) by omega]
   simpa using this)
  rw [dnL_cons, dnL_cons, List.flatMap_append, List.flatMap_append, hrest]
  congr 1
  have e0 : (if j = 0 then ([] : List Int) else []) = [] := by split <;> rfl
  rw [if_neg (show ¬ j < 0 by omega), e0]
  by_cases hj : j < st
  ·rw [if_pos hj, dn_noFit hg (h0.1 hj)]
   rfl
  ·rw [if_neg hj]
   by_cases he : j = st
   ·rw [if_pos he]
    have hl := h0.2 he
    have hdT : ∀ fs : List Int, dnT (hs ++ [(j : Int)]) fs ⟨s, l⟩ = (hs ++ [(j : Int)], ⟨s, l⟩) :: dnL (hs ++ [(j : Int)]) 0 (hdN fs) fs.tail l := fun fs => rfl
    rw [hdT, hdT, List.flatMap_cons, List.flatMap_cons]
    congr 1
    have e1 : hdN ([] : List Int) = 0 := rfl
    rw [e1]
    refine ih1 (hs ++ [(j : Int)]) 0 (hdN r) r.tail fun k hk => ?_
    rw [Nat.zero_add]
    cases r with
    | nil => exact ⟨fun h => by simp [hdN] at h, fun _ => trivial⟩
    | cons i r =>
     have e2 : hdN (i :: r) = i.toNat := rfl
     rw [e2]
     obtain ⟨h1, h2⟩ := hl
     refine ⟨fun hlt => ?_, fun heq => ?_⟩
     ·refine noFit_mem.1 h1 _ ?_
      have : l[k] = (l.take i.toNat)[k]'(by simp; omega) := by simp
      rw [this]
      exact List.getElem_mem _
     ·have e3 : (⟨s, l⟩ : Tm).args[i.toNat]? = some l[k] := by
       show l[i.toNat]? = some l[k]
       rw [← heq]
       exact List.getElem?_eq_getElem hk
      rw [e3] at h2
      exact h2
   ·rw [if_neg he]
theorem chL_left {rs : List Pr} {t : Tm} {fs : List Int} (h : leftOk rs fs t) : chL rs t fs = chL rs t [] := by
 obtain ⟨s, l⟩ := t
 have hg : ∀ d : Dn, fitsB rs d.2 = false → chG rs d = [] := fun d hd => by
  unfold chG
  have : fitsL rs d.2 = [] := by
   unfold fitsL
   rw [List.filterMap_eq_nil_iff]
   intro r hr
   unfold fitsB at hd
   have h1 := List.any_eq_false.1 hd r hr
   unfold mtB at h1
   cases hm : mtT r.l d.2 [] with
   | none => rfl
   | some g => rw [hm] at h1; simp at h1
  rw [this]; rfl
 unfold chL
 have hdT : ∀ fs : List Int, dnT [] fs ⟨s, l⟩ = ([], ⟨s, l⟩) :: dnL [] 0 (hdN fs) fs.tail l := fun fs => rfl
 rw [hdT, hdT, List.flatMap_cons, List.flatMap_cons]
 congr 1
 have e1 : hdN ([] : List Int) = 0 := rfl
 rw [e1]
 refine dnL_left hg l [] 0 (hdN fs) fs.tail fun k hk => ?_
 rw [Nat.zero_add]
 cases fs with
 | nil => exact ⟨fun h => by simp [hdN] at h, fun _ => trivial⟩
 | cons i r =>
  have e2 : hdN (i :: r) = i.toNat := rfl
  rw [e2]
  obtain ⟨h1, h2⟩ := h
  refine ⟨fun hlt => ?_, fun heq => ?_⟩
  ·refine noFit_mem.1 h1 _ ?_
   have : l[k] = (l.take i.toNat)[k]'(by simp; omega) := by simp
   rw [this]
   exact List.getElem_mem _
  ·have e3 : (⟨s, l⟩ : Tm).args[i.toNat]? = some l[k] := by
    show l[i.toNat]? = some l[k]
    rw [← heq]
    exact List.getElem?_eq_getElem hk
   rw [e3] at h2
   exact h2
theorem head_flat {α β : Type} (F : α → List β) (f : α → Bool) (hf : ∀ p, f p = true ↔ F p ≠ []) : ∀ ps : List α, (ps.flatMap F).head? = (ps.find? f).bind fun p => (F p).head?
 | [] => rfl
 | p :: ps => by
  rw [List.flatMap_cons, List.find?_cons]
  cases h : f p with
  | true =>
   have h1 := (hf p).1 h
   cases hF : F p with
   | nil => exact absurd hF h1
   | cons b l => simp [hF]
  | false =>
   have h1 : F p = [] := by
    apply Classical.byContradiction
    intro h2
    rw [(hf p).2 h2] at h
    cases h
   rw [h1, List.nil_append]
   exact head_flat F f hf ps
theorem okP_false {rs : List Pr} {t : Tm} {p : List Int} : okP rs false t p = true ↔ ∃ x, atT t p = some x ∧ fitsB rs x = true := by
 unfold okP okAt
 cases h : atT t p with
 | none => simp
 | some x => simp
theorem fits_ne {rs : List Pr} {x : Tm} : fitsB rs x = true ↔ fitsL rs x ≠ [] := by
 unfold fitsB fitsL
 rw [List.any_eq_true, Ne, List.filterMap_eq_nil_iff]
 constructor
 ·rintro ⟨r, hr, h⟩ h2
  have := h2 r hr
  unfold mtB at h
  cases hm : mtT r.l x [] with
  | none => rw [hm] at h; cases h
  | some g => rw [hm] at this; cases this
 ·intro h
  apply Classical.byContradiction
  intro h2
  refine h fun r hr => ?_
  cases hm : mtT r.l x [] with
  | none => rfl
  | some g => exact absurd ⟨r, hr, by unfold mtB; rw [hm]; rfl⟩ h2
theorem first_next {rs : List Pr} {t : Tm} {fs : List Int} {c : Ch} (hr : ∀ p ∈ rs, ruleE p = 0) (hl : leftOk rs fs t) (h : [c] <+: chL rs t fs) : nextP rs false t = some c.1.1 ∧ atT t c.1.1 = some c.1.2 ∧ nextT rs false t = some (outA t c) := by
 rw [chL_left hl] at h
 have hat : atT t c.1.1 = some c.1.2 := chL_at (h.subset (by simp))
 have hc : (chL rs t []).head? = some c := by
  obtain ⟨q, hq⟩ := h
  rw [← hq]; rfl
 have e1 := plc_dnT (fun p x => (chG rs (p, x)).map fun c => c.1.1) t (fun p => match atT t p with | some x => (chG rs (p, x)).map fun c => c.1.1 | none => []) (fun p x hx => by rw [hx])
 have e2 : ((chL rs t []).map fun c => c.1.1).head? = some c.1.1 := by rw [List.head?_map, hc]; rfl
 unfold chL at e2
 rw [List.map_flatMap, e1, head_flat _ (okP rs false t)] at e2
 ·have hp : nextP rs false t = some c.1.1 := by
   unfold nextP
   cases hf : (plcT t).find? (okP rs false t) with
   | none => rw [hf] at e2; cases e2
   | some p =>
    rw [hf] at e2
    simp only [Option.bind_some] at e2
    cases hx : atT t p with
    | none => rw [hx] at e2; cases e2
    | some x =>
     rw [hx] at e2
     simp only [chG, List.map_map] at e2
     cases hF : fitsL rs x with
     | nil => rw [hF] at e2; cases e2
     | cons y ys => rw [hF] at e2; simp at e2; rw [e2]
  refine ⟨hp, hat, ?_⟩
  have hx2 : [c.2] <+: fitsL rs c.1.2 := by
   have h3 : ((chL rs t []).filter fun c' => decide (c'.1.1 = c.1.1)).head? = some c := by
    obtain ⟨q, hq⟩ := h
    rw [← hq]
    simp
   have e3 := plc_dnT (fun p x => ((chG rs (p, x)).map fun c => (c.1.1, c.2))) t (fun p => match atT t p with | some x => (chG rs (p, x)).map fun c => (c.1.1, c.2) | none => []) (fun p x hx => by rw [hx])
   have e4 : ((chL rs t []).map fun c => (c.1.1, c.2)).head? = some (c.1.1, c.2) := by rw [List.head?_map, hc]; rfl
   unfold chL at e4
   rw [List.map_flatMap, e3, head_flat _ (okP rs false t)] at e4
   ·have hp2 := hp
    unfold nextP at hp2
    rw [hp2] at e4
    simp only [Option.bind_some, hat] at e4
    simp only [chG, List.map_map] at e4
    cases hF : fitsL rs c.1.2 with
    | nil => rw [hF] at e4; cases e4
    | cons y ys =>
     rw [hF] at e4
     simp at e4
     rw [← e4]
     exact ⟨ys, rfl⟩
   ·intro p
    rw [okP_false]
    cases hx : atT t p with
    | none => simp
    | some x => simp [chG, fits_ne]
  obtain ⟨k1, k2, k3, k4⟩ := fits_first hr hx2
  unfold nextT
  rw [hp]
  simp only [Option.bind_some, hat]
  rw [k3]
  unfold outA outC
  have e5 : gT c.2.2 c.2.1.r = fT c.2.2 c.2.1.r := by
   rw [gT_on k4 _ (ruleE_parts (hr _ k1)).2.1, fT_onR k4 _ (ruleE_parts (hr _ k1)).2.1]
  rw [e5]
  rfl
 ·intro p
  rw [okP_false]
  cases hx : atT t p with
  | none => simp
  | some x => simp [chG, fits_ne]
theorem first_none {rs : List Pr} {t : Tm} {fs : List Int} (hl : leftOk rs fs t) (h : chL rs t fs = []) : nextT rs false t = none := by
 rw [chL_left hl] at h
 rw [nextT_none, ← nextP_none rs false]
 have e1 := plc_dnT (fun p x => (chG rs (p, x)).map fun c => c.1.1) t (fun p => match atT t p with | some x => (chG rs (p, x)).map fun c => c.1.1 | none => []) (fun p x hx => by rw [hx])
 have e2 : ((chL rs t []).map fun c => c.1.1).head? = none := by rw [h]; rfl
 unfold chL at e2
 rw [List.map_flatMap, e1, head_flat _ (okP rs false t)] at e2
 ·unfold nextP
  cases hf : (plcT t).find? (okP rs false t) with
  | none => rfl
  | some p =>
   rw [hf] at e2
   simp only [Option.bind_some] at e2
   have hp := List.find?_some hf
   obtain ⟨x, hx, hfx⟩ := okP_false.1 hp
   rw [hx] at e2
   simp only [chG, List.map_map] at e2
   have := fits_ne.1 hfx
   cases hF : fitsL rs x with
   | nil => exact absurd hF this
   | cons y ys => rw [hF] at e2; simp at e2
 ·intro p
  rw [okP_false]
  cases hx : atT t p with
  | none => simp
  | some x => simp [chG, fits_ne]
theorem nxL_some {rs : List Pr} {inner : Bool} : ∀ (l : List Tm) (j : Nat) (q : List Int), nxL rs inner j l = some q → ∃ pre a post p, l = pre ++ a :: post ∧ q = ((j + pre.length : Nat) : Int) :: p ∧ nextP rs inner a = some p ∧ noFit rs pre
 | [], j, q, h => by simp [nxL] at h
 | t :: r, j, q, h => by
  rw [nxL] at h
  cases ht : nextP rs inner t with
  | some p =>
   rw [ht] at h
   simp only [Option.some.injEq] at h
   exact ⟨[], t, r, p, rfl, by rw [← h]; simp, ht, fun y hy => by simp [preL] at hy⟩
  | none =>
   rw [ht] at h
   obtain ⟨pre, a, post, p, e1, e2, e3, e4⟩ := nxL_some r (j + 1) q h
   refine ⟨t :: pre, a, post, p, by rw [e1]; rfl, by rw [e2]; congr 2; simp; omega, e3, ?_⟩
   rw [noFit_mem]
   intro x hx
   rcases List.mem_cons.1 hx with rfl | hx
   ·exact (nextP_none rs inner x).1 ht
   ·exact noFit_mem.1 e4 x hx
theorem left_next {rs : List Pr} (y : Tm) : ∀ (p : List Int) (t : Tm), nextP rs false t = some p → leftOk rs p (putT y p t)
 | [], t, _ => trivial
 | i :: r, t, h => by
  obtain ⟨s, l⟩ := t
  rw [nextP_eq] at h
  split at h
  ·cases h
  ·obtain ⟨pre, a, post, p, e1, e2, e3, e4⟩ := nxL_some _ _ _ h
   simp only at e1
   subst e1
   rw [Nat.zero_add] at e2
   obtain ⟨rfl, rfl⟩ : i = (pre.length : Int) ∧ r = p := by simpa using e2
   rw [putT_kid]
   refine ⟨?_, ?_⟩
   ·have : (pre ++ putT y r a :: post).take ((pre.length : Int)).toNat = pre := by simp
    show noFit rs ((pre ++ putT y r a :: post).take ((pre.length : Int)).toNat)
    rw [this]
    exact e4
   ·have : (pre ++ putT y r a :: post)[((pre.length : Int)).toNat]? = some (putT y r a) := by simp
    show match (pre ++ putT y r a :: post)[((pre.length : Int)).toNat]? with | some a => leftOk rs r a | none => True
    rw [this]
    exact left_next y r a e3
end Go.Proofs.YtmkendjmfdaedaaGreat

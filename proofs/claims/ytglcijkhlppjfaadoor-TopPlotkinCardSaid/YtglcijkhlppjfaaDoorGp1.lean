/- Plain: the least that two terms are cases of (PLOTKIN, REYNOLDS). -/
import Derived.Test.YtglcijkhlppjfaaDoorZTopPlotkinOwn
import Derived.Test.YtglcijkhlppjfaaDoorTmQ
namespace Go.Proofs.YtglcijkhlppjfaaDoor
open Go.RowKit
set_option linter.unusedSimpArgs false
set_option linter.unusedVariables false
set_option maxRecDepth 8000

/-- Terms for variables, by a function. -/
def sfL (f : ByteArray → Tm) : List Tm → List Tm
  | [] => []
  | ⟨s, l⟩ :: r => (if varB s = true then f s else ⟨s, sfL f l⟩) :: sfL f r
def sfT (f : ByteArray → Tm) (t : Tm) : Tm := if varB t.name = true then f t.name else ⟨t.name, sfL f t.args⟩
theorem sfT_var (f : ByteArray → Tm) {s : ByteArray} {l : List Tm} (h : varB s = true) : sfT f ⟨s, l⟩ = f s := by unfold sfT; rw [if_pos h]
theorem sfT_sym (f : ByteArray → Tm) {s : ByteArray} {l : List Tm} (h : varB s = false) : sfT f ⟨s, l⟩ = ⟨s, sfL f l⟩ := by unfold sfT; rw [if_neg (by rw [h]; simp)]
theorem sfL_cons (f : ByteArray → Tm) (t : Tm) (r : List Tm) : sfL f (t :: r) = sfT f t :: sfL f r := by
  obtain ⟨s, l⟩ := t
  rw [sfL]
  rfl
theorem sfL_nil (f : ByteArray → Tm) : sfL f [] = [] := by rw [sfL]
theorem sfL_len (f : ByteArray → Tm) : ∀ l : List Tm, (sfL f l).length = l.length
  | [] => by simp [sfL_nil]
  | t :: r => by rw [sfL_cons]; simp [sfL_len f r]
theorem sfL_sfL (f g : ByteArray → Tm) (l : List Tm) : sfL f (sfL g l) = sfL (fun n => sfT f (g n)) l := by
  induction l using Tm.indL with
  | h0 => simp [sfL_nil]
  | h s l r ihl ihr =>
    rw [sfL_cons g, sfL_cons f, sfL_cons (fun n => sfT f (g n)), ihr]
    congr 1
    cases h : varB s with
    | true =>
      rw [sfT_var g h, sfT_var (fun n => sfT f (g n)) h]
    | false => rw [sfT_sym g h, sfT_sym (fun n => sfT f (g n)) h, sfT_sym f h, ihl]
theorem sfT_sfT (f g : ByteArray → Tm) (t : Tm) : sfT f (sfT g t) = sfT (fun n => sfT f (g n)) t := by
  have := sfL_sfL f g [t]
  rw [sfL_cons g, sfL_nil, sfL_cons f, sfL_nil, sfL_cons (fun n => sfT f (g n)), sfL_nil] at this
  simpa using this
theorem toList_beq_refl (s : ByteArray) : (s.toList == s.toList) = true := by simp
theorem err_splitP {s : ByteArray} {l r : List Tm} (h : errL (⟨s, l⟩ :: r) = 0) : (varB s = true → l = []) ∧ errL l = 0 ∧ errL r = 0 := by
  obtain ⟨h1, h2⟩ := errL_two h
  refine ⟨fun hv => ?_, errL_parts0 h1, h2⟩
  simp only [errL] at h1
  repeat' split at h1
  all_goals first | (cases h1; done) | skip
  all_goals
    rename_i h3 _
    simp [hv] at h3
    exact h3
/-- A case is found. -/
def ConF (f : ByteArray → Tm) (h : List Bd) : Prop := ∀ d ∈ h, d.t = f d.nm
theorem mtL_sf (f : ByteArray → Tm) (l : List Tm) : ∀ h : List Bd, errL l = 0 → ConF f h → ∃ h', mtL l (sfL f l) h = some h' ∧ ConF f h' := by
  induction l using Tm.indL with
  | h0 => intro h _ hc; exact ⟨h, by simp [mtL, sfL_nil], hc⟩
  | h s l r ihl ihr =>
    intro h he hc
    obtain ⟨h1, h2, h3⟩ := err_splitP he
    have key : ∃ g, mtT ⟨s, l⟩ (sfT f ⟨s, l⟩) h = some g ∧ ConF f g := by
      cases hv : varB s with
      | true =>
        have hl := h1 hv
        subst hl
        have e : sfT f ⟨s, []⟩ = f s := by simp [sfT, hv]
        rw [e]
        cases hf : forT h s with
        | some x =>
          obtain ⟨d, hd, hn, ht⟩ := forT_mem hf
          have hx : x = f s := by rw [← ht, hc d hd, hn]
          exact ⟨h, by rw [mtT_old hv hf, hx, if_pos (sameB_refl _)], hc⟩
        | none =>
          refine ⟨h ++ [⟨s, f s⟩], mtT_new hv hf, fun d hd => ?_⟩
          rcases List.mem_append.1 hd with hd | hd
          · exact hc d hd
          · have e2 : d = ⟨s, f s⟩ := by simpa using hd
            rw [e2]
      | false =>
        obtain ⟨g, hg, hcg⟩ := ihl h h2 hc
        have e : sfT f ⟨s, l⟩ = ⟨s, sfL f l⟩ := by simp [sfT, hv]
        rw [e]
        exact ⟨g, by rw [mtT_deep hv (toList_beq_refl s) (sfL_len f l).symm]; exact hg, hcg⟩
    obtain ⟨g, hg, hcg⟩ := key
    obtain ⟨h', e1, e2⟩ := ihr g h3 hcg
    refine ⟨h', ?_, e2⟩
    rw [sfL_cons, mtL_cons, hg]
    exact e1
theorem mt_sf (f : ByteArray → Tm) {p : Tm} (he : errL [p] = 0) : mtB p (sfT f p) = true := by
  obtain ⟨h', e, _⟩ := mtL_sf f [p] [] he (by unfold ConF; simp)
  rw [sfL_cons, sfL_nil, mtL_cons] at e
  unfold mtB
  cases hm : mtT p (sfT f p) [] with
  | none => rw [hm] at e; cases e
  | some g => rfl
/-- What is found is a case. -/
def ExF (h g : List Bd) : Prop := ∀ n x, forT h n = some x → forT g n = some x
theorem forT_old {n : ByteArray} {x : Tm} (q : Bd) : ∀ {h : List Bd}, forT h n = some x → forT (h ++ [q]) n = some x
  | [], h => by simp [forT] at h
  | d :: r, h => by
    simp only [forT, List.cons_append] at h ⊢
    split
    · rename_i e; rw [if_pos e] at h; exact h
    · rename_i e; rw [if_neg e] at h; exact forT_old q h
theorem forT_new {n : ByteArray} {x : Tm} : ∀ {h : List Bd}, forT h n = none → forT (h ++ [⟨n, x⟩]) n = some x
  | [], _ => by simp [forT]
  | d :: r, h => by
    simp only [forT, List.cons_append] at h ⊢
    split
    · rename_i e; rw [if_pos e] at h; cases h
    · rename_i e; rw [if_neg e] at h; exact forT_new h
def fnB (k : List Bd) (n : ByteArray) : Tm := (forT k n).getD ⟨n, []⟩
theorem mtL_sd (l : List Tm) : ∀ (ts : List Tm) (h h' : List Bd), errL l = 0 → l.length = ts.length → mtL l ts h = some h' → ExF h h' ∧ ∀ k, ExF h' k → sfL (fnB k) l = ts := by
  induction l using Tm.indL with
  | h0 =>
    intro ts h h' _ hl he
    simp [mtL] at he
    subst he
    have e : ts = [] := by cases ts with | nil => rfl | cons a b => simp at hl
    subst e
    exact ⟨fun _ _ h => h, fun _ _ => sfL_nil _⟩
  | h s l r ihl ihr =>
    intro ts h h' hE hl he
    obtain ⟨e1, e2, e3⟩ := err_splitP hE
    cases ts with
    | nil => simp at hl
    | cons t ts =>
      rw [mtL_cons] at he
      cases h1 : mtT ⟨s, l⟩ t h with
      | none => rw [h1] at he; cases he
      | some g =>
        rw [h1] at he
        obtain ⟨b1, b2⟩ := ihr ts g h' e3 (by simpa using hl) he
        have key : ExF h g ∧ ∀ k, ExF g k → sfT (fnB k) ⟨s, l⟩ = t := by
          cases hv : varB s with
          | true =>
            have hl0 := e1 hv
            subst hl0
            have es : ∀ k, sfT (fnB k) ⟨s, []⟩ = fnB k s := fun k => by simp [sfT, hv]
            cases hf : forT h s with
            | some x =>
              rw [mtT_old hv hf] at h1
              split at h1
              · rename_i h2
                cases h1
                have e : x = t := sameB_iff.1 h2
                subst e
                exact ⟨fun _ _ h => h, fun k hk => by rw [es, fnB, hk _ _ hf]; rfl⟩
              · cases h1
            | none =>
              rw [mtT_new hv hf] at h1
              cases h1
              exact ⟨fun _ _ h => forT_old _ h, fun k hk => by rw [es, fnB, hk _ _ (forT_new hf)]; rfl⟩
          | false =>
            obtain ⟨s2, m⟩ := t
            by_cases hc : ((s.toList == s2.toList) && (l.length == m.length)) = true
            · simp only [Bool.and_eq_true] at hc
              have hlm : l.length = m.length := by simpa using hc.2
              rw [mtT_deep hv hc.1 hlm] at h1
              obtain ⟨a1, a2⟩ := ihl m h g e2 hlm h1
              refine ⟨a1, fun k hk => ?_⟩
              have e : sfT (fnB k) ⟨s, l⟩ = ⟨s, sfL (fnB k) l⟩ := by simp [sfT, hv]
              rw [e, a2 k hk]
              have hss : s = s2 := by
                have h5 := hc.1
                rw [ByteArray.toList_eq, ByteArray.toList_eq] at h5
                exact ByteArray.ext (Array.ext' (by simpa using h5))
              rw [hss]
            · rw [mtT_off hv (by simpa using hc)] at h1
              cases h1
        refine ⟨fun n x hx => b1 n x (key.1 n x hx), fun k hk => ?_⟩
        rw [sfL_cons, b2 k hk, key.2 k (fun n x hx => hk n x (b1 n x hx))]
theorem mt_sd {p t : Tm} (he : errL [p] = 0) (h : mtB p t = true) : ∃ f, sfT f p = t := by
  unfold mtB at h
  cases hm : mtT p t [] with
  | none => rw [hm] at h; cases h
  | some g =>
    have e : mtL [p] [t] [] = some g := by rw [mtL_cons, hm]; simp [mtL]
    obtain ⟨_, h2⟩ := mtL_sd [p] [t] [] g he rfl e
    have h3 := h2 g (fun _ _ h => h)
    rw [sfL_cons, sfL_nil] at h3
    exact ⟨fnB g, by simpa using h3⟩
/-- Bindings put in, by a function. -/
theorem on_sf {ls : List Bd} (hE : bindsE ls = 0) (l : List Tm) : errL l = 0 → onL ls l = sfL (fnB ls) l := by
  induction l using Tm.indL with
  | h0 => intro _; simp [onL, sfL_nil]
  | h s l r ihl ihr =>
    intro he
    obtain ⟨h1, h2, h3⟩ := err_splitP he
    rw [onL_cons, sfL_cons, ihr h3]
    congr 1
    cases hv : varB s with
    | true =>
      have hl := h1 hv
      subst hl
      have e : sfT (fnB ls) ⟨s, []⟩ = fnB ls s := by simp [sfT, hv]
      rw [e]
      cases hf : forT ls s with
      | some x => rw [onT_some hf, fnB, hf]; rfl
      | none => rw [onT_deep (Or.inr hf), fnB, hf]; simp [onL]
    | false =>
      have e : sfT (fnB ls) ⟨s, l⟩ = ⟨s, sfL (fnB ls) l⟩ := by simp [sfT, hv]
      rw [e, onT_sym hE hv, ihl h2]
theorem onT_sf {ls : List Bd} (hE : bindsE ls = 0) {t : Tm} (he : errL [t] = 0) : onT ls t = sfT (fnB ls) t := by
  have := on_sf hE [t] he
  rw [onL_cons, sfL_cons, sfL_nil] at this
  simpa [onL] using this
end Go.Proofs.YtglcijkhlppjfaaDoor

/- What makes both sides one comes of what the steps find, and what they find makes both sides one: plain. -/
import Derived.Test.YteojdfmdhgnmfaaGreatU5
namespace Go.Proofs.YteojdfmdhgnmfaaGreat
open Go.RowKit
set_option linter.unusedSimpArgs false
set_option linter.unusedVariables false

/-- t makes of each bound variable what it makes of its term. -/
def Agr (t s : List Bd) : Prop := ∀ d ∈ s, onT t ⟨d.nm, []⟩ = onT t d.t
def Uni (t : List Bd) (l : List Pr) : Prop := ∀ p ∈ l, onT t p.l = onT t p.r
theorem agr_nil (t : List Bd) : Agr t [] := by simp [Agr]
theorem agr_onL {t s : List Bd} (ht : ∀ d ∈ t, varB d.nm = true) (hs : ∀ d ∈ s, varB d.nm = true) (ha : Agr t s) : ∀ l : List Tm, errL l = 0 → onL t (onL s l) = onL t l := by
  intro l
  induction l using Tm.indL with
  | h0 => intro _; simp [onL]
  | h n l r ihl ihr =>
    intro he
    obtain ⟨g1, g2, g3⟩ := errL_parts he
    rw [onL_cons, onL_cons, onL_cons, ihr g3]
    congr 1
    cases hv : varB n with
    | false => rw [onT_sym2 hs hv, onT_sym2 ht hv, onT_sym2 ht hv, ihl g2]
    | true =>
      have e := g1 hv
      subst e
      cases hf : forT s n with
      | none => rw [onT_leaf s, hf]; rfl
      | some x =>
        rw [onT_some hf]
        obtain ⟨d, hd, e1, e2⟩ := forT_mem hf
        rw [← e2, ← ha d hd, e1]
theorem agr_on {t s : List Bd} (ht : ∀ d ∈ t, varB d.nm = true) (hs : ∀ d ∈ s, varB d.nm = true) (ha : Agr t s) {x : Tm} (he : errL [x] = 0) : onT t (onT s x) = onT t x := by
  have h := agr_onL ht hs ha [x] he
  rw [onL_cons, onL_cons, onL_cons] at h
  simpa [onL] using h
theorem agr_add {t s : List Bd} (ht : ∀ d ∈ t, varB d.nm = true) {x : ByteArray} {u : Tm} (hx : varB x = true) (hs : ∀ d ∈ s, errL [d.t] = 0) : Agr t (addS s x u) ↔ (Agr t s ∧ onT t ⟨x, []⟩ = onT t u) := by
  have one : ∀ {v : Tm}, onT t ⟨x, []⟩ = onT t u → errL [v] = 0 → onT t (onT [⟨x, u⟩] v) = onT t v := fun hxu hv => agr_on ht (by simpa using hx) (by simpa [Agr] using hxu) hv
  have hm : ∀ d, d ∈ addS s x u ↔ d ∈ s.map (putB x u) ++ [⟨x, u⟩] := fun d => (srtB_perm _).mem_iff
  constructor
  · intro h
    have hxu : onT t ⟨x, []⟩ = onT t u := h ⟨x, u⟩ ((hm _).2 (by simp))
    refine ⟨fun d hd => ?_, hxu⟩
    have h1 := h (putB x u d) ((hm _).2 (List.mem_append_left _ (List.mem_map.2 ⟨d, hd, rfl⟩)))
    simp only [putB] at h1
    rw [h1, one hxu (hs d hd)]
  · rintro ⟨h, hxu⟩ d hd
    rcases List.mem_append.1 ((hm d).1 hd) with hd | hd
    · obtain ⟨e, he, rfl⟩ := List.mem_map.1 hd
      simp only [putB]
      rw [one hxu (hs e he)]
      exact h e he
    · have e : d = ⟨x, u⟩ := by simpa using hd
      subst e
      exact hxu
/-- What stands for a variable is no greater than what stands for a term that it is in. -/
theorem occ_size {t : List Bd} (ht : ∀ d ∈ t, varB d.nm = true) {x : ByteArray} (hx : varB x = true) : ∀ l : List Tm, errL l = 0 → occL x l → sizeL [onT t ⟨x, []⟩] ≤ sizeL (onL t l) := by
  intro l
  induction l using Tm.indL with
  | h0 => intro _ ho; obtain ⟨k, hk, _⟩ := ho; simp [preL] at hk
  | h n l r ihl ihr =>
    intro he ho
    obtain ⟨g1, g2, g3⟩ := errL_parts he
    have hcc := size_cons (onT t ⟨n, l⟩) (onL t r)
    rw [onL_cons]
    rcases occL_node.1 ho with rfl | ho | ho
    · have e := g1 hx
      subst e
      omega
    · cases hv : varB n with
      | false =>
        have := ihl g2 ho
        rw [onT_sym2 ht hv] at hcc ⊢
        have e : sizeL [(⟨n, onL t l⟩ : Tm)] = 1 + sizeL (onL t l) := by simp [sizeL]
        omega
      | true =>
        have e := g1 hv
        subst e
        obtain ⟨k, hk, _⟩ := ho
        simp [preL] at hk
    · have := ihr g3 ho
      omega
theorem occ_never {t : List Bd} (ht : ∀ d ∈ t, varB d.nm = true) {x : ByteArray} (hx : varB x = true) {u : Tm} (he : errL [u] = 0) (hn : x ≠ u.name) (ho : occL x [u]) : onT t ⟨x, []⟩ ≠ onT t u := fun hh => by
  obtain ⟨n, k⟩ := u
  obtain ⟨g1, g2, _⟩ := errL_parts he
  have hok : occL x k := by
    rcases occL_node.1 ho with h | h | h
    · exact absurd h.symm hn
    · exact h
    · obtain ⟨y, hy, _⟩ := h; simp [preL] at hy
  cases hv : varB n with
  | true =>
    have e := g1 hv
    subst e
    obtain ⟨y, hy, _⟩ := hok
    simp [preL] at hy
  | false =>
    have h1 := occ_size ht hx k g2 hok
    rw [hh, onT_sym2 ht hv] at h1
    have e : sizeL [(⟨n, onL t k⟩ : Tm)] = 1 + sizeL (onL t k) := by simp [sizeL]
    omega
theorem uni_zip {t : List Bd} : ∀ {a b : List Tm}, a.length = b.length → (Uni t (zipP a b) ↔ onL t a = onL t b)
  | [], [], _ => by simp [Uni, zipP]
  | [], _ :: _, h => by simp at h
  | _ :: _, [], h => by simp at h
  | x :: a, y :: b, h => by
    have ih := uni_zip (t := t) (a := a) (b := b) (by simpa using h)
    rw [zipP, onL_cons, onL_cons, List.cons.injEq, ← ih]
    simp [Uni]
theorem var_leaf {u : Tm} (he : errL [u] = 0) (hv : varB u.name = true) : u = ⟨u.name, []⟩ := by
  obtain ⟨n, k⟩ := u
  have := (errL_parts he).1 hv
  subst this
  rfl
/-- A step of those without a limit, and a substitution t: from both sides being one for t to the next ones being so, and back. -/
theorem step_agr {t : List Bd} (ht : ∀ d ∈ t, varB d.nm = true) {V : List ByteArray} {h : List (ByteArray × Tm)} {p : Pr} {l : List Pr} (u : UI V h (p :: l)) :
    (∀ e s', uPair false (sAt h) l (onT (sAt h) p.l) (onT (sAt h) p.r) = .stop e s' → e = 8 ∨ ¬ (Agr t (sAt h) ∧ onT t p.l = onT t p.r)) ∧
    (∀ s' l', uPair false (sAt h) l (onT (sAt h) p.l) (onT (sAt h) p.r) = .go s' l' → ∃ h', s' = sAt h' ∧ UI V h' l' ∧ ((Agr t (sAt h') ∧ Uni t l') ↔ (Agr t (sAt h) ∧ Uni t (p :: l)))) := by
  have ok := u.good.all
  obtain ⟨e1, e2⟩ := u.head
  have ea := errL_onT2 ok e1
  have eb := errL_onT2 ok e2
  have hon : Agr t (sAt h) → (onT t p.l = onT t p.r ↔ onT t (onT (sAt h) p.l) = onT t (onT (sAt h) p.r)) := fun ha => by
    rw [agr_on ht ok.vars ha e1, agr_on ht ok.vars ha e2]
  have huc : Uni t (p :: l) ↔ (onT t p.l = onT t p.r ∧ Uni t l) := by simp [Uni]
  have hbv := fun x y => u.bindV (x := x) (t := y)
  have hdp := u.deep
  have hse : ∀ d ∈ sAt h, errL [d.t] = 0 := fun d hd => (ok.2.1 d hd).2
  generalize onT (sAt h) p.l = a at *
  generalize onT (sAt h) p.r = b at *
  have bindCase : ∀ (x : ByteArray) (y : Tm), varB x = true → x ≠ y.name → errL [y] = 0 → ((x = a.name ∧ y = b) ∨ (x = b.name ∧ y = a)) → (Agr t (sAt h) → (onT t p.l = onT t p.r ↔ onT t ⟨x, []⟩ = onT t y)) →
      (∀ e s', uBind false (sAt h) l x y = .stop e s' → e = 8 ∨ ¬ (Agr t (sAt h) ∧ onT t p.l = onT t p.r)) ∧ (∀ s' l', uBind false (sAt h) l x y = .go s' l' → ∃ h', s' = sAt h' ∧ UI V h' l' ∧ ((Agr t (sAt h') ∧ Uni t l') ↔ (Agr t (sAt h) ∧ Uni t (p :: l)))) := fun x y hx hne hey hor hiff => by
    unfold uBind
    by_cases ho : inB x (varsP [] (preL [y])) = true
    · rw [if_pos ho]
      have hoc : occL x [y] := by
        apply Classical.byContradiction
        intro hn
        unfold inB at ho
        rw [List.any_eq_true] at ho
        obtain ⟨z, hz, e⟩ := ho
        have e2 : z = x := bytes_inj (by simpa using e)
        subst e2
        rcases varsP_sub _ _ _ hz with h1 | ⟨k, h1, h2, _⟩
        · cases h1
        · exact hn ⟨k, h1, h2⟩
      refine ⟨fun e s' hh => Or.inr fun hA => occ_never ht hx hey hne hoc ((hiff hA.1).1 hA.2), fun s' l' hh => by cases hh⟩
    · rw [if_neg ho, if_neg (by simp)]
      refine ⟨fun e s' hh => (by cases hh), fun s' l' hh => ?_⟩
      cases hh
      refine ⟨h ++ [(x, y)], by rw [sAt_snoc]; rfl, (hbv x y hx hor ho).2, ?_⟩
      rw [sAt_snoc, agr_add ht hx hse, huc]
      constructor
      · rintro ⟨⟨h1, h2⟩, h3⟩
        exact ⟨h1, (hiff h1).2 h2, h3⟩
      · rintro ⟨h1, h2, h3⟩
        exact ⟨⟨h1, (hiff h1).1 h2⟩, h3⟩
  unfold uPair
  by_cases hz : 2000 < sizeL [a] ∨ 2000 < sizeL [b]
  · rw [if_pos hz]
    refine ⟨fun e s' hh => (by cases hh; exact Or.inl rfl), fun s' l' hh => by cases hh⟩
  rw [if_neg hz]
  by_cases hva : varB a.name = true
  · rw [if_pos hva]
    have hal := var_leaf ea hva
    by_cases hn : a.name = b.name
    · rw [if_pos hn]
      refine ⟨fun e s' hh => (by cases hh), fun s' l' hh => ?_⟩
      cases hh
      have hbl := var_leaf eb (by rw [← hn]; exact hva)
      refine ⟨h, rfl, u.drop, ?_⟩
      rw [huc]
      constructor
      · rintro ⟨h1, h2⟩
        exact ⟨h1, (hon h1).2 (by rw [hal, hbl, hn]), h2⟩
      · rintro ⟨h1, _, h2⟩
        exact ⟨h1, h2⟩
    · rw [if_neg hn]
      exact bindCase a.name b hva hn eb (Or.inl ⟨rfl, rfl⟩) (fun hA => by rw [hon hA, ← hal])
  rw [if_neg hva]
  have hva' : varB a.name = false := by simpa using hva
  by_cases hvb : varB b.name = true
  · rw [if_pos hvb]
    have hbl := var_leaf eb hvb
    exact bindCase b.name a hvb (fun e => hva (by rw [← e]; exact hvb)) ea (Or.inr ⟨rfl, rfl⟩) (fun hA => by rw [hon hA, ← hbl]; exact eq_comm)
  rw [if_neg hvb]
  have hvb' : varB b.name = false := by simpa using hvb
  have ha2 : onT t a = ⟨a.name, onL t a.args⟩ := by
    obtain ⟨n, k⟩ := a
    exact onT_sym2 ht hva' k
  have hb2 : onT t b = ⟨b.name, onL t b.args⟩ := by
    obtain ⟨n, k⟩ := b
    exact onT_sym2 ht hvb' k
  by_cases hnl : a.name = b.name ∧ a.args.length = b.args.length
  · rw [if_pos hnl]
    refine ⟨fun e s' hh => (by cases hh), fun s' l' hh => ?_⟩
    cases hh
    refine ⟨h, rfl, (hdp (by omega) (by omega) hnl.2).1, ?_⟩
    have hua : Uni t (zipP a.args b.args ++ l) ↔ (Uni t (zipP a.args b.args) ∧ Uni t l) := by
      constructor
      · intro hh
        exact ⟨fun q hq => hh q (List.mem_append_left _ hq), fun q hq => hh q (List.mem_append_right _ hq)⟩
      · rintro ⟨h1, h2⟩ q hq
        rcases List.mem_append.1 hq with hq | hq
        · exact h1 q hq
        · exact h2 q hq
    rw [hua, huc, uni_zip hnl.2]
    constructor
    · rintro ⟨h1, h2, h3⟩
      exact ⟨h1, (hon h1).2 (by rw [ha2, hb2, h2, hnl.1]), h3⟩
    · rintro ⟨h1, h2, h3⟩
      have h4 := (hon h1).1 h2
      rw [ha2, hb2] at h4
      exact ⟨h1, by injection h4, h3⟩
  · rw [if_neg hnl]
    refine ⟨fun e s' hh => Or.inr ?_, fun s' l' hh => by cases hh⟩
    rintro ⟨h1, h2⟩
    have h4 := (hon h1).1 h2
    rw [ha2, hb2] at h4
    injection h4 with h5 h6
    have h7 := congrArg List.length h6
    rw [onL_length, onL_length] at h7
    exact hnl ⟨h5, h7⟩
/-- The run: what it ends with makes all one, and all that makes all one agrees with it. -/
theorem run_agr {V : List ByteArray} : ∀ (n : Nat) (h : List (ByteArray × Tm)) (l : List Pr) (R : Int × List Bd), UI V h l → uRun false n (sAt h) l = some R →
    ∃ h', R.2 = sAt h' ∧ GoodH h' ∧ NamesH h' ∧ (R.1 = 0 → ∀ t, (∀ d ∈ t, varB d.nm = true) → (Agr t R.2 ↔ (Agr t (sAt h) ∧ Uni t l))) ∧ (R.1 ≠ 0 → R.1 ≠ 8 → ∀ t, (∀ d ∈ t, varB d.nm = true) → ¬ (Agr t (sAt h) ∧ Uni t l))
  | 0, h, l, R, u, hr => by cases hr
  | n + 1, h, [], R, u, hr => by
    simp [uRun, uNext] at hr
    subst hr
    exact ⟨h, rfl, u.good, u.names, fun _ t _ => by simp [Uni], fun h0 => absurd rfl h0⟩
  | n + 1, h, p :: l, R, u, hr => by
    rw [uRun, uNext_cons] at hr
    cases hp : uPair false (sAt h) l (onT (sAt h) p.l) (onT (sAt h) p.r) with
    | stop e s' =>
      rw [hp] at hr
      have e2 : s' = sAt h := uNext_stop (lim := false) (l := p :: l) (e := e) (by rw [uNext_cons]; exact hp)
      simp at hr
      subst hr
      refine ⟨h, e2, u.good, u.names, fun h0 => ?_, fun _ h8 t ht => ?_⟩
      · exfalso
        have h0 : e = 0 := h0
        subst h0
        unfold uPair uBind at hp
        repeat' split at hp
        all_goals first | (cases hp; done) | (injection hp with h1 h2; exact absurd h1 (by decide))
      · rcases (step_agr ht u).1 e s' hp with h1 | h1
        · exact absurd h1 h8
        · rintro ⟨h2, h3⟩
          exact h1 ⟨h2, h3 p (by simp)⟩
    | go s' l' =>
      rw [hp] at hr
      obtain ⟨h', rfl, u', _⟩ := (step_agr (t := []) (by simp) u).2 s' l' hp
      obtain ⟨h2, q1, q2, q3, q4, q5⟩ := run_agr n h' l' R u' hr
      have key : ∀ t, (∀ d ∈ t, varB d.nm = true) → ((Agr t (sAt h') ∧ Uni t l') ↔ (Agr t (sAt h) ∧ Uni t (p :: l))) := fun t ht => by
        obtain ⟨h3, e3, _, k3⟩ := (step_agr ht u).2 (sAt h') l' hp
        rw [e3]
        exact k3
      exact ⟨h2, q1, q2, q3, fun h0 t ht => (q4 h0 t ht).trans (key t ht), fun h0 h8 t ht hh => q5 h0 h8 t ht ((key t ht).2 hh)⟩
#print axioms run_agr
end Go.Proofs.YteojdfmdhgnmfaaGreat

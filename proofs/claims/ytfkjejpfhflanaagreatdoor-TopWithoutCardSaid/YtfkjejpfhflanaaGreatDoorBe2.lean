/- Plain: a lambda term, without what is bound and back again, is the same by steps and eta. -/
import Derived.Test.YtfkjejpfhflanaaGreatDoorZITopWithoutOwn
import Derived.Test.YtfkjejpfhflanaaGreatDoorZKTopWithoutOwn
import Derived.Test.YtfkjejpfhflanaaGreatDoorZPTopWithoutOwn
namespace Go.Proofs.YtfkjejpfhflanaaGreatDoor
open Go.RowKit
set_option linter.unusedSimpArgs false
set_option linter.unusedVariables false
set_option maxRecDepth 8000

/-- What eta tells of a term is what eta tells here. -/
theorem px_uses : ∀ (p : PX) (c : Nat), usesM (c : Int) [p.m] = 0 ↔ p.any (fun i => i == c) = false
  | .v i, c => by
    simp only [PX.m, PX.any]
    rw [usesM_var]
    simp only [usesM, Nat.add_zero]
    by_cases h : i = c
    · subst h; simp
    · rw [if_neg (by omega)]
      simp [h]
  | .c k, c => by
    simp only [PX.m, PX.any]
    rw [usesM_node (by decide)]
    simp [usesM]
  | .l b, c => by
    have ih := px_uses b (c + 1)
    simp only [PX.m, PX.any]
    rw [usesM_node (by decide)]
    have e : deepK (c : Int) 2 = ((c + 1 : Nat) : Int) := by simp [deepK]
    rw [e]
    simp only [usesM, Nat.add_zero]
    have e2 : PX.lowp (fun i => i == c) = fun i => i == c + 1 := by funext i; cases i <;> simp [PX.lowp]
    rw [e2]
    exact ih
  | .a f x, c => by
    have i1 := px_uses f c
    have i2 := px_uses x c
    simp only [PX.m, PX.any]
    rw [usesM_node (by decide)]
    have e : deepK (c : Int) 3 = (c : Int) := by simp [deepK]
    rw [e, usesM_cons]
    simp only [usesM, Nat.add_zero, Bool.or_eq_false_iff]
    rw [← i1, ← i2]
    omega
theorem px_far (p : PX) : usesM 0 [p.m] = 0 ↔ p.far = true := by
  have := px_uses p 0
  unfold PX.far
  rw [Bool.not_eq_true']
  exact this
theorem px_lf : ∀ p : PX, LfM [p.m]
  | .v i => by simp only [PX.m]; rw [LfM_cons]; exact ⟨fun _ => rfl, LfM_nil, LfM_nil⟩
  | .c k => by simp only [PX.m]; rw [LfM_cons]; exact ⟨fun _ => rfl, LfM_nil, LfM_nil⟩
  | .l b => by simp only [PX.m]; rw [LfM_cons]; exact ⟨fun h => by simp at h, px_lf b, LfM_nil⟩
  | .a f x => by
    have h1 := px_lf f
    have h2 := px_lf x
    simp only [PX.m]
    rw [LfM_cons]
    refine ⟨fun h => by simp at h, ?_, LfM_nil⟩
    generalize f.m = fm at h1 ⊢
    obtain ⟨k, y, l⟩ := fm
    rw [LfM_cons] at h1 ⊢
    exact ⟨h1.1, h1.2.1, h2⟩
theorem px_hi (p : PX) : higT 1 0 p.m = p.hi.m := by
  have := px_hig 1 p 0
  rw [show ((1 : Nat) : Int) = 1 from rfl, show ((0 : Nat) : Int) = 0 from rfl] at this
  rw [this]
  unfold PX.hi
  congr 2
theorem px_low {p : PX} (h : p.far = true) : higT (-1) 0 p.m = p.low.m := by
  have h1 := hig_back [p.low.m] 0 (px_lf p.low)
  rw [higM_one, higM_one] at h1
  simp only [List.cons.injEq, and_true] at h1
  rw [px_hi, PX.hi_low h] at h1
  exact h1
theorem px_v0 (x : PX) : (x.m.kind = 1 ∧ x.m.idx = 0) ↔ x = .v 0 := by
  cases x with
  | v i => simp [PX.m]
  | c k => simp [PX.m]
  | l b => simp [PX.m]
  | a f x => simp [PX.m]
theorem px_etl (t : PX) : etaK 2 0 [t.m] = (PX.etl t).m := by
  cases t with
  | v i => simp [etaK, PX.etl, PX.m]
  | c k => simp [etaK, PX.etl, PX.m]
  | l b => simp [etaK, PX.etl, PX.m]
  | a f x =>
    have hm : (PX.a f x).m = ⟨3, 0, [f.m, x.m]⟩ := rfl
    by_cases hx : x = .v 0
    · subst hx
      by_cases hf : f.far = true
      · rw [hm, etaK_idle ((idle_iff _ _ _ _).2 ⟨rfl, (px_far f).2 hf, (px_v0 _).2 rfl⟩)]
        simp only [PX.etl]
        rw [if_pos hf]
        exact px_low hf
      · have hn : ¬ idleT ⟨3, 0, [f.m, (PX.v 0).m]⟩ = true := fun h => hf ((px_far f).1 ((idle_iff _ _ _ _).1 h).2.1)
        simp only [PX.etl]
        rw [if_neg hf, hm]
        unfold etaK
        rw [if_pos rfl]
        simp only [hn, if_false, Bool.false_eq_true]
        rfl
    · have hn : ¬ idleT ⟨3, 0, [f.m, x.m]⟩ = true := fun h => hx ((px_v0 x).1 ((idle_iff _ _ _ _).1 h).2.2)
      have he : PX.etl (.a f x) = .l (.a f x) := by
        unfold PX.etl
        split
        · rename_i g e
          cases e
          exact absurd rfl hx
        · rfl
      rw [he, hm]
      unfold etaK
      rw [if_pos rfl]
      simp only [hn, if_false, Bool.false_eq_true]
      rfl
theorem px_eta : ∀ p : PX, etaT p.m = p.eta.m
  | .v i => by simp [etaT, PX.m, etaK, PX.eta, etaM]
  | .c k => by simp [etaT, PX.m, etaK, PX.eta, etaM]
  | .l b => by
    have h := px_eta b
    show etaK 2 0 (etaM [b.m]) = _
    rw [etaM_map]
    simp only [List.map_cons, List.map_nil]
    rw [h, px_etl]
    rfl
  | .a f x => by
    have h1 := px_eta f
    have h2 := px_eta x
    show etaK 3 0 (etaM [f.m, x.m]) = _
    rw [etaM_map]
    simp only [List.map_cons, List.map_nil]
    rw [h1, h2, etaK_ne (by decide)]
    rfl

/-- The three. -/
def PX.iP : PX := .l (.v 0)
def PX.kP : PX := .l (.l (.v 1))
def PX.sP : PX := .l (.l (.l (.a (.a (.v 2) (.v 0)) (.a (.v 1) (.v 0)))))
/-- What a term of combinators, with variables for what is bound from outside, is. -/
inductive Cx (d : Nat) : Tm → PX → Prop where
  | i : Cx d ⟨iB, []⟩ PX.iP
  | k : Cx d ⟨kB, []⟩ PX.kP
  | s : Cx d ⟨sB, []⟩ PX.sP
  | con (k : Nat) (h : k < 40) : Cx d ⟨nmP 99 k, []⟩ (.c (k : Int))
  | var (k : Nat) (h : k < d) : Cx d ⟨nmP 88 k, []⟩ (.v (d - 1 - k))
  | ap {f x : Tm} {F X : PX} : Cx d f F → Cx d x X → Cx d (apT f x) (.a F X)
theorem Cx.isC {d : Nat} {t : Tm} {T : PX} (h : Cx d t T) : isC t = true := by
  induction h with
  | ap _ _ h1 h2 => rw [isC_ap, h1, h2]; rfl
  | _ => exact isC_leaf _
theorem nm_ne {p q : UInt8} {k : Nat} (h : p ≠ q) : nmP p k ≠ ⟨#[q]⟩ := fun e => h (nmP_head (q := q) (l := []) e)
theorem Cx.named {d : Nat} {t : Tm} {T : PX} (h : Cx (d + 1) t T) (hn : t.name = nmP 88 d) : t = ⟨nmP 88 d, []⟩ ∧ T = .v 0 := by
  cases h with
  | i => exact absurd hn.symm (nm_ne (by decide))
  | k => exact absurd hn.symm (nm_ne (by decide))
  | s => exact absurd hn.symm (nm_ne (by decide))
  | con k h => exact absurd (nmP_head (q := 88) (l := Lib.decDigits d) hn) (by decide)
  | var k h =>
    have : k = d := nmP_inj hn
    subst this
    exact ⟨rfl, by congr 1; omega⟩
  | ap h1 h2 => exact absurd hn.symm (nm_ap 88 (by decide) d)
theorem PX.Cv.ren {t s : PX} (h : Cv t s) (r : Nat → Nat) : Cv (t.ren r) (s.ren r) := by
  induction h with
  | par h => exact .par (h.ren r)
  | eta h => exact .eta (by rw [PX.eta_ren, PX.eta_ren, h])
  | symm _ ih => exact .symm ih
  | trans _ _ i1 i2 => exact .trans i1 i2
theorem PX.Cv.hi {t s : PX} (h : Cv t s) : Cv t.hi s.hi := h.ren _
theorem cv_k (T : PX) : PX.Cv (.a PX.kP T) (.l T.hi) := PX.Cv.beta _ _
/-- A binder moved on, with the nearest put in, is what stands below it. -/
theorem cv_at0 {A F : PX} (h : PX.Cv A (.l F)) : PX.Cv (.a A.hi (.v 0)) F := by
  refine (h.hi.fst _).trans ?_
  refine (PX.Cv.beta _ _).trans ?_
  rw [PX.sub_ren]
  rw [show (fun i => PX.ins (.v 0) (PX.upr (fun i => i + 1) i)) = PX.v by funext i; cases i <;> rfl, PX.sub_v]
  exact .refl F
theorem cv_s {A B F X : PX} (hA : PX.Cv A (.l F)) (hB : PX.Cv B (.l X)) : PX.Cv (.a (.a PX.sP A) B) (.l (.a F X)) := by
  have h1 : PX.Cv (.a PX.sP A) (.l (.l (.a (.a A.hi.hi (.v 0)) (.a (.v 1) (.v 0))))) := PX.Cv.beta _ _
  refine (h1.fst B).trans ?_
  refine (PX.Cv.beta _ _).trans ?_
  have e : (PX.l (.a (.a A.hi.hi (.v 0)) (.a (.v 1) (.v 0)))).sub (PX.ins B) = .l (.a (.a A.hi (.v 0)) (.a B.hi (.v 0))) := by
    simp only [PX.sub]
    congr 3
    rw [PX.sub_hi]
    congr 1
    unfold PX.hi
    rw [PX.sub_ren]
    exact PX.sub_v A
  rw [e]
  exact (PX.Cv.app (cv_at0 hA) (cv_at0 hB)).lam
theorem Cx.br {d : Nat} (n : Nat) : ∀ {t : Tm} {T : PX}, Cx (d + 1) t T → sizeL [t] ≤ n →
    ((brR (nmP 88 d) n t).2 = false → (brR (nmP 88 d) n t).1 = t ∧ ∃ T0 : PX, Cx d t T0 ∧ T = T0.hi) ∧ ∃ B, Cx d (alw (brR (nmP 88 d) n t)) B ∧ PX.Cv B (.l T) := by
  induction n with
  | zero => intro t T _ h; have := size_posC t; omega
  | succ n ih =>
    intro t T h hz
    have leaf : ∀ (s : ByteArray) (T T0 : PX), s ≠ nmP 88 d → Cx d ⟨s, []⟩ T0 → T = T0.hi → ((brR (nmP 88 d) (n + 1) ⟨s, []⟩).2 = false → (brR (nmP 88 d) (n + 1) ⟨s, []⟩).1 = ⟨s, []⟩ ∧ ∃ T0 : PX, Cx d ⟨s, []⟩ T0 ∧ T = T0.hi) ∧ ∃ B, Cx d (alw (brR (nmP 88 d) (n + 1) ⟨s, []⟩)) B ∧ PX.Cv B (.l T) := by
      intro s T T0 hs h0 hT
      have e1 : brR (nmP 88 d) (n + 1) ⟨s, []⟩ = (⟨s, []⟩, false) := by simp [brR, hs]
      rw [e1]
      refine ⟨fun _ => ⟨rfl, T0, h0, hT⟩, .a PX.kP T0, ?_, ?_⟩
      · exact .ap .k h0
      · rw [hT]; exact cv_k T0
    cases h with
    | i => exact leaf iB _ PX.iP (fun e => nm_ne (by decide) e.symm) .i rfl
    | k => exact leaf kB _ PX.kP (fun e => nm_ne (by decide) e.symm) .k rfl
    | s => exact leaf sB _ PX.sP (fun e => nm_ne (by decide) e.symm) .s rfl
    | con k hk => exact leaf (nmP 99 k) _ (.c (k : Int)) (fun e => absurd (nmP_head (q := 88) (l := Lib.decDigits d) e) (by decide)) (.con k hk) rfl
    | var k hk =>
      by_cases e : k = d
      · subst e
        have e1 : brR (nmP 88 k) (n + 1) ⟨nmP 88 k, []⟩ = (⟨iB, []⟩, true) := by simp [brR]
        rw [e1]
        refine ⟨fun h => by simp at h, PX.iP, .i, ?_⟩
        have : k + 1 - 1 - k = 0 := by omega
        rw [this]
        exact .refl _
      · refine leaf (nmP 88 k) _ (.v (d - 1 - k)) (fun h => e (nmP_inj h)) (.var k (by omega)) ?_
        show PX.v (d + 1 - 1 - k) = .v (d - 1 - k + 1)
        congr 1
        omega
    | @ap f x F X h1 h2 =>
      have hs := size_ap f x
      have a1 := size_posC f
      have a2 := size_posC x
      obtain ⟨f1, FB, f2, f3⟩ := ih h1 (by omega)
      obtain ⟨x1, XB, x2, x3⟩ := ih h2 (by omega)
      have hna : ¬ apB = nmP 88 d := fun h => nm_ap 88 (by decide) d h.symm
      have e0 : brR (nmP 88 d) (n + 1) (apT f x) = if (brR (nmP 88 d) n f).2 = false ∧ (brR (nmP 88 d) n x).2 = false then (apT f x, false) else
        if (brR (nmP 88 d) n f).2 = false ∧ x.name = nmP 88 d then ((brR (nmP 88 d) n f).1, true) else
        (apT (apT ⟨sB, []⟩ (alw (brR (nmP 88 d) n f))) (alw (brR (nmP 88 d) n x)), true) := by
        unfold apT
        rw [brR, if_neg hna]
        rfl
      rw [e0]
      by_cases c1 : (brR (nmP 88 d) n f).2 = false ∧ (brR (nmP 88 d) n x).2 = false
      · rw [if_pos c1]
        obtain ⟨_, F0, g1, rfl⟩ := f1 c1.1
        obtain ⟨_, X0, g2, rfl⟩ := x1 c1.2
        refine ⟨fun _ => ⟨rfl, .a F0 X0, .ap g1 g2, rfl⟩, .a PX.kP (.a F0 X0), .ap .k (.ap g1 g2), cv_k (.a F0 X0)⟩
      · rw [if_neg c1]
        by_cases c2 : (brR (nmP 88 d) n f).2 = false ∧ x.name = nmP 88 d
        · rw [if_pos c2]
          obtain ⟨g0, F0, g1, rfl⟩ := f1 c2.1
          obtain ⟨rfl, rfl⟩ := h2.named c2.2
          rw [g0]
          exact ⟨fun h => by simp at h, F0, g1, (PX.Cv.wide F0).symm⟩
        · rw [if_neg c2]
          refine ⟨fun h => by simp at h, .a (.a PX.sP FB) XB, .ap (.ap .s f2) x2, cv_s f3 x3⟩
/-- Without what is bound. -/
theorem cx_cmb (n : Nat) : ∀ (d : Nat) (p : PX) (c : Tm), errM (d : Int) 0 [p.m] = 0 → cmb 88 n d p.m = some c → ∃ C, Cx d c C ∧ PX.Cv C p := by
  induction n with
  | zero => intro d p c _ h; simp [cmb] at h
  | succ n ih =>
    intro d p c he h
    rcases may_look he with ⟨x, e, h0, h1⟩ | ⟨b, e, hb⟩ | ⟨f, a, e, hf, ha⟩ | ⟨x, e, h0, h1⟩
    · cases p with
      | v i =>
        simp only [PX.m] at h
        rw [cmb_var] at h
        simp only [PX.m, Lm.mk.injEq] at e
        obtain ⟨_, rfl, _⟩ := e
        cases h
        have e2 : ((d : Int) - 1 - (i : Int)).toNat = d - 1 - i := by omega
        rw [e2]
        refine ⟨_, .var (d - 1 - i) (by omega), ?_⟩
        have e3 : d - 1 - (d - 1 - i) = i := by omega
        rw [e3]
        exact .refl _
      | c k => simp [PX.m] at e
      | l b => simp [PX.m] at e
      | a f x => simp [PX.m] at e
    · cases p with
      | l q =>
        simp only [PX.m, Lm.mk.injEq, List.cons.injEq, and_true, true_and] at e
        subst e
        simp only [PX.m] at h
        rw [cmb_lam] at h
        cases hc : cmb 88 n (d + 1) q.m with
        | none => rw [hc] at h; simp at h
        | some t =>
          rw [hc] at h
          simp only [Option.bind_some, notG] at h
          split at h
          · cases h
          · cases h
            obtain ⟨C, g1, g2⟩ := ih (d + 1) q t hb hc
            obtain ⟨_, B, g3, g4⟩ := g1.br (sizeL [t]) (Nat.le_refl _)
            exact ⟨B, g3, g4.trans g2.lam⟩
      | v i => simp [PX.m] at e
      | c k => simp [PX.m] at e
      | a f x => simp [PX.m] at e
    · cases p with
      | a p q =>
        simp only [PX.m, Lm.mk.injEq, List.cons.injEq, and_true, true_and] at e
        obtain ⟨rfl, rfl⟩ := e
        simp only [PX.m] at h
        rw [cmb_app] at h
        cases hc : cmb 88 n d p.m with
        | none => rw [hc] at h; simp at h
        | some t =>
          cases hc2 : cmb 88 n d q.m with
          | none => rw [hc, hc2] at h; simp at h
          | some t2 =>
            rw [hc, hc2] at h
            simp only [Option.bind_some, notG] at h
            split at h
            · cases h
            · cases h
              obtain ⟨C, g1, g2⟩ := ih d p t hf hc
              obtain ⟨C2, g3, g4⟩ := ih d q t2 ha hc2
              exact ⟨.a C C2, .ap g1 g3, PX.Cv.app g2 g4⟩
      | v i => simp [PX.m] at e
      | c k => simp [PX.m] at e
      | l b => simp [PX.m] at e
    · cases p with
      | c k =>
        simp only [PX.m] at h
        rw [cmb_con] at h
        simp only [PX.m, Lm.mk.injEq, true_and, and_true] at e
        subst e
        cases h
        refine ⟨_, .con k.toNat (by omega), ?_⟩
        rw [show ((k.toNat : Nat) : Int) = k by omega]
        exact .refl _
      | v i => simp [PX.m] at e
      | l b => simp [PX.m] at e
      | a f x => simp [PX.m] at e
theorem leafL_con {k : Nat} (h : k < 40) : leafL (nmP 99 k) = (0, ⟨4, (k : Int), []⟩) := by
  unfold leafL
  rw [if_neg (nm_ne (by decide)), if_neg (nm_ne (by decide)), if_neg (nm_ne (by decide))]
  refine leafV_con ?_ (conN_is h (by simp [nmP]))
  revert k
  decide +kernel
/-- Back again. -/
theorem cx_to {t : Tm} {T : PX} (h : Cx 0 t T) : ∀ n, sizeL [t] ≤ n → toL n t = (0, T.m) := by
  induction h with
  | i => intro n hn; obtain ⟨m, rfl⟩ : ∃ m, n = m + 1 := ⟨n - 1, by have := size_posC ⟨iB, []⟩; omega⟩; rw [toL_leaf]; rfl
  | k => intro n hn; obtain ⟨m, rfl⟩ : ∃ m, n = m + 1 := ⟨n - 1, by have := size_posC ⟨kB, []⟩; omega⟩; rw [toL_leaf]; rfl
  | s => intro n hn; obtain ⟨m, rfl⟩ : ∃ m, n = m + 1 := ⟨n - 1, by have := size_posC ⟨sB, []⟩; omega⟩; rw [toL_leaf]; rfl
  | con k hk => intro n hn; obtain ⟨m, rfl⟩ : ∃ m, n = m + 1 := ⟨n - 1, by have := size_posC ⟨nmP 99 k, []⟩; omega⟩; rw [toL_leaf, leafL_con hk]; rfl
  | var k hk => omega
  | @ap f x F X _ _ i1 i2 =>
    intro n hn
    have hs := size_ap f x
    have a1 := size_posC f
    have a2 := size_posC x
    obtain ⟨m, rfl⟩ : ∃ m, n = m + 1 := ⟨n - 1, by omega⟩
    rw [toL_ap, i1 m (by omega), i2 m (by omega)]
    rfl
/-- All that the law TopWithout asks: both ends are one behind eta. -/
theorem without_ends {t u : Lm} {c : Tm} {n m : Nat} (he : errM 0 0 [t] = 0) (hc : cmb 88 n 0 t = some c) (hz : sizeL [c] ≤ m) (hu : toL m c = (0, u))
    (k1 k2 : Nat) (h1 : (endM false k1 t).1 = 0) (h2 : (endM false k2 u).1 = 0) : etaT (endM false k1 t).2.1 = etaT (endM false k2 u).2.1 := by
  obtain ⟨p, rfl⟩ := px_of t _ he
  obtain ⟨C, g1, g2⟩ := cx_cmb n 0 p c he hc
  have g3 := cx_to g1 m hz
  rw [hu] at g3
  cases g3
  obtain ⟨a, e1, e2, e3, _⟩ := px_end false k1 p (endM false k1 p.m).2.1 (endM false k1 p.m).2.2 (by rw [← h1])
  obtain ⟨b, f1, f2, f3, _⟩ := px_end false k2 C (endM false k2 C.m).2.1 (endM false k2 C.m).2.2 (by rw [← h2])
  rw [e1, f1, px_eta, px_eta]
  congr 1
  refine PX.Cv.ends ?_ e3 f3
  exact (PX.Cv.pars e2).symm.trans (g2.symm.trans (PX.Cv.pars f2))
end Go.Proofs.YtfkjejpfhflanaaGreatDoor

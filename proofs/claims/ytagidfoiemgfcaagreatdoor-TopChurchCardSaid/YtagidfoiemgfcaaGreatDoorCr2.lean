/- Plain: lambda terms that may be, as those whose ways come together again. -/
import Derived.Test.YtagidfoiemgfcaaGreatDoorCr1
import Derived.Test.YtagidfoiemgfcaaGreatDoorZTopChurchOwn
import Derived.Test.YtagidfoiemgfcaaGreatDoorHs1
import Derived.Test.YtagidfoiemgfcaaGreatDoorDv1
namespace Go.Proofs.YtagidfoiemgfcaaGreatDoor
open Go.RowKit
set_option linter.unusedSimpArgs false
set_option linter.unusedVariables false
set_option maxRecDepth 8000

/-- The lambda term that it is. -/
def PX.m : PX → Lm
  | .v i => ⟨1, (i : Int), []⟩
  | .c k => ⟨4, k, []⟩
  | .l b => ⟨2, 0, [b.m]⟩
  | .a f x => ⟨3, 0, [f.m, x.m]⟩
theorem px_of (t : Lm) : ∀ u, errM u 0 [t] = 0 → ∃ p : PX, p.m = t := by
  induction t using Lm.ind with
  | h k x l ih =>
    intro u he
    rcases may_look he with ⟨y, e, h0, h1⟩ | ⟨b, e, hb⟩ | ⟨f, a, e, hf, ha⟩ | ⟨y, e, h0, h1⟩
    · cases e
      exact ⟨.v x.toNat, by simp only [PX.m]; congr 1; omega⟩
    · cases e
      obtain ⟨p, hp⟩ := ih b (by simp) _ hb
      exact ⟨.l p, by simp only [PX.m, hp]⟩
    · cases e
      obtain ⟨p, hp⟩ := ih f (by simp) _ hf
      obtain ⟨q, hq⟩ := ih a (by simp) _ ha
      exact ⟨.a p q, by simp only [PX.m, hp, hq]⟩
    · cases e
      exact ⟨.c x, rfl⟩
theorem hgT_v (y d x : Int) : higT y d ⟨1, x, []⟩ = if x < d then ⟨1, x, []⟩ else ⟨1, x + y, []⟩ := by
  unfold higT
  by_cases h : x < d <;> simp [h]
theorem hgT_o (y d k x : Int) (l : List Lm) (hk : k ≠ 1) : higT y d ⟨k, x, l⟩ = ⟨k, x, l.map (higT y (deepK d k))⟩ := by
  rw [← higM_map]
  unfold higT
  simp [hk]
theorem isT_v (z : Lm) (d x : Int) : insT z d ⟨1, x, []⟩ = if x < d then ⟨1, x, []⟩ else if x = d then higT d 0 z else ⟨1, x - 1, []⟩ := by
  unfold insT
  by_cases h : x < d <;> simp [h]
theorem isT_o (z : Lm) (d k x : Int) (l : List Lm) (hk : k ≠ 1) : insT z d ⟨k, x, l⟩ = ⟨k, x, l.map (insT z (deepK d k))⟩ := by
  rw [← insM_map]
  unfold insT
  simp [hk]
/-- Moved on by so many, from so many binders on. -/
def PX.mv (y d : Nat) (i : Nat) : Nat := if i < d then i else i + y
theorem PX.mv_up (y d : Nat) : upr (mv y d) = mv y (d + 1) := by
  funext i
  cases i with
  | zero => simp [PX.upr, PX.mv]
  | succ i =>
    simp only [PX.upr, PX.mv]
    by_cases h : i < d
    · rw [if_pos h, if_pos (by omega)]
    · rw [if_neg h, if_neg (by omega)]; omega
theorem px_hig (y : Nat) : ∀ (p : PX) (d : Nat), higT (y : Int) (d : Int) p.m = (p.ren (PX.mv y d)).m
  | .v i, d => by
    simp only [PX.m, PX.ren, PX.mv]
    rw [hgT_v]
    by_cases h : i < d
    · rw [if_pos (by omega), if_pos h]
    · rw [if_neg (by omega), if_neg h]; simp
  | .c k, d => by simp only [PX.m, PX.ren]; rw [hgT_o _ _ _ _ _ (by decide)]; rfl
  | .l b, d => by
    have h1 := px_hig y b (d + 1)
    simp only [PX.m, PX.ren]
    have e : deepK (d : Int) 2 = ((d + 1 : Nat) : Int) := by simp [deepK]
    rw [hgT_o _ _ _ _ _ (by decide), e, PX.mv_up, ← h1]
    rfl
  | .a f x, d => by
    have h1 := px_hig y f d
    have h2 := px_hig y x d
    simp only [PX.m, PX.ren]
    have e : deepK (d : Int) 3 = (d : Int) := by simp [deepK]
    rw [hgT_o _ _ _ _ _ (by decide), e, ← h1, ← h2]
    rfl
/-- A term for what is bound so many binders around. -/
def PX.inAt (z : PX) (d : Nat) (i : Nat) : PX := if i < d then .v i else if i = d then z.ren (· + d) else .v (i - 1)
theorem PX.inAt_up (z : PX) (d : Nat) : up (inAt z d) = inAt z (d + 1) := by
  funext i
  cases i with
  | zero => simp [PX.up, PX.inAt]
  | succ i =>
    simp only [PX.up, PX.inAt]
    by_cases h : i < d
    · rw [if_pos h, if_pos (by omega)]; rfl
    · rw [if_neg h, if_neg (by omega : ¬ i + 1 < d + 1)]
      by_cases h2 : i = d
      · rw [if_pos h2, if_pos (by omega), PX.ren_ren]; rfl
      · rw [if_neg h2, if_neg (by omega)]
        simp only [PX.ren]
        congr 1
        omega
theorem PX.inAt_zero (z : PX) : inAt z 0 = ins z := by
  funext i
  cases i with
  | zero =>
    simp only [PX.inAt, PX.ins]
    rw [if_neg (by omega), if_pos trivial]
    rw [PX.ren_is]
    exact PX.sub_v z
  | succ i => simp [PX.inAt, PX.ins]
theorem px_insAt (z : PX) : ∀ (p : PX) (d : Nat), insT z.m (d : Int) p.m = (p.sub (PX.inAt z d)).m
  | .v i, d => by
    simp only [PX.m, PX.sub, PX.inAt]
    rw [isT_v]
    by_cases h : i < d
    · rw [if_pos (by omega), if_pos h]; rfl
    · rw [if_neg (by omega), if_neg h]
      by_cases h2 : i = d
      · rw [if_pos (by omega), if_pos h2]
        have := px_hig d z 0
        rw [show ((0 : Nat) : Int) = 0 from rfl] at this
        rw [this]
        congr 1
      · rw [if_neg (by omega), if_neg h2]
        simp only [PX.m]
        congr 1
        omega
  | .c k, d => by simp only [PX.m, PX.sub]; rw [isT_o _ _ _ _ _ (by decide)]; rfl
  | .l b, d => by
    have h1 := px_insAt z b (d + 1)
    simp only [PX.m, PX.sub]
    have e : deepK (d : Int) 2 = ((d + 1 : Nat) : Int) := by simp [deepK]
    rw [isT_o _ _ _ _ _ (by decide), e, PX.inAt_up, ← h1]
    rfl
  | .a f x, d => by
    have h1 := px_insAt z f d
    have h2 := px_insAt z x d
    simp only [PX.m, PX.sub]
    have e : deepK (d : Int) 3 = (d : Int) := by simp [deepK]
    rw [isT_o _ _ _ _ _ (by decide), e, ← h1, ← h2]
    rfl
theorem px_ins (z p : PX) : insT z.m 0 p.m = (p.sub (PX.ins z)).m := by
  have := px_insAt z p 0
  rw [PX.inAt_zero] at this
  exact this

/-- Is there a step? -/
theorem px_isl (p : PX) : decide (p.m.kind = 2) = p.isl := by cases p <;> simp [PX.m, PX.isl]
theorem px_st : ∀ p : PX, stepM [p.m] = p.st
  | .v i => by simp [PX.m, stepM, rdxT, PX.st]
  | .c k => by simp [PX.m, stepM, rdxT, PX.st]
  | .l b => by
    have h := px_st b
    simp only [PX.m, PX.st]
    rw [stepM_one, h]
    simp [rdxT]
  | .a f x => by
    have h1 := px_st f
    have h2 := px_st x
    simp only [PX.m, PX.st]
    rw [stepM_one]
    have h3 : stepM [f.m, x.m] = (stepM [f.m] || stepM [x.m]) := stepM_append [f.m] [x.m]
    rw [h3, h1, h2, ← px_isl f]
    simp [rdxT, Bool.or_assoc]
theorem px_rdx {f x : PX} (h : rdxT (PX.a f x).m = true) : ∃ b, f = .l b := by
  cases f with
  | l b => exact ⟨b, rfl⟩
  | v i => simp [PX.m, rdxT] at h
  | c k => simp [PX.m, rdxT] at h
  | a g y => simp [PX.m, rdxT] at h
theorem px_rdx_app {p : PX} (h : rdxT p.m = true) : ∃ b x, p = .a (.l b) x := by
  cases p with
  | v i => simp [PX.m, rdxT] at h
  | c k => simp [PX.m, rdxT] at h
  | l b => simp [PX.m, rdxT] at h
  | a f x => obtain ⟨b, rfl⟩ := px_rdx h; exact ⟨b, x, rfl⟩
theorem px_con (b x : PX) : conT [(PX.l b).m, x.m] = (b.sub (PX.ins x)).m := by
  show insT x.m 0 b.m = _
  exact px_ins x b

/-- The first step is one. -/
theorem px_stp (inn : Bool) : ∀ (n : Nat) (p : PX), ∃ q : PX, stpT inn n p.m = q.m ∧ PX.Par p q
  | 0, p => ⟨p, rfl, .refl p⟩
  | n + 1, p => by
    cases hh : hereT inn p.m with
    | true =>
      have hr : rdxT p.m = true := by unfold hereT at hh; simp at hh; exact hh.1
      obtain ⟨b, x, rfl⟩ := px_rdx_app hr
      refine ⟨b.sub (PX.ins x), ?_, .b (.refl b) (.refl x)⟩
      rw [← px_con]
      show stpT inn (n + 1) ⟨3, 0, [(PX.l b).m, x.m]⟩ = _
      have hh2 : hereT inn (⟨3, 0, [(PX.l b).m, x.m]⟩ : Lm) = true := hh
      rw [stpT, if_pos hh2]
    | false =>
      cases p with
      | v i => exact ⟨.v i, by simp only [PX.m] at hh ⊢; rw [stpT, if_neg (by rw [hh]; simp)]; rfl, .v i⟩
      | c k => exact ⟨.c k, by simp only [PX.m] at hh ⊢; rw [stpT, if_neg (by rw [hh]; simp)]; rfl, .c k⟩
      | l b =>
        obtain ⟨q, h1, h2⟩ := px_stp inn n b
        simp only [PX.m] at hh ⊢
        rw [stpT, if_neg (by rw [hh]; simp), repF]
        by_cases hs : stepM [b.m] = true
        · rw [if_pos hs, h1]; exact ⟨.l q, rfl, .l h2⟩
        · rw [if_neg hs]; exact ⟨.l b, rfl, .refl _⟩
      | a f x =>
        obtain ⟨q, h1, h2⟩ := px_stp inn n f
        obtain ⟨r, h3, h4⟩ := px_stp inn n x
        simp only [PX.m] at hh ⊢
        rw [stpT, if_neg (by rw [hh]; simp), repF]
        by_cases hs : stepM [f.m] = true
        · rw [if_pos hs, h1]; exact ⟨.a q x, rfl, .a h2 (.refl x)⟩
        · rw [if_neg hs, repF]
          by_cases hs2 : stepM [x.m] = true
          · rw [if_pos hs2, h3]; exact ⟨.a f r, rfl, .a (.refl f) h4⟩
          · rw [if_neg hs2]; exact ⟨.a f x, rfl, .refl _⟩
/-- What it becomes at last comes of it, and has no step. -/
theorem px_end (inn : Bool) : ∀ (k : Nat) (p : PX) (r : Lm) (j : Nat), endM inn k p.m = (0, r, j) → ∃ q : PX, r = q.m ∧ PX.Pars p q ∧ q.st = false ∧ (j = 0 ↔ p.st = false)
  | 0, p, r, j, h => by
    rw [endM] at h
    by_cases hs : stepM [p.m] = true
    · rw [if_pos hs] at h; simp at h
    · rw [if_neg hs] at h
      simp only [Prod.mk.injEq, true_and] at h
      have hn : p.st = false := by rw [← px_st]; simpa using hs
      exact ⟨p, h.1.symm, .refl p, hn, fun _ => hn, fun _ => h.2.symm⟩
  | k + 1, p, r, j, h => by
    rw [endM] at h
    by_cases hs : stepM [p.m] = true
    · rw [if_pos hs] at h
      by_cases hz : 2000 < sizeM [stpT inn 2001 p.m]
      · rw [if_pos hz] at h; simp at h
      · rw [if_neg hz] at h
        obtain ⟨q, h1, h2⟩ := px_stp inn 2001 p
        rw [h1] at h
        generalize hg : endM inn k q.m = g at h
        obtain ⟨g1, g2, g3⟩ := g
        simp only [Prod.mk.injEq] at h
        obtain ⟨rfl, rfl, rfl⟩ := h
        obtain ⟨q', h3, h4, h5, _⟩ := px_end inn k q _ _ hg
        have hn : p.st = true := by rw [← px_st]; exact hs
        exact ⟨q', h3, (PX.Pars.one h2).trans h4, h5, fun h => by omega, fun h => by rw [hn] at h; cases h⟩
    · rw [if_neg hs] at h
      simp only [Prod.mk.injEq, true_and] at h
      have hn : p.st = false := by rw [← px_st]; simpa using hs
      exact ⟨p, h.1.symm, .refl p, hn, fun _ => hn, fun _ => h.2.symm⟩
/-- Each step that is told is one. -/
theorem px_hnd : ∀ (n : Nat) (p : PX) (e : Hnd), e ∈ hndT n p.m → ∃ q : PX, e.2.2 = q.m ∧ PX.Par p q
  | 0, p, e, h => by simp [hndT] at h
  | n + 1, p, e, h => by
    have key : ∀ (k x : Int) (l : List Lm), p.m = ⟨k, x, l⟩ → e ∈ hndH ⟨k, x, l⟩ ∨ ∃ (q : Nat) (hq : q < l.length) (e' : Hnd), e' ∈ hndT n l[q] ∧ e.2.2 = ⟨k, x, l.set q e'.2.2⟩ := by
      intro k x l hp
      rw [hp, hndT] at h
      rcases List.mem_append.1 h with h | h
      · exact Or.inl h
      · obtain ⟨q, hq, e', h1, h2⟩ := hndR_mem h
        exact Or.inr ⟨q, hq, e', h1, by rw [h2]; rfl⟩
    cases p with
    | v i =>
      rcases key 1 i [] rfl with h1 | ⟨q, hq, _⟩
      · simp [hndH, rdxT] at h1
      · simp at hq
    | c k =>
      rcases key 4 k [] rfl with h1 | ⟨q, hq, _⟩
      · simp [hndH, rdxT] at h1
      · simp at hq
    | l b =>
      rcases key 2 0 [b.m] rfl with h1 | ⟨q, hq, e', h1, h2⟩
      · simp [hndH, rdxT] at h1
      · have hq0 : q = 0 := by simp at hq; exact hq
        subst hq0
        obtain ⟨r, h3, h4⟩ := px_hnd n b e' h1
        exact ⟨.l r, by rw [h2, h3]; rfl, .l h4⟩
    | a f x =>
      rcases key 3 0 [f.m, x.m] rfl with h1 | ⟨q, hq, e', h1, h2⟩
      · unfold hndH at h1
        by_cases hr : rdxT (⟨3, 0, [f.m, x.m]⟩ : Lm) = true
        · rw [if_pos hr] at h1
          obtain ⟨b, rfl⟩ := px_rdx (f := f) (x := x) hr
          simp only [List.mem_singleton] at h1
          have e2 : e.2.2 = conT [(PX.l b).m, x.m] := by rw [h1]; unfold hndC; split <;> rfl
          exact ⟨b.sub (PX.ins x), by rw [e2, px_con], .b (.refl b) (.refl x)⟩
        · rw [if_neg hr] at h1; simp at h1
      · have hq2 : q = 0 ∨ q = 1 := by simp at hq; omega
        rcases hq2 with rfl | rfl
        · obtain ⟨r, h3, h4⟩ := px_hnd n f e' h1
          exact ⟨.a r x, by rw [h2, h3]; rfl, .a h4 (.refl x)⟩
        · obtain ⟨r, h3, h4⟩ := px_hnd n x e' h1
          exact ⟨.a f r, by rw [h2, h3]; rfl, .a (.refl f) h4⟩
/-- The development is all steps at once. -/
theorem px_dev : ∀ (n : Nat) (p : PX) (r : Lm), devT n p.m = some r → r = p.dev.m
  | 0, p, r, h => by simp [devT] at h
  | n + 1, p, r, h => by
    have key : ∀ (k x : Int) (l : List Lm), p.m = ⟨k, x, l⟩ → ∃ l', devL (devT n) l = some l' ∧ r = devK k x l l' := by
      intro k x l hp
      rw [hp, devT] at h
      cases hd : devL (devT n) l with
      | none => rw [hd] at h; simp at h
      | some l' =>
        rw [hd] at h
        simp only at h
        split at h
        · cases h
        · exact ⟨l', rfl, (Option.some.inj h).symm⟩
    cases p with
    | v i =>
      obtain ⟨l', h1, h2⟩ := key 1 i [] rfl
      simp [devL] at h1
      subst h1
      rw [h2]
      simp [devK, rdxT, PX.dev, PX.m]
    | c k =>
      obtain ⟨l', h1, h2⟩ := key 4 k [] rfl
      simp [devL] at h1
      subst h1
      rw [h2]
      simp [devK, rdxT, PX.dev, PX.m]
    | l b =>
      obtain ⟨l', h1, h2⟩ := key 2 0 [b.m] rfl
      rw [devL_cons] at h1
      cases hb : devT n b.m with
      | none => rw [hb] at h1; simp at h1
      | some z =>
        rw [hb] at h1
        simp [devL] at h1
        subst h1
        rw [h2, px_dev n b z hb]
        simp [devK, rdxT, PX.dev, PX.m]
    | a f x =>
      obtain ⟨l', h1, h2⟩ := key 3 0 [f.m, x.m] rfl
      rw [devL_cons] at h1
      cases hb : devT n f.m with
      | none => rw [hb] at h1; simp at h1
      | some z =>
        rw [hb] at h1
        simp only [devL_cons] at h1
        cases hx : devT n x.m with
        | none => rw [hx] at h1; simp at h1
        | some y =>
          rw [hx] at h1
          simp [devL] at h1
          subst h1
          have ez := px_dev n f z hb
          have ey := px_dev n x y hx
          rw [h2, ez, ey]
          unfold devK
          by_cases hr : rdxT (⟨3, 0, [f.m, x.m]⟩ : Lm) = true
          · obtain ⟨b, rfl⟩ := px_rdx (f := f) (x := x) hr
            rw [if_pos hr]
            simp only [PX.dev]
            exact px_con b.dev x.dev
          · rw [if_neg hr]
            cases f with
            | v i => rfl
            | c k => rfl
            | a g y => rfl
            | l b => exact absurd (by simp [rdxT, PX.m]) hr
end Go.Proofs.YtagidfoiemgfcaaGreatDoor

/- Plain: lambda terms that may be, as those whose ways come together again. -/
import Derived.Test.YtclobmmdlhianaaGreatDoorCr1
import Derived.Test.YtclobmmdlhianaaGreatDoorZDTopSubstitutionOwn
import Derived.Test.YtclobmmdlhianaaGreatDoorZETopSubstitutionOwn
import Derived.Test.YtclobmmdlhianaaGreatDoorDv1
namespace Go.Proofs.YtclobmmdlhianaaGreatDoor
open Go.RowKit
set_option linter.unusedSimpArgs false
set_option linter.unusedVariables false
set_option maxRecDepth 8000

/-- The lambda term that it is. -/
def PX.m : PX → Lm
  | .v i => ⟨1, (i : Int), []⟩
  | .c k => ⟨4, k, []⟩
  | .l b => ⟨2, 0, [b.m]⟩
  | .a f x => ⟨3, 0, [f.m, x.m]⟩
theorem px_of (t : Lm) : ∀ u, errM u 0 [t] = 0 → ∃ p : PX, p.m = t := by
  induction t using Lm.ind with
  | h k x l ih =>
    intro u he
    rcases may_look he with ⟨y, e, h0, h1⟩ | ⟨b, e, hb⟩ | ⟨f, a, e, hf, ha⟩ | ⟨y, e, h0, h1⟩
    · cases e
      exact ⟨.v x.toNat, by simp only [PX.m]; congr 1; omega⟩
    · cases e
      obtain ⟨p, hp⟩ := ih b (by simp) _ hb
      exact ⟨.l p, by simp only [PX.m, hp]⟩
    · cases e
      obtain ⟨p, hp⟩ := ih f (by simp) _ hf
      obtain ⟨q, hq⟩ := ih a (by simp) _ ha
      exact ⟨.a p q, by simp only [PX.m, hp, hq]⟩
    · cases e
      exact ⟨.c x, rfl⟩
theorem hgT_v (y d x : Int) : higT y d ⟨1, x, []⟩ = if x < d then ⟨1, x, []⟩ else ⟨1, x + y, []⟩ := by
  unfold higT
  by_cases h : x < d <;> simp [h]
theorem hgT_o (y d k x : Int) (l : List Lm) (hk : k ≠ 1) : higT y d ⟨k, x, l⟩ = ⟨k, x, l.map (higT y (deepK d k))⟩ := by
  rw [← higM_map]
  unfold higT
  simp [hk]
theorem isT_v (z : Lm) (d x : Int) : insT z d ⟨1, x, []⟩ = if x < d then ⟨1, x, []⟩ else if x = d then higT d 0 z else ⟨1, x - 1, []⟩ := by
  unfold insT
  by_cases h : x < d <;> simp [h]
theorem isT_o (z : Lm) (d k x : Int) (l : List Lm) (hk : k ≠ 1) : insT z d ⟨k, x, l⟩ = ⟨k, x, l.map (insT z (deepK d k))⟩ := by
  rw [← insM_map]
  unfold insT
  simp [hk]
/-- Moved on by so many, from so many binders on. -/
def PX.mv (y d : Nat) (i : Nat) : Nat := if i < d then i else i + y
theorem PX.mv_up (y d : Nat) : upr (mv y d) = mv y (d + 1) := by
  funext i
  cases i with
  | zero => simp [PX.upr, PX.mv]
  | succ i =>
    simp only [PX.upr, PX.mv]
    by_cases h : i < d
    · rw [if_pos h, if_pos (by omega)]
    · rw [if_neg h, if_neg (by omega)]; omega
theorem px_hig (y : Nat) : ∀ (p : PX) (d : Nat), higT (y : Int) (d : Int) p.m = (p.ren (PX.mv y d)).m
  | .v i, d => by
    simp only [PX.m, PX.ren, PX.mv]
    rw [hgT_v]
    by_cases h : i < d
    · rw [if_pos (by omega), if_pos h]
    · rw [if_neg (by omega), if_neg h]; simp
  | .c k, d => by simp only [PX.m, PX.ren]; rw [hgT_o _ _ _ _ _ (by decide)]; rfl
  | .l b, d => by
    have h1 := px_hig y b (d + 1)
    simp only [PX.m, PX.ren]
    have e : deepK (d : Int) 2 = ((d + 1 : Nat) : Int) := by simp [deepK]
    rw [hgT_o _ _ _ _ _ (by decide), e, PX.mv_up, ← h1]
    rfl
  | .a f x, d => by
    have h1 := px_hig y f d
    have h2 := px_hig y x d
    simp only [PX.m, PX.ren]
    have e : deepK (d : Int) 3 = (d : Int) := by simp [deepK]
    rw [hgT_o _ _ _ _ _ (by decide), e, ← h1, ← h2]
    rfl
/-- A term for what is bound so many binders around. -/
def PX.inAt (z : PX) (d : Nat) (i : Nat) : PX := if i < d then .v i else if i = d then z.ren (· + d) else .v (i - 1)
theorem PX.inAt_up (z : PX) (d : Nat) : up (inAt z d) = inAt z (d + 1) := by
  funext i
  cases i with
  | zero => simp [PX.up, PX.inAt]
  | succ i =>
    simp only [PX.up, PX.inAt]
    by_cases h : i < d
    · rw [if_pos h, if_pos (by omega)]; rfl
    · rw [if_neg h, if_neg (by omega : ¬ i + 1 < d + 1)]
      by_cases h2 : i = d
      · rw [if_pos h2, if_pos (by omega), PX.ren_ren]; rfl
      · rw [if_neg h2, if_neg (by omega)]
        simp only [PX.ren]
        congr 1
        omega
theorem PX.inAt_zero (z : PX) : inAt z 0 = ins z := by
  funext i
  cases i with
  | zero =>
    simp only [PX.inAt, PX.ins]
    rw [if_neg (by omega), if_pos trivial]
    rw [PX.ren_is]
    exact PX.sub_v z
  | succ i => simp [PX.inAt, PX.ins]
theorem px_insAt (z : PX) : ∀ (p : PX) (d : Nat), insT z.m (d : Int) p.m = (p.sub (PX.inAt z d)).m
  | .v i, d => by
    simp only [PX.m, PX.sub, PX.inAt]
    rw [isT_v]
    by_cases h : i < d
    · rw [if_pos (by omega), if_pos h]; rfl
    · rw [if_neg (by omega), if_neg h]
      by_cases h2 : i = d
      · rw [if_pos (by omega), if_pos h2]
        have := px_hig d z 0
        rw [show ((0 : Nat) : Int) = 0 from rfl] at this
        rw [this]
        congr 1
      · rw [if_neg (by omega), if_neg h2]
        simp only [PX.m]
        congr 1
        omega
  | .c k, d => by simp only [PX.m, PX.sub]; rw [isT_o _ _ _ _ _ (by decide)]; rfl
  | .l b, d => by
    have h1 := px_insAt z b (d + 1)
    simp only [PX.m, PX.sub]
    have e : deepK (d : Int) 2 = ((d + 1 : Nat) : Int) := by simp [deepK]
    rw [isT_o _ _ _ _ _ (by decide), e, PX.inAt_up, ← h1]
    rfl
  | .a f x, d => by
    have h1 := px_insAt z f d
    have h2 := px_insAt z x d
    simp only [PX.m, PX.sub]
    have e : deepK (d : Int) 3 = (d : Int) := by simp [deepK]
    rw [isT_o _ _ _ _ _ (by decide), e, ← h1, ← h2]
    rfl
theorem px_ins (z p : PX) : insT z.m 0 p.m = (p.sub (PX.ins z)).m := by
  have := px_insAt z p 0
  rw [PX.inAt_zero] at this
  exact this

end Go.Proofs.YtclobmmdlhianaaGreatDoor

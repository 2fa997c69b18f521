/- Plain: two substitutions come together as the substitution lemma says (BARENDREGT). -/
import Derived.Test.YtclobmmdlhianaaGreatDoorCr2
import Derived.Test.YtclobmmdlhianaaGreatDoorL5b
namespace Go.Proofs.YtclobmmdlhianaaGreatDoor
open Go.RowKit
set_option linter.unusedSimpArgs false
set_option linter.unusedVariables false
set_option maxRecDepth 8000

theorem isL_v (zs : List Lm) (d x : Int) : insLT zs d ⟨1, x, []⟩ = if x < d then ⟨1, x, []⟩ else if x - d < zs.length then higT d 0 (zs[(x - d).toNat]?.getD ⟨0, 0, []⟩) else ⟨1, x - zs.length, []⟩ := by
  unfold insLT
  by_cases h : x < d <;> simp [h]
theorem isL_o (zs : List Lm) (d k x : Int) (l : List Lm) (hk : k ≠ 1) : insLT zs d ⟨k, x, l⟩ = ⟨k, x, l.map (insLT zs (deepK d k))⟩ := by
  rw [← insLM_map]
  unfold insLT
  simp [hk]
/-- The two nearest the other way round, under so many binders. -/
def PX.swAt (d : Nat) (i : Nat) : PX := if i = d then .v (d + 1) else if i = d + 1 then .v d else .v i
theorem PX.swAt_up (d : Nat) : up (swAt d) = swAt (d + 1) := by
  funext i
  cases i with
  | zero => simp [PX.up, PX.swAt]
  | succ i =>
    simp only [PX.up, PX.swAt]
    by_cases h : i = d
    · rw [if_pos h, if_pos (by omega)]; rfl
    · rw [if_neg h, if_neg (by omega : ¬ i + 1 = d + 1)]
      by_cases h2 : i = d + 1
      · rw [if_pos h2, if_pos (by omega)]; rfl
      · rw [if_neg h2, if_neg (by omega)]; rfl
/-- What is moved on by two and then gets both turned. -/
theorem px_swap : ∀ (p : PX) (d : Nat), insLT [⟨1, 1, []⟩, ⟨1, 0, []⟩] (d : Int) (p.ren (PX.mv 2 (d + 2))).m = (p.sub (PX.swAt d)).m
  | .v i, d => by
    have hl : (([⟨1, 1, []⟩, ⟨1, 0, []⟩] : List Lm).length : Int) = 2 := rfl
    simp only [PX.m, PX.ren, PX.sub]
    by_cases h : i < d
    · have em : PX.mv 2 (d + 2) i = i := by unfold PX.mv; rw [if_pos (by omega)]
      have es : PX.swAt d i = .v i := by unfold PX.swAt; rw [if_neg (by omega), if_neg (by omega)]
      rw [em, es, isL_v, if_pos (by omega)]; rfl
    · by_cases h2 : i = d
      · subst h2
        have em : PX.mv 2 (i + 2) i = i := by unfold PX.mv; rw [if_pos (by omega)]
        have es : PX.swAt i i = .v (i + 1) := by unfold PX.swAt; rw [if_pos rfl]
        have e : ((i : Int) - i).toNat = 0 := by omega
        rw [em, es, isL_v, hl, if_neg (by omega), if_pos (by omega), e]
        simp only [List.getElem?_cons_zero, Option.getD_some]
        rw [hgT_v, if_neg (by omega)]
        simp only [PX.m]
        congr 1
        omega
      · by_cases h3 : i = d + 1
        · subst h3
          have em : PX.mv 2 (d + 2) (d + 1) = d + 1 := by unfold PX.mv; rw [if_pos (by omega)]
          have es : PX.swAt d (d + 1) = .v d := by unfold PX.swAt; rw [if_neg (by omega), if_pos rfl]
          have e : (((d + 1 : Nat) : Int) - d).toNat = 1 := by omega
          rw [em, es, isL_v, hl, if_neg (by omega), if_pos (by omega), e]
          simp only [List.getElem?_cons_succ, List.getElem?_cons_zero, Option.getD_some]
          rw [hgT_v, if_neg (by omega)]
          simp only [PX.m]
          congr 1
          omega
        · have em : PX.mv 2 (d + 2) i = i + 2 := by unfold PX.mv; rw [if_neg (by omega)]
          have es : PX.swAt d i = .v i := by unfold PX.swAt; rw [if_neg h2, if_neg h3]
          rw [em, es, isL_v, hl, if_neg (by omega), if_neg (by omega)]
          simp only [PX.m]
          congr 1
          omega
  | .c k, d => by simp only [PX.m, PX.ren, PX.sub]; rw [isL_o _ _ _ _ _ (by decide)]; rfl
  | .l b, d => by
    have h1 := px_swap b (d + 1)
    simp only [PX.m, PX.ren, PX.sub]
    have e : deepK (d : Int) 2 = ((d + 1 : Nat) : Int) := by simp [deepK]
    rw [isL_o _ _ _ _ _ (by decide), e, PX.mv_up, PX.swAt_up, ← h1]
    rfl
  | .a f x, d => by
    have h1 := px_swap f d
    have h2 := px_swap x d
    simp only [PX.m, PX.ren, PX.sub]
    have e : deepK (d : Int) 3 = (d : Int) := by simp [deepK]
    rw [isL_o _ _ _ _ _ (by decide), e, ← h1, ← h2]
    rfl
/-- What the law calls swapped. -/
def swpT (t : Lm) : Lm := insLT [⟨1, 1, []⟩, ⟨1, 0, []⟩] 0 (higT 2 2 t)
theorem px_swp (p : PX) : swpT p.m = (p.sub (PX.swAt 0)).m := by
  unfold swpT
  have h1 := px_hig 2 p 2
  have h2 := px_swap p 0
  rw [show ((2 : Nat) : Int) = 2 from rfl] at h1
  rw [show ((0 : Nat) : Int) = 0 from rfl] at h2
  rw [h1]
  exact h2
/-- BARENDREGT. -/
theorem PX.lemma (p q r : PX) : (p.sub (ins q)).sub (ins r) = ((p.sub (swAt 0)).sub (ins (r.ren (· + 1)))).sub (ins (q.sub (ins r))) := by
  rw [PX.sub_sub, PX.sub_sub, PX.sub_sub]
  congr 1
  funext i
  match i with
  | 0 =>
    have e : swAt 0 0 = .v 1 := rfl
    rw [e]
    rfl
  | 1 =>
    have e : swAt 0 1 = .v 0 := rfl
    rw [e]
    show r = (r.ren (· + 1)).sub (ins (q.sub (ins r)))
    rw [PX.sub_ren]
    exact (PX.sub_v r).symm
  | i + 2 =>
    have e : swAt 0 (i + 2) = .v (i + 2) := by unfold PX.swAt; rw [if_neg (by omega), if_neg (by omega)]
    rw [e]
    rfl
theorem ts_lemma {u1 u2 u3 : Int} {m x y : Lm} (hm : errM u1 0 [m] = 0) (hx : errM u2 0 [x] = 0) (hy : errM u3 0 [y] = 0) : insT y 0 (insT x 0 m) = insT (insT y 0 x) 0 (insT (higT 1 0 y) 0 (swpT m)) := by
  obtain ⟨p, rfl⟩ := px_of m _ hm
  obtain ⟨q, rfl⟩ := px_of x _ hx
  obtain ⟨r, rfl⟩ := px_of y _ hy
  have h1 := px_hig 1 r 0
  rw [show ((1 : Nat) : Int) = 1 from rfl, show ((0 : Nat) : Int) = 0 from rfl] at h1
  have e : r.ren (PX.mv 1 0) = r.ren (· + 1) := by
    congr 1
  rw [h1, px_swp, px_ins, px_ins, px_ins, px_ins, px_ins, e, PX.lemma]
end Go.Proofs.YtclobmmdlhianaaGreatDoor

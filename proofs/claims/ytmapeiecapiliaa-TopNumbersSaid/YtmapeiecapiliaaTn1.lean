/- Plain: lambda terms that are worked out by counting: sums, products and powers of numerals. -/
import Derived.Test.YtmapeiecapiliaaLn16
namespace Go.Proofs.Ytmapeiecapiliaa
open Go.RowKit
set_option linter.unusedSimpArgs false
set_option linter.unusedVariables false
set_option maxRecDepth 8000

inductive LX where
  | v (i : Nat)
  | l (b : LX)
  | a (f x : LX)
def LX.sz : LX → Nat
  | .v _ => 1
  | .l b => 1 + b.sz
  | .a f x => 1 + (f.sz + x.sz)
def LX.hig (y : Nat) : Nat → LX → LX
  | c, .v i => if i < c then .v i else .v (i + y)
  | c, .l b => .l (b.hig y (c + 1))
  | c, .a f x => .a (f.hig y c) (x.hig y c)
def LX.ins : LX → LX → Nat → LX
  | .v i, z, d => if i < d then .v i else if i = d then z.hig d 0 else .v (i - 1)
  | .l b, z, d => .l (b.ins z (d + 1))
  | .a f x, z, d => .a (f.ins z d) (x.ins z d)
def LX.isl : LX → Bool
  | .l _ => true
  | _ => false
def LX.st : LX → Bool
  | .v _ => false
  | .l b => b.st
  | .a f x => f.isl || f.st || x.st
def LX.bod : LX → LX
  | .l b => b
  | t => t
def LX.stp : LX → LX
  | .v i => .v i
  | .l b => .l b.stp
  | .a f x => if f.isl then f.bod.ins x 0 else if f.st then .a f.stp x else .a f x.stp
def LX.fin : Nat → LX → Nat × LX
  | 0, t => if t.st then (9, t) else (0, t)
  | k + 1, t => if t.st then (if 2000 < t.stp.sz then (8, t) else LX.fin k t.stp) else (0, t)
def LX.one : LX → Bool
  | .v i => i == 1
  | _ => false
def LX.spn : LX → Nat × LX
  | .a f x => if f.one then (x.spn.1 + 1, x.spn.2) else (0, .a f x)
  | t => (0, t)
def LX.it : Nat → LX
  | 0 => .v 0
  | n + 1 => .a (.v 1) (LX.it n)
def LX.zer : LX → Bool
  | .v i => i == 0
  | _ => false
def LX.val : LX → Option Nat
  | .l (.l b) => if b.spn.2.zer then some b.spn.1 else none
  | .l b => if b.zer then some 1 else none
  | _ => none
def numX (n : Nat) : LX := .l (.l (.it n))
def plusX (m n : Nat) : LX := .l (.l (.a (.a ((numX m).hig 2 0) (.v 1)) (.a (.a ((numX n).hig 2 0) (.v 1)) (.v 0))))
def timesX (m n : Nat) : LX := .l (.a ((numX m).hig 1 0) (.a ((numX n).hig 1 0) (.v 0)))
def powerX (m n : Nat) : LX := .a (numX n) (numX m)
def resX (t : LX) : Nat × Option Nat := ((t.fin 400).1, (t.fin 400).2.val)
theorem t1X : ∀ m, m < 5 → ∀ n, n < 4 → resX (plusX m n) = (0, some (m + n)) := by decide +kernel
theorem t2X : ∀ m, m < 5 → ∀ n, n < 4 → resX (timesX m n) = (0, some (m * n)) := by decide +kernel
theorem t3X : ∀ m, m < 5 → ∀ n, n < 4 → ((resX (powerX m n)).1 = 9 ∨ resX (powerX m n) = (0, some (m ^ n))) := by decide +kernel
/-- Nothing is bound from outside. -/
def LX.ok : LX → Nat → Bool
  | .v i, u => decide (i < u)
  | .l b, u => b.ok (u + 1)
  | .a f x, u => f.ok u && x.ok u
theorem t4X : ∀ m, m < 5 → ∀ n, n < 4 → ((plusX m n).ok 0 = true ∧ (timesX m n).ok 0 = true ∧ (powerX m n).ok 0 = true) ∧ ((plusX m n).sz ≤ 200 ∧ (timesX m n).sz ≤ 200 ∧ (powerX m n).sz ≤ 200) := by decide +kernel
theorem t5X : ∀ m, m < 5 → (numX m).ok 0 = true ∧ (numX m).sz ≤ 200 := by decide +kernel
/-- The lambda term that it is. -/
def LX.m : LX → Lm
  | .v i => ⟨1, (i : Int), []⟩
  | .l b => ⟨2, 0, [b.m]⟩
  | .a f x => ⟨3, 0, [f.m, x.m]⟩
theorem szM_two (f x : Lm) : sizeM [f, x] = sizeM [f] + sizeM [x] := sizeM_append [f] [x]
theorem m_sz : ∀ t : LX, sizeM [t.m] = t.sz
  | .v i => by simp [LX.m, sizeM, LX.sz]
  | .l b => by rw [LX.m, sizeM_one, m_sz b]; rfl
  | .a f x => by rw [LX.m, sizeM_one, szM_two, m_sz f, m_sz x]; rfl
theorem m_ok : ∀ (t : LX) (u : Nat), t.ok u = true → errM (u : Int) 0 [t.m] = 0
  | .v i, u, h => by
    have h1 : i < u := by simpa [LX.ok] using h
    exact err_one0.2 ⟨knE_zero.2 ⟨by omega, rfl, by omega, by show (i : Int) < mostK _ _ 1; simp [mostK]; omega⟩, by simp [errM]⟩
  | .l b, u, h => by
    have h1 := m_ok b (u + 1) h
    refine err_one0.2 ⟨knE_zero.2 ⟨by omega, rfl, by omega, by simp [mostK]⟩, ?_⟩
    have e : deepK (u : Int) 2 = ((u + 1 : Nat) : Int) := by simp [deepK]
    rw [e]; exact h1
  | .a f x, u, h => by
    have h2 : f.ok u = true ∧ x.ok u = true := by simpa [LX.ok] using h
    refine err_one0.2 ⟨knE_zero.2 ⟨by omega, rfl, by omega, by simp [mostK]⟩, ?_⟩
    have e : deepK (u : Int) 3 = (u : Int) := by simp [deepK]
    rw [e]
    exact err_two0.2 ⟨m_ok f u h2.1, m_ok x u h2.2⟩
theorem higT_one (y d x : Int) : higT y d ⟨1, x, []⟩ = if x < d then ⟨1, x, []⟩ else ⟨1, x + y, []⟩ := by
  unfold higT
  by_cases h : x < d <;> simp [h]
theorem higT_two (y d x : Int) (l : List Lm) : higT y d ⟨2, x, l⟩ = ⟨2, x, l.map (higT y (d + 1))⟩ := by
  rw [← higM_map]
  unfold higT
  simp [deepK]
theorem higT_three (y d x : Int) (l : List Lm) : higT y d ⟨3, x, l⟩ = ⟨3, x, l.map (higT y d)⟩ := by
  rw [← higM_map]
  unfold higT
  simp [deepK]
theorem insT_one (z : Lm) (d x : Int) : insT z d ⟨1, x, []⟩ = if x < d then ⟨1, x, []⟩ else if x = d then higT d 0 z else ⟨1, x - 1, []⟩ := by
  unfold insT
  by_cases h : x < d <;> simp [h]
theorem insT_two (z : Lm) (d x : Int) (l : List Lm) : insT z d ⟨2, x, l⟩ = ⟨2, x, l.map (insT z (d + 1))⟩ := by
  rw [← insM_map]
  unfold insT
  simp [deepK]
theorem insT_three (z : Lm) (d x : Int) (l : List Lm) : insT z d ⟨3, x, l⟩ = ⟨3, x, l.map (insT z d)⟩ := by
  rw [← insM_map]
  unfold insT
  simp [deepK]
theorem m_hig (y : Nat) : ∀ (t : LX) (c : Nat), higT (y : Int) (c : Int) t.m = (t.hig y c).m
  | .v i, c => by
    rw [LX.m, higT_one, LX.hig]
    by_cases h : i < c
    · have h' : (i : Int) < (c : Int) := by omega
      rw [if_pos h', if_pos h]; rfl
    · have h' : ¬ (i : Int) < (c : Int) := by omega
      rw [if_neg h', if_neg h]; simp [LX.m]
  | .l b, c => by
    have h1 := m_hig y b (c + 1)
    have e : (((c + 1 : Nat)) : Int) = (c : Int) + 1 := by omega
    rw [e] at h1
    rw [LX.m, higT_two, LX.hig, LX.m, List.map_cons, h1, List.map_nil]
  | .a f x, c => by
    rw [LX.m, higT_three, LX.hig, LX.m, List.map_cons, m_hig y f c, List.map_cons, m_hig y x c, List.map_nil]
theorem m_ins (z : LX) : ∀ (t : LX) (d : Nat), insT z.m (d : Int) t.m = (t.ins z d).m
  | .v i, d => by
    rw [LX.m, insT_one, LX.ins]
    by_cases h : i < d
    · have h' : (i : Int) < (d : Int) := by omega
      rw [if_pos h', if_pos h]; rfl
    · have h' : ¬ (i : Int) < (d : Int) := by omega
      rw [if_neg h', if_neg h]
      by_cases h2 : i = d
      · have h2' : (i : Int) = (d : Int) := by omega
        rw [if_pos h2', if_pos h2]
        exact m_hig d z 0
      · have h2' : ¬ (i : Int) = (d : Int) := by omega
        rw [if_neg h2', if_neg h2, LX.m]
        have : ((i : Int) - 1) = ((i - 1 : Nat) : Int) := by omega
        rw [this]
  | .l b, d => by
    have h1 := m_ins z b (d + 1)
    have e : (((d + 1 : Nat)) : Int) = (d : Int) + 1 := by omega
    rw [e] at h1
    rw [LX.m, insT_two, LX.ins, LX.m, List.map_cons, h1, List.map_nil]
  | .a f x, d => by
    rw [LX.m, insT_three, LX.ins, LX.m, List.map_cons, m_ins z f d, List.map_cons, m_ins z x d, List.map_nil]
theorem m_isl (t : LX) : decide (t.m.kind = 2) = t.isl := by cases t <;> simp [LX.m, LX.isl]
theorem m_rdx (f x : LX) : rdxT (LX.a f x).m = f.isl := by
  rw [← m_isl]
  simp [rdxT, LX.m]
theorem stM_two (f x : Lm) : stepM [f, x] = (stepM [f] || stepM [x]) := stepM_append [f] [x]
theorem m_st : ∀ t : LX, stepM [t.m] = t.st
  | .v i => by simp [LX.m, stepM, LX.st, rdxT]
  | .l b => by
    rw [LX.m, stepM_one, m_st b]
    simp [rdxT, LX.st]
  | .a f x => by
    have h := m_rdx f x
    rw [LX.m] at h ⊢
    rw [stepM_one, h, stM_two, m_st f, m_st x]
    simp [LX.st, Bool.or_assoc]
theorem m_stp : ∀ (n : Nat) (t : LX), t.sz ≤ n → t.st = true → stpT false n t.m = t.stp.m
  | 0, t, h, _ => by cases t <;> simp [LX.sz] at h
  | n + 1, .v i, _, hs => by simp [LX.st] at hs
  | n + 1, .l b, h, hs => by
    have hb : b.st = true := hs
    have h1 := m_stp n b (by simp [LX.sz] at h; omega) hb
    have e : hereT false (⟨2, 0, [b.m]⟩ : Lm) = false := by simp [hereT, rdxT]
    rw [LX.m, stpT, e, if_neg (by simp)]
    have h2 : stepM [b.m] = true := by rw [m_st]; exact hb
    simp [repF, h2, h1, LX.stp, LX.m]
  | n + 1, .a f x, h, hs => by
    have hz : f.sz + x.sz ≤ n := by simp [LX.sz] at h; omega
    have hr := m_rdx f x
    rw [LX.m] at hr
    have e : hereT false (⟨3, 0, [f.m, x.m]⟩ : Lm) = f.isl := by rw [hereT, hr]; simp
    rw [LX.m, stpT, e]
    cases hi : f.isl with
    | true =>
      cases f with
      | v i => simp [LX.isl] at hi
      | a g y => simp [LX.isl] at hi
      | l b =>
        rw [if_pos rfl]
        have := m_ins x b 0
        simp only [LX.m, conT, LX.stp, hi, if_true, LX.bod]
        simpa using this
    | false =>
      rw [if_neg (by simp)]
      have hs2 : f.st = true ∨ x.st = true := by simpa [LX.st, hi] using hs
      cases hf : f.st with
      | true =>
        have h1 := m_stp n f (by omega) hf
        have h2 : stepM [f.m] = true := by rw [m_st]; exact hf
        simp [repF, h2, h1, LX.stp, LX.m, hi, hf]
      | false =>
        have hx : x.st = true := by rcases hs2 with h | h; (rw [hf] at h; cases h); exact h
        have h1 := m_stp n x (by omega) hx
        have h2 : stepM [f.m] = false := by rw [m_st]; exact hf
        have h3 : stepM [x.m] = true := by rw [m_st]; exact hx
        simp [repF, h2, h3, h1, LX.stp, LX.m, hi, hf]
theorem m_fin : ∀ (k : Nat) (t : LX), t.sz ≤ 2000 → (endM false k t.m).1 = ((t.fin k).1 : Int) ∧ (endM false k t.m).2.1 = (t.fin k).2.m
  | 0, t, h => by
    rw [endM, m_st, LX.fin]
    cases t.st <;> simp
  | k + 1, t, h => by
    rw [endM, m_st, LX.fin]
    cases hs : t.st with
    | false => simp
    | true =>
      rw [if_pos rfl, if_pos rfl, m_stp 2001 t (by omega) hs, m_sz]
      by_cases h2 : 2000 < t.stp.sz
      · rw [if_pos h2, if_pos h2]; simp
      · rw [if_neg h2, if_neg h2]
        exact m_fin k t.stp (by omega)
theorem m_isB (t : LX) (i : Nat) : isB t.m (i : Int) = match t with | .v j => j == i | _ => false := by
  cases t with
  | v j =>
    simp only [isB, LX.m]
    by_cases h : j = i
    · simp [h]
    · have : ¬ ((j : Int) = (i : Int)) := by omega
      simp [this, h]
  | l b => simp [isB, LX.m]
  | a f x => simp [isB, LX.m]
theorem m_one (t : LX) : isB t.m 1 = t.one := by
  have := m_isB t 1
  cases t <;> simpa [LX.one] using this
theorem m_zer (t : LX) : isB t.m 0 = t.zer := by
  have := m_isB t 0
  cases t <;> simpa [LX.zer] using this
theorem m_spn : ∀ (n : Nat) (t : LX), t.sz ≤ n → spM n t.m = (t.spn.1, t.spn.2.m)
  | 0, t, h => by cases t <;> simp [LX.sz] at h
  | n + 1, .v i, _ => by rw [spM_stop (by simp [goB, LX.m])]; simp [LX.spn]
  | n + 1, .l b, _ => by rw [spM_stop (by simp [goB, LX.m])]; simp [LX.spn]
  | n + 1, .a f x, h => by
    have hg : goB (LX.a f x).m = f.one := by rw [← m_one]; simp [goB, LX.m, hdM]
    cases ho : f.one with
    | true =>
      have h1 := m_spn n x (by simp [LX.sz] at h; omega)
      have nx : nxT (LX.a f x).m = x.m := rfl
      rw [spM, hg, ho, if_pos rfl, nx, h1]
      simp [LX.spn, ho]
    | false =>
      rw [spM_stop (by rw [hg]; exact ho)]
      simp [LX.spn, ho]
theorem m_val (t : LX) : valM t.m = t.val := by
  cases t with
  | v i => simp [valM, LX.m, LX.val]
  | a f x => simp [valM, LX.m, LX.val]
  | l b =>
    have h1 : hdM (LX.l b).m = b.m := rfl
    unfold valM
    rw [h1]
    have h0 : (LX.l b).m.kind = 2 := rfl
    rw [if_pos h0]
    cases b with
    | v i =>
      rw [if_neg (by simp [LX.m]), m_zer]
      rfl
    | a f x =>
      rw [if_neg (by simp [LX.m]), m_zer]
      rfl
    | l c =>
      have h2 : hdM (LX.l c).m = c.m := rfl
      have h3 : (LX.l c).m.kind = 2 := rfl
      rw [if_pos h3, h2, m_sz, m_spn c.sz c (Nat.le_refl _), m_zer]
      rfl
theorem vlR_ok {t : LX} {k : Nat} (hz : t.sz ≤ 2000) (h : resX t = (0, some k)) : vlR t.m 400 = ((k : Int), 0) := by
  obtain ⟨h1, h2⟩ := m_fin 400 t hz
  unfold resX at h
  simp only [Prod.mk.injEq] at h
  unfold vlR
  have e0 : (((t.fin 400).1 : Nat) : Int) = 0 := by rw [h.1]; rfl
  rw [h1, if_pos e0, h2]
  have : valZ (t.fin 400).2.m = (k : Int) := valZ_some (by rw [m_val]; exact h.2)
  rw [this, if_neg (by omega)]
theorem vlR_nine {t : LX} (hz : t.sz ≤ 2000) (h : (resX t).1 = 9) : vlR t.m 400 = (0, 9) := by
  obtain ⟨h1, h2⟩ := m_fin 400 t hz
  unfold resX at h
  simp only at h
  unfold vlR
  have e0 : ¬ (((t.fin 400).1 : Nat) : Int) = 0 := by rw [h]; decide
  rw [h1, if_neg e0, h]
  rfl
theorem itM_it : ∀ n : Nat, itM n = (LX.it n).m
  | 0 => rfl
  | n + 1 => by rw [itM, itM_it n]; rfl
theorem lamE_X {t : LX} (ho : t.ok 0 = true) (hz : t.sz ≤ 200) : lamE 0 0 t.m = 0 := by
  unfold lamE
  rw [if_neg (by omega), m_sz, if_neg (by omega)]
  exact m_ok t 0 ho
#print axioms vlR_ok
#print axioms m_val
end Go.Proofs.Ytmapeiecapiliaa

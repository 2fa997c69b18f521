import Derived.Test.YtdebiiodhkcnkaaGreatK2
namespace Go.Proofs.YtdebiiodhkcnkaaGreat
open Go.RowKit
set_option linter.unusedSimpArgs false
set_option linter.unusedVariables false
def lvL : List Tm → Nat
 | [] => 0
 | ⟨_, a⟩ :: r => (if a.isEmpty = true then 1 else lvL a) + lvL r
def Ar2 (l : List Tm) : Prop := ∀ k ∈ preL l, k.args.length ≤ 2
theorem preL_node (s : ByteArray) (a r : List Tm) : preL (⟨s, a⟩ :: r) = ⟨s, a⟩ :: (preL a ++ preL r) := by simp [preL]
theorem Ar2.parts {s : ByteArray} {a r : List Tm} (h : Ar2 (⟨s, a⟩ :: r)) : a.length ≤ 2 ∧ Ar2 a ∧ Ar2 r := by
 unfold Ar2 at h
 rw [preL_node] at h
 exact ⟨h ⟨s, a⟩ (by simp), fun k hk => h k (by simp [hk]), fun k hk => h k (by simp [hk])⟩
theorem size_node (s : ByteArray) (a r : List Tm) : sizeL (⟨s, a⟩ :: r) = 1 + sizeL a + sizeL r := by simp [sizeL]
theorem lv_size : ∀ l : List Tm, Ar2 l → 2 * lvL l ≤ sizeL l + l.length := by
 intro l
 induction l using Tm.indL with
 | h0 => intro _; simp [lvL]
 | h s a r iha ihr =>
  intro h
  obtain ⟨h1, h2, h3⟩ := h.parts
  have e1 := iha h2
  have e2 := ihr h3
  rw [size_node, lvL, List.length_cons]
  cases a with
  | nil => simp [sizeL]; omega
  | cons x y => simp only [List.isEmpty_cons, Bool.false_eq_true, if_false]; omega
theorem lv_one (s : ByteArray) (a r : List Tm) : lvL (⟨s, a⟩ :: r) = lvL [⟨s, a⟩] + lvL r := by simp [lvL]
theorem lv_sub : ∀ (l : List Tm) (t : Tm), Ar2 l → t ∈ preL l → sizeL [t] + 1 + 2 * lvL l ≤ sizeL l + l.length + 2 * lvL [t] := by
 intro l
 induction l using Tm.indL with
 | h0 => intro t _ h; simp [preL] at h
 | h s a r iha ihr =>
  intro t h ht
  obtain ⟨h1, h2, h3⟩ := h.parts
  have er := lv_size r h3
  have ea := lv_size a h2
  have hn := size_node s a r
  have h1n : sizeL [(⟨s, a⟩ : Tm)] = 1 + sizeL a := by simp [sizeL]
  rw [preL_node] at ht
  rw [lv_one, List.length_cons, hn]
  rcases List.mem_cons.1 ht with rfl | ht
  ·omega
  ·rcases List.mem_append.1 ht with ht | ht
   ·have e := iha t h2 ht
    have ha : a.isEmpty = false := by
     cases a with
     | nil => simp [preL] at ht
     | cons x y => rfl
    have e5 : lvL [(⟨s, a⟩ : Tm)] = lvL a := by simp [lvL, ha]
    omega
   ·have e := ihr t h3 ht
    have e5 : lvL [(⟨s, a⟩ : Tm)] = if a.isEmpty = true then 1 else lvL a := by simp [lvL]
    cases a with
    | nil => simp at e5; simp [sizeL] at h1n hn; omega
    | cons x y => simp only [List.isEmpty_cons, Bool.false_eq_true, if_false] at e5; omega
def cnL (y : ByteArray) : List Tm → Nat
 | [] => 0
 | ⟨s, a⟩ :: r => (if s = y then 1 else 0) + cnL y a + cnL y r
theorem cn_one (y : ByteArray) (x : Tm) (r : List Tm) : cnL y (x :: r) = cnL y [x] + cnL y r := by
 obtain ⟨s, a⟩ := x
 simp [cnL]
open Classical in
noncomputable def cN (N : List ByteArray) : List Tm → Nat
 | [] => 0
 | ⟨s, a⟩ :: r => (if s ∈ N then 1 else 0) + cN N a + cN N r
open Classical in
theorem cN_lv {N : List ByteArray} (hN : ∀ y ∈ N, varB y = true) : ∀ l : List Tm, errL l = 0 → cN N l ≤ lvL l := by
 intro l
 induction l using Tm.indL with
 | h0 => intro _; simp [cN]
 | h s a r iha ihr =>
  intro he
  have hp := errL_parts he
  have e2 := ihr hp.2.2
  have e1 := iha hp.2.1
  rw [cN, lvL]
  by_cases hs : s ∈ N
  ·have ha : a = [] := by
    have h1 := (err_two.1 he).1
    have h2 := var_leaf h1 (hN s hs)
    injection h2
   subst ha
   rw [if_pos hs]
   simp [cN]
   omega
  ·rw [if_neg hs]
   cases a with
   | nil => simp [cN]; omega
   | cons x y => simp only [List.isEmpty_cons, Bool.false_eq_true, if_false]; omega
open Classical in
theorem cN_sub {N : List ByteArray} (hN : ∀ y ∈ N, varB y = true) : ∀ (l : List Tm) (t : Tm), errL l = 0 → t ∈ preL l → cN N [t] = 0 → cN N l + lvL [t] ≤ lvL l := by
 intro l
 induction l using Tm.indL with
 | h0 => intro t _ h; simp [preL] at h
 | h s a r iha ihr =>
  intro t he ht h0
  have hp := errL_parts he
  have er := cN_lv hN r hp.2.2
  have ea := cN_lv hN a hp.2.1
  rw [preL_node] at ht
  rw [lv_one, cN]
  rcases List.mem_cons.1 ht with rfl | ht
  ·have : cN N [(⟨s, a⟩ : Tm)] = (if s ∈ N then 1 else 0) + cN N a := by simp [cN]
   omega
  ·have hs : s ∈ N → a = [] := fun hs => by
    have h1 := (err_two.1 he).1
    have h2 := var_leaf h1 (hN s hs)
    injection h2
   have e5 : lvL [(⟨s, a⟩ : Tm)] = if a.isEmpty = true then 1 else lvL a := by simp [lvL]
   rcases List.mem_append.1 ht with ht | ht
   ·have ha : a.isEmpty = false := by
     cases a with
     | nil => simp [preL] at ht
     | cons x y => rfl
    have hs' : s ∉ N := fun h => by rw [hs h] at ha; simp at ha
    have e := iha t hp.2.1 ht h0
    rw [if_neg hs']
    rw [ha] at e5
    simp only [Bool.false_eq_true, if_false] at e5
    omega
   ·have e := ihr t hp.2.2 ht h0
    by_cases h : s ∈ N
    ·rw [if_pos h]
     have := hs h
     subst this
     simp at e5
     simp [cN]
     omega
    ·rw [if_neg h]
     cases a with
     | nil => simp at e5; simp [cN]; omega
     | cons x y => simp only [List.isEmpty_cons, Bool.false_eq_true, if_false] at e5; omega
def wS (s : List Bd) (l : List Tm) : Nat := (s.map fun d => cnL d.nm l * (sizeL [d.t] - 1)).sum
theorem wS_cons (s : List Bd) (x : Tm) (r : List Tm) : wS s (x :: r) = wS s [x] + wS s r := by
 unfold wS
 induction s with
 | nil => rfl
 | cons d s ih =>
  simp only [List.map_cons, List.sum_cons]
  rw [ih, cn_one, Nat.add_mul]
  omega
theorem wS_leaf {n : ByteArray} : ∀ {s : List Bd}, ApartB s → sizeL [onT s ⟨n, []⟩] = 1 + wS s [⟨n, []⟩]
 | [], _ => by simp [onT_leaf, forT, wS, sizeL]
 | d :: s, h => by
  obtain ⟨h1, h2⟩ := List.pairwise_cons.1 h
  have ih := wS_leaf (n := n) h2
  have hp := sizeL_pos d.t
  rw [onT_leaf] at ih ⊢
  have e : wS (d :: s) [⟨n, []⟩] = cnL d.nm [⟨n, []⟩] * (sizeL [d.t] - 1) + wS s [⟨n, []⟩] := by simp [wS]
  rw [e]
  by_cases hd : d.nm = n
  ·have h0 : wS s [⟨n, []⟩] = 0 := by
    unfold wS
    have : ∀ e ∈ s, cnL e.nm [⟨n, []⟩] * (sizeL [e.t] - 1) = 0 := fun e he => by
     have : n ≠ e.nm := fun h => h1 e he (hd.trans h)
     simp [cnL, this]
    clear ih e h2 h h1
    induction s with
    | nil => rfl
    | cons x s ih2 =>
     simp only [List.map_cons, List.sum_cons]
     rw [this x (by simp), ih2 fun e he => this e (by simp [he])]
   rw [forT, if_pos hd, h0]
   simp [cnL, hd]
   omega
  ·have : n ≠ d.nm := fun h => hd h.symm
   rw [forT, if_neg hd, ih]
   simp [cnL, this]
theorem wS_node {s : List Bd} (hv : ∀ d ∈ s, varB d.nm = true) {n : ByteArray} (hn : varB n = false) (a : List Tm) : wS s [⟨n, a⟩] = wS s a := by
 unfold wS
 congr 1
 refine List.map_congr_left fun d hd => ?_
 have : n ≠ d.nm := fun h => by rw [h, hv d hd] at hn; cases hn
 simp [cnL, this]
theorem size_on {s : List Bd} (ha : ApartB s) (hv : ∀ d ∈ s, varB d.nm = true) : ∀ l : List Tm, errL l = 0 → sizeL (onL s l) = sizeL l + wS s l := by
 intro l
 induction l using Tm.indL with
 | h0 =>
  intro _
  have : wS s [] = 0 := by
   unfold wS
   clear ha hv
   induction s with
   | nil => rfl
   | cons d s ih => simp only [List.map_cons, List.sum_cons]; rw [ih]; simp [cnL]
  simp [onL, sizeL, this]
 | h n a r iha ihr =>
  intro he
  have hp := errL_parts he
  have e1 := iha hp.2.1
  have e2 := ihr hp.2.2
  have e3 := size_cons (onT s ⟨n, a⟩) (onL s r)
  rw [onL_cons, e3, wS_cons, size_node, e2]
  cases hn : varB n with
  | true =>
   have h1 := (err_two.1 he).1
   have h2 := var_leaf h1 hn
   have ha0 : a = [] := by injection h2
   subst ha0
   have := wS_leaf (n := n) ha
   simp [sizeL] at *
   omega
  | false =>
   rw [onT_sym2 hv hn, wS_node hv hn]
   have : sizeL [(⟨n, onL s a⟩ : Tm)] = 1 + sizeL (onL s a) := by simp [sizeL]
   omega
theorem count_end (a b c d : Nat) (h : d + 2 * (a + b + c) ≤ 35) (h17 : d ≤ 17) (h1 : 1 ≤ d) : 17 + a * (16 + b * (16 + c * (d - 1)) + c * (d - 1)) + b * (16 + c * (d - 1)) + c * (d - 1) ≤ 2000 := by
 have key : ∀ a, a < 18 → ∀ b, b < 18 → ∀ c, c < 18 → 2 * (a + b + c) ≤ 34 → 17 + a * (16 + b * (16 + c * (min 17 (35 - 2 * (a + b + c)) - 1)) + c * (min 17 (35 - 2 * (a + b + c)) - 1)) + b * (16 + c * (min 17 (35 - 2 * (a + b + c)) - 1)) + c * (min 17 (35 - 2 * (a + b + c)) - 1) ≤ 2000 := by decide
 have hd : d - 1 ≤ min 17 (35 - 2 * (a + b + c)) - 1 := by omega
 have k := key a (by omega) b (by omega) c (by omega) (by omega)
 have m1 := Nat.mul_le_mul_left c hd
 generalize min 17 (35 - 2 * (a + b + c)) - 1 = e at *
 have m2 : b * (16 + c * (d - 1)) ≤ b * (16 + c * e) := Nat.mul_le_mul_left b (by omega)
 have m3 : a * (16 + b * (16 + c * (d - 1)) + c * (d - 1)) ≤ a * (16 + b * (16 + c * e) + c * e) := Nat.mul_le_mul_left a (by omega)
 omega
end Go.Proofs.YtdebiiodhkcnkaaGreat

import Derived.Test.YtmkendjmfdaedaaGreatTd1
import Derived.Test.YtmkendjmfdaedaaGreatTd2
namespace Go.Proofs.YtmkendjmfdaedaaGreat
open Go.RowKit
set_option linter.unusedSimpArgs false
set_option linter.unusedVariables false
set_option maxRecDepth 8000
abbrev Alg := ByteArray → List (Nat × Nat) → Nat × Nat
def evL (A : Alg) : List Tm → List (Nat × Nat)
 | [] => []
 | ⟨s, l⟩ :: r => A s (evL A l) :: evL A r
def ev (A : Alg) (t : Tm) : Nat × Nat := A t.name (evL A t.args)
theorem evL_map (A : Alg) : ∀ l : List Tm, evL A l = l.map (ev A)
 | [] => by simp [evL]
 | ⟨s, l⟩ :: r => by rw [evL, List.map_cons, evL_map A r]; rfl
theorem ev_mk (A : Alg) (s : ByteArray) (l : List Tm) : ev A ⟨s, l⟩ = A s (l.map (ev A)) := by
 show A s (evL A l) = _
 rw [evL_map]
def Le2 (q' q : Nat × Nat) : Prop := q'.1 = q.1 ∧ q'.2 ≤ q.2
def MonA (A : Alg) : Prop := ∀ s a q q' b, Le2 q' q → Le2 (A s (a ++ q' :: b)) (A s (a ++ q :: b))
theorem putL_no8 (f : Tm → Tm) (i : Int) : ∀ (l : List Tm) (j : Nat), i < (j : Int) → putL f i j l = l
 | [], _, _ => rfl
 | a :: r, j, h => by rw [putL, if_neg (by omega), putL_no8 f i r (j + 1) (by omega)]
theorem putL_split (f : Tm → Tm) : ∀ (l : List Tm) (j k : Nat) (h : k < l.length), putL f ((j + k : Nat) : Int) j l = l.take k ++ f l[k] :: l.drop (k + 1)
 | [], j, k, h => by simp at h
 | a :: r, j, 0, h => by rw [putL, if_pos (by simp), putL_no8 f _ r (j + 1) (by omega)]; simp
 | a :: r, j, k + 1, h => by
  have ih := putL_split f r (j + 1) k (by simpa using h)
  rw [show j + 1 + k = j + (k + 1) by omega] at ih
  rw [putL, if_neg (by omega), ih]
  simp
theorem ev_put {A : Alg} (hA : MonA A) (y : Tm) : ∀ (p : List Int) (t x : Tm), atT t p = some x → Le2 (ev A y) (ev A x) → Le2 (ev A (putT y p t)) (ev A t)
 | [], t, x, h, hl => by
  simp [atT] at h
  subst h
  simpa [putT] using hl
 | i :: r, t, x, h, hl => by
  obtain ⟨k, hk, rfl, h2⟩ := atT_cons h
  have ih := ev_put hA y r _ x h2 hl
  obtain ⟨s, l⟩ := t
  simp only at hk ih
  have e1 : l = l.take k ++ l[k] :: l.drop (k + 1) := by simp
  have e2 : putL (putT y r) (k : Int) 0 l = l.take k ++ putT y r l[k] :: l.drop (k + 1) := by
   have := putL_split (putT y r) l 0 k hk
   simpa using this
  have h3 : putT y ((k : Int) :: r) ⟨s, l⟩ = ⟨s, l.take k ++ putT y r l[k] :: l.drop (k + 1)⟩ := by
   show (⟨s, putL (putT y r) (k : Int) 0 l⟩ : Tm) = _
   rw [e2]
  rw [h3]
  have h4 : ev A ⟨s, l⟩ = A s ((l.take k).map (ev A) ++ ev A l[k] :: (l.drop (k + 1)).map (ev A)) := by
   rw [ev_mk]
   conv => lhs; rw [e1]
   rw [List.map_append, List.map_cons]
  rw [h4, ev_mk, List.map_append, List.map_cons]
  exact hA _ _ _ _ _ ih
theorem stp_ev {A : Alg} {rs : List Pr} {t x : Tm} (hA : MonA A) (hR : ∀ r ∈ rs, ∀ g, VarsB g → Le2 (ev A (onT g r.r)) (ev A (onT g r.l))) (hr : ∀ p ∈ rs, ruleE p = 0) (ht : errL [t] = 0) (hx : x ∈ stAll rs t) :
  errL [x] = 0 ∧ (ev A x).2 ≤ (ev A t).2 := by
 unfold stAll at hx
 obtain ⟨p, hp, h1⟩ := List.mem_flatMap.1 hx
 unfold stAt at h1
 cases ha : atT t p with
 | none => rw [ha] at h1; simp at h1
 | some z =>
  rw [ha] at h1
  simp only at h1
  obtain ⟨r, hrm, h2⟩ := List.mem_filterMap.1 h1
  unfold fitT at h2
  cases hm : mtT r.l z [] with
  | none => rw [hm] at h2; simp at h2
  | some g =>
   rw [hm] at h2
   simp only [Option.map_some, Option.some.injEq] at h2
   subst h2
   obtain ⟨q1, q2, q3, _⟩ := ruleE_parts (hr r hrm)
   have hz0 := (err_putD ht p t z ht ha).2
   obtain ⟨v1, v2⟩ := mtT_sound (err_mayD q1) hm
   have hw : Within g (fun y => errL [y] = 0) := mtT_below (fun y hy c hc => err_argsD hy c hc) q3 hm (fun c hc => err_argsD hz0 c hc)
   have he : errL [onT g r.r] = 0 := by
    have := err_onLD (g := g) (fun d hd => hw d hd) [r.r] (err_mayD q2)
    rw [onL_one] at this; exact this
   have h5 := hR r hrm g v1
   rw [v2] at h5
   exact ⟨(err_putD he p t z ht ha).1, (ev_put hA _ p t z ha h5).2⟩
def kA0 : Alg := fun _ l => (0, 1 + (l.map (·.2)).sum)
def kA3 : Alg := fun s l => if s = ⟨#[107]⟩ ∧ l.length = 1 then ((l.map (·.1)).sum, (l.map (·.2)).sum + (l.map (·.1)).sum) else (max 1 (l.map (·.1)).sum, 1 + (l.map (·.2)).sum)
def kA9 : Alg := fun s l => match l with
 | [x, y] => if s = ⟨#[102]⟩ then (y.1, y.2 + y.1 * (x.2 + 1)) else if s = ⟨#[103]⟩ then (x.1 + y.1, 1 + (x.2 + y.2)) else (1, 1 + (x.2 + y.2))
 | l => (1, 1 + (l.map (·.2)).sum)
theorem mon0 : MonA kA0 := fun s a q q' b h => ⟨rfl, by simp only [kA0, List.map_append, List.map_cons, List.sum_append, List.sum_cons]; have := h.2; omega⟩
theorem mon3 : MonA kA3 := fun s a q q' b h => by
 obtain ⟨h1, h2⟩ := h
 unfold Le2 kA3
 by_cases hc : s = ⟨#[107]⟩ ∧ (a ++ q :: b).length = 1
 ·rw [if_pos hc, if_pos (by simpa using hc)]
  simp only [List.map_append, List.map_cons, List.sum_append, List.sum_cons, h1]
  exact ⟨trivial, by omega⟩
 ·rw [if_neg hc, if_neg (by simpa using hc)]
  simp only [List.map_append, List.map_cons, List.sum_append, List.sum_cons, h1]
  exact ⟨trivial, by omega⟩
theorem kA9_other {s : ByteArray} {l : List (Nat × Nat)} (h : l.length ≠ 2) : kA9 s l = (1, 1 + (l.map (·.2)).sum) := by
 rcases l with _ | ⟨x, _ | ⟨y, _ | ⟨z, l⟩⟩⟩
 ·rfl
 ·rfl
 ·simp at h
 ·rfl
theorem mon9 : MonA kA9 := fun s a q q' b h => by
 obtain ⟨h1, h2⟩ := h
 by_cases hl : (a ++ q :: b).length = 2
 ·have hab : (a = [] ∧ ∃ y, b = [y]) ∨ (∃ x, a = [x] ∧ b = []) := by
   rcases a with _ | ⟨x, _ | ⟨x2, a⟩⟩
   ·rcases b with _ | ⟨y, _ | ⟨y2, b⟩⟩
    ·simp at hl
    ·exact Or.inl ⟨rfl, y, rfl⟩
    ·simp at hl
   ·rcases b with _ | ⟨y, b⟩
    ·exact Or.inr ⟨x, rfl, rfl⟩
    ·simp at hl
   ·simp at hl
  rcases hab with ⟨rfl, y, rfl⟩ | ⟨x, rfl, rfl⟩
  ·simp only [List.nil_append, kA9]
   split
   ·exact ⟨rfl, Nat.add_le_add_left (Nat.mul_le_mul_left _ (by omega)) _⟩
   ·split
    ·exact ⟨by simp [h1], by simp; omega⟩
    ·exact ⟨rfl, by simp; omega⟩
  ·simp only [List.singleton_append, kA9]
   split
   ·refine ⟨h1, ?_⟩
    simp only [h1]
    omega
   ·split
    ·exact ⟨by simp [h1], by simp; omega⟩
    ·exact ⟨rfl, by simp; omega⟩
 ·rw [kA9_other hl, kA9_other (by simpa using hl)]
  refine ⟨rfl, ?_⟩
  simp only [List.map_append, List.map_cons, List.sum_append, List.sum_cons]
  omega
theorem size_mkR (s : ByteArray) (l : List Tm) : sizeL [(⟨s, l⟩ : Tm)] = 1 + sizeL l := by simp [sizeL]
theorem size_conR (t : Tm) (l : List Tm) : sizeL (t :: l) = sizeL [t] + sizeL l := by obtain ⟨s, k⟩ := t; simp [sizeL]
theorem ge_sum {A : Alg} : ∀ l : List Tm, (∀ x ∈ l, sizeL [x] ≤ (ev A x).2) → sizeL l ≤ ((l.map (ev A)).map (·.2)).sum
 | [], _ => by simp [sizeL]
 | t :: l, h => by
  have h1 := ge_sum l fun x hx => h x (by simp [hx])
  have h2 := h t (by simp)
  rw [size_conR, List.map_cons, List.map_cons, List.sum_cons]
  omega
theorem sq_add (a b : Nat) : a * a + b * b ≤ (a + b) * (a + b) := by
 rw [Nat.add_mul, Nat.mul_add, Nat.mul_add]
 omega
theorem le_sum {A : Alg} : ∀ l : List Tm, (∀ x ∈ l, (ev A x).2 ≤ sizeL [x] * sizeL [x]) → ((l.map (ev A)).map (·.2)).sum ≤ sizeL l * sizeL l
 | [], _ => by simp
 | t :: l, h => by
  have h1 := le_sum l fun x hx => h x (by simp [hx])
  have h2 := h t (by simp)
  have h3 := sq_add (sizeL [t]) (sizeL l)
  rw [size_conR, List.map_cons, List.map_cons, List.sum_cons]
  omega
theorem le_sum1 {A : Alg} : ∀ l : List Tm, (∀ x ∈ l, (ev A x).1 ≤ sizeL [x]) → ((l.map (ev A)).map (·.1)).sum ≤ sizeL l
 | [], _ => by simp
 | t :: l, h => by
  have h1 := le_sum1 l fun x hx => h x (by simp [hx])
  have h2 := h t (by simp)
  rw [size_conR, List.map_cons, List.map_cons, List.sum_cons]
  omega
theorem sq_one (a : Nat) : 1 + a * a ≤ (1 + a) * (1 + a) := by have := sq_add 1 a; omega
theorem ev0 (t : Tm) : (ev kA0 t).2 = sizeL [t] := by
 induction t using Tm.ind with
 | h s l ih =>
  rw [ev_mk, size_mkR]
  have : ∀ k : List Tm, (∀ x ∈ k, (ev kA0 x).2 = sizeL [x]) → ((k.map (ev kA0)).map (·.2)).sum = sizeL k := by
   intro k
   induction k with
   | nil => intro _; simp [sizeL]
   | cons a k ihk =>
    intro h
    rw [size_conR, List.map_cons, List.map_cons, List.sum_cons, ihk fun x hx => h x (by simp [hx]), h a (by simp)]
  simp only [kA0]
  rw [this l ih]
theorem mem_size {l : List Tm} {x : Tm} (h : x ∈ l) : sizeL [x] ≤ sizeL l := by
 induction l with
 | nil => simp at h
 | cons a l ih =>
  have h9 := size_conR a l
  rcases List.mem_cons.1 h with e | h
  ·subst e; omega
  ·have := ih h; omega
theorem kA3_k {l : List (Nat × Nat)} {s : ByteArray} (hc : s = ⟨#[107]⟩ ∧ l.length = 1) : kA3 s l = ((l.map (·.1)).sum, (l.map (·.2)).sum + (l.map (·.1)).sum) := by unfold kA3; rw [if_pos hc]
theorem kA3_o {l : List (Nat × Nat)} {s : ByteArray} (hc : ¬ (s = ⟨#[107]⟩ ∧ l.length = 1)) : kA3 s l = (max 1 (l.map (·.1)).sum, 1 + (l.map (·.2)).sum) := by unfold kA3; rw [if_neg hc]
theorem ev3 (t : Tm) : 1 ≤ (ev kA3 t).1 ∧ sizeL [t] ≤ (ev kA3 t).2 ∧ (ev kA3 t).1 ≤ sizeL [t] ∧ (ev kA3 t).2 ≤ sizeL [t] * sizeL [t] := by
 induction t using Tm.ind with
 | h s l ih =>
  have g1 := ge_sum (A := kA3) l fun x hx => (ih x hx).2.1
  have g2 := le_sum (A := kA3) l fun x hx => (ih x hx).2.2.2
  have g3 := le_sum1 (A := kA3) l fun x hx => (ih x hx).2.2.1
  have g4 := sq_one (sizeL l)
  have g5 : (1 + sizeL l) * (1 + sizeL l) = 1 + sizeL l + sizeL l + sizeL l * sizeL l := by rw [Nat.add_mul, Nat.mul_add, Nat.mul_add]; omega
  rw [ev_mk, size_mkR]
  by_cases hc : s = ⟨#[107]⟩ ∧ (l.map (ev kA3)).length = 1
  ·rw [kA3_k hc]
   have h0 : ∃ x, l = [x] := by
    rcases l with _ | ⟨x, _ | ⟨y, l⟩⟩
    ·simp at hc
    ·exact ⟨x, rfl⟩
    ·simp at hc
   obtain ⟨x, rfl⟩ := h0
   obtain ⟨i1, i2, i3, i4⟩ := ih x (by simp)
   simp only [List.map_cons, List.map_nil, List.sum_cons, List.sum_nil] at g1 g2 g3 ⊢
   refine ⟨by omega, by omega, by omega, by omega⟩
  ·rw [kA3_o hc]
   simp only
   refine ⟨by omega, by omega, by omega, by omega⟩
theorem tab9 : ∀ i : Fin 10, ∀ j : Fin 10, i.val + j.val ≤ 9 → j.val * j.val + ((j.val + 1) / 2) * (i.val * i.val + 1) ≤ (1 + (i.val + j.val)) * (1 + (i.val + j.val)) := by decide
theorem ev9 (t : Tm) : 1 ≤ (ev kA9 t).1 ∧ sizeL [t] ≤ (ev kA9 t).2 ∧ (sizeL [t] ≤ 10 → (ev kA9 t).1 ≤ (sizeL [t] + 1) / 2 ∧ (ev kA9 t).2 ≤ sizeL [t] * sizeL [t]) := by
 induction t using Tm.ind with
 | h s l ih =>
  have g1 := ge_sum (A := kA9) l fun x hx => (ih x hx).2.1
  have g2 : sizeL l ≤ 10 → ((l.map (ev kA9)).map (·.2)).sum ≤ sizeL l * sizeL l := fun h => le_sum (A := kA9) l fun x hx => ((ih x hx).2.2 (Nat.le_trans (mem_size hx) h)).2
  have g4 := sq_one (sizeL l)
  rw [ev_mk, size_mkR]
  by_cases hl : (l.map (ev kA9)).length = 2
  ·have h0 : ∃ x y, l = [x, y] := by
    rcases l with _ | ⟨x, _ | ⟨y, _ | ⟨z, l⟩⟩⟩
    ·simp at hl
    ·simp at hl
    ·exact ⟨x, y, rfl⟩
    ·simp at hl
   obtain ⟨x, y, rfl⟩ := h0
   obtain ⟨i1, i2, i3⟩ := ih x (by simp)
   obtain ⟨j1, j2, j3⟩ := ih y (by simp)
   rw [size_conR x [y]] at g1 g2 g4 ⊢
   simp only [List.map_cons, List.map_nil, List.sum_cons, List.sum_nil, Nat.add_zero] at g1 g2 ⊢
   simp only [kA9]
   split
   ·refine ⟨j1, ?_, fun h10 => ?_⟩
    ·have := Nat.le_mul_of_pos_left ((ev kA9 x).2 + 1) j1
     simp only
     omega
    ·obtain ⟨i4, i5⟩ := i3 (by omega)
     obtain ⟨j4, j5⟩ := j3 (by omega)
     refine ⟨by simp only; omega, ?_⟩
     have h1 := Nat.mul_le_mul j4 (Nat.add_le_add_right i5 1)
     have h2 := tab9 ⟨sizeL [x], by omega⟩ ⟨sizeL [y], by omega⟩ (by simp only; omega)
     simp only at h2 ⊢
     omega
   ·split
    ·refine ⟨by simp only; omega, by simp only; omega, fun h10 => ?_⟩
     obtain ⟨i4, i5⟩ := i3 (by omega)
     obtain ⟨j4, j5⟩ := j3 (by omega)
     have := g2 (by omega)
     refine ⟨by simp only; omega, by simp only; omega⟩
    ·refine ⟨by simp only; omega, by simp only; omega, fun h10 => ?_⟩
     have := g2 (by omega)
     refine ⟨by simp only; omega, by simp only; omega⟩
  ·rw [kA9_other hl]
   refine ⟨by simp only; omega, by simp only; omega, fun h10 => ?_⟩
   have := g2 (by omega)
   exact ⟨by simp only; omega, by simp only; omega⟩
def FitA (A : Alg) (rs : List Pr) : Prop := MonA A ∧ (∀ t, sizeL [t] ≤ (ev A t).2) ∧ (∀ t, sizeL [t] ≤ 10 → (ev A t).2 ≤ 200) ∧ ∀ r ∈ rs, ∀ g, VarsB g → Le2 (ev A (onT g r.r)) (ev A (onT g r.l))
theorem sq10 {n : Nat} (h : n ≤ 10) : n * n ≤ 200 := by have := Nat.mul_le_mul h h; omega
theorem fit0 {rs : List Pr} (h : ∀ r ∈ rs, ∀ g, VarsB g → Le2 (ev kA0 (onT g r.r)) (ev kA0 (onT g r.l))) : FitA kA0 rs := ⟨mon0, fun t => by rw [ev0]; exact Nat.le_refl _, fun t ht => by rw [ev0]; omega, h⟩
theorem fit3 {rs : List Pr} (h : ∀ r ∈ rs, ∀ g, VarsB g → Le2 (ev kA3 (onT g r.r)) (ev kA3 (onT g r.l))) : FitA kA3 rs := ⟨mon3, fun t => (ev3 t).2.1, fun t ht => by have := (ev3 t).2.2.2; have := sq10 ht; omega, h⟩
theorem fit9 {rs : List Pr} (h : ∀ r ∈ rs, ∀ g, VarsB g → Le2 (ev kA9 (onT g r.r)) (ev kA9 (onT g r.l))) : FitA kA9 rs := ⟨mon9, fun t => (ev9 t).2.1, fun t ht => by have := ((ev9 t).2.2 ht).2; have := sq10 ht; omega, h⟩
theorem nmE : ((⟨#[102]⟩ : ByteArray) = ⟨#[107]⟩) = False ∧ ((⟨#[97]⟩ : ByteArray) = ⟨#[107]⟩) = False ∧ ((⟨#[103]⟩ : ByteArray) = ⟨#[102]⟩) = False := by decide
theorem ten_fit : ∀ rs ∈ rulesTen, ∃ A, FitA A rs := by
 simp only [rulesTen, List.mem_cons, List.not_mem_nil, or_false]
 rintro rs (rfl | rfl | rfl | rfl | rfl | rfl | rfl | rfl | rfl | rfl)
 case inr.inr.inr.inl =>
  refine ⟨_, fit3 ?_⟩
  simp only [List.mem_cons, List.not_mem_nil, or_false]
  rintro r (rfl | rfl | rfl) g hg <;> simp only [on_sym hg, nmD_a.2, nmD_b.2, nmD_c.2, nmD_f.2, nmD_g.2, nmD_h.2, nmD_k.2, List.map_cons, List.map_nil, ev_mk]
  ·generalize ev kA3 (onT g ⟨⟨#[88]⟩, []⟩) = q
   simp only [kA3, nmE, List.length_cons, List.length_nil, List.map_cons, List.map_nil, List.sum_cons, List.sum_nil, Le2]
   simp
   omega
  ·simp only [kA3, nmE, List.length_cons, List.length_nil, List.map_cons, List.map_nil, List.sum_cons, List.sum_nil, Le2]
   simp
  ·have h1 := (ev3 (onT g ⟨⟨#[88]⟩, []⟩)).1
   have h2 := (ev3 (onT g ⟨⟨#[89]⟩, []⟩)).1
   generalize ev kA3 (onT g ⟨⟨#[88]⟩, []⟩) = q at *
   generalize ev kA3 (onT g ⟨⟨#[89]⟩, []⟩) = q2 at *
   simp only [kA3, nmE, List.length_cons, List.length_nil, List.map_cons, List.map_nil, List.sum_cons, List.sum_nil, Le2]
   simp
   omega
 case inr.inr.inr.inr.inr.inr.inr.inr.inr =>
  refine ⟨_, fit9 ?_⟩
  simp only [List.mem_cons, List.not_mem_nil, or_false]
  rintro r rfl g hg
  simp only [on_sym hg, nmD_a.2, nmD_b.2, nmD_c.2, nmD_f.2, nmD_g.2, nmD_h.2, nmD_k.2, List.map_cons, List.map_nil, ev_mk]
  generalize ev kA9 (onT g ⟨⟨#[88]⟩, []⟩) = x
  generalize ev kA9 (onT g ⟨⟨#[89]⟩, []⟩) = y
  generalize ev kA9 (onT g ⟨⟨#[90]⟩, []⟩) = z
  simp only [kA9, nmE, Le2, if_true, if_false]
  refine ⟨trivial, ?_⟩
  rw [Nat.add_mul]
  omega
 all_goals
  refine ⟨_, fit0 ?_⟩
  simp only [List.mem_cons, List.not_mem_nil, or_false]
  first
  | rintro r (rfl | rfl | rfl) g hg
  | rintro r (rfl | rfl) g hg
  | rintro r rfl g hg
 all_goals
  simp only [on_sym hg, nmD_a.2, nmD_b.2, nmD_c.2, nmD_f.2, nmD_g.2, nmD_h.2, nmD_k.2, List.map_cons, List.map_nil, ev_mk]
  have hx1 : (ev kA0 (onT g ⟨⟨#[88]⟩, []⟩)).1 = 0 := rfl
  have hy1 : (ev kA0 (onT g ⟨⟨#[89]⟩, []⟩)).1 = 0 := rfl
  have hz1 : (ev kA0 (onT g ⟨⟨#[90]⟩, []⟩)).1 = 0 := rfl
  generalize ev kA0 (onT g ⟨⟨#[88]⟩, []⟩) = x at *
  generalize ev kA0 (onT g ⟨⟨#[89]⟩, []⟩) = y at *
  generalize ev kA0 (onT g ⟨⟨#[90]⟩, []⟩) = z at *
  refine ⟨by simp [kA0, hx1, hy1, hz1], ?_⟩
  simp only [kA0, List.map_cons, List.map_nil, List.sum_cons, List.sum_nil]
  omega
end Go.Proofs.YtmkendjmfdaedaaGreat

/- Which term is above another one, by paths and by weights: plain. -/
import Derived.Test.YtgimfiffcalbfaaW90
import Derived.Test.YtgimfiffcalbfaaSrt
namespace Go.Proofs.Ytgimfiffcalbfaa
open Go.RowKit
set_option linter.unusedSimpArgs false
set_option linter.unusedVariables false

/-- Where a name stands in a row, from 1 on; 0: nowhere. -/
def rankN (s : ByteArray) : List ByteArray → Nat
  | [] => 0
  | x :: r => if x = s then 1 else match rankN s r with
    | 0 => 0
    | k + 1 => k + 2
/-- Is a's symbol the greater one? -/
def gtS (row : List ByteArray) (a b : Tm) : Bool :=
  if rankN a.name row ≠ rankN b.name row then decide (rankN b.name row < rankN a.name row)
  else if a.name ≠ b.name then ltB b.name a.name
  else decide (b.args.length < a.args.length)
/-- The first ones that are unlike. -/
def unl : List Tm → List Tm → Option (Tm × Tm)
  | x :: r, y :: q => if sameB x y = true then unl r q else some (x, y)
  | _, _ => none
theorem unl_mem : ∀ {a b : List Tm} {x y : Tm}, unl a b = some (x, y) → x ∈ a ∧ y ∈ b
  | [], _, x, y, h => by simp [unl] at h
  | _ :: _, [], x, y, h => by simp [unl] at h
  | t :: a, u :: b, x, y, h => by
    rw [unl] at h
    split at h
    · obtain ⟨h1, h2⟩ := unl_mem h
      exact ⟨by simp [h1], by simp [h2]⟩
    · cases h
      exact ⟨by simp, by simp⟩
/-- By paths, in so many steps. -/
def pathF (row : List ByteArray) : Nat → Tm → Tm → Bool
  | 0, _, _ => false
  | n + 1, a, b =>
    if varB a.name = true then false
    else if (a.args.any fun x => sameB x b || pathF row n x b) = true then true
    else if varB b.name = true then false
    else if gtS row b a = true then false
    else if (b.args.all fun y => pathF row n a y) = false then false
    else if gtS row a b = true then true
    else match unl a.args b.args with
      | none => false
      | some (x, y) => pathF row n x y
theorem size_arg {t : Tm} {x : Tm} (h : x ∈ t.args) : sizeL [x] < sizeL [t] := by
  obtain ⟨s, l⟩ := t
  have : sizeL [x] ≤ sizeL l := by
    replace h : x ∈ l := h
    induction l with
    | nil => cases h
    | cons a r ih =>
      have hc : sizeL (a :: r) = sizeL [a] + sizeL r := sizeL_append [a] r
      rcases List.mem_cons.1 h with rfl | h
      · omega
      · have := ih h; omega
  have e : sizeL [(⟨s, l⟩ : Tm)] = 1 + sizeL l := by simp [sizeL]
  omega
theorem any_congr {α : Type} {l : List α} {f g : α → Bool} (h : ∀ x ∈ l, f x = g x) : l.any f = l.any g := by
  induction l with
  | nil => rfl
  | cons a r ih => rw [List.any_cons, List.any_cons, h a (by simp), ih fun x hx => h x (by simp [hx])]
theorem all_congr {α : Type} {l : List α} {f g : α → Bool} (h : ∀ x ∈ l, f x = g x) : l.all f = l.all g := by
  induction l with
  | nil => rfl
  | cons a r ih => rw [List.all_cons, List.all_cons, h a (by simp), ih fun x hx => h x (by simp [hx])]
/-- More steps than there are knots make no difference. -/
theorem pathF_steps (row : List ByteArray) : ∀ (n m : Nat) (a b : Tm), sizeL [a] + sizeL [b] ≤ n → sizeL [a] + sizeL [b] ≤ m → pathF row n a b = pathF row m a b
  | 0, m, a, b, h, _ => by
    obtain ⟨s, l⟩ := a
    simp [sizeL] at h
  | n + 1, 0, a, b, _, h => by
    obtain ⟨s, l⟩ := a
    simp [sizeL] at h
  | n + 1, m + 1, a, b, h1, h2 => by
    rw [pathF, pathF]
    have e1 : (a.args.any fun x => sameB x b || pathF row n x b) = a.args.any fun x => sameB x b || pathF row m x b := any_congr fun x hx => by
      have := size_arg hx
      rw [pathF_steps row n m x b (by omega) (by omega)]
    have e2 : (b.args.all fun y => pathF row n a y) = b.args.all fun y => pathF row m a y := all_congr fun y hy => by
      have := size_arg hy
      rw [pathF_steps row n m a y (by omega) (by omega)]
    rw [e1, e2]
    cases hu : unl a.args b.args with
    | none => rfl
    | some p =>
      obtain ⟨x, y⟩ := p
      obtain ⟨m1, m2⟩ := unl_mem hu
      have := size_arg m1
      have := size_arg m2
      show (if _ then _ else _) = _
      simp only []
      rw [pathF_steps row n m x y (by omega) (by omega)]
/-- By paths. -/
def pathB (row : List ByteArray) (a b : Tm) : Bool := pathF row (sizeL [a] + sizeL [b]) a b
theorem pathF_eq {row : List ByteArray} {n : Nat} {a b : Tm} (h : sizeL [a] + sizeL [b] ≤ n) : pathF row n a b = pathB row a b := pathF_steps row _ _ a b h (Nat.le_refl _)
theorem pathB_eq (row : List ByteArray) (a b : Tm) : pathB row a b =
    if varB a.name = true then false
    else if (a.args.any fun x => sameB x b || pathB row x b) = true then true
    else if varB b.name = true then false
    else if gtS row b a = true then false
    else if (b.args.all fun y => pathB row a y) = false then false
    else if gtS row a b = true then true
    else match unl a.args b.args with
      | none => false
      | some (x, y) => pathB row x y := by
  rw [← pathF_eq (n := sizeL [a] + sizeL [b] + 1) (by omega), pathF]
  have e1 : (a.args.any fun x => sameB x b || pathF row (sizeL [a] + sizeL [b]) x b) = a.args.any fun x => sameB x b || pathB row x b := any_congr fun x hx => by
    have := size_arg hx
    rw [pathF_eq (by omega)]
  have e2 : (b.args.all fun y => pathF row (sizeL [a] + sizeL [b]) a y) = b.args.all fun y => pathB row a y := all_congr fun y hy => by
    have := size_arg hy
    rw [pathF_eq (by omega)]
  rw [e1, e2]
  cases hu : unl a.args b.args with
  | none => rfl
  | some p =>
    obtain ⟨x, y⟩ := p
    obtain ⟨m1, m2⟩ := unl_mem hu
    have := size_arg m1
    have := size_arg m2
    simp only []
    rw [pathF_eq (by omega)]
#print axioms pathB_eq
end Go.Proofs.Ytgimfiffcalbfaa

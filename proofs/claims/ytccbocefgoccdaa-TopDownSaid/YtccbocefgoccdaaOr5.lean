/- Maps of numbers and of ranks, and how two symbols compare: plain. -/
import Derived.Test.YtccbocefgoccdaaZTopDownOwn
import Derived.Test.YtccbocefgoccdaaGn1
namespace Go.Proofs.Ytccbocefgoccdaa
open Go.RowKit
set_option linter.unusedSimpArgs false
set_option linter.unusedVariables false

def txtB (t : Tm) : ByteArray := ⟨(txtL [t]).toArray⟩
theorem txtB_inj {t u : Tm} (ht : errL [t] = 0) (hu : errL [u] = 0) (h : txtB t = txtB u) : t = u := by
  refine txt_inj ht hu ?_
  unfold txtB at h
  have h1 : (txtL [t]).toArray = (txtL [u]).toArray := by injection h
  simpa using congrArg Array.toList h1
/-- The map from texts to numbers. -/
def numL : Nat → List Tm → List (ByteArray × Value)
  | _, [] => []
  | i, t :: S => (txtB t, .int .i64 i) :: numL (i + 1) S
theorem numL_len : ∀ (S : List Tm) (i : Nat), (numL i S).length = S.length
  | [], i => rfl
  | t :: S, i => by simp [numL, numL_len S]
theorem numL_push : ∀ (S : List Tm) (t : Tm) (i : Nat), numL i (S ++ [t]) = numL i S ++ [(txtB t, .int .i64 (i + S.length))]
  | [], t, i => by simp [numL]
  | x :: S, t, i => by
    rw [List.cons_append, numL, numL, numL_push S t (i + 1), List.cons_append]
    simp only [List.length_cons]
    rw [show (((i + 1 : Nat) : Int) + (S.length : Int)) = (i : Int) + ((S.length + 1 : Nat) : Int) by omega]
theorem numL_get {t : Tm} (ht : errL [t] = 0) : ∀ (S : List Tm) (i : Nat), (∀ x ∈ S, errL [x] = 0) → mapGet (numL i S) (txtB t) = if numT t S < S.length then some (.int .i64 (i + numT t S)) else none
  | [], i, _ => by simp [numL, mapGet, numT]
  | x :: S, i, h => by
    rw [numL, mapGet, numT]
    by_cases hs : sameB x t = true
    · have e := sameB_iff.1 hs
      subst e
      simp [hs]
    · have hne : txtB x ≠ txtB t := fun e => hs (sameB_iff.2 (txtB_inj (h x (by simp)) ht e))
      rw [if_neg hne, if_neg hs, numL_get ht S (i + 1) fun y hy => h y (by simp [hy])]
      simp only [List.length_cons]
      by_cases hl : numT t S < S.length
      · rw [if_pos hl, if_pos (by omega)]
        congr 2
        omega
      · rw [if_neg hl, if_neg (by omega)]
/-- The map from names to ranks. -/
def rkL : Nat → List ByteArray → List (ByteArray × Value)
  | _, [] => []
  | i, n :: r => (n, .int .i64 (i + 1)) :: rkL (i + 1) r
theorem rkL_push : ∀ (r : List ByteArray) (n : ByteArray) (i : Nat), rkL i (r ++ [n]) = rkL i r ++ [(n, .int .i64 (i + r.length + 1))]
  | [], n, i => by simp [rkL]
  | x :: r, n, i => by
    rw [List.cons_append, rkL, rkL, rkL_push r n (i + 1), List.cons_append]
    simp only [List.length_cons]
    rw [show (((i + 1 : Nat) : Int) + (r.length : Int) + 1) = (i : Int) + ((r.length + 1 : Nat) : Int) + 1 by omega]
theorem rkL_get (n : ByteArray) : ∀ (r : List ByteArray) (i : Nat), mapGet (rkL i r) n = if rankN n r = 0 then none else some (.int .i64 (i + rankN n r))
  | [], i => by simp [rkL, mapGet, rankN]
  | x :: r, i => by
    rw [rkL, mapGet, rankN]
    by_cases h : x = n
    · simp [h]
    · rw [if_neg h, if_neg h, rkL_get n r (i + 1)]
      cases rankN n r with
      | zero => simp
      | succ k =>
        simp only [Nat.add_eq_zero_iff]
        rw [if_neg (by omega), if_neg (by omega)]
        congr 2
        omega
theorem rank_none {n : ByteArray} : ∀ {r : List ByteArray}, n ∉ r → rankN n r = 0
  | [], _ => rfl
  | x :: r, h => by
    rw [List.mem_cons, not_or] at h
    rw [rankN, if_neg fun e => h.1 e.symm, rank_none h.2]
theorem rank_le (n : ByteArray) : ∀ r : List ByteArray, rankN n r ≤ r.length
  | [] => by simp [rankN]
  | x :: r => by
    rw [rankN]
    have := rank_le n r
    split
    · simp
    · split
      · simp
      · rename_i k hk
        rw [hk] at this
        simp; omega
theorem rkL_at (n : ByteArray) (r : List ByteArray) : (mapGet (rkL 0 r) n).getD (.int .i64 0) = .int .i64 (rankN n r) := by
  rw [rkL_get]
  by_cases h : rankN n r = 0
  · rw [if_pos h, h]; rfl
  · rw [if_neg h]; simp
/-- How two numbers stand to each other. -/
def cmpI (a b : Int) : Int := if a < b then -1 else if b < a then 1 else 0
/-- How two symbols do. -/
def cmpS (row : List ByteArray) (a b : Tm) : Int :=
  if cmpI (rankN a.name row) (rankN b.name row) ≠ 0 then cmpI (rankN a.name row) (rankN b.name row)
  else if cmpN a.name b.name ≠ 0 then cmpN a.name b.name
  else cmpI a.args.length b.args.length
theorem cmpN_zero {a b : ByteArray} : cmpN a b = 0 ↔ a = b := by
  unfold cmpN
  constructor
  · intro h
    cases h1 : ltB a b with
    | true => rw [h1] at h; simp at h
    | false =>
      cases h2 : ltB b a with
      | true => rw [h1, h2] at h; simp at h
      | false => exact ltB_conn h1 h2
  · rintro rfl
    simp [ltB_irrefl]
/-- Greater, less, or the same. -/
theorem cmpS_cases (row : List ByteArray) (a b : Tm) : (gtS row a b = true ∧ cmpS row a b = 1) ∨ (gtS row b a = true ∧ cmpS row a b = -1) ∨ (gtS row a b = false ∧ gtS row b a = false ∧ cmpS row a b = 0) := by
  unfold cmpS
  by_cases h1 : rankN a.name row = rankN b.name row
  · have c1 : cmpI (rankN a.name row) (rankN b.name row) = 0 := by unfold cmpI; rw [h1]; simp
    rw [if_neg (by simp [c1])]
    by_cases h2 : a.name = b.name
    · have c2 : cmpN a.name b.name = 0 := cmpN_zero.2 h2
      rw [if_neg (by simp [c2])]
      have g : ∀ x y : Tm, rankN x.name row = rankN y.name row → x.name = y.name → gtS row x y = decide (y.args.length < x.args.length) := fun x y hr hn => by
        unfold gtS
        rw [if_neg (by simpa using hr), if_neg (by simpa using hn)]
      rw [g a b h1 h2, g b a h1.symm h2.symm]
      unfold cmpI
      rcases Nat.lt_trichotomy a.args.length b.args.length with h | h | h
      · refine Or.inr (Or.inl ⟨by simpa using h, ?_⟩)
        rw [if_pos (by omega)]
      · refine Or.inr (Or.inr ⟨by simp; omega, by simp; omega, ?_⟩)
        rw [if_neg (by omega), if_neg (by omega)]
      · refine Or.inl ⟨by simpa using h, ?_⟩
        rw [if_neg (by omega), if_pos (by omega)]
    · have c2 : cmpN a.name b.name ≠ 0 := fun e => h2 (cmpN_zero.1 e)
      rw [if_pos c2]
      have g : ∀ x y : Tm, rankN x.name row = rankN y.name row → x.name ≠ y.name → gtS row x y = ltB y.name x.name := fun x y hr hn => by
        unfold gtS
        rw [if_neg (by simpa using hr), if_pos hn]
      rw [g a b h1 h2, g b a h1.symm (fun e => h2 e.symm)]
      unfold cmpN
      cases l1 : ltB a.name b.name with
      | true => exact Or.inr (Or.inl ⟨rfl, by simp⟩)
      | false =>
        cases l2 : ltB b.name a.name with
        | true => exact Or.inl ⟨rfl, by simp⟩
        | false => exact absurd (ltB_conn l1 l2) h2
  · have g : ∀ x y : Tm, rankN x.name row ≠ rankN y.name row → gtS row x y = decide (rankN y.name row < rankN x.name row) := fun x y hr => by
      unfold gtS
      rw [if_pos hr]
    rw [g a b h1, g b a (fun e => h1 e.symm)]
    unfold cmpI
    rcases Nat.lt_trichotomy (rankN a.name row) (rankN b.name row) with h | h | h
    · refine Or.inr (Or.inl ⟨by simpa using h, ?_⟩)
      have e : ((rankN a.name row : Nat) : Int) < ((rankN b.name row : Nat) : Int) := by omega
      simp only [if_pos e]
      simp
    · exact absurd h h1
    · refine Or.inl ⟨by simpa using h, ?_⟩
      have e1 : ¬ ((rankN a.name row : Nat) : Int) < ((rankN b.name row : Nat) : Int) := by omega
      have e2 : ((rankN b.name row : Nat) : Int) < ((rankN a.name row : Nat) : Int) := by omega
      simp only [if_neg e1, if_pos e2]
      simp
#print axioms numL_get
#print axioms cmpS_cases
end Go.Proofs.Ytccbocefgoccdaa

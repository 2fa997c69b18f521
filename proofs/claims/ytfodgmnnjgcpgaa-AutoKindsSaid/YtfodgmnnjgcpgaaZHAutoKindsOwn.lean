/- Several texts in one. -/
import Derived.Test.YtfodgmnnjgcpgaaAw4
/- Plain: the automaton that accepts all its terms has one kind. -/
namespace Go.Proofs.Ytfodgmnnjgcpgaa
open Go.RowKit
set_option linter.unusedSimpArgs false
set_option linter.unusedVariables false
set_option maxRecDepth 8000

end Go.Proofs.Ytfodgmnnjgcpgaa

/- Plain: marks that are made one by one, till nothing is new, tell just what is told apart. -/
namespace Go.Proofs.Ytfodgmnnjgcpgaa
open Go.RowKit
set_option linter.unusedSimpArgs false
set_option linter.unusedVariables false
set_option maxRecDepth 8000

/-- Marks so far: none too many, the last states' ones among them. -/
structure Marks (ms : List Mv) (la : Nat) (all : List Nat) (T : Nat → Nat → Bool) : Prop where
  sound : ∀ s ∈ all, ∀ r ∈ all, T s r = true → ApS ms la all s r
  last : ∀ s ∈ all, ∀ r ∈ all, inL la s ≠ inL la r → T s r = true
theorem Marks.start {ms : List Mv} {la : Nat} {all : List Nat} {T : Nat → Nat → Bool} (h : ∀ s ∈ all, ∀ r ∈ all, T s r = (inL la s != inL la r)) : Marks ms la all T :=
  ⟨fun s hs r hr e => .last hs hr (by rw [h s hs r hr] at e; simpa using e), fun s hs r hr e => by rw [h s hs r hr]; simpa using e⟩
/-- One mark more, both ways. -/
theorem Marks.mark {ms : List Mv} {la : Nat} {all : List Nat} {T : Nat → Nat → Bool} (h : Marks ms la all T) (hcl : ∀ m ∈ ms, ∀ xs : List Nat, xs.length = m.frm.length → (∀ x ∈ xs, x ∈ all) → endM ms m xs ∈ all) {m : Mv} (hm : m ∈ ms) {xs : List Nat} {i a s : Nat} (hl : xs.length = m.frm.length) (hx : ∀ x ∈ xs, x ∈ all) (hi : xs[i]? = some a) (hs : s ∈ all) (ht : T (endM ms m xs) (endM ms m (xs.set i s)) = true) {T' : Nat → Nat → Bool} (hT : ∀ x y, T' x y = (T x y || (decide (x = a ∧ y = s) || decide (x = s ∧ y = a)))) : Marks ms la all T' := by
  have key : ApS ms la all a s := .step m xs i hm hl hx hi hs (h.sound _ (hcl m hm xs hl hx) _ (hcl m hm _ (by simpa using hl) (set_in hx hs)) ht)
  refine ⟨fun x hx y hy e => ?_, fun x hx y hy e => by rw [hT, h.last x hx y hy e]; rfl⟩
  rw [hT, Bool.or_eq_true, Bool.or_eq_true, decide_eq_true_eq, decide_eq_true_eq] at e
  rcases e with e | ⟨rfl, rfl⟩ | ⟨rfl, rfl⟩
  · exact h.sound x hx y hy e
  · exact key
  · exact key.symm
/-- When nothing is new. -/
theorem Marks.full {ms : List Mv} {la : Nat} {all : List Nat} {T : Nat → Nat → Bool} (h : Marks ms la all T) (hno : ∀ m ∈ ms, ∀ (xs : List Nat) (i a s : Nat), xs.length = m.frm.length → (∀ x ∈ xs, x ∈ all) → xs[i]? = some a → s ∈ all → T (endM ms m xs) (endM ms m (xs.set i s)) = true → T a s = true) {s r : Nat} (hap : ApS ms la all s r) : T s r = true := by
  induction hap with
  | last hs hr e => exact h.last _ hs _ hr e
  | step m xs i hm hl hx hi hs _ ih => exact hno m hm xs i _ _ hl hx hi hs ih
theorem repR_congr {α : Type} {E F : α → α → Bool} : ∀ {l : List α}, (∀ x ∈ l, ∀ y ∈ l, E x y = F x y) → repR E l = repR F l
  | [], _ => rfl
  | x :: r, h => by
    have e : r.any (E x) = r.any (F x) := by
      rw [Bool.eq_iff_iff, List.any_eq_true, List.any_eq_true]
      exact ⟨fun ⟨y, hy, g⟩ => ⟨y, hy, by rw [← h x (by simp) y (by simp [hy])]; exact g⟩, fun ⟨y, hy, g⟩ => ⟨y, hy, by rw [h x (by simp) y (by simp [hy])]; exact g⟩⟩
    rw [repR, repR, e, repR_congr fun y hy z hz => h y (by simp [hy]) z (by simp [hz])]
theorem Marks.count {ms : List Mv} {la : Nat} {all : List Nat} {T : Nat → Nat → Bool} (h : Marks ms la all T) (hno : ∀ m ∈ ms, ∀ (xs : List Nat) (i a s : Nat), xs.length = m.frm.length → (∀ x ∈ xs, x ∈ all) → xs[i]? = some a → s ∈ all → T (endM ms m xs) (endM ms m (xs.set i s)) = true → T a s = true) : cntK (fun s r => !T s r) all = cntK (alkS ms la all) all := by
  unfold cntK
  rw [repR_congr fun x hx y hy => ?_]
  have hx' : x ∈ all := by simpa using hx
  have hy' : y ∈ all := by simpa using hy
  rw [Bool.eq_iff_iff, alkS_iff]
  constructor
  · intro e k
    rw [h.full hno k] at e
    cases e
  · intro e
    cases ht : T x y with
    | false => rfl
    | true => exact absurd (h.sound x hx' y hy' ht) e
end Go.Proofs.Ytfodgmnnjgcpgaa

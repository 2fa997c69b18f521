
/- Walks: matching, comparing up to names and searching for an instance, as the document says. -/
import Derived.Test.YtkfppicbningaaaW92
namespace Go.Proofs.Ytkfppicbningaaa
open Go.RowKit
set_option linter.unusedSimpArgs false
set_option linter.unusedVariables false
set_option maxRecDepth 8000

/-- One is a case of the other. -/
def mtB (p t : Tm) : Bool := (mtT p t []).isSome
def MoPost (w : World) (Z : Nat → Prop) (p t : Tm) (e : Ending) (w' : World) : Prop :=
  Below w.heap.size w w' ∧ ((mtT p t [] = none ∧ e = .returned (.tuple #[.slice none 0 0, .bool false])) ∨
    ∃ h' v l', mtT p t [] = some h' ∧ e = .returned (.tuple #[v, .bool true]) ∧ BV w' Z v l' ∧ l'.Perm h' ∧ l'.Pairwise fun a b => ltB b.nm a.nm = false)

/-- Some knot of a term is a case of another one. -/
def hcB (t p : Tm) : Bool := (preL [t]).any fun k => mtB p k
theorem hc_take {ks : List Tm} {p : Tm} {k : Nat} (h : k < ks.length) : (ks.take (k + 1)).any (fun x => mtB p x) = ((ks.take k).any (fun x => mtB p x) || mtB p ks[k]) := by
  rw [List.take_succ_eq_append_getElem h, List.any_append]; simp
theorem hc_yes {ks : List Tm} {p : Tm} {k : Nat} (h : k < ks.length) (h0 : mtB p ks[k] = true) : ks.any (fun x => mtB p x) = true := by
  rw [List.any_eq_true]; exact ⟨ks[k], List.getElem_mem h, h0⟩
def HcInv (ks : List Tm) (p : Tm) (w2 : World) (v : Value) (wr : World) : Prop := ∃ k : Nat, k ≤ ks.length ∧ v = .int .i64 (k : Int) ∧ (ks.take k).any (fun x => mtB p x) = false ∧ Below w2.heap.size w2 wr
end Go.Proofs.Ytkfppicbningaaa

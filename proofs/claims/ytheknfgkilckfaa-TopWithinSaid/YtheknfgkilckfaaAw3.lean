/- Plain: which sets of states are told apart; automata that accept the same have as many kinds. -/
import Derived.Test.YtheknfgkilckfaaAw1
import Derived.Test.YtheknfgkilckfaaAw2
namespace Go.Proofs.Ytheknfgkilckfaa
open Go.RowKit
set_option linter.unusedSimpArgs false
set_option linter.unusedVariables false
set_option maxRecDepth 8000

/-- Where a move's symbol goes. -/
def endM (ms : List Mv) (m : Mv) (xs : List Nat) : Nat := endN (grp ms (m.name, m.frm.length)) (xs.map bitsN)
/-- Is it a last one? -/
def inL (la x : Nat) : Bool := decide (x &&& la ≠ 0)
/-- Told apart. -/
inductive ApS (ms : List Mv) (la : Nat) (all : List Nat) : Nat → Nat → Prop
  | last {s r : Nat} (hs : s ∈ all) (hr : r ∈ all) (h : inL la s ≠ inL la r) : ApS ms la all s r
  | step {a s : Nat} (m : Mv) (xs : List Nat) (i : Nat) (hm : m ∈ ms) (hl : xs.length = m.frm.length) (hx : ∀ x ∈ xs, x ∈ all) (hi : xs[i]? = some a) (hs : s ∈ all) (h : ApS ms la all (endM ms m xs) (endM ms m (xs.set i s))) : ApS ms la all a s
theorem set_in {all xs : List Nat} {i s : Nat} (hx : ∀ x ∈ xs, x ∈ all) (hs : s ∈ all) : ∀ x ∈ xs.set i s, x ∈ all := fun x hxx => by
  rcases List.mem_or_eq_of_mem_set hxx with h | h
  · exact hx x h
  · rw [h]; exact hs
theorem ApS.symm {ms : List Mv} {la : Nat} {all : List Nat} {s r : Nat} (h : ApS ms la all s r) : ApS ms la all r s := by
  induction h with
  | last hs hr h => exact .last hr hs h.symm
  | step m xs i hm hl hx hi hs h0 ih =>
    rename_i a s
    obtain ⟨h1, h2⟩ := List.getElem?_eq_some_iff.1 hi
    refine .step m (xs.set i s) i hm (by simpa using hl) (set_in hx hs) (by simp [h1]) (hx a (List.mem_of_getElem? hi)) ?_
    have e : (xs.set i s).set i a = xs := by rw [List.set_set, ← h2, List.set_getElem_self]
    rw [e]
    exact ih
end Go.Proofs.Ytheknfgkilckfaa


/- Walks: the places of a term, as the document says. -/
import Derived.Test.YtfodgmnnjgcpgaaZAutoKindsOwn
import Derived.Lib.Builder
namespace Go.Proofs.Ytfodgmnnjgcpgaa
open Go.RowKit
set_option linter.unusedSimpArgs false
set_option linter.unusedVariables false

/-- A row of lists that is added to, and what stays where it was. -/
def OutAt (w0 : World) (N : Nat) (q0 : Value) (ps : List (List Int)) (q : Value) (xs : List Value) (wr : World) : Prop :=
  wr.ownsRow N 23 1 q ps.length xs ∧ RowP wr (fun b => N ≤ b ∧ some b ≠ q.ownBlock) ps xs ∧ w0.grownBy wr q0.ownBlock ∧ (∀ k, q.ownBlock = some k → q0.ownBlock = some k ∨ w0.heap.size ≤ k)

theorem PV.grownBy {w w' : World} {Z : Nat → Prop} {u : Value} {z : List Int} {r : Option Nat} (h : PV w Z u z) (hg : w.grownBy w' r) (hZ : ∀ b, Z b → some b ≠ r) : PV w' Z u z := by
  have h1 : PV w (fun b => Z b ∧ b < w.heap.size) u z := h.mono fun b h1 h2 => ⟨h1, h2⟩
  have h2 : PV w' (fun b => Z b ∧ b < w.heap.size) u z := h1.kept fun b hx => hg.block b hx.2 (hZ b hx.1)
  exact h2.mono fun b hx _ => hx.1

theorem OutAt.mono {w0 w1 wr : World} {N : Nat} {q0 q1 q : Value} {ps ps1 : List (List Int)} {xs xs1 : List Value} (h : OutAt w0 N q0 ps1 q1 xs1 w1) (h1 : OutAt w1 N q1 ps q xs wr) : OutAt w0 N q0 ps q xs wr := by
  refine ⟨h1.1, h1.2.1, grown_trans h.2.2.1 h1.2.2.1 h.2.2.2, fun k hk => ?_⟩
  rcases h1.2.2.2 k hk with e | e
  · exact h.2.2.2 k e
  · exact Or.inr (Nat.le_trans h.2.2.1.size e)

theorem OutAt.later {w0 w1 w2 : World} {N : Nat} {q0 q : Value} {ps : List (List Int)} {xs : List Value} (h : OutAt w0 N q0 ps q xs w1) (hb : Below w1.heap.size w1 w2) : OutAt w0 N q0 ps q xs w2 :=
  ⟨h.1.kept (w' := w2) (row := none) ⟨hb.os, hb.tape, hb.output, hb.size, fun j hj _ => hb.block j hj⟩ (by rcases Option.eq_none_or_eq_some (Value.ownBlock q) with h | ⟨x, h⟩; exact Or.inl h; exact Or.inr (by rw [h]; simp)),
   h.2.1.imp fun u z hp => hp.later hb, grown_trans h.2.2.1 (grown_of_below hb q.ownBlock) h.2.2.2, h.2.2.2⟩

end Go.Proofs.Ytfodgmnnjgcpgaa

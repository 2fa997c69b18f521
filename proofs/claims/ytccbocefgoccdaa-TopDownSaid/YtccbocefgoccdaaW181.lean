
/- Walks: the first that is handed over (Ch). -/
import Derived.Test.YtccbocefgoccdaaW180
import Derived.Deep.MidRow
import Derived.Test.YtccbocefgoccdaaZCTopDownOwn
namespace Go.Proofs.Ytccbocefgoccdaa
open Go.RowKit Go.Shelf
attribute [local go_sem] Oper.semAt_some
set_option linter.unusedSimpArgs false
set_option linter.unusedVariables false
set_option maxRecDepth 8000

theorem list_round {P : Program} {ops : Array Oper} {Q : Exit → Act → World → Prop} {l n : Nat} : ∀ (os : List Oper), (∀ o ∈ os, ∀ c, o.op ≠ .defer c) → ∀ {a : Act} {w : World}, wpList P ops (calmQ Q) os a w → wpListIn (Fence.wide.inRound l) n P ops Q os a w
  | [], _, a, w, h => h.2
  | o :: rest, hnd, a, w, h => by
    unfold wpList at h
    unfold wpListIn
    split at h
    next hw =>
      rw [if_pos hw]
      rcases h with h | h
      · exact Oper.wpIn_mono (fun a' w' h' => list_round rest (fun o ho => hnd o (by simp [ho])) h') (oper_round (hnd o (by simp)) h)
      · exact absurd h.2 (calmQ_out Q)
    next hw =>
      rw [if_neg hw]
      exact ⟨fun f _ => trivial, list_round rest (fun o ho => hnd o (by simp [ho])) h⟩
theorem sfst_stop {A B TA : Nat} {G : Nat → Prop} {all : List Ch} : StopOk (SFst LpC A B TA G all) := by
  rintro W W' ⟨y, cs, Z, h1, hA, hB, hl, hZ⟩ hz hk
  have hb : ∀ (b : Nat) (cs : Array Value) (T : TypeId) (z : Nat × Nat), W.heap[b]? = some (Obj.cells cs T z) → W'.heap[b]? = W.heap[b]? := fun b cs T z h => by
    rcases hk b (Array.getElem?_eq_some_iff.1 h).1 with h2 | ⟨r, h2⟩ | ⟨d, h2⟩
    · exact h2
    · rw [h] at h2; cases h2
    · rw [h] at h2; cases h2
  refine ⟨y, cs, fun b => Z b ∧ Solid W b, h1, (hb _ _ _ _ hA).trans hA, (hb _ _ _ _ hB).trans hB, lpC_kept (lpC_solid hl) (fun b h => ?_), fun b h => ⟨by have := (hZ b h.1).1; omega, (hZ b h.1).2⟩⟩
  rcases hk b (hZ b h.1).1 with h3 | ⟨r, h3⟩ | ⟨d, h3⟩
  · exact h3
  · exact absurd h3 (h.2.1 r)
  · exact absurd h3 (h.2.2 d)

end Go.Proofs.Ytccbocefgoccdaa

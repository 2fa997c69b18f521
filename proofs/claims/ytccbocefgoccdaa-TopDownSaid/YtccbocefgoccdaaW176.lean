
/- Walks: the law on steps. -/
import Derived.Test.YtccbocefgoccdaaW175
import Derived.Test.YtccbocefgoccdaaZBTopDownOwn
import Derived.Test.YtccbocefgoccdaaZTopDownOwn
import Derived.Deep.RegionHeld3
namespace Go.Proofs.Ytccbocefgoccdaa
open Go.RowKit
set_option linter.unusedSimpArgs false
set_option linter.unusedVariables false
set_option maxRecDepth 8000

theorem sl_of_row {w : World} {N T : Nat} {X : Nat → Prop} {v : Value} {l : List Tm} {xs : List Value} (h : w.ownsRow N T 2 v l.length xs) (hr : RowT w X l xs) : ∃ a c, v = .slice a l.length c ∧ Sl w (fun _ => True) a l := by
  by_cases h0 : l = []
  · subst h0
    rcases h.2 with ⟨rfl, _⟩ | ⟨g, cap, cur, hv, _⟩
    · exact ⟨none, 0, rfl, by simp, Or.inl rfl⟩
    · exact ⟨_, _, hv, by simp, Or.inl rfl⟩
  · have hp : 0 < l.length := List.length_pos_iff.2 h0
    obtain ⟨g, cap, hv, _, _, hc⟩ := owned_val h hp
    have hlen : l.length ≤ 9223372036854775807 := by
      rcases h.2 with ⟨_, h1⟩ | ⟨g', cap', cur, _, _, _, h1, h2, _⟩
      · omega
      · unfold maxLen at h2; omega
    exact ⟨_, _, hv, hlen, Or.inr ⟨g, 0, rfl, lies_of_rowT g trivial l xs 0 hr (fun a k hs => hs.mono fun _ _ _ => trivial) (fun j u hj => by rw [Nat.zero_add]; exact hc j u hj)⟩⟩
def SmInv (n : Nat) (w w0 : World) (o : Value) (wr : World) : Prop := ∃ k : Nat, k ≤ n ∧ o = .int .i64 (k : Int) ∧ Below w0.heap.size w0 wr

end Go.Proofs.Ytccbocefgoccdaa

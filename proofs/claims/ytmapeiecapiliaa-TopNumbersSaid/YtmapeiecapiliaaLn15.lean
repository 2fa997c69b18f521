
/- Walks: whether a lambda term is a number, as the document says. -/
import Derived.Test.YtmapeiecapiliaaLn12
import Derived.Test.YtmapeiecapiliaaLn13
import Derived.Test.YtmapeiecapiliaaLn14
import Derived.BigQuiet
namespace Go.Proofs.Ytmapeiecapiliaa
open Go.RowKit
set_option linter.unusedSimpArgs false
set_option linter.unusedVariables false
set_option maxRecDepth 8000

theorem ret_intN {a b : Int} (h : a = b) : Ending.returned (.int .i64 a) = .returned (.int .i64 b) := by rw [h]
theorem isB_is {u m : Int} {t : Lm} (he : errM u m [t] = 0) (i : Int) : isB t i = true ↔ t = ⟨1, i, []⟩ := by
  obtain ⟨k, x, l⟩ := t
  rw [isB_yes]
  constructor
  · rintro ⟨h1, h2⟩
    simp only at h1 h2
    subst h1; subst h2
    have := (knE_zero.1 (err_one0.1 he).1).2.1
    have hl : l = [] := List.length_eq_zero_iff.1 (by rw [this]; rfl)
    rw [hl]
  · intro e
    cases e
    exact ⟨rfl, rfl⟩
theorem err_idx0 {u m x : Int} {l : List Lm} (he : errM u m [⟨2, x, l⟩] = 0) : x = 0 := by
  have := (knE_zero.1 (err_one0.1 he).1).2.2
  simp [mostK] at this
  omega
def valZ (t : Lm) : Int := match valM t with | some n => (n : Int) | none => -1
structure VdS (b : Lm) (u : Int) (w : World) (X : Nat → Prop) (P k : Nat) (r : Lm) (a : Option Addr) (c : Nat) (wr : World) : Prop where
  on : OnSp b k r
  er : ∃ u', errM u' 0 [r] = 0
  bl : Below w.heap.size w wr
  bk : Blk wr P #[.int .i64 r.kind, .int .i64 r.idx, .slice a r.subs.length c] 25
  sl : SlM wr (fun b => X b ∧ b < w.heap.size) a r.subs

end Go.Proofs.Ytmapeiecapiliaa

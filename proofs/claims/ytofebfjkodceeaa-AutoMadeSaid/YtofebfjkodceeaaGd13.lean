import Derived.Test.YtofebfjkodceeaaAv16
import Derived.Test.YtofebfjkodceeaaZPAutoMadeOwn
import Derived.Test.YtofebfjkodceeaaAv14
import Derived.Test.YtofebfjkodceeaaZRAutoMadeOwn
import Derived.Test.YtofebfjkodceeaaZSAutoMadeOwn
namespace Go.Proofs.Ytofebfjkodceeaa
open Go.RowKit
set_option linter.unusedSimpArgs false
set_option linter.unusedVariables false
set_option maxRecDepth 8000
theorem autoMade_any (zs : List Int) (hr : ∀ z ∈ zs, Rng z) (y1 y2 y3 : Int) (hy1 : Rng y1) (hy2 : Rng y2) (hy3 : Rng y3) (u : Value) (w : World) (X : Nat → Prop) (hu : PV w X u zs) :
  Calls Try.prog 3 #[u, .int .i64 y1, .int .i64 y2, .int .i64 y3] w fun e w' => e = .returned (.bool true) ∧ Below w.heap.size w w' := by
 refine autoMade_from zs hr y1 y2 y3 hy1 hy2 hy3 u w X hu (hide fun hl i k m w' hi hk hm hb => ?_) (hide fun A t va vt w X h1 h2 => autoSays_any A t va vt w X h1 h2) (hide fun A B t va vb vt w X h1 h2 h3 => autoPairs_any A B t va vb vt w X h1 h2 h3) (hide fun A B va vb w X h1 h2 => autoKinds_any A B va vb w X h1 h2)
 obtain ⟨j, hj, rfl⟩ : ∃ j : Nat, j ≤ 60 ∧ i = (j : Int) := by
  rcases hi with rfl | rfl
  ·exact ⟨0, by omega, rfl⟩
  ·exact ⟨60, by omega, rfl⟩
 have h := autoFrom_any zs hr (by omega) j (1 + k) m (by omega) (by omega) (by omega) (by omega) u w' X (hu.later hb)
 have e : ((1 + k : Nat) : Int) = 1 + (k : Int) := by omega
 rw [e] at h
 refine h.mono ?_
 rintro e w'' ⟨v, A, rfl, h1, _, _, _, _, _, h4⟩
 exact ⟨v, A, rfl, av_monoA h1 (fun _ _ => trivial), h4⟩
end Go.Proofs.Ytofebfjkodceeaa

/- The law TopSome. -/
import Derived.Test.YtdencaekailmcaaAv16
import Derived.Test.YtdencaekailmcaaAv17
namespace Go.Proofs.Ytdencaekailmcaa
open Go.RowKit
set_option linter.unusedSimpArgs false
set_option linter.unusedVariables false
set_option maxRecDepth 8000

theorem topSome_any (zs : List Int) (hr : ∀ z ∈ zs, Rng z) (y1 y2 : Int) (hy1 : Rng y1) (hy2 : Rng y2) (u : Value) (w : World) (X : Nat → Prop) (hu : PV w X u zs) :
    Calls Try.prog 4 #[u, .int .i64 y1, .int .i64 y2] w fun e w' => e = .returned (.bool true) ∧ Below w.heap.size w w' := by
  refine topSome_from zs hr y1 y2 hy1 hy2 u w X hu (hide fun hl k m w' hk hm hb => ?_)
  have h := autoFrom_any zs hr (by omega) 0 (1 + k) m (by decide) (by omega) (by omega) (by omega) u w' X (hu.later hb)
  have e : ((1 + k : Nat) : Int) = 1 + (k : Int) := by omega
  rw [e] at h
  refine h.mono ?_
  rintro e w'' ⟨v, A, rfl, h1, h2, h3, _, _, _, h4⟩
  exact ⟨v, A, rfl, av_monoA h1 (fun _ _ => trivial), h2, h3, h4⟩
end Go.Proofs.Ytdencaekailmcaa

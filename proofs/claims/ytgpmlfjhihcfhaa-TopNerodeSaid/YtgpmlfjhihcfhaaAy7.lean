/- The law TopNerode. -/
import Derived.Test.YtgpmlfjhihcfhaaAv16
import Derived.Test.YtgpmlfjhihcfhaaAy6
namespace Go.Proofs.Ytgpmlfjhihcfhaa
open Go.RowKit
set_option linter.unusedSimpArgs false
set_option linter.unusedVariables false
set_option maxRecDepth 8000

theorem topNerode_any (zs : List Int) (hr : ∀ z ∈ zs, Rng z) (y1 y2 : Int) (hy1 : Rng y1) (hy2 : Rng y2) (u : Value) (w : World) (X : Nat → Prop) (hu : PV w X u zs) :
    Calls Try.prog 3 #[u, .int .i64 y1, .int .i64 y2] w fun e w' => e = .returned (.bool true) ∧ Below w.heap.size w w' :=
  topNerode_from zs hr y1 y2 hy1 hy2 u w X hu (hide fun hl a_ n m w' ha hn hn4 hm hb => by
    have h := autoFrom_any zs hr (by omega) a_ n m (by omega) hn (by omega) (by omega) u w' X (hu.later hb)
    refine h.mono ?_
    rintro e w'' ⟨v, A, rfl, h1, h2, h3, _, h6, h5, h4⟩
    exact ⟨v, A, rfl, av_monoA h1 (fun _ _ => trivial), h2, h3, List.all_eq_true.2 fun m hm => by simpa using h5 m hm, by omega, h4⟩)
end Go.Proofs.Ytgpmlfjhihcfhaa

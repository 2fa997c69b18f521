/- The law TopWithin. -/
import Derived.Test.YtheknfgkilckfaaAv16
import Derived.Test.YtheknfgkilckfaaAx6
namespace Go.Proofs.Ytheknfgkilckfaa
open Go.RowKit
set_option linter.unusedSimpArgs false
set_option linter.unusedVariables false
set_option maxRecDepth 8000

theorem autoFrom_good (zs : List Int) (hr : ∀ z ∈ zs, Rng z) (u : Value) (w : World) (X : Nat → Prop) (hu : PV w X u zs) (hl : zs.length ≤ 256) (a_ n m : Nat) (w' : World) (ha : a_ ≤ 100) (hn : 1 ≤ n) (hn4 : n ≤ 4) (hm : m < 12) (hb : Below w.heap.size w w') :
    Calls Try.prog 4 #[u, .int .i64 (a_ : Int), .int .i64 (n : Int), .int .i64 (m : Int)] w' fun e w'' => AfWn n w' e w'' := by
  have h := autoFrom_any zs hr (by omega) a_ n m (by omega) hn (by omega) (by omega) u w' X (hu.later hb)
  refine h.mono ?_
  rintro e w'' ⟨v, A, rfl, h1, h2, h3, _, _, h5, h4⟩
  exact ⟨v, A, rfl, av_monoA h1 (fun _ _ => trivial), h2, h3, List.all_eq_true.2 fun m hm => by simpa using h5 m hm, h4⟩
theorem topWithin_any (zs : List Int) (hr : ∀ z ∈ zs, Rng z) (y1 y2 y3 : Int) (hy1 : Rng y1) (hy2 : Rng y2) (hy3 : Rng y3) (u : Value) (w : World) (X : Nat → Prop) (hu : PV w X u zs) :
    Calls Try.prog 3 #[u, .int .i64 y1, .int .i64 y2, .int .i64 y3] w fun e w' => e = .returned (.bool true) ∧ Below w.heap.size w w' :=
  topWithin_from zs hr y1 y2 y3 hy1 hy2 hy3 u w X hu (hide fun hl a_ n m w' ha hn hn4 hm hb => autoFrom_good zs hr u w X hu hl a_ n m w' ha hn hn4 hm hb)
end Go.Proofs.Ytheknfgkilckfaa

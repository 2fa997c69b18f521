/- The law on bindings made of raw numbers: it answers true. -/
import Derived.Test.YtmkomemjhfafnaaW100
import Derived.Test.YtmkomemjhfafnaaW71
import Derived.Test.YtmkomemjhfafnaaW88
namespace Go.Proofs.Ytmkomemjhfafnaa
open Go.RowKit
set_option linter.unusedSimpArgs false
set_option linter.unusedVariables false
set_option maxRecDepth 8000

set_option maxHeartbeats 400000 in
theorem substMade_any (zs : List Int) (hr : ∀ z ∈ zs, Rng z) (y y2 : Int) (hy : Rng y) (hy2 : Rng y2) (u : Value) (w : World) (X : Nat → Prop) (hu : PV w X u zs) :
    Calls Try.prog 5 #[u, .int .i64 y, .int .i64 y2] w fun e w' => e = .returned (.bool true) ∧ Below w.heap.size w w' := by
  have HU := hide hu
  obtain ⟨a, c, rfl, hlc, hu2⟩ := hu
  clear hu2
  by_cases h256 : 256 < zs.length
  · go_enter Try.func5, Try.ntmps5
    go_wp2_with fail
    go_ret
    exact ⟨rfl, Below.refl _ _⟩
  · go_enter Try.func5, Try.ntmps5
    go_wp2_with fail
    refine (pick_any _ 9 (by decide) (by decide) hy _).mono ?_
    rintro e w1 ⟨k1, rfl, hk1, rfl⟩
    go_wp2_with fail
    refine (bindsFrom_any 4 (by decide) (by decide) zs hr (by omega) k1 0 _ _ X HU.out (by omega) (by unfold top; split <;> omega)).mono ?_
    rintro e w2 ⟨v2, l2, rfl, hv2, _, _, hb2⟩
    have B2 := hide hb2
    have V2 := hide hv2
    clear hb2 hv2
    go_wp2_with fail
    refine (pick_any _ 9 (by decide) (by decide) hy2 _).mono ?_
    rintro e w3 ⟨k3, rfl, hk3, rfl⟩
    go_wp2_with fail
    refine (bindsFrom_any 4 (by decide) (by decide) zs hr (by omega) k3 40 _ _ X (HU.out.later B2.out) (by omega) (by unfold top; split <;> omega)).mono ?_
    rintro e w4 ⟨v4, l4, rfl, hv4, _, _, hb4⟩
    have B4 := hide (B2.out.trans (hb4.mono B2.out.size))
    have V24 := hide ((V2.out.later hb4).mono (Y := fun _ => True) fun _ _ _ => trivial)
    have V4 := hide (hv4.mono (Y := fun _ => True) fun _ _ _ => trivial)
    clear hb4 hv4
    go_wp2_with fail
    refine (termOf_any 4 (by decide) (by decide) zs hr (by omega) 12 80 _ _ X (HU.out.later B4.out) (by omega) (by unfold top; split <;> omega)).mono ?_
    rintro e w5 ⟨t5, a5, c5, rfl, hs5, _, hb5, _⟩
    have B5 := hide (B4.out.trans (hb5.mono B4.out.size))
    have V25 := hide (V24.out.later hb5)
    have V45 := hide (V4.out.later hb5)
    have S5 := hide (hs5.mono (Y := fun _ => True) fun _ _ _ => trivial)
    clear hb5 hs5
    go_wp2_with fail
    refine (substSays_any l2 t5 _ _ w5 (fun _ => True) V25.out ⟨_, _, rfl, S5.out⟩).mono ?_
    rintro e w6 ⟨rfl, hb6⟩
    have B6 := hide (B5.out.trans (hb6.mono B5.out.size))
    have V26 := hide (V25.out.later hb6)
    have V46 := hide (V45.out.later hb6)
    clear hb6
    go_wp2_with fail
    refine (substThen_any l2 l4 _ _ w6 (fun _ => True) V26.out V46.out).mono ?_
    rintro e w7 ⟨rfl, hb7⟩
    have B7 := hide (B6.out.trans (hb7.mono B6.out.size))
    have V27 := hide (V26.out.later hb7)
    have V47 := hide (V46.out.later hb7)
    clear hb7
    go_wp2_with fail
    refine (substThen_any l4 l2 _ _ w7 (fun _ => True) V47.out V27.out).mono ?_
    rintro e w8 ⟨rfl, hb8⟩
    have B8 := hide (B7.out.trans (hb8.mono B7.out.size))
    clear hb8
    go_wp2_with fail
    go_ret
    exact ⟨rfl, B8.out⟩
#print axioms substMade_any
end Go.Proofs.Ytmkomemjhfafnaa

/- Walks: UnifyMade. -/
import Derived.Test.YtmkomemjhfafnaaZBUnifyMadeOwn
import Derived.Test.YtmkomemjhfafnaaW114
namespace Go.Proofs.Ytmkomemjhfafnaa
open Go.RowKit
set_option linter.unusedSimpArgs false
set_option linter.unusedVariables false
set_option maxRecDepth 8000

set_option maxHeartbeats 1000000 in
theorem unifyMade_any (zs : List Int) (hr : ∀ z ∈ zs, Rng z) (y y2 : Int) (hy : Rng y) (hy2 : Rng y2) (u : Value) (w : World) (X : Nat → Prop) (hu : PV w X u zs) :
    Calls Try.prog 7 #[u, .int .i64 y, .int .i64 y2] w fun e w' => e = .returned (.bool true) ∧ Below w.heap.size w w' := by
  have HU := hide hu
  obtain ⟨a, c, rfl, hlc, hu2⟩ := hu
  clear hu2
  by_cases h256 : 256 < zs.length
  · go_enter Try.func7, Try.ntmps7
    go_wp2_with fail
    go_ret
    exact ⟨rfl, Below.refl _ _⟩
  · have PF : Hid (∀ (k1 k2 : Nat), k1 < 4 → k2 < 12 → Calls Try.prog 29 #[.slice a zs.length c, .int .i64 (k1 : Int), .int .i64 (1 + (k2 : Int)), .int .i64 4] w fun e w' => ∃ v ls, e = .returned v ∧ QV w' (fun _ => True) v ls ∧ Below w.heap.size w w') := fun k1 k2 h1 h2 => by
      have h := pairsFrom_any 4 (by decide) (by decide) zs hr (by omega) (1 + k2) k1 _ w X HU.out (by omega) (by omega)
      have e : ((1 + k2 : Nat) : Int) = 1 + (k2 : Int) := by omega
      rw [e] at h
      refine h.mono ?_
      rintro e w' ⟨v, ls, rfl, hv, _, _, hb⟩
      exact ⟨v, ls, rfl, hv.mono fun _ _ _ => trivial, hb⟩
    have PF2 : Hid (∀ (k1 k2 : Nat), k1 < 4 → k2 < 12 → Calls Try.prog 29 #[.slice a zs.length c, .int .i64 (k1 : Int), .int .i64 ((k2 : Int) + 1), .int .i64 4] w fun e w' => ∃ v ls, e = .returned v ∧ QV w' (fun _ => True) v ls ∧ Below w.heap.size w w') := fun k1 k2 h1 h2 => by
      have h := PF.out k1 k2 h1 h2
      rw [Int.add_comm] at h
      exact h
    go_enter Try.func7, Try.ntmps7
    go_wp2_with fail
    refine (pick_any _ 4 (by decide) (by decide) hy _).mono ?_
    rintro e w1 ⟨k1, rfl, hk1, rfl⟩
    go_wp2_with fail
    refine (pick_any _ 12 (by decide) (by decide) hy2 _).mono ?_
    rintro e w1 ⟨k2, rfl, hk2, rfl⟩
    go_wp2_with fail
    refine (by first | exact PF.out k1 k2 hk1 hk2 | exact PF2.out k1 k2 hk1 hk2 : Calls Try.prog 29 _ _ _).mono ?_
    rintro e w2 ⟨v2, ls, rfl, hv2, hb2⟩
    have B2 := hide hb2
    have V2 := hide hv2
    clear hb2 hv2
    go_wp2_with fail
    refine (unifySays_any ls _ w2 _ V2.out).mono ?_
    rintro e w3 ⟨rfl, hb3⟩
    have B3 := hide (B2.out.trans (hb3.mono B2.out.size))
    clear hb3
    go_wp2_with fail
    go_ret
    exact ⟨rfl, B3.out⟩
#print axioms unifyMade_any
end Go.Proofs.Ytmkomemjhfafnaa

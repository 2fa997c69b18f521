/- Walks: bindings that are the same; two answers that are bindings. -/
import Derived.Test.YtakmclheffbeaaaDoorZGeneralSaysOwn
import Derived.Test.YtakmclheffbeaaaDoorZBGeneralSaysOwn
import Derived.Test.YtakmclheffbeaaaDoorW54
namespace Go.Proofs.YtakmclheffbeaaaDoor
open Go.RowKit
set_option linter.unusedSimpArgs false
set_option linter.unusedVariables false
set_option maxRecDepth 8000

def SmbInv (ls : List Bd) (w : World) (v : Value) (wr : World) : Prop := ∃ k : Nat, v = .int .i64 (k : Int) ∧ k ≤ ls.length ∧ Below w.heap.size w wr

set_option maxHeartbeats 1000000 in
theorem sameBinds_any (ls : List Bd) (u v : Value) (w : World) (X Y : Nat → Prop) (hu : BV w X u ls) (hv : BV w Y v ls) :
    Calls Tryd.prog 27 #[u, v] w fun e w' => e = .returned (.bool true) ∧ Below w.heap.size w w' := by
  have HU := hide hu
  have HV := hide hv
  obtain ⟨a, c, rfl, hl, _⟩ := hu
  obtain ⟨a2, c2, rfl, hl2, _⟩ := hv
  go_enter Tryd.func27, Tryd.ntmps27
  go_wp2_with fail
  go_loopw [5] (fun v wr => SmbInv ls w v wr) (fun v wr => ls.length - (intOf v).toNat)
  case atStart => exact ⟨0, rfl, Nat.zero_le _, Below.refl _ _⟩
  case round =>
    obtain ⟨k, rfl, hk, hb⟩ := hrel
    have HB := hide hb
    by_cases hlt : k < ls.length
    · obtain ⟨b, o, a', c', rfl, d0, d1, d2, hs⟩ := (HU.out.later hb).get k hlt
      obtain ⟨b2, o2, a2', c2', rfl, e0, e1, e2, hs2⟩ := (HV.out.later hb).get k hlt
      have HX := hide hs
      have HX2 := hide hs2
      have HS0 := hide (And.intro d0 (And.intro d1 (And.intro d2 (And.intro e0 (And.intro e1 e2)))))
      clear hb hs hs2
      generalize ls[k] = d at *
      have hbb : (d.nm.toList == d.nm.toList) = true := by simp
      go_wp2_with fail
      go_region_held3 (fun w' => w'.cell? ⟨b, o + k * 3, none⟩ = some (.string d.nm) ∧ w'.cell? ⟨b, o + k * 3 + 1, none⟩ = some (.string d.t.name) ∧ w'.cell? ⟨b, o + k * 3 + 2, none⟩ = some (.slice a' d.t.args.length c') ∧ w'.cell? ⟨b2, o2 + k * 3, none⟩ = some (.string d.nm) ∧ w'.cell? ⟨b2, o2 + k * 3 + 1, none⟩ = some (.string d.t.name) ∧ w'.cell? ⟨b2, o2 + k * 3 + 2, none⟩ = some (.slice a2' d.t.args.length c2')) (first | exact HS0.out | exact hS1 | go_keep)
        ((go_at_call 26; refine (same_any d.t _ _ _ X Y (by exact ⟨_, _, rfl, HX.out.later (below_drewN (Below.refl _ _) 1)⟩) (by exact ⟨_, _, rfl, HX2.out.later (below_drewN (Below.refl _ _) 1)⟩)).mono ?_; rintro e w1 ⟨rfl, hb1⟩; have hS1 := same_cells (n := 1) hb1 HS0.out))
      have HB1 := hide ((below_drewN HB.out 1).trans (hb1.mono (by have := HB.out.size; simp; omega)))
      clear hb1
      go_wp2_with fail
      go_roundw
      case rel => exact ⟨k + 1, by go_num, by omega, HB1.out⟩
      case measure => simp [intOf]; omega
    · go_wp2_with fail
      go_ret
      exact ⟨rfl, HB.out⟩

theorem binds2_err (e : Int) (c : Nat) (v : Value) (w : World) (he : e ≠ 0) :
    Calls Tryd.prog 11 #[.slice none 0 c, .int .i64 e, v, .int .i64 e] w fun r w' => r = .returned (.bool true) ∧ w' = w := by
  have h1 : (e == 0) = false := by simpa using he
  clear he
  go_enter Tryd.func11, Tryd.ntmps11
  go_wp2_with fail
  go_ret
  exact ⟨rfl, rfl⟩
theorem binds2_ok (ls : List Bd) (u v : Value) (w : World) (X Y : Nat → Prop) (hu : BV w X u ls) (hv : BV w Y v ls) :
    Calls Tryd.prog 11 #[u, .int .i64 0, v, .int .i64 0] w fun r w' => r = .returned (.bool true) ∧ Below w.heap.size w w' := by
  have HC := hide (sameBinds_any ls u v w X Y hu hv)
  clear hu hv
  go_enter Tryd.func11, Tryd.ntmps11
  go_wp2_with (go_at_call 27; refine HC.out.mono ?_; rintro e w' ⟨rfl, hb⟩)
  go_ret
  exact ⟨rfl, hb⟩
end Go.Proofs.YtakmclheffbeaaaDoor

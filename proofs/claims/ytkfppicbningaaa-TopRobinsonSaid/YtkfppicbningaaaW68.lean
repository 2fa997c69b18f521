/- Walks: Kind. -/
import Derived.Test.YtkfppicbningaaaW66
import Derived.Test.YtkfppicbningaaaW67
namespace Go.Proofs.Ytkfppicbningaaa
open Go.RowKit
set_option linter.unusedSimpArgs false
set_option linter.unusedVariables false
set_option maxRecDepth 8000

set_option maxHeartbeats 1000000 in
theorem kind_any (ls : List Bd) (u : Value) (w : World) (X : Nat → Prop) (hu : BV w X u ls) :
    Calls Try.prog 22 #[u] w fun e w' => e = .returned (.tuple #[.bool (decide (bindsE ls = 0) && stB ls ls), .bool (decide (bindsE ls = 0) && namesB ls), .int .i64 (bindsE ls)]) ∧ Below w.heap.size w w' := by
  have HU := hide (hu.mono (Y := fun b => X b ∧ b < w.heap.size) fun b h1 h2 => ⟨h1, h2⟩)
  clear hu
  generalize hR : (.tuple #[.bool (decide (bindsE ls = 0) && stB ls ls), .bool (decide (bindsE ls = 0) && namesB ls), .int .i64 (bindsE ls)] : Value) = R
  have HR := hide hR
  clear hR
  go_enter Try.func22, Try.ntmps22
  go_wp2_with fail
  refine (scheck_any ls u w _ HU.out).mono ?_
  rintro e w1 ⟨rfl, hb1⟩
  have HB1 := hide hb1
  clear hb1
  by_cases h : bindsE ls = 0
  · have HO := hide (bindsE_once h)
    have hR1 : Hid (.tuple #[.bool (stB ls ls), .bool (namesB ls), .int .i64 0] = R) := by unfold Hid; rw [← HR.out, h]; simp
    rw [h]
    clear h
    go_wp2_with fail
    refine (doesStay_any ls HO.out u w1 _ (HU.out.later HB1.out)).mono ?_
    rintro e w2 ⟨rfl, hb2⟩
    have HB2 := hide (HB1.out.trans (hb2.mono HB1.out.size))
    clear hb2
    go_wp2_with fail
    refine (doesName_any ls u w2 _ (HU.out.later HB2.out)).mono ?_
    rintro e w3 ⟨rfl, hb3⟩
    have HB3 := hide (HB2.out.trans (hb3.mono HB2.out.size))
    clear hb3
    go_wp2_with fail
    refine bodyPost_ret (v := .tuple #[.bool (stB ls ls), .bool (namesB ls), .int .i64 0]) (by simp [results, Try.results22, go_sem]) rfl ?_
    exact ⟨by rw [← hR1.out], HB3.out⟩
  · have hR1 : Hid (.tuple #[.bool false, .bool false, .int .i64 (bindsE ls)] = R) := by unfold Hid; rw [← HR.out]; simp [h]
    have h' : (bindsE ls == 0) = false := by simpa using h
    clear h
    go_wp2_with fail
    refine bodyPost_ret (v := .tuple #[.bool false, .bool false, .int .i64 (bindsE ls)]) (by simp [results, Try.results22, go_sem]) rfl ?_
    exact ⟨by rw [← hR1.out], HB1.out⟩
#print axioms kind_any
end Go.Proofs.Ytkfppicbningaaa


/- Walks: whether a term may be, and where its steps end, as the program says. -/
import Derived.Test.YtnccaligfnmfgaaDoorCb12
import Derived.Test.YtnccaligfnmfgaaDoorCb6
import Derived.Test.YtnccaligfnmfgaaDoorCb3
namespace Go.Proofs.YtnccaligfnmfgaaDoor
open Go.RowKit
set_option linter.unusedSimpArgs false
set_option linter.unusedVariables false
set_option maxRecDepth 8000

set_option maxHeartbeats 1000000 in
theorem tooGreat_any (t : Tm) (v : Value) (w : World) (X : Nat → Prop) (hv : TV w X v t) :
    Calls Tryd.prog 31 #[v] w fun e w' => e = .returned (.bool (decide (2000 < sizeL [t]))) ∧ Below w.heap.size w w' := by
  obtain ⟨a, c, rfl, hs⟩ := hv
  have HV : Hid (TV w X (.agg #[.string t.name, .slice a t.args.length c]) t) := ⟨a, c, rfl, hs⟩
  clear hs
  go_enter Tryd.func31, Tryd.ntmps31
  go_wp2_with fail
  refine (count_any 2000 (by omega) (by omega) t _ _ X (HV.out.alloc _)).mono ?_
  rintro e w1 ⟨rfl, hb1⟩
  have HB2 : Hid (Below w.heap.size w w1) := ((Below.refl _ _).alloc (Nat.le_refl _) _).trans (hb1.mono (by simp))
  clear hb1
  by_cases hbig : 2000 < sizeL [t]
  · have e : min ((sizeL [t] : Int)) (2000 + 1) = 2001 := by omega
    have HD : Hid (decide (2000 < sizeL [t]) = true) := decide_eq_true hbig
    rw [e]
    go_wp2_with fail
    go_ret
    exact ⟨by rw [HD.out]; rfl, HB2.out⟩
  · have e : min ((sizeL [t] : Int)) (2000 + 1) = sizeL [t] := by omega
    have HD : Hid (decide (2000 < sizeL [t]) = false) := decide_eq_false hbig
    have e3 : decide ((sizeL [t] : Int) > 2000) = false := decide_eq_false (by omega)
    rw [e]
    go_wp2_with fail
    go_ret
    exact ⟨by rw [HD.out]; rfl, HB2.out⟩

end Go.Proofs.YtnccaligfnmfgaaDoor

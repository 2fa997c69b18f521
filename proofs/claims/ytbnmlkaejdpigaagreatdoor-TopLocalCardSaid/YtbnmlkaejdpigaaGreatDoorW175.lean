import Derived.Test.YtbnmlkaejdpigaaGreatDoorZDTopLocalOwn
import Derived.Test.YtbnmlkaejdpigaaGreatDoorW163
import Derived.Test.YtbnmlkaejdpigaaGreatDoorZTopLocalOwn
namespace Go.Proofs.YtbnmlkaejdpigaaGreatDoor
open Go.RowKit
set_option linter.unusedSimpArgs false
set_option linter.unusedVariables false
set_option maxRecDepth 8000
def allE (rs : List Pr) (l : List Tm) : Int := if rulesE rs = 0 then firstE l else rulesE rs
theorem checkAll_any (rs : List Pr) (l : List Tm) (u : Value) (a : Option Addr) (c : Nat) (w : World) (X : Nat → Prop) (hu : QV w X u rs) (hs : Sl w X a l) :
  Calls Tryz.prog 25 #[u, .slice a l.length c] w fun e w' => e = .returned (.int .i64 (allE rs l)) ∧ Below w.heap.size w w' := by
 have HU := hide hu
 have HS := hide hs
 obtain ⟨ua, uc, rfl, _⟩ := hu
 clear hs
 go_enter Tryz.func25, Tryz.ntmps25
 go_wp2_with fail
 refine (rCheck_any rs _ _ X HU.out).mono ?_
 rintro e w1 ⟨rfl, hb1⟩
 have HB1 := hide hb1
 clear hb1
 by_cases h0 : rulesE rs = 0
 ·have HP : Hid (allE rs l = firstE l) := if_pos h0
  rw [h0]
  clear h0
  go_wp2_with fail
  refine (checkTerms_any l a c _ X (HS.out.later HB1.out)).mono ?_
  rintro e w2 ⟨rfl, hb2⟩
  have HB2 := hide (HB1.out.trans (hb2.mono HB1.out.size))
  clear hb2
  go_wp2_with fail
  go_ret
  exact ⟨ret_int HP.out.symm, HB2.out⟩
 ·have HP : Hid (allE rs l = rulesE rs) := if_neg h0
  have h1 : (rulesE rs == 0) = false := by simpa using h0
  have h2 : (rulesE rs != 0) = true := by simpa using h0
  go_wp2_with fail
  go_ret
  exact ⟨ret_int HP.out.symm, HB1.out⟩
end Go.Proofs.YtbnmlkaejdpigaaGreatDoor

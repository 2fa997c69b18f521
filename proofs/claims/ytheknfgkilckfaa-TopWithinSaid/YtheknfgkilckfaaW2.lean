
/- Walks: letters, digits, names. -/
import Derived.Test.YtheknfgkilckfaaRows
import Derived.Test.YtheknfgkilckfaaTm
namespace Go.Proofs.Ytheknfgkilckfaa
open Go.RowKit
set_option linter.unusedSimpArgs false
set_option linter.unusedVariables false

def digB (n : Int) : Bool := decide (48 ≤ n) && decide (n ≤ 57)
def capB (n : Int) : Bool := decide (65 ≤ n) && decide (n ≤ 90)
def lowB (n : Int) : Bool := decide (97 ≤ n) && decide (n ≤ 122)
def letB (n : Int) : Bool := lowB n || capB n
def alnB (n : Int) : Bool := letB n || digB n

theorem ret_bool {a b : Bool} (h : a = b) : Ending.returned (.bool a) = .returned (.bool b) := by rw [h]

set_option maxHeartbeats 400000 in
theorem isDigit_any (n : Int) (w : World) : Calls Try.prog 46 #[.int .u8 n] w fun e w' => e = .returned (.bool (digB n)) ∧ w' = w := by
  go_enter Try.func46, Try.ntmps46
  go_wp2_with fail
  all_goals (go_ret; refine ⟨ret_bool ?_, rfl⟩; rw [Bool.eq_iff_iff]; simp [alnB, letB, lowB, capB, digB] <;> omega)

set_option maxHeartbeats 400000 in
theorem isCapital_any (n : Int) (w : World) : Calls Try.prog 44 #[.int .u8 n] w fun e w' => e = .returned (.bool (capB n)) ∧ w' = w := by
  go_enter Try.func44, Try.ntmps44
  go_wp2_with fail
  all_goals (go_ret; refine ⟨ret_bool ?_, rfl⟩; rw [Bool.eq_iff_iff]; simp [alnB, letB, lowB, capB, digB] <;> omega)

set_option maxHeartbeats 400000 in
theorem isLetter_any (n : Int) (w : World) : Calls Try.prog 47 #[.int .u8 n] w fun e w' => e = .returned (.bool (letB n)) ∧ w' = w := by
  go_enter Try.func47, Try.ntmps47
  go_wp2_with (go_at_call 44; refine (isCapital_any _ _).mono ?_; rintro e w' ⟨rfl, rfl⟩)
  all_goals (go_ret; refine ⟨ret_bool ?_, rfl⟩; rw [Bool.eq_iff_iff]; simp [alnB, letB, lowB, capB, digB] <;> omega)

end Go.Proofs.Ytheknfgkilckfaa

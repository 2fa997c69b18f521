/- Plain: the three texts of the program are read. -/
import Derived.Test.YtcdabjekppddjaaGreatDoorCs4
namespace Go.Proofs.YtcdabjekppddjaaGreatDoor
open Go.RowKit
set_option linter.unusedSimpArgs false
set_option linter.unusedVariables false
set_option maxRecDepth 20000

def iTx : ByteArray := ⟨#[92, 120, 48, 46, 120, 48]⟩
def kTx : ByteArray := ⟨#[92, 120, 48, 46, 92, 120, 49, 46, 120, 48]⟩
def sTx : ByteArray := ⟨#[92, 120, 48, 46, 92, 120, 49, 46, 92, 120, 50, 46, 120, 48, 32, 120, 50, 32, 40, 120, 49, 32, 120, 50, 41]⟩
theorem rd_iE : (lrdAll iTx []).err = 0 := by kernel_rfl
theorem rd_iT : (lrdAll iTx []).t = iL := by kernel_rfl
theorem rd_kE : (lrdAll kTx []).err = 0 := by kernel_rfl
theorem rd_kT : (lrdAll kTx []).t = kL := by kernel_rfl
theorem rd_sE : (lrdAll sTx []).err = 0 := by kernel_rfl
theorem rd_sT : (lrdAll sTx []).t = sL := by kernel_rfl
end Go.Proofs.YtcdabjekppddjaaGreatDoor

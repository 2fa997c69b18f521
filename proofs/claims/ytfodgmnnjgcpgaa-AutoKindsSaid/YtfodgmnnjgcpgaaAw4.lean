/- Plain: states counted from the other end, one more ahead of them: the same terms are accepted, by as many kinds. -/
import Derived.Test.YtfodgmnnjgcpgaaZIAutoKindsOwn
namespace Go.Proofs.Ytfodgmnnjgcpgaa
open Go.RowKit
set_option linter.unusedSimpArgs false
set_option linter.unusedVariables false
set_option maxRecDepth 8000

theorem mvsIn_of {A : Au} (hA : OkAu 8 40 A) {n : Nat} (hn : A.st = (n : Int)) : MvsIn n A.mv := fun m hm => by
  have o := hA.mv m hm
  rw [hn] at o
  exact ⟨o.to, fun z hz => (o.frm z hz).1⟩
theorem inL_acc {A : Au} (hA : OkAu 8 40 A) {n : Nat} (hn : A.st = (n : Int)) {x : Nat} {t : Tm} (h : SetIs x (endX A.mv n t)) : inL (setN A.la) x = accB A t := by
  have e2 : endT A t = endX A.mv n t := by
    unfold endT endX
    rw [hn, Int.toNat_natCast]
  unfold inL accB
  rw [e2, Bool.eq_iff_iff, decide_eq_true_eq]
  exact left_bit hA.la h fun s hs => rfl
end Go.Proofs.Ytfodgmnnjgcpgaa

import Derived.Test.YtbnmlkaejdpigaaGreatDoorRows
import Derived.ProofKit
namespace Go.Proofs.YtbnmlkaejdpigaaGreatDoor
open Go.ChangeShapes Go.WideShapes Go.ChangeAt Go.RowKit
set_option linter.unusedSimpArgs false
set_option linter.unusedVariables false
set_option maxRecDepth 8000
def RngI (z : Int) : Prop := -9223372036854775808 ≤ z ∧ z ≤ 9223372036854775807
theorem rng_wfI {n : Int} (h : (Lit.int .i64 n).wf = true) : RngI n := by
 have h1 : IntKind.i64.min = -9223372036854775808 := by decide
 have h2 : IntKind.i64.max = 9223372036854775807 := by decide
 simp only [Lit.wf, h1, h2, Bool.and_eq_true, decide_eq_true_eq] at h
 exact h
theorem open_int {H : Type} {enc : TypeId × Value → H} {w : World} {sp : Nat → Bool} {held : Bool} {r : Reach} {b0 : Nat} {v : Value} {d : DataW H} {p : List MemPlace} (hv : Value.okWide Tryz.prog w r b0 3 v) (h : DataW.Trod enc Tryz.prog w 0 sp held 3 v d p) : ∃ z, v = .int .i64 z ∧ RngI z := by
 obtain ⟨z, rfl⟩ := okWide_int Tryz.underlying3 hv
 obtain ⟨fuel, hf⟩ := h
 obtain ⟨z', e3, _, hwf⟩ := DataW.trod_int Tryz.underlying3 hf
 simp [Value.cells] at e3
 subst e3
 exact ⟨_, rfl, rng_wfI hwf⟩
end Go.Proofs.YtbnmlkaejdpigaaGreatDoor

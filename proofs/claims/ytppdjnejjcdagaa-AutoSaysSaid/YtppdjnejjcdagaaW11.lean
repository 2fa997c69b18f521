/- Walks: two answers that are terms. -/
import Derived.Test.YtppdjnejjcdagaaW10
namespace Go.Proofs.Ytppdjnejjcdagaa
open Go.RowKit
set_option linter.unusedSimpArgs false
set_option linter.unusedVariables false

set_option maxHeartbeats 1000000 in
theorem term2_ok (t : Tm) (v u : Value) (w : World) (X Y : Nat → Prop) (hv : TV w X v t) (hu : TV w Y u t) :
    Calls Try.prog 14 #[v, .int .i64 0, u, .int .i64 0] w fun e w' => e = .returned (.bool true) ∧ Below w.heap.size w w' := by
  obtain ⟨a, c, rfl, hs⟩ := hv
  obtain ⟨a2, c2, rfl, hs2⟩ := hu
  have HV := hide (show TV w X (.agg #[.string t.name, .slice a t.args.length c]) t from ⟨a, c, rfl, hs⟩)
  have HU := hide (show TV w Y (.agg #[.string t.name, .slice a2 t.args.length c2]) t from ⟨a2, c2, rfl, hs2⟩)
  clear hs hs2
  go_enter Try.func14, Try.ntmps14
  go_wp2_with fail
  refine (same_any t _ _ _ X Y (by exact HV.out.later (below2 _ _)) (by exact HU.out.later (below2 _ _))).mono ?_
  rintro e w1 ⟨rfl, hb1⟩
  go_wp2_with fail
  go_ret
  exact ⟨rfl, (below2 _ _).trans (hb1.mono (by simp; omega))⟩

set_option maxHeartbeats 1000000 in
theorem term2_err (f : Int) (u : Value) (s2 : ByteArray) (a2 : Option Addr) (n2 c2 : Nat) (hu : u = .agg #[.string s2, .slice a2 n2 c2]) (w : World) (hf : f ≠ 0) :
    Calls Try.prog 14 #[zeroT, .int .i64 f, u, .int .i64 f] w fun e w' => e = .returned (.bool true) ∧ Below w.heap.size w w' := by
  subst hu
  unfold zeroT
  have hf' : (f == 0) = false := by simpa using hf
  go_enter Try.func14, Try.ntmps14
  go_wp2_with fail
  go_ret
  exact ⟨rfl, below2 _ _⟩
end Go.Proofs.Ytppdjnejjcdagaa

import Derived.Test.YtdebiiodhkcnkaaGreatW96a
import Derived.Test.YtdebiiodhkcnkaaGreatW81
import Derived.Laws.EntriesVeiled
namespace Go.Proofs.YtdebiiodhkcnkaaGreat
open Go.RowKit
set_option linter.unusedSimpArgs false
set_option linter.unusedVariables false
set_option maxRecDepth 8000
set_option maxHeartbeats 400000 in
theorem mcheck_any (p t : Tm) (pv tv : Value) (w : World) (X : Nat → Prop) (hp : TV w X pv p) (ht : TV w X tv t) :
  Calls Tryz.prog 28 #[pv, tv] w fun e w' => e = .returned (.int .i64 (twoE p t)) ∧ Below w.heap.size w w' := by
 obtain ⟨a, c, rfl, hs⟩ := hp
 obtain ⟨a2, c2, rfl, hs2⟩ := ht
 have HS := hide hs
 have HS2 := hide hs2
 clear hs hs2
 have HB2 : Hid (Below w.heap.size w ((w.alloc (.cells #[.string p.name, .slice a p.args.length c] 26)).alloc (.cells #[.string t.name, .slice a2 t.args.length c2] 26))) := below2 _ _
 have PB : Hid (Blk ((w.alloc (.cells #[.string p.name, .slice a p.args.length c] 26)).alloc (.cells #[.string t.name, .slice a2 t.args.length c2] 26)) (w.heap.size + 1) #[.string t.name, .slice a2 t.args.length c2] 26) := by
  have h := Blk.new (w.alloc (.cells #[.string p.name, .slice a p.args.length c] 26)) #[.string t.name, .slice a2 t.args.length c2] 26
  unfold Hid
  simpa using h
 go_enter Tryz.func28, Tryz.ntmps28
 go_wp2_with fail
 generalize (w.alloc (.cells #[.string p.name, .slice a p.args.length c] 26)).alloc (.cells #[.string t.name, .slice a2 t.args.length c2] 26) = w2 at *
 refine (check_any p _ w2 X ⟨_, _, rfl, HS.out.later HB2.out⟩).mono ?_
 rintro e w3 ⟨rfl, hb3⟩
 have HB3 := hide (HB2.out.trans (hb3.mono HB2.out.size))
 have PB3 := hide (PB.out.below hb3 PB.out.lt)
 clear hb3
 by_cases h : mayE p = 0
 ·have HR : Hid (mayE t = twoE p t) := by unfold Hid twoE; rw [if_pos h]
  rw [h]
  clear h
  have b0 := PB3.out.c0
  have b1 := PB3.out.c1
  go_wp2_with fail
  refine (check_any t _ w3 X ⟨_, _, rfl, HS2.out.later HB3.out⟩).mono ?_
  rintro e w4 ⟨rfl, hb4⟩
  have HB4 := hide (HB3.out.trans (hb4.mono HB3.out.size))
  clear hb4
  go_wp2_with fail
  go_ret
  exact ⟨ret_int HR.out, HB4.out⟩
 ·have HR : Hid (mayE p = twoE p t) := by unfold Hid twoE; rw [if_neg h]
  have h2 : (mayE p == 0) = false := by simpa using h
  clear h
  go_wp2_with fail
  go_ret
  exact ⟨ret_int HR.out, HB3.out⟩
end Go.Proofs.YtdebiiodhkcnkaaGreat

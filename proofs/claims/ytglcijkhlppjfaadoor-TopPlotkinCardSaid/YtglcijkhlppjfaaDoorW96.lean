/- Walks: Fit, and what asks it. -/
import Derived.Test.YtglcijkhlppjfaaDoorW96a
import Derived.Test.YtglcijkhlppjfaaDoorW81
import Derived.Laws.EntriesVeiled
namespace Go.Proofs.YtglcijkhlppjfaaDoor
open Go.RowKit
set_option linter.unusedSimpArgs false
set_option linter.unusedVariables false
set_option maxRecDepth 8000

set_option maxHeartbeats 400000 in
theorem isCase_any (t p : Tm) (tv pv : Value) (w : World) (X : Nat → Prop) (ht : TV w X tv t) (hp : TV w X pv p) :
    Calls Tryd.prog 28 #[tv, pv] w fun e w' => e = .returned (.bool (mtB p t)) ∧ Below w.heap.size w w' := by
  obtain ⟨a, c, rfl, hs⟩ := ht
  obtain ⟨a2, c2, rfl, hs2⟩ := hp
  have HS := hide hs
  have HS2 := hide hs2
  clear hs hs2
  have HB2 : Hid (Below w.heap.size w ((w.alloc (.cells #[.string t.name, .slice a t.args.length c] 25)).alloc (.cells #[.string p.name, .slice a2 p.args.length c2] 25))) := below2 _ _
  go_enter Tryd.func28, Tryd.ntmps28
  go_wp2_with fail
  generalize (w.alloc (.cells #[.string t.name, .slice a t.args.length c] 25)).alloc (.cells #[.string p.name, .slice a2 p.args.length c2] 25) = w2 at *
  refine (fit_b p t _ _ w2 X ⟨_, _, rfl, HS2.out.later HB2.out⟩ ⟨_, _, rfl, HS.out.later HB2.out⟩).mono ?_
  rintro e w3 ⟨v3, rfl, hb3⟩
  have HB3 := hide (HB2.out.trans (hb3.mono HB2.out.size))
  clear hb3
  go_wp2_with fail
  go_ret
  exact ⟨rfl, HB3.out⟩

set_option maxHeartbeats 400000 in
theorem mcheck_any (p t : Tm) (pv tv : Value) (w : World) (X : Nat → Prop) (hp : TV w X pv p) (ht : TV w X tv t) :
    Calls Tryd.prog 26 #[pv, tv] w fun e w' => e = .returned (.int .i64 (twoE p t)) ∧ Below w.heap.size w w' := by
  obtain ⟨a, c, rfl, hs⟩ := hp
  obtain ⟨a2, c2, rfl, hs2⟩ := ht
  have HS := hide hs
  have HS2 := hide hs2
  clear hs hs2
  have HB2 : Hid (Below w.heap.size w ((w.alloc (.cells #[.string p.name, .slice a p.args.length c] 25)).alloc (.cells #[.string t.name, .slice a2 t.args.length c2] 25))) := below2 _ _
  have PB : Hid (Blk ((w.alloc (.cells #[.string p.name, .slice a p.args.length c] 25)).alloc (.cells #[.string t.name, .slice a2 t.args.length c2] 25)) (w.heap.size + 1) #[.string t.name, .slice a2 t.args.length c2] 25) := by
    have h := Blk.new (w.alloc (.cells #[.string p.name, .slice a p.args.length c] 25)) #[.string t.name, .slice a2 t.args.length c2] 25
    unfold Hid
    simpa using h
  go_enter Tryd.func26, Tryd.ntmps26
  go_wp2_with fail
  generalize (w.alloc (.cells #[.string p.name, .slice a p.args.length c] 25)).alloc (.cells #[.string t.name, .slice a2 t.args.length c2] 25) = w2 at *
  refine (check_any p _ w2 X ⟨_, _, rfl, HS.out.later HB2.out⟩).mono ?_
  rintro e w3 ⟨rfl, hb3⟩
  have HB3 := hide (HB2.out.trans (hb3.mono HB2.out.size))
  have PB3 := hide (PB.out.below hb3 PB.out.lt)
  clear hb3
  by_cases h : mayE p = 0
  · have HR : Hid (mayE t = twoE p t) := by unfold Hid twoE; rw [if_pos h]
    rw [h]
    clear h
    have b0 : w3.cell? ⟨w.heap.size + 1, 0, none⟩ = some (.string t.name) := PB3.out.cell 0
    have b1 : w3.cell? ⟨w.heap.size + 1, 1, none⟩ = some (.slice a2 t.args.length c2) := PB3.out.cell 1
    go_wp2_with fail
    refine (check_any t _ w3 X ⟨_, _, rfl, HS2.out.later HB3.out⟩).mono ?_
    rintro e w4 ⟨rfl, hb4⟩
    have HB4 := hide (HB3.out.trans (hb4.mono HB3.out.size))
    clear hb4
    go_wp2_with fail
    go_ret
    exact ⟨ret_int HR.out, HB4.out⟩
  · have HR : Hid (mayE p = twoE p t) := by unfold Hid twoE; rw [if_neg h]
    have h2 : (mayE p == 0) = false := by simpa using h
    clear h
    go_wp2_with fail
    go_ret
    exact ⟨ret_int HR.out, HB3.out⟩
end Go.Proofs.YtglcijkhlppjfaaDoor

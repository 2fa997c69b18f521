import Derived.Test.YthnncjgjmohinaaGreatDoorIf21
namespace Go.Proofs.YthnncjgjmohinaaGreatDoor
open Go.RowKit
set_option linter.unusedSimpArgs false
set_option linter.unusedVariables false
set_option maxRecDepth 8000
def haO (O : Int × Ty) (y : Ty) : Bool × Int := if tyE y = 0 then (if O.1 = 0 then (caB O.2 y, 0) else (false, if O.1 = 11 then 0 else O.1)) else (false, tyE y)
theorem haO_bad {O : Int × Ty} {y : Ty} (h : tyE y ≠ 0) : haO O y = (false, tyE y) := by simp [haO, h]
theorem haO_no {O : Int × Ty} {y : Ty} (h : tyE y = 0) (h2 : O.1 = 11) : haO O y = (false, 0) := by simp [haO, h, h2]
theorem haO_err {O : Int × Ty} {y : Ty} (h : tyE y = 0) (h2 : O.1 ≠ 11) (h3 : O.1 ≠ 0) : haO O y = (false, O.1) := by simp [haO, h, h2, h3]
theorem haO_ok {O : Int × Ty} {y : Ty} (h : tyE y = 0) (h3 : O.1 = 0) : haO O y = (caB O.2 y, 0) := by simp [haO, h, h3]
set_option maxHeartbeats 4000000 in
theorem has_any {B : Nat} {t : Lm} {y : Ty} (hz : prE t = 0 → sizeM [t] ≤ 60) (R : Int × List Bd) (g : Nat) (hR : prE t = 0 → uRun false g [] (tyT 86 t [] 0).2.1 = some R) (O : Int × Ty) (hO : prO t R = O) (hsh : O.1 = 0 → shY [O.2]) (v u : Value) (w : World) (X Y : Nat → Prop) (hv : MV w X v t) (hu : YV w Y u y) (hB : B ≤ w.heap.size) (hT : Tb B w) :
  Calls Tryz.prog 29 #[v, u] w fun e w' => e = .returned (.tuple #[.bool (haO O y).1, .int .i64 (haO O y).2]) ∧ Below w.heap.size w w' := by
 have HV := hide hv
 have HU := hide hu
 have HT := hide hT
 have HO := hide hO
 clear hO
 obtain ⟨a, c, rfl, -⟩ := hv
 obtain ⟨a', c', rfl, -⟩ := hu
 have B2 : Hid (Below w.heap.size w ((w.alloc (.cells #[.int .i64 t.kind, .int .i64 t.idx, .slice a t.subs.length c] 25)).alloc (.cells #[.int .i64 y.base, .slice a' y.subs.length c'] 30))) := ((Below.refl _ _).alloc (Nat.le_refl _) _).alloc (by simp) _
 have A2 : Hid (Blk ((w.alloc (.cells #[.int .i64 t.kind, .int .i64 t.idx, .slice a t.subs.length c] 25)).alloc (.cells #[.int .i64 y.base, .slice a' y.subs.length c'] 30)) w.heap.size #[.int .i64 t.kind, .int .i64 t.idx, .slice a t.subs.length c] 25) := (Blk.new _ _ _).alloc _
 have C2 : Hid (Blk ((w.alloc (.cells #[.int .i64 t.kind, .int .i64 t.idx, .slice a t.subs.length c] 25)).alloc (.cells #[.int .i64 y.base, .slice a' y.subs.length c'] 30)) (w.heap.size + 1) #[.int .i64 y.base, .slice a' y.subs.length c'] 30) := by have h := Blk.new (w.alloc (.cells #[.int .i64 t.kind, .int .i64 t.idx, .slice a t.subs.length c] 25)) #[.int .i64 y.base, .slice a' y.subs.length c'] 30; rw [World.size_alloc] at h; exact h
 go_enter Tryz.func29, Tryz.ntmps29
 go_upto_region 1 with fail
 generalize ((w.alloc (.cells #[.int .i64 t.kind, .int .i64 t.idx, .slice a t.subs.length c] 25)).alloc (.cells #[.int .i64 y.base, .slice a' y.subs.length c'] 30)) = w2 at *
 have s0 := C2.out.c0
 have s1 := C2.out.c1
 go_wp2_with fail
 refine (tyCheck_any y _ w2 Y (HU.out.later B2.out)).mono ?_
 rintro e w3 ⟨rfl, hb3⟩
 have B3 := hide (B2.out.trans (hb3.mono B2.out.size))
 have A3 := hide (A2.out.below hb3 A2.out.lt)
 have C3 := hide (C2.out.below hb3 C2.out.lt)
 clear hb3 s0 s1
 by_cases hy : tyE y = 0
 ·have HY := hide hy
  rw [hy]
  clear hy
  have r0 := A3.out.c0
  have r1 := A3.out.c1
  have r2 := A3.out.c2
  go_wp2_with fail
  refine (principal_any hz R g hR _ w3 X (HV.out.later B3.out) (Nat.le_trans hB B3.out.size) (HT.out.on (B3.out.mono hB))).mono ?_
  rw [HO.out]
  rintro e w4 ⟨a4, c4, rfl, hs4, hb4⟩
  have B4 := hide (B3.out.trans (hb4.mono B3.out.size))
  have C4 := hide (C3.out.below hb4 C3.out.lt)
  have S4 := hide hs4
  clear hb4 hs4 r0 r1 r2
  go_upto_region 5 with fail
  have B5 : Hid (Below w4.heap.size w4 (w4.alloc (.cells #[.int .i64 O.2.base, .slice a4 O.2.subs.length c4] 30))) := (Below.refl _ _).alloc (Nat.le_refl _) _
  have K5 : Hid (Blk (w4.alloc (.cells #[.int .i64 O.2.base, .slice a4 O.2.subs.length c4] 30)) w4.heap.size #[.int .i64 O.2.base, .slice a4 O.2.subs.length c4] 30) := Blk.new _ _ _
  generalize w4.alloc (.cells #[.int .i64 O.2.base, .slice a4 O.2.subs.length c4] 30) = w5 at *
  by_cases h11 : O.1 = 11
  ·have HH := hide (haO_no HY.out h11)
   rw [h11]
   clear h11
   go_wp2_with fail
   go_ret2
   exact ⟨by rw [HH.out]; rfl, B4.out.trans (B5.out.mono B4.out.size)⟩
  ·by_cases h0 : O.1 = 0
   ·have HH := hide (haO_ok HY.out h0)
    have HSH := hide (hsh h0)
    rw [h0]
    clear h0 h11
    have C5 := hide (C4.out.below B5.out C4.out.lt)
    have r0 := K5.out.c0
    have r1 := K5.out.c1
    have s0 := C5.out.c0
    have s1 := C5.out.c1
    go_wp2_with fail
    refine (isCase_any O.2 y _ _ w5 _ Y HSH.out ⟨a4, c4, rfl, S4.out.later B5.out⟩ (HU.out.later (B4.out.trans (B5.out.mono B4.out.size)))).mono ?_
    rintro e w6 ⟨rfl, hb6⟩
    have B6 := hide ((B4.out.trans (B5.out.mono B4.out.size)).trans (hb6.mono (B4.out.trans (B5.out.mono B4.out.size)).size))
    clear hb6 r0 r1 s0 s1
    go_wp2_with fail
    go_ret2
    exact ⟨by rw [HH.out]; rfl, B6.out⟩
   ·have HH := hide (haO_err HY.out h11 h0)
    have hb1 : (O.1 == 11) = false := beq_eq_false_iff_ne.2 h11
    have hb2 : (O.1 == 0) = false := beq_eq_false_iff_ne.2 h0
    clear h0 h11
    go_wp2_with fail
    go_ret2
    exact ⟨by rw [HH.out]; rfl, B4.out.trans (B5.out.mono B4.out.size)⟩
 ·have HH := hide (haO_bad (O := O) hy)
  have hb : (tyE y == 0) = false := beq_eq_false_iff_ne.2 hy
  clear hy
  go_wp2_with fail
  go_ret2
  exact ⟨by rw [HH.out]; rfl, B3.out⟩
end Go.Proofs.YthnncjgjmohinaaGreatDoor

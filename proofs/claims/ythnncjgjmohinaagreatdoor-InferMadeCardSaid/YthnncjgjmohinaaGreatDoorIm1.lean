import Derived.Test.YthnncjgjmohinaaGreatDoorIf23
import Derived.Test.YthnncjgjmohinaaGreatDoorLf1y
import Derived.Test.YthnncjgjmohinaaGreatDoorTf1
namespace Go.Proofs.YthnncjgjmohinaaGreatDoor
open Go.RowKit
set_option linter.unusedSimpArgs false
set_option linter.unusedVariables false
set_option maxRecDepth 8000
set_option maxHeartbeats 8000000 in
theorem inferMade_any {B : Nat} (zs : List Int) (hr : ∀ z ∈ zs, Rng z) (y1 : Int) (hy1 : Rng y1) (y2 : Int) (hy2 : Rng y2) (u : Value) (w : World) (X : Nat → Prop) (hu : PV w X u zs) (hB : B ≤ w.heap.size) (hT : Tb B w) :
  Calls Tryz.prog 3 #[u, .int .i64 y1, .int .i64 y2] w fun e w' => e = .returned (.bool true) ∧ Below w.heap.size w w' := by
 have HU := hide hu
 have HT := hide hT
 obtain ⟨au, cu, rfl, hlc, hu2⟩ := hu
 clear hu2 hT
 by_cases h256 : 256 < zs.length
 ·go_enter Tryz.func3, Tryz.ntmps3
  go_wp2_with fail
  go_ret
  exact ⟨rfl, Below.refl _ _⟩
 go_enter Tryz.func3, Tryz.ntmps3
 go_wp2_with fail
 refine (pick_any _ 20 (by decide) (by decide) hy1 _).mono ?_
 rintro e w2 ⟨m, rfl, hm, hw2⟩
 rw [hw2]
 clear hw2 w2
 have CL := lamOfRawY_any 0 (by omega) zs (.slice au zs.length cu) hr (by omega) (2 + m) (by omega) (by omega) w X HU.out
 have em : ((2 + m : Nat) : Int) = 2 + (m : Int) := by omega
 rw [em] at CL
 have HCL := hide CL
 clear CL em
 go_wp2_with fail
 refine HCL.out.mono ?_
 rintro e w3 ⟨t, a, c, rfl, hs3, hb3, he3, hz3, hc3⟩
 have HE := hide he3
 have HC := hide hc3
 have HZ : Hid (sizeM [t] ≤ 60) := by
  have h1 : tpY (2 + m) ≤ 60 := by unfold tpY; split <;> omega
  exact Nat.le_trans hz3 h1
 have O4 : Hid (Below w3.heap.size w3 (w3.alloc (.cells #[.int .i64 t.kind, .int .i64 t.idx, .slice a t.subs.length c] 25))) := (Below.refl _ _).alloc (Nat.le_refl _) _
 have B4 : Hid (Below w.heap.size w (w3.alloc (.cells #[.int .i64 t.kind, .int .i64 t.idx, .slice a t.subs.length c] 25))) := hb3.trans (O4.out.mono hb3.size)
 have A4 : Hid (Blk (w3.alloc (.cells #[.int .i64 t.kind, .int .i64 t.idx, .slice a t.subs.length c] 25)) w3.heap.size #[.int .i64 t.kind, .int .i64 t.idx, .slice a t.subs.length c] 25) := Blk.new _ _ _
 have S4 : Hid (SlM (w3.alloc (.cells #[.int .i64 t.kind, .int .i64 t.idx, .slice a t.subs.length c] 25)) (fun _ => True) a t.subs) := (hs3.later O4.out).mono fun _ _ _ => trivial
 clear he3 hc3 hz3 hs3 hb3 O4 hm HCL
 go_upto_region 4 with fail
 generalize w3.heap.size = PX at *
 generalize w3.alloc (.cells #[.int .i64 t.kind, .int .i64 t.idx, .slice a t.subs.length c] 25) = w4 at *
 go_wp2_with fail
 refine (pick_any _ 9 (by decide) (by decide) hy2 _).mono ?_
 rintro e w5' ⟨m2, rfl, hm2, hw5⟩
 rw [hw5]
 clear hw5 w5'
 go_wp2_with fail
 refine (typeFrom_at zs _ hr (by omega) (m2 + 1) m2 60 (Nat.lt_succ_self _) (by omega) w4 X (HU.out.later B4.out)).mono ?_
 rintro e w5 ⟨y, k, a', c', rfl, -, -, hs5, hb5, -, -⟩
 have O6 : Hid (Below w5.heap.size w5 (w5.alloc (.cells #[.int .i64 y.base, .slice a' y.subs.length c'] 30))) := (Below.refl _ _).alloc (Nat.le_refl _) _
 have N6 : Hid (Below w4.heap.size w4 (w5.alloc (.cells #[.int .i64 y.base, .slice a' y.subs.length c'] 30))) := hb5.trans (O6.out.mono hb5.size)
 have B6 := hide (B4.out.trans (N6.out.mono B4.out.size))
 have A6 := hide (A4.out.below N6.out A4.out.lt)
 have S6 := hide (S4.out.later N6.out)
 have C6 : Hid (Blk (w5.alloc (.cells #[.int .i64 y.base, .slice a' y.subs.length c'] 30)) w5.heap.size #[.int .i64 y.base, .slice a' y.subs.length c'] 30) := Blk.new _ _ _
 have Y6 := hide ((hs5.later O6.out).mono (Y := fun _ => True) fun _ _ _ => trivial)
 clear hs5 hb5 O6 N6 A4 S4 B4
 go_upto_region 5 with fail
 generalize w5.heap.size = PY at *
 generalize w5.alloc (.cells #[.int .i64 y.base, .slice a' y.subs.length c'] 30) = w6 at *
 obtain ⟨g, R, R', hRd, hRp, hag, hsh⟩ := infer_agree HE.out HC.out HZ.out
 obtain ⟨O, hO⟩ : ∃ O, O = outY R' (tyT 84 t [] 0).1 := ⟨_, rfl⟩
 have HO := hide hO.symm
 have HRD := hide hRd
 clear hRd hRp hag hsh hO
 have r0 := A6.out.c0
 have r1 := A6.out.c1
 have r2 := A6.out.c2
 go_wp2_with fail
 refine (prinR_any HE.out HC.out HZ.out R' g HRD.out _ w6 (fun _ => True) ⟨a, c, rfl, S6.out⟩).mono ?_
 rw [HO.out]
 rintro e w7 ⟨ap, cp, rfl, hs7, hb7⟩
 have O8 : Hid (Below w7.heap.size w7 (w7.alloc (.cells #[.int .i64 O.2.base, .slice ap O.2.subs.length cp] 30))) := (Below.refl _ _).alloc (Nat.le_refl _) _
 have N8 : Hid (Below w6.heap.size w6 (w7.alloc (.cells #[.int .i64 O.2.base, .slice ap O.2.subs.length cp] 30))) := hb7.trans (O8.out.mono hb7.size)
 have B8 := hide (B6.out.trans (N8.out.mono B6.out.size))
 have A8 := hide (A6.out.below N8.out A6.out.lt)
 have S8 := hide (S6.out.later N8.out)
 have C8 := hide (C6.out.below N8.out C6.out.lt)
 have Y8 := hide (Y6.out.later N8.out)
 have P8 : Hid (Blk (w7.alloc (.cells #[.int .i64 O.2.base, .slice ap O.2.subs.length cp] 30)) w7.heap.size #[.int .i64 O.2.base, .slice ap O.2.subs.length cp] 30) := Blk.new _ _ _
 have Q8 := hide ((hs7.later O8.out).mono (Y := fun _ => True) fun _ _ _ => trivial)
 clear hs7 hb7 O8 N8 A6 S6 B6 C6 Y6 r0 r1 r2
 go_upto_region 6 with fail
 generalize w7.heap.size = PP at *
 generalize w7.alloc (.cells #[.int .i64 O.2.base, .slice ap O.2.subs.length cp] 30) = w8 at *
 have r0 := A8.out.c0
 have r1 := A8.out.c1
 have r2 := A8.out.c2
 have s0 := C8.out.c0
 have s1 := C8.out.c1
 go_wp2_with fail
 refine (inferSays_any (B := B) t y _ _ w8 (fun _ => True) (fun _ => True) ⟨a, c, rfl, S8.out⟩ ⟨a', c', rfl, Y8.out⟩ (Nat.le_trans hB B8.out.size) (HT.out.on (B8.out.mono hB))).mono ?_
 rintro e w9 ⟨rfl, hb9⟩
 have B9 := hide (B8.out.trans (hb9.mono B8.out.size))
 have A9 := hide (A8.out.below hb9 A8.out.lt)
 have P9 := hide (P8.out.below hb9 P8.out.lt)
 have S9 := hide (S8.out.later hb9)
 have Q9 := hide (Q8.out.later hb9)
 clear hb9 A8 S8 B8 C8 Y8 P8 Q8 r0 r1 r2 s0 s1
 by_cases h0 : O.1 = 0
 ·rw [h0]
  clear h0
  have p0 := P9.out.c0
  have p1 := P9.out.c1
  go_wp2_with fail
  refine (tySize_any O.2 _ 100 w9 (fun _ => True) ⟨ap, cp, rfl, Q9.out⟩ (by omega) (by omega)).mono ?_
  rintro e w10 ⟨rfl, hb10⟩
  have B10 := hide (B9.out.trans (hb10.mono B9.out.size))
  have A10 := hide (A9.out.below hb10 A9.out.lt)
  have P10 := hide (P9.out.below hb10 P9.out.lt)
  have S10 := hide (S9.out.later hb10)
  have Q10 := hide (Q9.out.later hb10)
  clear hb10 p0 p1
  by_cases hz : 100 < sizeY [O.2]
  ·have en : min (sizeY [O.2] : Int) (100 + 1) = 101 := by omega
   rw [en]
   clear en hz
   go_wp2_with fail
   go_ret
   exact ⟨rfl, B10.out⟩
  ·have en : min (sizeY [O.2] : Int) (100 + 1) = (sizeY [O.2] : Int) := by omega
   rw [en]
   have hz' : ¬ (100 : Int) < (sizeY [O.2] : Int) := by omega
   clear en hz
   obtain ⟨n, hn⟩ : ∃ n : Nat, n = sizeY [O.2] := ⟨_, rfl⟩
   rw [← hn] at hz' ⊢
   clear hn
   have r0 := A10.out.c0
   have r1 := A10.out.c1
   have r2 := A10.out.c2
   have p0 := P10.out.c0
   have p1 := P10.out.c1
   go_wp2_with fail
   refine (inferSays_any (B := B) t O.2 _ _ w10 (fun _ => True) (fun _ => True) ⟨a, c, rfl, S10.out⟩ ⟨ap, cp, rfl, Q10.out⟩ (Nat.le_trans hB B10.out.size) (HT.out.on (B10.out.mono hB))).mono ?_
   rintro e w11 ⟨rfl, hb11⟩
   have B11 := hide (B10.out.trans (hb11.mono B10.out.size))
   clear hb11 r0 r1 r2 p0 p1
   go_wp2_with fail
   go_ret
   exact ⟨rfl, B11.out⟩
 ·have hb0 : (O.1 == 0) = false := beq_eq_false_iff_ne.2 h0
  have hn0 : (O.1 != 0) = true := by simp [bne, hb0]
  go_wp2_with fail
  go_ret
  exact ⟨rfl, B9.out⟩
end Go.Proofs.YthnncjgjmohinaaGreatDoor

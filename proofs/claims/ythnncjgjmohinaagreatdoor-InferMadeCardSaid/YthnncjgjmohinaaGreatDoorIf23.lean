import Derived.Test.YthnncjgjmohinaaGreatDoorIf22
import Derived.Test.YthnncjgjmohinaaGreatDoorIf15
namespace Go.Proofs.YthnncjgjmohinaaGreatDoor
open Go.RowKit
set_option linter.unusedSimpArgs false
set_option linter.unusedVariables false
set_option maxRecDepth 8000
theorem outY_no {R : Int × List Bd} {x : Tm} (h : (outY R x).1 ≠ 0) : (outY R x).2 = noY := by
 unfold outY at h ⊢
 split
 ·rfl
 split
 ·rfl
 split
 ·rfl
 ·rename_i h1 h2 h3
  rw [if_neg h1, if_neg h2, if_neg h3] at h
  exact absurd rfl h
set_option maxHeartbeats 8000000 in
theorem inferSays_any {B : Nat} (t : Lm) (y : Ty) (v u : Value) (w : World) (X Y : Nat → Prop) (hv : MV w X v t) (hu : YV w Y u y) (hB : B ≤ w.heap.size) (hT : Tb B w) :
  Calls Tryz.prog 8 #[v, u] w fun e w' => e = .returned (.bool true) ∧ Below w.heap.size w w' := by
 have HV := hide hv
 have HU := hide hu
 have HT := hide hT
 clear hT
 obtain ⟨a, c, rfl, -⟩ := hv
 obtain ⟨a', c', rfl, -⟩ := hu
 have B2 : Hid (Below w.heap.size w ((w.alloc (.cells #[.int .i64 t.kind, .int .i64 t.idx, .slice a t.subs.length c] 25)).alloc (.cells #[.int .i64 y.base, .slice a' y.subs.length c'] 30))) := ((Below.refl _ _).alloc (Nat.le_refl _) _).alloc (by simp) _
 have A2 : Hid (Blk ((w.alloc (.cells #[.int .i64 t.kind, .int .i64 t.idx, .slice a t.subs.length c] 25)).alloc (.cells #[.int .i64 y.base, .slice a' y.subs.length c'] 30)) w.heap.size #[.int .i64 t.kind, .int .i64 t.idx, .slice a t.subs.length c] 25) := (Blk.new _ _ _).alloc _
 have C2 : Hid (Blk ((w.alloc (.cells #[.int .i64 t.kind, .int .i64 t.idx, .slice a t.subs.length c] 25)).alloc (.cells #[.int .i64 y.base, .slice a' y.subs.length c'] 30)) (w.heap.size + 1) #[.int .i64 y.base, .slice a' y.subs.length c'] 30) := by have h := Blk.new (w.alloc (.cells #[.int .i64 t.kind, .int .i64 t.idx, .slice a t.subs.length c] 25)) #[.int .i64 y.base, .slice a' y.subs.length c'] 30; rw [World.size_alloc] at h; exact h
 go_enter Tryz.func8, Tryz.ntmps8
 go_upto_region 1 with fail
 generalize ((w.alloc (.cells #[.int .i64 t.kind, .int .i64 t.idx, .slice a t.subs.length c] 25)).alloc (.cells #[.int .i64 y.base, .slice a' y.subs.length c'] 30)) = w2 at *
 have r0 := A2.out.c0
 have r1 := A2.out.c1
 have r2 := A2.out.c2
 have s0 := C2.out.c0
 have s1 := C2.out.c1
 go_wp2_with fail
 refine (hugeLam_any t _ w2 X (HV.out.later B2.out)).mono ?_
 rintro e w3 ⟨rfl, hb3⟩
 have B3 := hide (B2.out.trans (hb3.mono B2.out.size))
 have A3 := hide (A2.out.below hb3 A2.out.lt)
 have C3 := hide (C2.out.below hb3 C2.out.lt)
 clear hb3 r0 r1 r2 s0 s1
 cases hd : decide (3000 < sizeM [t]) with
 | true =>
  go_wp2_with fail
  go_ret
  exact ⟨rfl, B3.out⟩
 | false =>
  have r0 := A3.out.c0
  have r1 := A3.out.c1
  have r2 := A3.out.c2
  have s0 := C3.out.c0
  have s1 := C3.out.c1
  go_wp2_with fail
  refine (hugeTy_any y _ w3 Y (HU.out.later B3.out)).mono ?_
  rintro e w4 ⟨rfl, hb4⟩
  have B4 := hide (B3.out.trans (hb4.mono B3.out.size))
  have A4 := hide (A3.out.below hb4 A3.out.lt)
  have C4 := hide (C3.out.below hb4 C3.out.lt)
  clear hb4 r0 r1 r2 s0 s1
  cases hd2 : decide (3000 < sizeY [y]) with
  | true =>
   go_wp2_with fail
   go_ret
   exact ⟨rfl, B4.out⟩
  | false =>
   have r0 := A4.out.c0
   have r1 := A4.out.c1
   have r2 := A4.out.c2
   have s0 := C4.out.c0
   have s1 := C4.out.c1
   go_wp2_with fail
   refine (tyMay_any y _ w4 Y (HU.out.later B4.out)).mono ?_
   rintro e w5 ⟨rfl, hb5⟩
   have B5 := hide (B4.out.trans (hb5.mono B4.out.size))
   have A5 := hide (A4.out.below hb5 A4.out.lt)
   have C5 := hide (C4.out.below hb5 C4.out.lt)
   clear hb5 r0 r1 r2 s0 s1
   by_cases hy : tyE y = 0
   ·rw [hy]
    have HY := hide hy
    have HE : Hid (errY [y] = 0 ∧ sizeY [y] ≤ 200) := by
     unfold tyE at hy
     split at hy
     ·exact absurd hy (by decide)
     ·exact ⟨hy, by omega⟩
    clear hy
    have r0 := A5.out.c0
    have r1 := A5.out.c1
    have r2 := A5.out.c2
    have s0 := C5.out.c0
    have s1 := C5.out.c1
    go_wp2_with fail
    refine (tyText_any y _ w5 Y HE.out.1 (by have := HE.out.2; omega) (HU.out.later B5.out)).mono ?_
    rintro e w6 ⟨rfl, hb6⟩
    have B6 := hide (B5.out.trans (hb6.mono B5.out.size))
    have A6 := hide (A5.out.below hb6 A5.out.lt)
    have C6 := hide (C5.out.below hb6 C5.out.lt)
    clear hb6 r0 r1 r2 s0 s1
    obtain ⟨tx, htx⟩ : ∃ tx : ByteArray, tx = ⟨(txY y).toArray⟩ := ⟨_, rfl⟩
    rw [← htx]
    have r0 := A6.out.c0
    have r1 := A6.out.c1
    have r2 := A6.out.c2
    have s0 := C6.out.c0
    have s1 := C6.out.c1
    go_wp2_with fail
    refine (iText_any y _ w6 Y (HU.out.later B6.out) (Nat.le_trans hB B6.out.size) (HT.out.on (B6.out.mono hB))).mono ?_
    rw [if_pos HY.out, HY.out, ← htx]
    clear htx
    rintro e w7 ⟨rfl, hb7⟩
    have B7 := hide (B6.out.trans (hb7.mono B6.out.size))
    have A7 := hide (A6.out.below hb7 A6.out.lt)
    have C7 := hide (C6.out.below hb7 C6.out.lt)
    clear hb7 r0 r1 r2 s0 s1
    have r0 := A7.out.c0
    have r1 := A7.out.c1
    have r2 := A7.out.c2
    have s0 := C7.out.c0
    have s1 := C7.out.c1
    go_wp2_with fail
    refine (tyCheck_any y _ w7 Y (HU.out.later B7.out)).mono ?_
    rw [HY.out]
    rintro e w8 ⟨rfl, hb8⟩
    have B8 := hide (B7.out.trans (hb8.mono B7.out.size))
    have A8 := hide (A7.out.below hb8 A7.out.lt)
    have C8 := hide (C7.out.below hb8 C7.out.lt)
    clear hb8 r0 r1 r2 s0 s1
    have r0 := A8.out.c0
    have r1 := A8.out.c1
    have r2 := A8.out.c2
    have s0 := C8.out.c0
    have s1 := C8.out.c1
    go_wp2_with fail
    refine (lamMay_any t _ 0 0 w8 X (HV.out.later B8.out)).mono ?_
    rintro e w9 ⟨rfl, hb9⟩
    have B9 := hide (B8.out.trans (hb9.mono B8.out.size))
    have A9 := hide (A8.out.below hb9 A8.out.lt)
    have C9 := hide (C8.out.below hb9 C8.out.lt)
    clear hb9 r0 r1 r2 s0 s1
    by_cases hl : lamE 0 0 t = 0
    ·have HL := hide hl
     rw [hl]
     clear hl
     have r0 := A9.out.c0
     have r1 := A9.out.c1
     have r2 := A9.out.c2
     have s0 := C9.out.c0
     have s1 := C9.out.c1
     go_wp2_with fail
     refine (hasConst_any t _ w9 X (HV.out.later B9.out)).mono ?_
     rintro e w10 ⟨rfl, hb10⟩
     have B10 := hide (B9.out.trans (hb10.mono B9.out.size))
     have A10 := hide (A9.out.below hb10 A9.out.lt)
     have C10 := hide (C9.out.below hb10 C9.out.lt)
     clear hb10 r0 r1 r2 s0 s1
     cases hc : csL [t] with
     | true =>
      have HPE : Hid (prE t = 15) := by unfold Hid prE; rw [if_pos HL.out, if_pos hc]
      clear hc
      have HPO : Hid (prO t (0, []) = (15, noY)) := by unfold Hid prO; rw [if_neg (by rw [HPE.out]; decide), HPE.out]
      go_upto_region 18 with fail
      have N11 : Hid (Below w10.heap.size w10 (w10.alloc (.cells #[.int .i64 0, .slice none 0 0] 30))) := (Below.refl _ _).alloc (Nat.le_refl _) _
      have D11 : Hid (Blk (w10.alloc (.cells #[.int .i64 0, .slice none 0 0] 30)) w10.heap.size #[.int .i64 0, .slice none 0 0] 30) := Blk.new _ _ _
      have B11 := hide (B10.out.trans (N11.out.mono B10.out.size))
      have A11 := hide (A10.out.below N11.out A10.out.lt)
      have C11 := hide (C10.out.below N11.out C10.out.lt)
      generalize w10.alloc (.cells #[.int .i64 0, .slice none 0 0] 30) = w11 at *
      have r0 := A11.out.c0
      have r1 := A11.out.c1
      have r2 := A11.out.c2
      have s0 := C11.out.c0
      have s1 := C11.out.c1
      go_wp2_with fail
      refine (principal_any (fun h => absurd (HPE.out.symm.trans h) (by decide)) (0, []) 0 (fun h => absurd (HPE.out.symm.trans h) (by decide)) _ w11 X (HV.out.later B11.out) (Nat.le_trans hB B11.out.size) (HT.out.on (B11.out.mono hB))).mono ?_
      rw [HPO.out]
      rintro e w12 ⟨ap, cp, rfl, hsp, hb12⟩
      have B12 := hide (B11.out.trans (hb12.mono B11.out.size))
      have A12 := hide (A11.out.below hb12 A11.out.lt)
      have C12 := hide (C11.out.below hb12 C11.out.lt)
      have SP12 := hide hsp
      clear hb12 hsp r0 r1 r2 s0 s1
      go_upto_region 19 with fail
      have N13 : Hid (Below w12.heap.size w12 (w12.alloc (.cells #[.int .i64 noY.base, .slice ap noY.subs.length cp] 30))) := (Below.refl _ _).alloc (Nat.le_refl _) _
      have P13 : Hid (Blk (w12.alloc (.cells #[.int .i64 noY.base, .slice ap noY.subs.length cp] 30)) w12.heap.size #[.int .i64 noY.base, .slice ap noY.subs.length cp] 30) := Blk.new _ _ _
      have B13 := hide (B12.out.trans (N13.out.mono B12.out.size))
      have A13 := hide (A12.out.below N13.out A12.out.lt)
      have C13 := hide (C12.out.below N13.out C12.out.lt)
      generalize w12.alloc (.cells #[.int .i64 noY.base, .slice ap noY.subs.length cp] 30) = w13 at *
      have p0 := P13.out.c0
      have p1 : w13.cell? ⟨w12.heap.size, 1, none⟩ = some (.slice ap 0 cp) := P13.out.cell 1
      have r0 := A13.out.c0
      have r1 := A13.out.c1
      have r2 := A13.out.c2
      have s0 := C13.out.c0
      have s1 := C13.out.c1
      go_wp2_with fail
      refine (has_any (O := (15, noY)) (fun h => absurd (HPE.out.symm.trans h) (by decide)) (0, []) 0 (fun h => absurd (HPE.out.symm.trans h) (by decide)) HPO.out (fun h => absurd h (by decide)) _ _ w13 X Y (HV.out.later B13.out) (HU.out.later B13.out) (Nat.le_trans hB B13.out.size) (HT.out.on (B13.out.mono hB))).mono ?_
      rw [haO_err HY.out (by decide) (by decide)]
      rintro e w14 ⟨rfl, hb14⟩
      have B14 := hide (B13.out.trans (hb14.mono B13.out.size))
      have A14 := hide (A13.out.below hb14 A13.out.lt)
      have C14 := hide (C13.out.below hb14 C13.out.lt)
      clear hb14 r0 r1 r2 s0 s1
      go_wp2_with fail
      go_ret
      exact ⟨rfl, B14.out⟩
     | false =>
      have HC := hide hc
      clear hc
      have r0 := A10.out.c0
      have r1 := A10.out.c1
      have r2 := A10.out.c2
      have s0 := C10.out.c0
      have s1 := C10.out.c1
      go_wp2_with fail
      refine (lamSize_any t _ 60 w10 X (HV.out.later B10.out) (by omega) (by omega)).mono ?_
      rintro e w11 ⟨rfl, hb11⟩
      have B11 := hide (B10.out.trans (hb11.mono B10.out.size))
      have A11 := hide (A10.out.below hb11 A10.out.lt)
      have C11 := hide (C10.out.below hb11 C10.out.lt)
      clear hb11 r0 r1 r2 s0 s1
      by_cases hz : 60 < sizeM [t]
      ·have em : min (sizeM [t] : Int) (60 + 1) = 61 := by omega
       rw [em]
       clear em hz
       go_wp2_with fail
       go_ret
       exact ⟨rfl, B11.out⟩
      ·have em : min (sizeM [t] : Int) (60 + 1) = (sizeM [t] : Int) := by omega
       rw [em]
       have hz' : ¬ (60 : Int) < (sizeM [t] : Int) := by omega
       have HZ : Hid (sizeM [t] ≤ 60) := by unfold Hid; omega
       clear em hz
       obtain ⟨n, hn⟩ : ∃ n : Nat, n = sizeM [t] := ⟨_, rfl⟩
       rw [← hn] at hz' ⊢
       clear hn
       obtain ⟨g, R, R', hRd, hRp, hag, hsh⟩ := infer_agree (lamE_zero HL.out).1 HC.out HZ.out
       have HPE : Hid (prE t = 0) := by unfold Hid prE; rw [if_pos HL.out, if_neg (by rw [HC.out]; decide)]
       have HN := hide (fun h => outY_no (R := R') (x := (tyT 84 t [] 0).1) h)
       obtain ⟨O, hO⟩ : ∃ O, O = outY R' (tyT 84 t [] 0).1 := ⟨_, rfl⟩
       rw [← hO] at hag hsh HN
       have HOY := hide hO.symm
       have HPO : Hid (prO t R = O) := by unfold Hid prO; rw [if_pos HPE.out]; exact hag
       have HRD := hide hRd
       have HRP := hide hRp
       have HSH := hide hsh
       clear hRd hRp hag hsh hO
       go_upto_region 17 with fail
       have N12 : Hid (Below w11.heap.size w11 (w11.alloc (.cells #[.int .i64 0, .slice none 0 0] 30))) := (Below.refl _ _).alloc (Nat.le_refl _) _
       have D12 : Hid (Blk (w11.alloc (.cells #[.int .i64 0, .slice none 0 0] 30)) w11.heap.size #[.int .i64 0, .slice none 0 0] 30) := Blk.new _ _ _
       have B12 := hide (B11.out.trans (N12.out.mono B11.out.size))
       have A12 := hide (A11.out.below N12.out A11.out.lt)
       have C12 := hide (C11.out.below N12.out C11.out.lt)
       generalize w11.alloc (.cells #[.int .i64 0, .slice none 0 0] 30) = w12 at *
       have r0 := A12.out.c0
       have r1 := A12.out.c1
       have r2 := A12.out.c2
       have s0 := C12.out.c0
       have s1 := C12.out.c1
       go_wp2_with fail
       refine (prinR_any (lamE_zero HL.out).1 HC.out HZ.out R' g HRD.out _ w12 X (HV.out.later B12.out)).mono ?_
       rw [HOY.out]
       rintro e w13 ⟨a13, c13, rfl, hs13, hb13⟩
       have B13 := hide (B12.out.trans (hb13.mono B12.out.size))
       have A13 := hide (A12.out.below hb13 A12.out.lt)
       have C13 := hide (C12.out.below hb13 C12.out.lt)
       have D13 := hide (D12.out.below hb13 D12.out.lt)
       have S13 := hide hs13
       have gD : Hid (w.heap.size + 1 < w11.heap.size) := C11.out.lt
       have gE : Hid (w11.heap.size < w12.heap.size) := D12.out.lt
       clear hb13 hs13 r0 r1 r2 s0 s1
       have d0 := D13.out.c0
       have d1 := D13.out.c1
       have f0 : w13.frozen? ⟨w11.heap.size, 0, none⟩ = false := D13.out.frozen 0
       have f1 : w13.frozen? ⟨w11.heap.size, 1, none⟩ = false := D13.out.frozen 1
       go_upto_region 18 with fail
       have n1 : w.heap.size ≠ w11.heap.size := by have h1 := gD.out; omega
       have n2 : w.heap.size + 1 ≠ w11.heap.size := by have h1 := gD.out; omega
       have B14 : Hid (Below w.heap.size w ((w13.setCell ⟨w11.heap.size, 0, none⟩ (.int .i64 O.2.base)).setCell ⟨w11.heap.size, 1, none⟩ (.slice a13 O.2.subs.length c13))) := belSetI (belSetI B13.out (by have h1 := gD.out; omega) 0 _) (by have h1 := gD.out; omega) 1 _
       have A14 : Hid (Blk ((w13.setCell ⟨w11.heap.size, 0, none⟩ (.int .i64 O.2.base)).setCell ⟨w11.heap.size, 1, none⟩ (.slice a13 O.2.subs.length c13)) w.heap.size #[.int .i64 t.kind, .int .i64 t.idx, .slice a t.subs.length c] 25) := (A13.out.setOther _ _ n1).setOther _ _ n1
       have C14 : Hid (Blk ((w13.setCell ⟨w11.heap.size, 0, none⟩ (.int .i64 O.2.base)).setCell ⟨w11.heap.size, 1, none⟩ (.slice a13 O.2.subs.length c13)) (w.heap.size + 1) #[.int .i64 y.base, .slice a' y.subs.length c'] 30) := (C13.out.setOther _ _ n2).setOther _ _ n2
       have D14 : Hid (Blk ((w13.setCell ⟨w11.heap.size, 0, none⟩ (.int .i64 O.2.base)).setCell ⟨w11.heap.size, 1, none⟩ (.slice a13 O.2.subs.length c13)) w11.heap.size #[.int .i64 O.2.base, .slice a13 O.2.subs.length c13] 30) := (D13.out.set 0 _).set 1 _
       have S14 : Hid (SlY ((w13.setCell ⟨w11.heap.size, 0, none⟩ (.int .i64 O.2.base)).setCell ⟨w11.heap.size, 1, none⟩ (.slice a13 O.2.subs.length c13)) (fun b => w12.heap.size ≤ b) a13 O.2.subs) := S13.out.kept fun b hb => by have h1 := gE.out; rw [Below.heap_setCell _ _ _ _ (by simp; omega), Below.heap_setCell _ _ _ _ (by simp; omega)]
       clear d0 d1 f0 f1 n1 n2
       generalize ((w13.setCell ⟨w11.heap.size, 0, none⟩ (.int .i64 O.2.base)).setCell ⟨w11.heap.size, 1, none⟩ (.slice a13 O.2.subs.length c13)) = w14 at *
       by_cases h0 : O.1 = 0
       ·have H0 := hide h0
        have HS2 := hide (HSH.out h0)
        rw [h0]
        clear h0
        have r0 := A14.out.c0
        have r1 := A14.out.c1
        have r2 := A14.out.c2
        have s0 := C14.out.c0
        have s1 := C14.out.c1
        go_wp2_with fail
        refine (principal_any (fun _ => HZ.out) R g (fun _ => HRP.out) _ w14 X (HV.out.later B14.out) (Nat.le_trans hB B14.out.size) (HT.out.on (B14.out.mono hB))).mono ?_
        rw [HPO.out]
        rintro e w15 ⟨ap, cp, rfl, hsp, hb15⟩
        have B15 := hide (B14.out.trans (hb15.mono B14.out.size))
        have A15 := hide (A14.out.below hb15 A14.out.lt)
        have C15 := hide (C14.out.below hb15 C14.out.lt)
        have D15 := hide (D14.out.below hb15 D14.out.lt)
        have SP15 := hide hsp
        have S15 := hide (S14.out.later hb15)
        rw [H0.out]
        clear hb15 hsp r0 r1 r2 s0 s1
        go_upto_region 19 with fail
        have N16 : Hid (Below w15.heap.size w15 (w15.alloc (.cells #[.int .i64 O.2.base, .slice ap O.2.subs.length cp] 30))) := (Below.refl _ _).alloc (Nat.le_refl _) _
        have P16 : Hid (Blk (w15.alloc (.cells #[.int .i64 O.2.base, .slice ap O.2.subs.length cp] 30)) w15.heap.size #[.int .i64 O.2.base, .slice ap O.2.subs.length cp] 30) := Blk.new _ _ _
        have B16 := hide (B15.out.trans (N16.out.mono B15.out.size))
        have A16 := hide (A15.out.below N16.out A15.out.lt)
        have C16 := hide (C15.out.below N16.out C15.out.lt)
        have D16 := hide (D15.out.below N16.out D15.out.lt)
        have S16 := hide (S15.out.later N16.out)
        have SP16 := hide (SP15.out.later N16.out)
        generalize w15.alloc (.cells #[.int .i64 O.2.base, .slice ap O.2.subs.length cp] 30) = w16 at *
        have p0 := P16.out.c0
        have p1 := P16.out.c1
        have d0 := D16.out.c0
        have d1 := D16.out.c1
        go_wp2_with fail
        refine (sameY_any O.2 O.2 _ _ w16 _ _ ⟨ap, cp, rfl, SP16.out⟩ ⟨a13, c13, rfl, S16.out⟩).mono ?_
        rw [sameY_iff.2 rfl]
        rintro e w17 ⟨rfl, hb17⟩
        have B17 := hide (B16.out.trans (hb17.mono B16.out.size))
        have A17 := hide (A16.out.below hb17 A16.out.lt)
        have C17 := hide (C16.out.below hb17 C16.out.lt)
        have D17 := hide (D16.out.below hb17 D16.out.lt)
        have S17 := hide (S16.out.later hb17)
        clear hb17 p0 p1 d0 d1
        have d0 := D17.out.c0
        have d1 := D17.out.c1
        have r0 := A17.out.c0
        have r1 := A17.out.c1
        have r2 := A17.out.c2
        have s0 := C17.out.c0
        have s1 := C17.out.c1
        go_wp2_with fail
        refine (caseOf_any O.2 y _ _ w17 _ Y HS2.out.1 HS2.out.2 ⟨a13, c13, rfl, S17.out⟩ (HU.out.later B17.out)).mono ?_
        rintro e w18 ⟨rfl, hb18⟩
        have B18 := hide (B17.out.trans (hb18.mono B17.out.size))
        have A18 := hide (A17.out.below hb18 A17.out.lt)
        have C18 := hide (C17.out.below hb18 C17.out.lt)
        clear hb18 r0 r1 r2 s0 s1
        obtain ⟨cb, hcb⟩ : ∃ cb, cb = caB O.2 y := ⟨_, rfl⟩
        rw [← hcb]
        clear d0 d1
        have r0 := A18.out.c0
        have r1 := A18.out.c1
        have r2 := A18.out.c2
        have s0 := C18.out.c0
        have s1 := C18.out.c1
        go_wp2_with fail
        refine (has_any (O := O) (fun _ => HZ.out) R g (fun _ => HRP.out) HPO.out (fun h => (HSH.out h).1) _ _ w18 X Y (HV.out.later B18.out) (HU.out.later B18.out) (Nat.le_trans hB B18.out.size) (HT.out.on (B18.out.mono hB))).mono ?_
        rw [haO_ok HY.out H0.out, ← hcb]
        rintro e w19 ⟨rfl, hb19⟩
        have B19 := hide (B18.out.trans (hb19.mono B18.out.size))
        have A19 := hide (A18.out.below hb19 A18.out.lt)
        have C19 := hide (C18.out.below hb19 C18.out.lt)
        clear hb19 r0 r1 r2 s0 s1
        go_wp2_with fail
        go_ret
        exact ⟨rfl, B19.out⟩
       ·have HNE0 := hide h0
        have HN2 := hide (HN.out h0)
        obtain ⟨E, YY⟩ := O
        have e2 : YY = noY := HN2.out
        subst e2
        have HNE : Hid (E ≠ 0) := HNE0.out
        have heb : (E == 0) = false := beq_eq_false_iff_ne.2 HNE.out
        clear h0
        simp only
        have r0 := A14.out.c0
        have r1 := A14.out.c1
        have r2 := A14.out.c2
        have s0 := C14.out.c0
        have s1 := C14.out.c1
        go_wp2_with fail
        refine (principal_any (fun _ => HZ.out) R g (fun _ => HRP.out) _ w14 X (HV.out.later B14.out) (Nat.le_trans hB B14.out.size) (HT.out.on (B14.out.mono hB))).mono ?_
        rw [HPO.out]
        rintro e w15 ⟨ap, cp, rfl, hsp, hb15⟩
        have B15 := hide (B14.out.trans (hb15.mono B14.out.size))
        have A15 := hide (A14.out.below hb15 A14.out.lt)
        have C15 := hide (C14.out.below hb15 C14.out.lt)
        have SP15 := hide hsp
        clear hb15 hsp r0 r1 r2 s0 s1
        go_upto_region 19 with fail
        have N16 : Hid (Below w15.heap.size w15 (w15.alloc (.cells #[.int .i64 noY.base, .slice ap noY.subs.length cp] 30))) := (Below.refl _ _).alloc (Nat.le_refl _) _
        have P16 : Hid (Blk (w15.alloc (.cells #[.int .i64 noY.base, .slice ap noY.subs.length cp] 30)) w15.heap.size #[.int .i64 noY.base, .slice ap noY.subs.length cp] 30) := Blk.new _ _ _
        have B16 := hide (B15.out.trans (N16.out.mono B15.out.size))
        have A16 := hide (A15.out.below N16.out A15.out.lt)
        have C16 := hide (C15.out.below N16.out C15.out.lt)
        generalize w15.alloc (.cells #[.int .i64 noY.base, .slice ap noY.subs.length cp] 30) = w16 at *
        have p0 := P16.out.c0
        have p1 : w16.cell? ⟨w15.heap.size, 1, none⟩ = some (.slice ap 0 cp) := P16.out.cell 1
        by_cases h11 : E = 11
        ·have H11 := hide h11
         have hb11 : (E == 11) = true := beq_iff_eq.2 h11
         clear h11
         have r0 := A16.out.c0
         have r1 := A16.out.c1
         have r2 := A16.out.c2
         have s0 := C16.out.c0
         have s1 := C16.out.c1
         go_wp2_with fail
         refine (has_any (O := (E, noY)) (fun _ => HZ.out) R g (fun _ => HRP.out) HPO.out (fun h => absurd h HNE.out) _ _ w16 X Y (HV.out.later B16.out) (HU.out.later B16.out) (Nat.le_trans hB B16.out.size) (HT.out.on (B16.out.mono hB))).mono ?_
         rw [haO_no HY.out H11.out]
         rintro e w17 ⟨rfl, hb17⟩
         have B17 := hide (B16.out.trans (hb17.mono B16.out.size))
         have A17 := hide (A16.out.below hb17 A16.out.lt)
         have C17 := hide (C16.out.below hb17 C16.out.lt)
         clear hb17 r0 r1 r2 s0 s1
         go_wp2_with fail
         go_ret
         exact ⟨rfl, B17.out⟩
        ·have H11 := hide h11
         have hb11 : (E == 11) = false := beq_eq_false_iff_ne.2 h11
         clear h11
         have r0 := A16.out.c0
         have r1 := A16.out.c1
         have r2 := A16.out.c2
         have s0 := C16.out.c0
         have s1 := C16.out.c1
         go_wp2_with fail
         refine (has_any (O := (E, noY)) (fun _ => HZ.out) R g (fun _ => HRP.out) HPO.out (fun h => absurd h HNE.out) _ _ w16 X Y (HV.out.later B16.out) (HU.out.later B16.out) (Nat.le_trans hB B16.out.size) (HT.out.on (B16.out.mono hB))).mono ?_
         rw [haO_err HY.out H11.out HNE.out]
         rintro e w17 ⟨rfl, hb17⟩
         have B17 := hide (B16.out.trans (hb17.mono B16.out.size))
         have A17 := hide (A16.out.below hb17 A16.out.lt)
         have C17 := hide (C16.out.below hb17 C16.out.lt)
         clear hb17 r0 r1 r2 s0 s1
         go_wp2_with fail
         go_ret
         exact ⟨rfl, B17.out⟩
    ·have HPE : Hid (prE t = lamE 0 0 t) := by unfold Hid prE; rw [if_neg hl]
     obtain ⟨E, hE⟩ : ∃ E, E = lamE 0 0 t := ⟨_, rfl⟩
     rw [← hE] at HPE hl ⊢
     clear hE
     have HNE := hide hl
     have heb : (E == 0) = false := beq_eq_false_iff_ne.2 hl
     clear hl
     have HPO : Hid (prO t (0, []) = (E, noY)) := by unfold Hid prO; rw [if_neg (by rw [HPE.out]; exact HNE.out), HPE.out]
     go_upto_region 18 with fail
     have N10 : Hid (Below w9.heap.size w9 (w9.alloc (.cells #[.int .i64 0, .slice none 0 0] 30))) := (Below.refl _ _).alloc (Nat.le_refl _) _
     have D10 : Hid (Blk (w9.alloc (.cells #[.int .i64 0, .slice none 0 0] 30)) w9.heap.size #[.int .i64 0, .slice none 0 0] 30) := Blk.new _ _ _
     have B10 := hide (B9.out.trans (N10.out.mono B9.out.size))
     have A10 := hide (A9.out.below N10.out A9.out.lt)
     have C10 := hide (C9.out.below N10.out C9.out.lt)
     generalize w9.alloc (.cells #[.int .i64 0, .slice none 0 0] 30) = w10 at *
     have r0 := A10.out.c0
     have r1 := A10.out.c1
     have r2 := A10.out.c2
     have s0 := C10.out.c0
     have s1 := C10.out.c1
     go_wp2_with fail
     refine (principal_any (fun h => absurd (HPE.out.symm.trans h) HNE.out) (0, []) 0 (fun h => absurd (HPE.out.symm.trans h) HNE.out) _ w10 X (HV.out.later B10.out) (Nat.le_trans hB B10.out.size) (HT.out.on (B10.out.mono hB))).mono ?_
     rw [HPO.out]
     rintro e w11 ⟨ap, cp, rfl, hsp, hb11⟩
     have B11 := hide (B10.out.trans (hb11.mono B10.out.size))
     have A11 := hide (A10.out.below hb11 A10.out.lt)
     have C11 := hide (C10.out.below hb11 C10.out.lt)
     have SP11 := hide hsp
     clear hb11 hsp r0 r1 r2 s0 s1
     go_upto_region 19 with fail
     have N12 : Hid (Below w11.heap.size w11 (w11.alloc (.cells #[.int .i64 noY.base, .slice ap noY.subs.length cp] 30))) := (Below.refl _ _).alloc (Nat.le_refl _) _
     have P12 : Hid (Blk (w11.alloc (.cells #[.int .i64 noY.base, .slice ap noY.subs.length cp] 30)) w11.heap.size #[.int .i64 noY.base, .slice ap noY.subs.length cp] 30) := Blk.new _ _ _
     have B12 := hide (B11.out.trans (N12.out.mono B11.out.size))
     have A12 := hide (A11.out.below N12.out A11.out.lt)
     have C12 := hide (C11.out.below N12.out C11.out.lt)
     generalize w11.alloc (.cells #[.int .i64 noY.base, .slice ap noY.subs.length cp] 30) = w12 at *
     have p0 := P12.out.c0
     have p1 : w12.cell? ⟨w11.heap.size, 1, none⟩ = some (.slice ap 0 cp) := P12.out.cell 1
     by_cases h11 : E = 11
     ·have H11 := hide h11
      have hb11 : (E == 11) = true := beq_iff_eq.2 h11
      clear h11
      have r0 := A12.out.c0
      have r1 := A12.out.c1
      have r2 := A12.out.c2
      have s0 := C12.out.c0
      have s1 := C12.out.c1
      go_wp2_with fail
      refine (has_any (O := (E, noY)) (fun h => absurd (HPE.out.symm.trans h) HNE.out) (0, []) 0 (fun h => absurd (HPE.out.symm.trans h) HNE.out) HPO.out (fun h => absurd h HNE.out) _ _ w12 X Y (HV.out.later B12.out) (HU.out.later B12.out) (Nat.le_trans hB B12.out.size) (HT.out.on (B12.out.mono hB))).mono ?_
      rw [haO_no HY.out H11.out]
      rintro e w13 ⟨rfl, hb13⟩
      have B13 := hide (B12.out.trans (hb13.mono B12.out.size))
      have A13 := hide (A12.out.below hb13 A12.out.lt)
      have C13 := hide (C12.out.below hb13 C12.out.lt)
      clear hb13 r0 r1 r2 s0 s1
      go_wp2_with fail
      go_ret
      exact ⟨rfl, B13.out⟩
     ·have H11 := hide h11
      have hb11 : (E == 11) = false := beq_eq_false_iff_ne.2 h11
      clear h11
      have r0 := A12.out.c0
      have r1 := A12.out.c1
      have r2 := A12.out.c2
      have s0 := C12.out.c0
      have s1 := C12.out.c1
      go_wp2_with fail
      refine (has_any (O := (E, noY)) (fun h => absurd (HPE.out.symm.trans h) HNE.out) (0, []) 0 (fun h => absurd (HPE.out.symm.trans h) HNE.out) HPO.out (fun h => absurd h HNE.out) _ _ w12 X Y (HV.out.later B12.out) (HU.out.later B12.out) (Nat.le_trans hB B12.out.size) (HT.out.on (B12.out.mono hB))).mono ?_
      rw [haO_err HY.out H11.out HNE.out]
      rintro e w13 ⟨rfl, hb13⟩
      have B13 := hide (B12.out.trans (hb13.mono B12.out.size))
      have A13 := hide (A12.out.below hb13 A12.out.lt)
      have C13 := hide (C12.out.below hb13 C12.out.lt)
      clear hb13 r0 r1 r2 s0 s1
      go_wp2_with fail
      go_ret
      exact ⟨rfl, B13.out⟩
   ·have HY := hide hy
    have hyb : (tyE y == 0) = false := beq_eq_false_iff_ne.2 hy
    clear hy
    obtain ⟨F, hF⟩ : ∃ F, F = tyE y := ⟨_, rfl⟩
    rw [← hF] at hyb ⊢
    have r0 := A5.out.c0
    have r1 := A5.out.c1
    have r2 := A5.out.c2
    have s0 := C5.out.c0
    have s1 := C5.out.c1
    go_wp2_with fail
    refine (iText_any y _ w5 Y (HU.out.later B5.out) (Nat.le_trans hB B5.out.size) (HT.out.on (B5.out.mono hB))).mono ?_
    rw [if_neg HY.out, ← hF]
    rintro e w7 ⟨rfl, hb7⟩
    have B7 := hide (B5.out.trans (hb7.mono B5.out.size))
    have A7 := hide (A5.out.below hb7 A5.out.lt)
    have C7 := hide (C5.out.below hb7 C5.out.lt)
    clear hb7 r0 r1 r2 s0 s1
    have r0 := A7.out.c0
    have r1 := A7.out.c1
    have r2 := A7.out.c2
    have s0 := C7.out.c0
    have s1 := C7.out.c1
    go_wp2_with fail
    refine (tyCheck_any y _ w7 Y (HU.out.later B7.out)).mono ?_
    rw [← hF]
    rintro e w8 ⟨rfl, hb8⟩
    have B8 := hide (B7.out.trans (hb8.mono B7.out.size))
    have A8 := hide (A7.out.below hb8 A7.out.lt)
    have C8 := hide (C7.out.below hb8 C7.out.lt)
    clear hb8 r0 r1 r2 s0 s1
    have r0 := A8.out.c0
    have r1 := A8.out.c1
    have r2 := A8.out.c2
    have s0 := C8.out.c0
    have s1 := C8.out.c1
    go_wp2_with fail
    refine (lamMay_any t _ 0 0 w8 X (HV.out.later B8.out)).mono ?_
    rintro e w9 ⟨rfl, hb9⟩
    have B9 := hide (B8.out.trans (hb9.mono B8.out.size))
    have A9 := hide (A8.out.below hb9 A8.out.lt)
    have C9 := hide (C8.out.below hb9 C8.out.lt)
    clear hb9 r0 r1 r2 s0 s1
    by_cases hl : lamE 0 0 t = 0
    ·have HL := hide hl
     rw [hl]
     clear hl
     have r0 := A9.out.c0
     have r1 := A9.out.c1
     have r2 := A9.out.c2
     have s0 := C9.out.c0
     have s1 := C9.out.c1
     go_wp2_with fail
     refine (hasConst_any t _ w9 X (HV.out.later B9.out)).mono ?_
     rintro e w10 ⟨rfl, hb10⟩
     have B10 := hide (B9.out.trans (hb10.mono B9.out.size))
     have A10 := hide (A9.out.below hb10 A9.out.lt)
     have C10 := hide (C9.out.below hb10 C9.out.lt)
     clear hb10 r0 r1 r2 s0 s1
     cases hc : csL [t] with
     | true =>
      have HPE : Hid (prE t = 15) := by unfold Hid prE; rw [if_pos HL.out, if_pos hc]
      clear hc
      have HPO : Hid (prO t (0, []) = (15, noY)) := by unfold Hid prO; rw [if_neg (by rw [HPE.out]; decide), HPE.out]
      go_upto_region 18 with fail
      have N11 : Hid (Below w10.heap.size w10 (w10.alloc (.cells #[.int .i64 0, .slice none 0 0] 30))) := (Below.refl _ _).alloc (Nat.le_refl _) _
      have D11 : Hid (Blk (w10.alloc (.cells #[.int .i64 0, .slice none 0 0] 30)) w10.heap.size #[.int .i64 0, .slice none 0 0] 30) := Blk.new _ _ _
      have B11 := hide (B10.out.trans (N11.out.mono B10.out.size))
      have A11 := hide (A10.out.below N11.out A10.out.lt)
      have C11 := hide (C10.out.below N11.out C10.out.lt)
      generalize w10.alloc (.cells #[.int .i64 0, .slice none 0 0] 30) = w11 at *
      have r0 := A11.out.c0
      have r1 := A11.out.c1
      have r2 := A11.out.c2
      have s0 := C11.out.c0
      have s1 := C11.out.c1
      go_wp2_with fail
      refine (principal_any (fun h => absurd (HPE.out.symm.trans h) (by decide)) (0, []) 0 (fun h => absurd (HPE.out.symm.trans h) (by decide)) _ w11 X (HV.out.later B11.out) (Nat.le_trans hB B11.out.size) (HT.out.on (B11.out.mono hB))).mono ?_
      rw [HPO.out]
      rintro e w12 ⟨ap, cp, rfl, hsp, hb12⟩
      have B12 := hide (B11.out.trans (hb12.mono B11.out.size))
      have A12 := hide (A11.out.below hb12 A11.out.lt)
      have C12 := hide (C11.out.below hb12 C11.out.lt)
      have SP12 := hide hsp
      clear hb12 hsp r0 r1 r2 s0 s1
      go_upto_region 19 with fail
      have N13 : Hid (Below w12.heap.size w12 (w12.alloc (.cells #[.int .i64 noY.base, .slice ap noY.subs.length cp] 30))) := (Below.refl _ _).alloc (Nat.le_refl _) _
      have P13 : Hid (Blk (w12.alloc (.cells #[.int .i64 noY.base, .slice ap noY.subs.length cp] 30)) w12.heap.size #[.int .i64 noY.base, .slice ap noY.subs.length cp] 30) := Blk.new _ _ _
      have B13 := hide (B12.out.trans (N13.out.mono B12.out.size))
      have A13 := hide (A12.out.below N13.out A12.out.lt)
      have C13 := hide (C12.out.below N13.out C12.out.lt)
      generalize w12.alloc (.cells #[.int .i64 noY.base, .slice ap noY.subs.length cp] 30) = w13 at *
      have p0 := P13.out.c0
      have p1 : w13.cell? ⟨w12.heap.size, 1, none⟩ = some (.slice ap 0 cp) := P13.out.cell 1
      have r0 := A13.out.c0
      have r1 := A13.out.c1
      have r2 := A13.out.c2
      have s0 := C13.out.c0
      have s1 := C13.out.c1
      go_wp2_with fail
      refine (has_any (O := (15, noY)) (fun h => absurd (HPE.out.symm.trans h) (by decide)) (0, []) 0 (fun h => absurd (HPE.out.symm.trans h) (by decide)) HPO.out (fun h => absurd h (by decide)) _ _ w13 X Y (HV.out.later B13.out) (HU.out.later B13.out) (Nat.le_trans hB B13.out.size) (HT.out.on (B13.out.mono hB))).mono ?_
      rw [haO_bad HY.out]
      rintro e w14 ⟨rfl, hb14⟩
      have B14 := hide (B13.out.trans (hb14.mono B13.out.size))
      have A14 := hide (A13.out.below hb14 A13.out.lt)
      have C14 := hide (C13.out.below hb14 C13.out.lt)
      clear hb14 r0 r1 r2 s0 s1
      go_wp2_with fail
      go_ret
      exact ⟨rfl, B14.out⟩
     | false =>
      have HC := hide hc
      clear hc
      have r0 := A10.out.c0
      have r1 := A10.out.c1
      have r2 := A10.out.c2
      have s0 := C10.out.c0
      have s1 := C10.out.c1
      go_wp2_with fail
      refine (lamSize_any t _ 60 w10 X (HV.out.later B10.out) (by omega) (by omega)).mono ?_
      rintro e w11 ⟨rfl, hb11⟩
      have B11 := hide (B10.out.trans (hb11.mono B10.out.size))
      have A11 := hide (A10.out.below hb11 A10.out.lt)
      have C11 := hide (C10.out.below hb11 C10.out.lt)
      clear hb11 r0 r1 r2 s0 s1
      by_cases hz : 60 < sizeM [t]
      ·have em : min (sizeM [t] : Int) (60 + 1) = 61 := by omega
       rw [em]
       clear em hz
       go_wp2_with fail
       go_ret
       exact ⟨rfl, B11.out⟩
      ·have em : min (sizeM [t] : Int) (60 + 1) = (sizeM [t] : Int) := by omega
       rw [em]
       have hz' : ¬ (60 : Int) < (sizeM [t] : Int) := by omega
       have HZ : Hid (sizeM [t] ≤ 60) := by unfold Hid; omega
       clear em hz
       obtain ⟨n, hn⟩ : ∃ n : Nat, n = sizeM [t] := ⟨_, rfl⟩
       rw [← hn] at hz' ⊢
       clear hn
       obtain ⟨g, R, R', hRd, hRp, hag, hsh⟩ := infer_agree (lamE_zero HL.out).1 HC.out HZ.out
       have HPE : Hid (prE t = 0) := by unfold Hid prE; rw [if_pos HL.out, if_neg (by rw [HC.out]; decide)]
       have HN := hide (fun h => outY_no (R := R') (x := (tyT 84 t [] 0).1) h)
       obtain ⟨O, hO⟩ : ∃ O, O = outY R' (tyT 84 t [] 0).1 := ⟨_, rfl⟩
       rw [← hO] at hag hsh HN
       have HOY := hide hO.symm
       have HPO : Hid (prO t R = O) := by unfold Hid prO; rw [if_pos HPE.out]; exact hag
       have HRD := hide hRd
       have HRP := hide hRp
       have HSH := hide hsh
       clear hRd hRp hag hsh hO
       go_upto_region 17 with fail
       have N12 : Hid (Below w11.heap.size w11 (w11.alloc (.cells #[.int .i64 0, .slice none 0 0] 30))) := (Below.refl _ _).alloc (Nat.le_refl _) _
       have D12 : Hid (Blk (w11.alloc (.cells #[.int .i64 0, .slice none 0 0] 30)) w11.heap.size #[.int .i64 0, .slice none 0 0] 30) := Blk.new _ _ _
       have B12 := hide (B11.out.trans (N12.out.mono B11.out.size))
       have A12 := hide (A11.out.below N12.out A11.out.lt)
       have C12 := hide (C11.out.below N12.out C11.out.lt)
       generalize w11.alloc (.cells #[.int .i64 0, .slice none 0 0] 30) = w12 at *
       have r0 := A12.out.c0
       have r1 := A12.out.c1
       have r2 := A12.out.c2
       have s0 := C12.out.c0
       have s1 := C12.out.c1
       go_wp2_with fail
       refine (prinR_any (lamE_zero HL.out).1 HC.out HZ.out R' g HRD.out _ w12 X (HV.out.later B12.out)).mono ?_
       rw [HOY.out]
       rintro e w13 ⟨a13, c13, rfl, hs13, hb13⟩
       have B13 := hide (B12.out.trans (hb13.mono B12.out.size))
       have A13 := hide (A12.out.below hb13 A12.out.lt)
       have C13 := hide (C12.out.below hb13 C12.out.lt)
       have D13 := hide (D12.out.below hb13 D12.out.lt)
       have S13 := hide hs13
       have gD : Hid (w.heap.size + 1 < w11.heap.size) := C11.out.lt
       have gE : Hid (w11.heap.size < w12.heap.size) := D12.out.lt
       clear hb13 hs13 r0 r1 r2 s0 s1
       have d0 := D13.out.c0
       have d1 := D13.out.c1
       have f0 : w13.frozen? ⟨w11.heap.size, 0, none⟩ = false := D13.out.frozen 0
       have f1 : w13.frozen? ⟨w11.heap.size, 1, none⟩ = false := D13.out.frozen 1
       go_upto_region 18 with fail
       have n1 : w.heap.size ≠ w11.heap.size := by have h1 := gD.out; omega
       have n2 : w.heap.size + 1 ≠ w11.heap.size := by have h1 := gD.out; omega
       have B14 : Hid (Below w.heap.size w ((w13.setCell ⟨w11.heap.size, 0, none⟩ (.int .i64 O.2.base)).setCell ⟨w11.heap.size, 1, none⟩ (.slice a13 O.2.subs.length c13))) := belSetI (belSetI B13.out (by have h1 := gD.out; omega) 0 _) (by have h1 := gD.out; omega) 1 _
       have A14 : Hid (Blk ((w13.setCell ⟨w11.heap.size, 0, none⟩ (.int .i64 O.2.base)).setCell ⟨w11.heap.size, 1, none⟩ (.slice a13 O.2.subs.length c13)) w.heap.size #[.int .i64 t.kind, .int .i64 t.idx, .slice a t.subs.length c] 25) := (A13.out.setOther _ _ n1).setOther _ _ n1
       have C14 : Hid (Blk ((w13.setCell ⟨w11.heap.size, 0, none⟩ (.int .i64 O.2.base)).setCell ⟨w11.heap.size, 1, none⟩ (.slice a13 O.2.subs.length c13)) (w.heap.size + 1) #[.int .i64 y.base, .slice a' y.subs.length c'] 30) := (C13.out.setOther _ _ n2).setOther _ _ n2
       have D14 : Hid (Blk ((w13.setCell ⟨w11.heap.size, 0, none⟩ (.int .i64 O.2.base)).setCell ⟨w11.heap.size, 1, none⟩ (.slice a13 O.2.subs.length c13)) w11.heap.size #[.int .i64 O.2.base, .slice a13 O.2.subs.length c13] 30) := (D13.out.set 0 _).set 1 _
       have S14 : Hid (SlY ((w13.setCell ⟨w11.heap.size, 0, none⟩ (.int .i64 O.2.base)).setCell ⟨w11.heap.size, 1, none⟩ (.slice a13 O.2.subs.length c13)) (fun b => w12.heap.size ≤ b) a13 O.2.subs) := S13.out.kept fun b hb => by have h1 := gE.out; rw [Below.heap_setCell _ _ _ _ (by simp; omega), Below.heap_setCell _ _ _ _ (by simp; omega)]
       clear d0 d1 f0 f1 n1 n2
       generalize ((w13.setCell ⟨w11.heap.size, 0, none⟩ (.int .i64 O.2.base)).setCell ⟨w11.heap.size, 1, none⟩ (.slice a13 O.2.subs.length c13)) = w14 at *
       by_cases h0 : O.1 = 0
       ·have H0 := hide h0
        have HS2 := hide (HSH.out h0)
        rw [h0]
        clear h0
        have r0 := A14.out.c0
        have r1 := A14.out.c1
        have r2 := A14.out.c2
        have s0 := C14.out.c0
        have s1 := C14.out.c1
        go_wp2_with fail
        refine (principal_any (fun _ => HZ.out) R g (fun _ => HRP.out) _ w14 X (HV.out.later B14.out) (Nat.le_trans hB B14.out.size) (HT.out.on (B14.out.mono hB))).mono ?_
        rw [HPO.out]
        rintro e w15 ⟨ap, cp, rfl, hsp, hb15⟩
        have B15 := hide (B14.out.trans (hb15.mono B14.out.size))
        have A15 := hide (A14.out.below hb15 A14.out.lt)
        have C15 := hide (C14.out.below hb15 C14.out.lt)
        have D15 := hide (D14.out.below hb15 D14.out.lt)
        have SP15 := hide hsp
        have S15 := hide (S14.out.later hb15)
        rw [H0.out]
        clear hb15 hsp r0 r1 r2 s0 s1
        go_upto_region 19 with fail
        have N16 : Hid (Below w15.heap.size w15 (w15.alloc (.cells #[.int .i64 O.2.base, .slice ap O.2.subs.length cp] 30))) := (Below.refl _ _).alloc (Nat.le_refl _) _
        have P16 : Hid (Blk (w15.alloc (.cells #[.int .i64 O.2.base, .slice ap O.2.subs.length cp] 30)) w15.heap.size #[.int .i64 O.2.base, .slice ap O.2.subs.length cp] 30) := Blk.new _ _ _
        have B16 := hide (B15.out.trans (N16.out.mono B15.out.size))
        have A16 := hide (A15.out.below N16.out A15.out.lt)
        have C16 := hide (C15.out.below N16.out C15.out.lt)
        have D16 := hide (D15.out.below N16.out D15.out.lt)
        have S16 := hide (S15.out.later N16.out)
        have SP16 := hide (SP15.out.later N16.out)
        generalize w15.alloc (.cells #[.int .i64 O.2.base, .slice ap O.2.subs.length cp] 30) = w16 at *
        have p0 := P16.out.c0
        have p1 := P16.out.c1
        have d0 := D16.out.c0
        have d1 := D16.out.c1
        go_wp2_with fail
        refine (sameY_any O.2 O.2 _ _ w16 _ _ ⟨ap, cp, rfl, SP16.out⟩ ⟨a13, c13, rfl, S16.out⟩).mono ?_
        rw [sameY_iff.2 rfl]
        rintro e w17 ⟨rfl, hb17⟩
        have B17 := hide (B16.out.trans (hb17.mono B16.out.size))
        have A17 := hide (A16.out.below hb17 A16.out.lt)
        have C17 := hide (C16.out.below hb17 C16.out.lt)
        have D17 := hide (D16.out.below hb17 D16.out.lt)
        have S17 := hide (S16.out.later hb17)
        clear hb17 p0 p1 d0 d1
        have r0 := A17.out.c0
        have r1 := A17.out.c1
        have r2 := A17.out.c2
        have s0 := C17.out.c0
        have s1 := C17.out.c1
        go_wp2_with fail
        refine (has_any (O := O) (fun _ => HZ.out) R g (fun _ => HRP.out) HPO.out (fun h => (HSH.out h).1) _ _ w17 X Y (HV.out.later B17.out) (HU.out.later B17.out) (Nat.le_trans hB B17.out.size) (HT.out.on (B17.out.mono hB))).mono ?_
        rw [haO_bad HY.out]
        rintro e w18 ⟨rfl, hb18⟩
        have B18 := hide (B17.out.trans (hb18.mono B17.out.size))
        have A18 := hide (A17.out.below hb18 A17.out.lt)
        have C18 := hide (C17.out.below hb18 C17.out.lt)
        clear hb18 r0 r1 r2 s0 s1
        go_wp2_with fail
        go_ret
        exact ⟨rfl, B18.out⟩
       ·have HNE0 := hide h0
        have HN2 := hide (HN.out h0)
        obtain ⟨E, YY⟩ := O
        have e2 : YY = noY := HN2.out
        subst e2
        have HNE : Hid (E ≠ 0) := HNE0.out
        have heb : (E == 0) = false := beq_eq_false_iff_ne.2 HNE.out
        clear h0
        simp only
        have r0 := A14.out.c0
        have r1 := A14.out.c1
        have r2 := A14.out.c2
        have s0 := C14.out.c0
        have s1 := C14.out.c1
        go_wp2_with fail
        refine (principal_any (fun _ => HZ.out) R g (fun _ => HRP.out) _ w14 X (HV.out.later B14.out) (Nat.le_trans hB B14.out.size) (HT.out.on (B14.out.mono hB))).mono ?_
        rw [HPO.out]
        rintro e w15 ⟨ap, cp, rfl, hsp, hb15⟩
        have B15 := hide (B14.out.trans (hb15.mono B14.out.size))
        have A15 := hide (A14.out.below hb15 A14.out.lt)
        have C15 := hide (C14.out.below hb15 C14.out.lt)
        have SP15 := hide hsp
        clear hb15 hsp r0 r1 r2 s0 s1
        go_upto_region 19 with fail
        have N16 : Hid (Below w15.heap.size w15 (w15.alloc (.cells #[.int .i64 noY.base, .slice ap noY.subs.length cp] 30))) := (Below.refl _ _).alloc (Nat.le_refl _) _
        have P16 : Hid (Blk (w15.alloc (.cells #[.int .i64 noY.base, .slice ap noY.subs.length cp] 30)) w15.heap.size #[.int .i64 noY.base, .slice ap noY.subs.length cp] 30) := Blk.new _ _ _
        have B16 := hide (B15.out.trans (N16.out.mono B15.out.size))
        have A16 := hide (A15.out.below N16.out A15.out.lt)
        have C16 := hide (C15.out.below N16.out C15.out.lt)
        generalize w15.alloc (.cells #[.int .i64 noY.base, .slice ap noY.subs.length cp] 30) = w16 at *
        have p0 := P16.out.c0
        have p1 : w16.cell? ⟨w15.heap.size, 1, none⟩ = some (.slice ap 0 cp) := P16.out.cell 1
        have r0 := A16.out.c0
        have r1 := A16.out.c1
        have r2 := A16.out.c2
        have s0 := C16.out.c0
        have s1 := C16.out.c1
        go_wp2_with fail
        refine (has_any (O := (E, noY)) (fun _ => HZ.out) R g (fun _ => HRP.out) HPO.out (fun h => absurd h HNE.out) _ _ w16 X Y (HV.out.later B16.out) (HU.out.later B16.out) (Nat.le_trans hB B16.out.size) (HT.out.on (B16.out.mono hB))).mono ?_
        rw [haO_bad HY.out]
        rintro e w17 ⟨rfl, hb17⟩
        have B17 := hide (B16.out.trans (hb17.mono B16.out.size))
        have A17 := hide (A16.out.below hb17 A16.out.lt)
        have C17 := hide (C16.out.below hb17 C16.out.lt)
        clear hb17 r0 r1 r2 s0 s1
        go_wp2_with fail
        go_ret
        exact ⟨rfl, B17.out⟩
    ·have HPE : Hid (prE t = lamE 0 0 t) := by unfold Hid prE; rw [if_neg hl]
     obtain ⟨E, hE⟩ : ∃ E, E = lamE 0 0 t := ⟨_, rfl⟩
     rw [← hE] at HPE hl ⊢
     clear hE
     have HNE := hide hl
     have heb : (E == 0) = false := beq_eq_false_iff_ne.2 hl
     clear hl
     have HPO : Hid (prO t (0, []) = (E, noY)) := by unfold Hid prO; rw [if_neg (by rw [HPE.out]; exact HNE.out), HPE.out]
     go_upto_region 18 with fail
     have N10 : Hid (Below w9.heap.size w9 (w9.alloc (.cells #[.int .i64 0, .slice none 0 0] 30))) := (Below.refl _ _).alloc (Nat.le_refl _) _
     have D10 : Hid (Blk (w9.alloc (.cells #[.int .i64 0, .slice none 0 0] 30)) w9.heap.size #[.int .i64 0, .slice none 0 0] 30) := Blk.new _ _ _
     have B10 := hide (B9.out.trans (N10.out.mono B9.out.size))
     have A10 := hide (A9.out.below N10.out A9.out.lt)
     have C10 := hide (C9.out.below N10.out C9.out.lt)
     generalize w9.alloc (.cells #[.int .i64 0, .slice none 0 0] 30) = w10 at *
     have r0 := A10.out.c0
     have r1 := A10.out.c1
     have r2 := A10.out.c2
     have s0 := C10.out.c0
     have s1 := C10.out.c1
     go_wp2_with fail
     refine (principal_any (fun h => absurd (HPE.out.symm.trans h) HNE.out) (0, []) 0 (fun h => absurd (HPE.out.symm.trans h) HNE.out) _ w10 X (HV.out.later B10.out) (Nat.le_trans hB B10.out.size) (HT.out.on (B10.out.mono hB))).mono ?_
     rw [HPO.out]
     rintro e w11 ⟨ap, cp, rfl, hsp, hb11⟩
     have B11 := hide (B10.out.trans (hb11.mono B10.out.size))
     have A11 := hide (A10.out.below hb11 A10.out.lt)
     have C11 := hide (C10.out.below hb11 C10.out.lt)
     have SP11 := hide hsp
     clear hb11 hsp r0 r1 r2 s0 s1
     go_upto_region 19 with fail
     have N12 : Hid (Below w11.heap.size w11 (w11.alloc (.cells #[.int .i64 noY.base, .slice ap noY.subs.length cp] 30))) := (Below.refl _ _).alloc (Nat.le_refl _) _
     have P12 : Hid (Blk (w11.alloc (.cells #[.int .i64 noY.base, .slice ap noY.subs.length cp] 30)) w11.heap.size #[.int .i64 noY.base, .slice ap noY.subs.length cp] 30) := Blk.new _ _ _
     have B12 := hide (B11.out.trans (N12.out.mono B11.out.size))
     have A12 := hide (A11.out.below N12.out A11.out.lt)
     have C12 := hide (C11.out.below N12.out C11.out.lt)
     generalize w11.alloc (.cells #[.int .i64 noY.base, .slice ap noY.subs.length cp] 30) = w12 at *
     have p0 := P12.out.c0
     have p1 : w12.cell? ⟨w11.heap.size, 1, none⟩ = some (.slice ap 0 cp) := P12.out.cell 1
     have r0 := A12.out.c0
     have r1 := A12.out.c1
     have r2 := A12.out.c2
     have s0 := C12.out.c0
     have s1 := C12.out.c1
     go_wp2_with fail
     refine (has_any (O := (E, noY)) (fun h => absurd (HPE.out.symm.trans h) HNE.out) (0, []) 0 (fun h => absurd (HPE.out.symm.trans h) HNE.out) HPO.out (fun h => absurd h HNE.out) _ _ w12 X Y (HV.out.later B12.out) (HU.out.later B12.out) (Nat.le_trans hB B12.out.size) (HT.out.on (B12.out.mono hB))).mono ?_
     rw [haO_bad HY.out]
     rintro e w13 ⟨rfl, hb13⟩
     have B13 := hide (B12.out.trans (hb13.mono B12.out.size))
     have A13 := hide (A12.out.below hb13 A12.out.lt)
     have C13 := hide (C12.out.below hb13 C12.out.lt)
     clear hb13 r0 r1 r2 s0 s1
     go_wp2_with fail
     go_ret
     exact ⟨rfl, B13.out⟩
end Go.Proofs.YthnncjgjmohinaaGreatDoor

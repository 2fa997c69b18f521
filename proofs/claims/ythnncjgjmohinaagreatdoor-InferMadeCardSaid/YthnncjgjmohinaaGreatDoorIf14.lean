import Derived.Test.YthnncjgjmohinaaGreatDoorIf13
import Derived.Test.YthnncjgjmohinaaGreatDoorZBInferMadeOwn
namespace Go.Proofs.YthnncjgjmohinaaGreatDoor
open Go.RowKit
set_option linter.unusedSimpArgs false
set_option linter.unusedVariables false
set_option maxRecDepth 8000
theorem any_takeI {l : List Lm} {f : Lm → Bool} {k : Nat} (h : k < l.length) (hk : (l.take k).any f = false) (h1 : f l[k] = false) : (l.take (k + 1)).any f = false := by
 rw [List.take_succ_eq_append_getElem h, List.any_append, hk]; simp [h1]
theorem any_atI {l : List Lm} {f : Lm → Bool} {k : Nat} (h : k < l.length) (h1 : f l[k] = true) : l.any f = true := List.any_eq_true.2 ⟨_, List.getElem_mem h, h1⟩
set_option maxHeartbeats 1000000 in
theorem indexCs_of (l : List Lm) (HC : ∀ x ∈ l, ∀ (v : Value) (w : World) (X : Nat → Prop), MV w X v x → Calls Tryz.prog 50 #[v] w fun e w' => e = .returned (.bool (csL [x])) ∧ Below w.heap.size w w') (a : Option Addr) (c : Nat) (w : World) (X : Nat → Prop) (hs : SlM w X a l) :
  Calls Tryz.prog 75 #[.slice a l.length c, .func (.func 50) #[] #[]] w fun e w' => ∃ z : Int, e = .returned (.int .i64 z) ∧ decide (0 ≤ z) = l.any (fun t => csL [t]) ∧ Below w.heap.size w w' := by
 have H := hide HC
 have HS := hide (hs.mono (Y := fun b => X b ∧ b < w.heap.size) fun b h1 h2 => ⟨h1, h2⟩)
 have hl := hs.1
 clear HC hs
 go_enter Tryz.func75, Tryz.ntmps75
 go_wp2_with fail
 go_loopw [8] (fun i wr => ∃ k : Nat, k ≤ l.length ∧ i = .int .i64 (k : Int) ∧ (l.take k).any (fun t => csL [t]) = false ∧ Below w.heap.size w wr) (fun i wr => l.length - (intOf i).toNat)
 case atStart => exact ⟨0, Nat.zero_le _, rfl, by simp, Below.refl _ _⟩
 case round =>
  obtain ⟨k, hk, rfl, hno, hbr⟩ := hrel
  have HNO := hide hno
  have HBR := hide hbr
  clear hno hbr
  by_cases hlt : k < l.length
  ·have hki : (k : Int) < (l.length : Int) := by omega
   obtain ⟨b, o, a1, c1, rfl, x0, x0', x1, hx⟩ := HS.out.get HBR.out (fun b h _ => h.2) k hlt
   have HX := hide hx
   clear hx
   go_wp2_with fail
   refine (H.out l[k] (List.getElem_mem hlt) _ _ _ HX.out).mono ?_
   rintro e w2 ⟨rfl, hb2⟩
   have HB2 := hide (HBR.out.trans (hb2.mono HBR.out.size))
   clear hb2 x0 x0' x1
   cases ho : csL [l[k]] with
   | true =>
    have HA := hide (any_atI (f := fun t => csL [t]) hlt ho)
    clear ho
    go_wp2_with fail
    go_ret
    exact ⟨_, rfl, by rw [HA.out]; simp, HB2.out⟩
   | false =>
    have HA := hide (any_takeI (f := fun t => csL [t]) hlt HNO.out ho)
    clear ho
    go_wp2_with fail
    go_roundw
    case rel => exact ⟨k + 1, by omega, by go_num, HA.out, HB2.out⟩
    case measure => simp [intOf]; omega
  ·have hki : ¬ (k : Int) < (l.length : Int) := by omega
   have HA : Hid (l.any (fun t => csL [t]) = false) := by have h := HNO.out; rw [List.take_of_length_le (by omega)] at h; exact h
   go_wp2_with fail
   go_ret
   exact ⟨-1, rfl, by rw [HA.out]; rfl, HBR.out⟩
set_option maxHeartbeats 2000000 in
theorem holdsConst_any (t : Lm) : ∀ (v : Value) (w : World) (X : Nat → Prop), MV w X v t → Calls Tryz.prog 50 #[v] w fun e w' => e = .returned (.bool (csL [t])) ∧ Below w.heap.size w w' := by
 induction t using Lm.ind with
 | h k0 i0 l0 ih =>
  intro v w X ht
  have IH := hide ih
  clear ih
  obtain ⟨aw, ct, rfl, hst⟩ := ht
  have B1 : Hid (Below w.heap.size w (w.alloc (.cells #[.int .i64 k0, .int .i64 i0, .slice aw l0.length ct] 25))) := (Below.refl _ _).alloc (Nat.le_refl _) _
  have K1 : Hid (Blk (w.alloc (.cells #[.int .i64 k0, .int .i64 i0, .slice aw l0.length ct] 25)) w.heap.size #[.int .i64 k0, .int .i64 i0, .slice aw l0.length ct] 25) := Blk.new _ _ _
  have S1 := hide (hst.later B1.out)
  have hla := hst.1
  clear hst
  have HO := hide (csL_one k0 i0 l0)
  by_cases hk : k0 = 4
  ·subst hk
   go_enter Tryz.func50, Tryz.ntmps50
   go_wp2_with fail
   go_ret
   exact ⟨by rw [HO.out]; rfl, B1.out⟩
  ·have hkf : (k0 == 4) = false := beq_eq_false_iff_ne.2 hk
   rw [hkf, Bool.false_or] at HO
   clear hk
   go_enter Tryz.func50, Tryz.ntmps50
   go_upto_region 1 with fail
   generalize (w.alloc (.cells #[.int .i64 k0, .int .i64 i0, .slice aw l0.length ct] 25)) = w1 at *
   have c0 := K1.out.c0
   have c2 := K1.out.c2
   go_wp2_with fail
   clear c0 c2
   have CF : Calls Tryz.prog 61 #[.slice aw l0.length ct, .func (.func 50) #[] #[]] w1 fun e w' => e = .returned (.bool (l0.any fun t => csL [t])) ∧ Below w1.heap.size w1 w' := by
    go_enter Tryz.func61, Tryz.ntmps61
    go_wp2_with fail
    refine (indexCs_of l0 (fun x hx v w X h => IH.out x hx v w X h) aw ct _ _ S1.out).mono ?_
    rintro e w' ⟨z, rfl, hz, hb⟩
    have HZ := hide hz
    have HB := hide hb
    clear hz hb
    go_wp2_with fail
    go_ret
    exact ⟨by rw [← HZ.out]; rfl, HB.out⟩
   refine CF.mono ?_
   rintro e w3 ⟨rfl, hb3⟩
   have B3 := hide (B1.out.trans (hb3.mono B1.out.size))
   clear hb3
   go_wp2_with fail
   go_ret
   exact ⟨by rw [HO.out, csL_any]; rfl, B3.out⟩
def prE (t : Lm) : Int := if lamE 0 0 t = 0 then (if csL [t] = true then 15 else 0) else lamE 0 0 t
def prO (t : Lm) (R : Int × List Bd) : Int × Ty := if prE t = 0 then outI R (tyT 86 t [] 0).1 else (prE t, noY)
theorem lamE_zero {t : Lm} (h : lamE 0 0 t = 0) : errM 0 0 [t] = 0 ∧ sizeM [t] ≤ 200 := by
 unfold lamE at h
 rw [if_neg (by omega)] at h
 split at h
 ·cases h
 ·exact ⟨h, by omega⟩
set_option maxHeartbeats 2000000 in
theorem principal_any {B : Nat} {t : Lm} (hz : prE t = 0 → sizeM [t] ≤ 60) (R : Int × List Bd) (g : Nat) (hR : prE t = 0 → uRun false g [] (tyT 86 t [] 0).2.1 = some R) (v : Value) (w : World) (X : Nat → Prop) (hv : MV w X v t) (hB : B ≤ w.heap.size) (hT : Tb B w) :
  Calls Tryz.prog 26 #[v] w fun e w' => PrP (prO t R) w e w' := by
 have HV := hide hv
 have HT := hide hT
 obtain ⟨a, c, rfl, -⟩ := hv
 have B2 : Hid (Below w.heap.size w ((w.alloc (.cells #[.int .i64 t.kind, .int .i64 t.idx, .slice a t.subs.length c] 25)).alloc (.cells #[.int .i64 0, .slice none 0 0] 30))) := ((Below.refl _ _).alloc (Nat.le_refl _) _).alloc (by simp) _
 have A2 : Hid (Blk ((w.alloc (.cells #[.int .i64 t.kind, .int .i64 t.idx, .slice a t.subs.length c] 25)).alloc (.cells #[.int .i64 0, .slice none 0 0] 30)) w.heap.size #[.int .i64 t.kind, .int .i64 t.idx, .slice a t.subs.length c] 25) := (Blk.new _ _ _).alloc _
 have R2 : Hid (Blk ((w.alloc (.cells #[.int .i64 t.kind, .int .i64 t.idx, .slice a t.subs.length c] 25)).alloc (.cells #[.int .i64 0, .slice none 0 0] 30)) (w.heap.size + 1) #[.int .i64 0, .slice none 0 0] 30) := by have h := Blk.new (w.alloc (.cells #[.int .i64 t.kind, .int .i64 t.idx, .slice a t.subs.length c] 25)) #[.int .i64 0, .slice none 0 0] 30; rw [World.size_alloc] at h; exact h
 have LCH := hide (fun (w' : World) (h : MV w' X (.agg #[.int .i64 t.kind, .int .i64 t.idx, .slice a t.subs.length c]) t) => lCheck_any t _ 0 w' X h)
 clear hT
 go_enter Tryz.func26, Tryz.ntmps26
 go_upto_region 1 with fail
 generalize ((w.alloc (.cells #[.int .i64 t.kind, .int .i64 t.idx, .slice a t.subs.length c] 25)).alloc (.cells #[.int .i64 0, .slice none 0 0] 30)) = w2 at *
 have x0 := A2.out.c0
 have x1 := A2.out.c1
 have x2 := A2.out.c2
 go_wp2_with fail
 refine (LCH.out w2 (HV.out.later B2.out)).mono ?_
 rintro e w3 ⟨rfl, hb3⟩
 have B3 := hide (B2.out.trans (hb3.mono B2.out.size))
 have A3 := hide (A2.out.below hb3 A2.out.lt)
 have R3 := hide (R2.out.below hb3 R2.out.lt)
 clear hb3 A2 R2 B2 x0 x1 x2
 by_cases hl : lamE 0 0 t = 0
 ·rw [hl]
  have HL := hide hl
  clear hl
  have x0 := A3.out.c0
  have x1 := A3.out.c1
  have x2 := A3.out.c2
  go_wp2_with fail
  refine (holdsConst_any t _ w3 X (HV.out.later B3.out)).mono ?_
  rintro e w4 ⟨rfl, hb4⟩
  have B4 := hide (B3.out.trans (hb4.mono B3.out.size))
  have A4 := hide (A3.out.below hb4 A3.out.lt)
  have R4 := hide (R3.out.below hb4 R3.out.lt)
  clear hb4 A3 R3 B3 x0 x1 x2
  cases hc : csL [t] with
  | true =>
   have HO : Hid (prO t R = (15, noY)) := by unfold Hid prO prE; rw [if_pos HL.out, if_pos hc]; rfl
   clear hc
   have r0 := R4.out.c0
   have r1 := R4.out.c1
   have f0 : w4.frozen? ⟨w.heap.size + 1, 0, none⟩ = false := R4.out.frozen 0
   have f1 : w4.frozen? ⟨w.heap.size + 1, 1, none⟩ = false := R4.out.frozen 1
   go_wp2_with fail
   have R7 : Hid (Blk ((w4.setCell ⟨w.heap.size + 1, 0, none⟩ (.int .i64 0)).setCell ⟨w.heap.size + 1, 1, none⟩ (.slice none 0 0)) (w.heap.size + 1) #[.int .i64 0, .slice none 0 0] 30) := (R4.out.set 0 _).set 1 _
   have B7 : Hid (Below w.heap.size w ((w4.setCell ⟨w.heap.size + 1, 0, none⟩ (.int .i64 0)).setCell ⟨w.heap.size + 1, 1, none⟩ (.slice none 0 0))) := belSetI (belSetI B4.out (by omega) 0 _) (by omega) 1 _
   generalize ((w4.setCell ⟨w.heap.size + 1, 0, none⟩ (.int .i64 0)).setCell ⟨w.heap.size + 1, 1, none⟩ (.slice none 0 0)) = w7 at *
   have c0 := R7.out.cell 0
   have c1 := R7.out.cell 1
   simp only [List.getElem?_toArray, List.getElem?_cons_zero, List.getElem?_cons_succ] at c0 c1
   refine bodyPost_ret (v := .tuple #[.agg #[.int .i64 0, .slice none 0 0], .int .i64 15]) (by simp [results, Tryz.results26, go_sem, c0, c1]) rfl ?_
   refine ⟨none, 0, ?_, ?_, B7.out⟩
   ·rw [HO.out]; rfl
   ·rw [HO.out]; exact ⟨by simp [noY], Or.inl rfl⟩
  | false =>
   have HP : Hid (prE t = 0) := by unfold Hid prE; rw [if_pos HL.out, if_neg (by rw [hc]; decide)]
   have HO : Hid (prO t R = outI R (tyT 86 t [] 0).1) := by unfold Hid prO; rw [if_pos HP.out]
   have HC := hide hc
   clear hc
   have x0 := A4.out.c0
   have x1 := A4.out.c1
   have x2 := A4.out.c2
   go_wp2_with fail
   refine (prinI_any (B := B) (lamE_zero HL.out).1 HC.out (hz HP.out) R g (hR HP.out) _ w4 X (HV.out.later B4.out) (Nat.le_trans hB B4.out.size) (HT.out.on (B4.out.mono hB))).mono ?_
   rintro e w5 ⟨a5, c5, rfl, hs5, hb5⟩
   rw [← HO.out] at hs5 ⊢
   have HPO := hide (rfl : prO t R = prO t R)
   obtain ⟨O, hO⟩ : ∃ O, O = prO t R := ⟨_, rfl⟩
   rw [← hO] at hs5 ⊢
   have HOO := hide hO
   clear hO HPO
   have B5 := hide (B4.out.trans (hb5.mono B4.out.size))
   have R5 := hide (R4.out.below hb5 R4.out.lt)
   have S5 := hide hs5
   have gR : Hid (w.heap.size + 1 < w4.heap.size) := R4.out.lt
   clear hb5 hs5 x0 x1 x2
   have r0 := R5.out.c0
   have r1 := R5.out.c1
   have f0 : w5.frozen? ⟨w.heap.size + 1, 0, none⟩ = false := R5.out.frozen 0
   have f1 : w5.frozen? ⟨w.heap.size + 1, 1, none⟩ = false := R5.out.frozen 1
   go_wp2_with fail
   have R6 : Hid (Blk ((w5.setCell ⟨w.heap.size + 1, 0, none⟩ (.int .i64 O.2.base)).setCell ⟨w.heap.size + 1, 1, none⟩ (.slice a5 O.2.subs.length c5)) (w.heap.size + 1) #[.int .i64 O.2.base, .slice a5 O.2.subs.length c5] 30) := (R5.out.set 0 _).set 1 _
   have B6 : Hid (Below w.heap.size w ((w5.setCell ⟨w.heap.size + 1, 0, none⟩ (.int .i64 O.2.base)).setCell ⟨w.heap.size + 1, 1, none⟩ (.slice a5 O.2.subs.length c5))) := belSetI (belSetI B5.out (by omega) 0 _) (by omega) 1 _
   have S6 : Hid (SlY ((w5.setCell ⟨w.heap.size + 1, 0, none⟩ (.int .i64 O.2.base)).setCell ⟨w.heap.size + 1, 1, none⟩ (.slice a5 O.2.subs.length c5)) (fun b => w.heap.size ≤ b) a5 O.2.subs) := (S5.out.kept fun b hb => by have h1 := gR.out; rw [Below.heap_setCell _ _ _ _ (by simp; omega), Below.heap_setCell _ _ _ _ (by simp; omega)]).mono fun b hb _ => Nat.le_trans B4.out.size hb
   generalize ((w5.setCell ⟨w.heap.size + 1, 0, none⟩ (.int .i64 O.2.base)).setCell ⟨w.heap.size + 1, 1, none⟩ (.slice a5 O.2.subs.length c5)) = w6 at *
   have c0 := R6.out.cell 0
   have c1 := R6.out.cell 1
   simp only [List.getElem?_toArray, List.getElem?_cons_zero, List.getElem?_cons_succ] at c0 c1
   refine bodyPost_ret (v := .tuple #[.agg #[.int .i64 O.2.base, .slice a5 O.2.subs.length c5], .int .i64 O.1]) (by simp [results, Tryz.results26, go_sem, c0, c1]) rfl ?_
   rw [← HOO.out]
   exact ⟨a5, c5, rfl, S6.out, B6.out⟩
 ·have HO : Hid (prO t R = (lamE 0 0 t, noY)) := by unfold Hid prO prE; rw [if_neg hl, if_neg hl]
  have e0 : (lamE 0 0 t != 0) = true := by simpa using hl
  have e0' : (lamE 0 0 t == 0) = false := by simpa using hl
  clear hl
  have R4 := R3
  have B4 := B3
  clear R3 B3
  have r0 := R4.out.c0
  have r1 := R4.out.c1
  have f0 : w3.frozen? ⟨w.heap.size + 1, 0, none⟩ = false := R4.out.frozen 0
  have f1 : w3.frozen? ⟨w.heap.size + 1, 1, none⟩ = false := R4.out.frozen 1
  go_wp2_with fail
  have R7 : Hid (Blk ((w3.setCell ⟨w.heap.size + 1, 0, none⟩ (.int .i64 0)).setCell ⟨w.heap.size + 1, 1, none⟩ (.slice none 0 0)) (w.heap.size + 1) #[.int .i64 0, .slice none 0 0] 30) := (R4.out.set 0 _).set 1 _
  have B7 : Hid (Below w.heap.size w ((w3.setCell ⟨w.heap.size + 1, 0, none⟩ (.int .i64 0)).setCell ⟨w.heap.size + 1, 1, none⟩ (.slice none 0 0))) := belSetI (belSetI B4.out (by omega) 0 _) (by omega) 1 _
  generalize ((w3.setCell ⟨w.heap.size + 1, 0, none⟩ (.int .i64 0)).setCell ⟨w.heap.size + 1, 1, none⟩ (.slice none 0 0)) = w7 at *
  have c0 := R7.out.cell 0
  have c1 := R7.out.cell 1
  simp only [List.getElem?_toArray, List.getElem?_cons_zero, List.getElem?_cons_succ] at c0 c1
  refine bodyPost_ret (v := .tuple #[.agg #[.int .i64 0, .slice none 0 0], .int .i64 (lamE 0 0 t)]) (by simp [results, Tryz.results26, go_sem, c0, c1]) rfl ?_
  refine ⟨none, 0, ?_, ?_, B7.out⟩
  ·rw [HO.out]; rfl
  ·rw [HO.out]; exact ⟨by simp [noY], Or.inl rfl⟩
end Go.Proofs.YthnncjgjmohinaaGreatDoor

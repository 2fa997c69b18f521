import Derived.Test.YtdebiiodhkcnkaaGreatZIndexMadeOwn
import Derived.Test.YtdebiiodhkcnkaaGreatIx15a
import Derived.Test.YtdebiiodhkcnkaaGreatW93
import Derived.Deep.RegionHeld3
namespace Go.Proofs.YtdebiiodhkcnkaaGreat
open Go.RowKit
set_option linter.unusedSimpArgs false
set_option linter.unusedVariables false
set_option maxRecDepth 8000
def SyA (l : List Tm) (W1 : World) (e i : Value) (wr : World) : Prop := ∃ k : Nat, k ≤ l.length ∧ i = .int .i64 (k : Int) ∧ e = .int .i64 (eA l k) ∧ Below W1.heap.size W1 wr
def SyB (l : List Tm) (t : Tm) (W2 : World) (v1 v2 v3 i : Value) (wr : World) : Prop := ∃ k : Nat, k ≤ l.length ∧ i = .int .i64 (k : Int) ∧ (k = 0 ∨ mayE t = 0) ∧ Rw3 W2.heap.size wr v1 v2 v3 (flI 0 l t k) (flI 1 l t k) (flI 2 l t k) ∧ Below W2.heap.size W2 wr
set_option maxHeartbeats 8000000 in
theorem indexSays_any (l : List Tm) (t : Tm) (a : Option Addr) (c : Nat) (v : Value) (w : World) (hs : Sl w (fun _ => True) a l) (hv : TV w (fun _ => True) v t) :
  Calls Tryz.prog 7 #[.slice a l.length c, v] w fun e w' => e = .returned (.bool true) ∧ Below w.heap.size w w' := by
 obtain ⟨ta, tc, rfl, hst⟩ := hv
 have H1 : Hid (Below w.heap.size w (w.alloc (.cells #[.string t.name, .slice ta t.args.length tc] 26))) := (Below.refl _ _).alloc (Nat.le_refl _) _
 have P1 : Hid (Blk (w.alloc (.cells #[.string t.name, .slice ta t.args.length tc] 26)) w.heap.size #[.string t.name, .slice ta t.args.length tc] 26) := Blk.new _ _ _
 have HS := hide (hs.later H1.out)
 have HST := hide (hst.later H1.out)
 have hll := hs.1
 clear hs hst
 by_cases h60 : 60 < l.length
 ·have h60i : (60 : Int) < (l.length : Int) := by omega
  clear HS HST P1
  go_enter Tryz.func7, Tryz.ntmps7
  go_wp2_with fail
  go_ret
  exact ⟨rfl, H1.out⟩
 have h60i : ¬ (60 : Int) < (l.length : Int) := by omega
 go_enter Tryz.func7, Tryz.ntmps7
 go_upto_region 1 with fail
 generalize (w.alloc (.cells #[.string t.name, .slice ta t.args.length tc] 26)) = w1 at *
 have KT : Hid (∀ w', Below w1.heap.size w1 w' → w'.cell? ⟨w.heap.size, 0, none⟩ = some (.string t.name) ∧ w'.cell? ⟨w.heap.size, 1, none⟩ = some (.slice ta t.args.length tc) ∧ TV w' (fun _ => True) (.agg #[.string t.name, .slice ta t.args.length tc]) t ∧ Sl w' (fun _ => True) ta t.args) := fun w' hb => ⟨(P1.out.below hb P1.out.lt).c0, (P1.out.below hb P1.out.lt).c1, ⟨ta, tc, rfl, HST.out.later hb⟩, HST.out.later hb⟩
 clear P1 HST
 obtain ⟨t0, t1, htv, -⟩ := KT.out w1 (Below.refl _ _)
 have HTV := hide htv
 clear htv
 by_cases hhu : 3000 < sizeL [t]
 ·have hd : decide (3000 < sizeL [t]) = true := decide_eq_true hhu
  go_wp2_with (go_at_call 18; refine (huge_any t _ _ _ HTV.out).mono ?_; rintro e w2 ⟨rfl, hb2⟩; rw [hd]; have HB2 := hide hb2; clear hb2)
  go_ret
  exact ⟨rfl, H1.out.trans (HB2.out.mono H1.out.size)⟩
 have hd : decide (3000 < sizeL [t]) = false := decide_eq_false hhu
 go_upto_region 4 with (go_at_call 18; refine (huge_any t _ _ _ HTV.out).mono ?_; rintro e w2 ⟨rfl, hb2⟩; rw [hd]; have HB2 := hide hb2; clear hb2)
 clear t0 t1 HTV hd hhu
 by_cases h40 : 40 < l.length
 ·have h40i : (40 : Int) < (l.length : Int) := by omega
  have HB3 := HB2
  have HE0 : Hid (eA l 0 = 3) := by unfold Hid eA; rw [if_pos h40]
  go_wp2_with fail
  go_loopw [5, 6] (fun e i wr => SyA l w1 e i wr) (fun e i wr => l.length - (intOf i).toNat)
  case atStart => exact ⟨0, Nat.zero_le _, rfl, by rw [HE0.out], HB3.out⟩
  case round =>
   clear HB3 HE0
   obtain ⟨k, hk, rfl, rfl, hb⟩ := hrel
   have HB := hide hb
   clear hb
   by_cases hlt : k < l.length
   ·have hki : (k : Int) < (l.length : Int) := by omega
    obtain ⟨b, o, a', c', rfl, hga⟩ := HS.out.getA k hlt
    have HGA := hide hga
    clear hga
    obtain ⟨d0, d1, htv, -⟩ := HGA.out wr HB.out
    have HTV := hide htv
    clear htv
    by_cases hhu : 3000 < sizeL [l[k]]
    ·have hd : decide (3000 < sizeL [l[k]]) = true := decide_eq_true hhu
     go_wp2_with (go_at_call 18; refine (huge_any l[k] _ _ _ HTV.out).mono ?_; rintro e w4 ⟨rfl, hb4⟩; rw [hd]; have HB4 := hide hb4; clear hb4)
     go_ret
     exact ⟨rfl, H1.out.trans ((HB.out.trans (HB4.out.mono HB.out.size)).mono H1.out.size)⟩
    ·have hd : decide (3000 < sizeL [l[k]]) = false := decide_eq_false hhu
     go_upto_region 11 with (go_at_call 18; refine (huge_any l[k] _ _ _ HTV.out).mono ?_; rintro e w4 ⟨rfl, hb4⟩; rw [hd]; have HB4 := hide (HB.out.trans (hb4.mono HB.out.size)); clear hb4)
     clear d0 d1 hhu hd HTV HB wr
     by_cases h0 : eA l k = 0
     ·obtain ⟨d0, d1, htv, -⟩ := HGA.out w4 HB4.out
      have HTV := hide htv
      have HN := hide (eA_next hlt h0)
      rw [h0]
      clear htv h0
      go_wp2_with (go_at_call 19; refine (termMay_any l[k] _ _ _ HTV.out).mono ?_; rintro e w5 ⟨rfl, hb5⟩; have HB5 := hide (HB4.out.trans (hb5.mono HB4.out.size)); clear hb5)
      go_roundw
      case rel => exact ⟨k + 1, hlt, by go_num, by rw [HN.out], HB5.out⟩
      case measure => simp [intOf]; omega
     ·have hb0 : (eA l k == 0) = false := beq_eq_false_iff_ne.2 h0
      have HN := hide (eA_stuck h0)
      clear h0
      go_wp2_with fail
      go_roundw
      case rel => exact ⟨k + 1, hlt, by go_num, by rw [HN.out], HB4.out⟩
      case measure => simp [intOf]; omega
   ·have hki : ¬ (k : Int) < (l.length : Int) := by omega
    have hke : k = l.length := by omega
    subst hke
    rw [eA_end]
    clear hk hlt
    have CN := hide (new_any l a c wr _ (HS.out.later HB.out))
    go_upto_region 14 with (go_at_call 9; refine CN.out.mono ?_; rintro e w4 ⟨hb4, hcs⟩; have HB4 := hide (HB.out.trans (hb4.mono HB.out.size)); have HCS := hide hcs; clear hb4 hcs CN; rcases HCS.out with ⟨h0, rfl⟩ | ⟨h0, X, y, tv, Z, rfl, hN⟩)
    ·clear HCS
     have hb0 : (newE l == 0) = false := beq_eq_false_iff_ne.2 h0
     have hn0 : (newE l != 0) = true := by simp [bne, hb0]
     clear h0
     go_wp2_with fail
     go_ret
     exact ⟨rfl, H1.out.trans (HB4.out.mono H1.out.size)⟩
    ·have h9 := (newE_all h0).1; omega
 ·have h40i : ¬ (40 : Int) < (l.length : Int) := by omega
  have HB3 := HB2
  have HE0 : Hid (eA l 0 = 0) := by unfold Hid eA; rw [if_neg h40]; rfl
  go_wp2_with fail
  go_loopw [5, 6] (fun e i wr => SyA l w1 e i wr) (fun e i wr => l.length - (intOf i).toNat)
  case atStart => exact ⟨0, Nat.zero_le _, rfl, by rw [HE0.out], HB3.out⟩
  case round =>
   clear HB3 HE0
   obtain ⟨k, hk, rfl, rfl, hb⟩ := hrel
   have HB := hide hb
   clear hb
   by_cases hlt : k < l.length
   ·have hki : (k : Int) < (l.length : Int) := by omega
    obtain ⟨b, o, a', c', rfl, hga⟩ := HS.out.getA k hlt
    have HGA := hide hga
    clear hga
    obtain ⟨d0, d1, htv, -⟩ := HGA.out wr HB.out
    have HTV := hide htv
    clear htv
    by_cases hhu : 3000 < sizeL [l[k]]
    ·have hd : decide (3000 < sizeL [l[k]]) = true := decide_eq_true hhu
     go_wp2_with (go_at_call 18; refine (huge_any l[k] _ _ _ HTV.out).mono ?_; rintro e w4 ⟨rfl, hb4⟩; rw [hd]; have HB4 := hide hb4; clear hb4)
     go_ret
     exact ⟨rfl, H1.out.trans ((HB.out.trans (HB4.out.mono HB.out.size)).mono H1.out.size)⟩
    ·have hd : decide (3000 < sizeL [l[k]]) = false := decide_eq_false hhu
     go_upto_region 11 with (go_at_call 18; refine (huge_any l[k] _ _ _ HTV.out).mono ?_; rintro e w4 ⟨rfl, hb4⟩; rw [hd]; have HB4 := hide (HB.out.trans (hb4.mono HB.out.size)); clear hb4)
     clear d0 d1 hhu hd HTV HB wr
     by_cases h0 : eA l k = 0
     ·obtain ⟨d0, d1, htv, -⟩ := HGA.out w4 HB4.out
      have HTV := hide htv
      have HN := hide (eA_next hlt h0)
      rw [h0]
      clear htv h0
      go_wp2_with (go_at_call 19; refine (termMay_any l[k] _ _ _ HTV.out).mono ?_; rintro e w5 ⟨rfl, hb5⟩; have HB5 := hide (HB4.out.trans (hb5.mono HB4.out.size)); clear hb5)
      go_roundw
      case rel => exact ⟨k + 1, hlt, by go_num, by rw [HN.out], HB5.out⟩
      case measure => simp [intOf]; omega
     ·have hb0 : (eA l k == 0) = false := beq_eq_false_iff_ne.2 h0
      have HN := hide (eA_stuck h0)
      clear h0
      go_wp2_with fail
      go_roundw
      case rel => exact ⟨k + 1, hlt, by go_num, by rw [HN.out], HB4.out⟩
      case measure => simp [intOf]; omega
   ·have hki : ¬ (k : Int) < (l.length : Int) := by omega
    have hke : k = l.length := by omega
    subst hke
    rw [eA_end]
    clear hk hlt
    have CN := hide (new_any l a c wr _ (HS.out.later HB.out))
    go_upto_region 14 with (go_at_call 9; refine CN.out.mono ?_; rintro e w4 ⟨hb4, hcs⟩; have HB4 := hide (HB.out.trans (hb4.mono HB.out.size)); have HCS := hide hcs; clear hb4 hcs CN; rcases HCS.out with ⟨h0, rfl⟩ | ⟨h0, X, y, tv, Z, rfl, hN⟩)
    ·clear HCS
     have hb0 : (newE l == 0) = false := beq_eq_false_iff_ne.2 h0
     have hn0 : (newE l != 0) = true := by simp [bne, hb0]
     clear h0
     go_wp2_with fail
     go_ret
     exact ⟨rfl, H1.out.trans (HB4.out.mono H1.out.size)⟩
    ·clear HCS
     have HX : Hid (IdxW w4 wr.heap.size X l) := ⟨y, tv, Z, hN⟩
     have HALL := hide (newE_all h0)
     clear hN h0
     obtain ⟨t0, t1, htv, -⟩ := KT.out w4 HB4.out
     have HTV := hide htv
     clear htv
     go_wp2_with (go_at_call 19; refine (termMay_any t _ _ _ HTV.out).mono ?_; rintro e w5 ⟨rfl, hb5⟩; have HX5 := hide (HX.out.later hb5); have HB5 := hide (HB4.out.trans (hb5.mono HB4.out.size)); clear hb5)
     clear t0 t1 HTV HX HB4 w4
     go_loopw [9, 10, 11, 12] (fun v1 v2 v3 i wr => SyB l t w5 v1 v2 v3 i wr) (fun v1 v2 v3 i wr => l.length - (intOf i).toNat)
     case atStart => exact ⟨0, Nat.zero_le _, rfl, Or.inl rfl, Rw3.start _ _, Below.refl _ _⟩
     case round =>
      obtain ⟨k, hk, rfl, hkm, hR, hb6⟩ := hrel
      rename World => w6
      have HKM := hide hkm
      have HR := hide hR
      have HB6 := hide hb6
      have HB16 := hide (HB5.out.trans (hb6.mono HB5.out.size))
      clear hkm hR hb6
      by_cases hlt : k < l.length
      ·have hki : (k : Int) < (l.length : Int) := by omega
       by_cases h0 : mayE t = 0
       ·rw [h0]
        obtain ⟨b, o, a', c', rfl, hga⟩ := HS.out.getA k hlt
        have HGA := hide hga
        have HMK := hide (HALL.out.2 _ (List.getElem_mem hlt))
        have HSZK := hide (mayE_zero HMK.out).1
        have HSZT := hide (mayE_zero h0).1
        have H0 := hide h0
        clear hga h0
        have KK : Hid (∀ w', Below w1.heap.size w1 w' → (w'.cell? ⟨b, o + k * 2, none⟩ = some (.string l[k].name) ∧ w'.cell? ⟨b, o + k * 2 + 1, none⟩ = some (.slice a' l[k].args.length c') ∧ w'.cell? ⟨w.heap.size, 0, none⟩ = some (.string t.name) ∧ w'.cell? ⟨w.heap.size, 1, none⟩ = some (.slice ta t.args.length tc))) := fun w' hb => by
         obtain ⟨y0, y1, y2, y3⟩ := HGA.out w' hb
         obtain ⟨z0, z1, z2, z3⟩ := KT.out w' hb
         exact ⟨y0, y1, z0, z1⟩
        go_upto_region 23 with fail
        refine wp_region_held_drew (S := fun w' => (w'.cell? ⟨b, o + k * 2, none⟩ = some (.string l[k].name) ∧ w'.cell? ⟨b, o + k * 2 + 1, none⟩ = some (.slice a' l[k].args.length c') ∧ w'.cell? ⟨w.heap.size, 0, none⟩ = some (.string t.name) ∧ w'.cell? ⟨w.heap.size, 1, none⟩ = some (.slice ta t.args.length tc))) (by kernel_rfl) (by exact KK.out _ HB16.out.drew) (fun hHeld => ?_)
        generalize hw16 : w6.drew = d16 at *
        have HD16 : Hid (Below w1.heap.size w1 d16) := by unfold Hid; rw [← hw16]; exact HB16.out.drew
        have HE16 : Hid (Below w6.heap.size w6 d16) := by unfold Hid; rw [← hw16]; exact (Below.refl _ _).drew
        clear hw16
        refine tkq (v := ?_) 0 rfl ?_ ?_
        rotate_left
        ·intro w' hSw
         obtain ⟨x0, x1, x2, x3⟩ := hSw
         go_simp <;> with_reducible rfl
        try simp only [Act.put, sq]
        refine tkq (v := ?_) 1 rfl ?_ ?_
        rotate_left
        ·intro w' hSw
         obtain ⟨x0, x1, x2, x3⟩ := hSw
         go_simp <;> with_reducible rfl
        try simp only [Act.put, sq]
        refine tkq (v := ?_) 2 rfl ?_ ?_
        rotate_left
        ·intro w' hSw
         obtain ⟨x0, x1, x2, x3⟩ := hSw
         go_simp <;> with_reducible rfl
        try simp only [Act.put, sq]
        refine tkq (v := ?_) 3 rfl ?_ ?_
        rotate_left
        ·intro w' hSw
         obtain ⟨x0, x1, x2, x3⟩ := hSw
         go_simp <;> with_reducible rfl
        try simp only [Act.put, sq]
        refine tkq (v := ?_) 4 rfl ?_ ?_
        rotate_left
        ·intro w' hSw
         obtain ⟨x0, x1, x2, x3⟩ := hSw
         go_simp <;> with_reducible rfl
        try simp only [Act.put, sq]
        refine rdq 5 rfl fun K hK => ?_
        go_simp
        go_at_call 20
        obtain ⟨-, -, y2, -⟩ := HGA.out d16 HD16.out
        obtain ⟨-, -, z2, -⟩ := KT.out d16 HD16.out
        refine (matchOf_b l[k] t _ _ d16 _ y2 z2 (by have := HSZK.out; have := HSZT.out; omega)).mono ?_
        rintro e w7 ⟨m1, rfl, hb⟩
        have HBw7 := hide (HD16.out.trans (hb.mono HD16.out.size))
        have HGw7 := hide (HE16.out.trans (hb.mono HE16.out.size))
        clear hb y2 z2 HD16 HE16
        refine hK.out _ _ (by exact KK.out _ HBw7.out) (fun hHeld => ?_)
        clear hK K
        try simp only [Act.put, sq]
        refine tkq (v := ?_) 6 rfl ?_ ?_
        rotate_left
        ·intro w' hSw
         obtain ⟨x0, x1, x2, x3⟩ := hSw
         go_simp <;> with_reducible rfl
        try simp only [Act.put, sq]
        refine tkq (v := ?_) 7 rfl ?_ ?_
        rotate_left
        ·intro w' hSw
         obtain ⟨x0, x1, x2, x3⟩ := hSw
         go_simp <;> with_reducible rfl
        try simp only [Act.put, sq]
        refine tkq (v := ?_) 8 rfl ?_ ?_
        rotate_left
        ·intro w' hSw
         obtain ⟨x0, x1, x2, x3⟩ := hSw
         go_simp <;> with_reducible rfl
        try simp only [Act.put, sq]
        refine tkq (v := ?_) 9 rfl ?_ ?_
        rotate_left
        ·intro w' hSw
         obtain ⟨x0, x1, x2, x3⟩ := hSw
         go_simp <;> with_reducible rfl
        try simp only [Act.put, sq]
        refine tkq (v := ?_) 10 rfl ?_ ?_
        rotate_left
        ·intro w' hSw
         obtain ⟨x0, x1, x2, x3⟩ := hSw
         go_simp <;> with_reducible rfl
        try simp only [Act.put, sq]
        refine wpAnyH_done (by kernel_rfl) ?_ _
        have HR7 := hide (HR.out.later HGw7.out)
        have HQ7 := hide (HB6.out.trans (HGw7.out.mono HB6.out.size))
        clear HR HGw7 HB6 HB16
        go_upto_region 24 with fail
        refine wp_region_held_drew (S := fun w' => (w'.cell? ⟨b, o + k * 2, none⟩ = some (.string l[k].name) ∧ w'.cell? ⟨b, o + k * 2 + 1, none⟩ = some (.slice a' l[k].args.length c') ∧ w'.cell? ⟨w.heap.size, 0, none⟩ = some (.string t.name) ∧ w'.cell? ⟨w.heap.size, 1, none⟩ = some (.slice ta t.args.length tc))) (by kernel_rfl) (by exact KK.out _ HBw7.out.drew) (fun hHeld => ?_)
        generalize hww7 : w7.drew = dw7 at *
        have HDw7 : Hid (Below w1.heap.size w1 dw7) := by unfold Hid; rw [← hww7]; exact HBw7.out.drew
        have HEw7 : Hid (Below w7.heap.size w7 dw7) := by unfold Hid; rw [← hww7]; exact (Below.refl _ _).drew
        clear hww7
        refine tkq (v := ?_) 0 rfl ?_ ?_
        rotate_left
        ·intro w' hSw
         obtain ⟨x0, x1, x2, x3⟩ := hSw
         go_simp <;> with_reducible rfl
        try simp only [Act.put, sq]
        refine tkq (v := ?_) 1 rfl ?_ ?_
        rotate_left
        ·intro w' hSw
         obtain ⟨x0, x1, x2, x3⟩ := hSw
         go_simp <;> with_reducible rfl
        try simp only [Act.put, sq]
        refine tkq (v := ?_) 2 rfl ?_ ?_
        rotate_left
        ·intro w' hSw
         obtain ⟨x0, x1, x2, x3⟩ := hSw
         go_simp <;> with_reducible rfl
        try simp only [Act.put, sq]
        refine tkq (v := ?_) 3 rfl ?_ ?_
        rotate_left
        ·intro w' hSw
         obtain ⟨x0, x1, x2, x3⟩ := hSw
         go_simp <;> with_reducible rfl
        try simp only [Act.put, sq]
        refine tkq (v := ?_) 4 rfl ?_ ?_
        rotate_left
        ·intro w' hSw
         obtain ⟨x0, x1, x2, x3⟩ := hSw
         go_simp <;> with_reducible rfl
        try simp only [Act.put, sq]
        refine rdq 5 rfl fun K hK => ?_
        go_simp
        go_at_call 20
        obtain ⟨-, -, y2, -⟩ := HGA.out dw7 HDw7.out
        obtain ⟨-, -, z2, -⟩ := KT.out dw7 HDw7.out
        refine (matchOf_b t l[k] _ _ dw7 _ z2 y2 (by have := HSZK.out; have := HSZT.out; omega)).mono ?_
        rintro e w8 ⟨m2, rfl, hb⟩
        have HBw8 := hide (HDw7.out.trans (hb.mono HDw7.out.size))
        have HGw8 := hide (HEw7.out.trans (hb.mono HEw7.out.size))
        clear hb y2 z2 HDw7 HEw7
        refine hK.out _ _ (by exact KK.out _ HBw8.out) (fun hHeld => ?_)
        clear hK K
        try simp only [Act.put, sq]
        refine tkq (v := ?_) 6 rfl ?_ ?_
        rotate_left
        ·intro w' hSw
         obtain ⟨x0, x1, x2, x3⟩ := hSw
         go_simp <;> with_reducible rfl
        try simp only [Act.put, sq]
        refine tkq (v := ?_) 7 rfl ?_ ?_
        rotate_left
        ·intro w' hSw
         obtain ⟨x0, x1, x2, x3⟩ := hSw
         go_simp <;> with_reducible rfl
        try simp only [Act.put, sq]
        refine tkq (v := ?_) 8 rfl ?_ ?_
        rotate_left
        ·intro w' hSw
         obtain ⟨x0, x1, x2, x3⟩ := hSw
         go_simp <;> with_reducible rfl
        try simp only [Act.put, sq]
        refine tkq (v := ?_) 9 rfl ?_ ?_
        rotate_left
        ·intro w' hSw
         obtain ⟨x0, x1, x2, x3⟩ := hSw
         go_simp <;> with_reducible rfl
        try simp only [Act.put, sq]
        refine tkq (v := ?_) 10 rfl ?_ ?_
        rotate_left
        ·intro w' hSw
         obtain ⟨x0, x1, x2, x3⟩ := hSw
         go_simp <;> with_reducible rfl
        try simp only [Act.put, sq]
        refine wpAnyH_done (by kernel_rfl) ?_ _
        have HR8 := hide (HR7.out.later HGw8.out)
        have HQ8 := hide (HQ7.out.trans (HGw8.out.mono HQ7.out.size))
        clear HR7 HGw8 HQ7 HBw7
        go_upto_region 25 with fail
        refine wp_region_held_drew (S := fun w' => (w'.cell? ⟨b, o + k * 2, none⟩ = some (.string l[k].name) ∧ w'.cell? ⟨b, o + k * 2 + 1, none⟩ = some (.slice a' l[k].args.length c') ∧ w'.cell? ⟨w.heap.size, 0, none⟩ = some (.string t.name) ∧ w'.cell? ⟨w.heap.size, 1, none⟩ = some (.slice ta t.args.length tc))) (by kernel_rfl) (by exact KK.out _ HBw8.out.drew) (fun hHeld => ?_)
        generalize hww8 : w8.drew = dw8 at *
        have HDw8 : Hid (Below w1.heap.size w1 dw8) := by unfold Hid; rw [← hww8]; exact HBw8.out.drew
        have HEw8 : Hid (Below w8.heap.size w8 dw8) := by unfold Hid; rw [← hww8]; exact (Below.refl _ _).drew
        clear hww8
        refine tkq (v := ?_) 0 rfl ?_ ?_
        rotate_left
        ·intro w' hSw
         obtain ⟨x0, x1, x2, x3⟩ := hSw
         go_simp <;> with_reducible rfl
        try simp only [Act.put, sq]
        refine tkq (v := ?_) 1 rfl ?_ ?_
        rotate_left
        ·intro w' hSw
         obtain ⟨x0, x1, x2, x3⟩ := hSw
         go_simp <;> with_reducible rfl
        try simp only [Act.put, sq]
        refine tkq (v := ?_) 2 rfl ?_ ?_
        rotate_left
        ·intro w' hSw
         obtain ⟨x0, x1, x2, x3⟩ := hSw
         go_simp <;> with_reducible rfl
        try simp only [Act.put, sq]
        refine tkq (v := ?_) 3 rfl ?_ ?_
        rotate_left
        ·intro w' hSw
         obtain ⟨x0, x1, x2, x3⟩ := hSw
         go_simp <;> with_reducible rfl
        try simp only [Act.put, sq]
        refine tkq (v := ?_) 4 rfl ?_ ?_
        rotate_left
        ·intro w' hSw
         obtain ⟨x0, x1, x2, x3⟩ := hSw
         go_simp <;> with_reducible rfl
        try simp only [Act.put, sq]
        refine tkq (v := ?_) 5 rfl ?_ ?_
        rotate_left
        ·intro w' hSw
         obtain ⟨x0, x1, x2, x3⟩ := hSw
         go_simp <;> with_reducible rfl
        try simp only [Act.put, sq]
        refine rdq 6 rfl fun K hK => ?_
        go_simp
        have HDA : Hid (Below w1.heap.size w1 (dw8.alloc (.cells #[.string l[k].name, .slice a' l[k].args.length c', .string t.name, .slice ta t.args.length tc] 45))) := HDw8.out.alloc HDw8.out.size _
        have HEA : Hid (Below w8.heap.size w8 (dw8.alloc (.cells #[.string l[k].name, .slice a' l[k].args.length c', .string t.name, .slice ta t.args.length tc] 45))) := HEw8.out.alloc HEw8.out.size _
        have HQV : Hid (QV (dw8.alloc (.cells #[.string l[k].name, .slice a' l[k].args.length c', .string t.name, .slice ta t.args.length tc] 45)) (fun _ => True) (.slice (some ⟨dw8.heap.size, 0, none⟩) 1 1) [⟨l[k], t⟩]) := qvOneI (Blk.new _ _ _) (HGA.out _ HDA.out).2.2.2 (KT.out _ HDA.out).2.2.2
        refine hK.out _ _ (by exact KK.out _ HDA.out) (fun hHeld => ?_)
        clear hK K
        try simp only [Act.put, sq]
        generalize dw8.alloc (.cells #[.string l[k].name, .slice a' l[k].args.length c', .string t.name, .slice ta t.args.length tc] 45) = wp at *
        refine rdq 7 rfl fun K hK => ?_
        go_simp
        go_at_call 21
        refine (unifyOf1_any HMK.out H0.out _ _ _ HQV.out).mono ?_
        rintro e w9 ⟨uv, uc, rfl, huc, hb⟩
        have HBw9 := hide (HDA.out.trans (hb.mono HDA.out.size))
        have HGw9 := hide (HEA.out.trans (hb.mono HEA.out.size))
        have HUC := hide huc
        clear hb huc HDA HEA HQV HDw8 HEw8
        refine hK.out _ _ (by exact KK.out _ HBw9.out) (fun hHeld => ?_)
        clear hK K
        try simp only [Act.put, sq]
        refine tkq (v := ?_) 8 rfl ?_ ?_
        rotate_left
        ·intro w' hSw
         obtain ⟨x0, x1, x2, x3⟩ := hSw
         go_simp <;> with_reducible rfl
        try simp only [Act.put, sq]
        refine tkq (v := ?_) 9 rfl ?_ ?_
        rotate_left
        ·intro w' hSw
         obtain ⟨x0, x1, x2, x3⟩ := hSw
         go_simp <;> with_reducible rfl
        try simp only [Act.put, sq]
        refine tkq (v := ?_) 10 rfl ?_ ?_
        rotate_left
        ·intro w' hSw
         obtain ⟨x0, x1, x2, x3⟩ := hSw
         go_simp <;> with_reducible rfl
        try simp only [Act.put, sq]
        refine tkq (v := ?_) 11 rfl ?_ ?_
        rotate_left
        ·intro w' hSw
         obtain ⟨x0, x1, x2, x3⟩ := hSw
         go_simp <;> with_reducible rfl
        try simp only [Act.put, sq]
        refine tkq (v := ?_) 12 rfl ?_ ?_
        rotate_left
        ·intro w' hSw
         obtain ⟨x0, x1, x2, x3⟩ := hSw
         go_simp <;> with_reducible rfl
        try simp only [Act.put, sq]
        refine wpAnyH_done (by kernel_rfl) ?_ _
        have HR9 := hide (HR8.out.later HGw9.out)
        have HQ9 := hide (HQ8.out.trans (HGw9.out.mono HQ8.out.size))
        clear HR8 HGw9 HQ8 HBw8 KK HGA
        have F1 : Hid (mtB l[k] t = metF 0 l t k) := by
         have h := metF_iff (k := 0) (t := t) hlt
         simp only [MetP, if_true] at h
         unfold Hid; cases e1 : mtB l[k] t <;> cases e2 : metF 0 l t k <;> simp_all
        have F2 : Hid (mtB t l[k] = metF 1 l t k) := by
         have h := metF_iff (k := 1) (t := t) hlt
         simp only [MetP, if_true, Nat.one_ne_zero, if_false] at h
         unfold Hid; cases e1 : mtB t l[k] <;> cases e2 : metF 1 l t k <;> simp_all
        have F3 : Hid ((uc == 0) = metF 2 l t k) := by
         have h := (metF_iff (k := 2) (t := t) hlt).trans (show MetP 2 l[k] t ↔ UnOk l[k] t by simp [MetP])
         have h2 := HUC.out.trans h.symm
         unfold Hid; cases e2 : metF 2 l t k
         ·rw [e2] at h2; exact beq_eq_false_iff_ne.2 fun e => by simpa using h2.1 e
         ·rw [e2] at h2; rw [beq_iff_eq]; exact h2.2 rfl
        rw [F1.out, F2.out]
        have f3 := F3.out
        clear F1 F2 F3 HUC
        have HZ9 : Hid (w5.heap.size ≤ w9.heap.size) := HQ9.out.size
        go_upto_region 26 with fail
        by_cases g0 : metF 0 l t k = true
        ·have e0 := flI_t g0
         obtain ⟨u0, x0, hr, hR, hQ, hZ⟩ := HR9.out.add HZ9.out HQ9.out (Nat.le_trans (flI_len _ _ _ _) (by omega)) k
         rw [← e0] at hR
         have HA := hide hr
         have HR0 := hide hR.rot
         have HQ0 := hide hQ
         have HZ0 := hide hZ
         clear hr hR hQ hZ e0 HR9 HQ9 HZ9
         rw [g0]
         go_upto_region 28 with (at_builtin; refine wpList_append_eq rfl _ _ _ _ rfl rfl rfl HA.out ?_)
         clear HA g0
         by_cases g1 : metF 1 l t k = true
         ·have e1 := flI_t g1
          obtain ⟨u1, x1, hr, hR, hQ, hZ⟩ := HR0.out.add HZ0.out HQ0.out (Nat.le_trans (flI_len _ _ _ _) (by omega)) k
          rw [← e1] at hR
          have HA := hide hr
          have HR1 := hide hR.rot
          have HQ1 := hide hQ
          have HZ1 := hide hZ
          clear hr hR hQ hZ e1 HR0 HQ0 HZ0
          rw [g1]
          go_upto_region 30 with (at_builtin; refine wpList_append_eq rfl _ _ _ _ rfl rfl rfl HA.out ?_)
          clear HA g1
          by_cases g2 : metF 2 l t k = true
          ·have e2 := flI_t g2
           obtain ⟨u2, x2, hr, hR, hQ, hZ⟩ := HR1.out.add HZ1.out HQ1.out (Nat.le_trans (flI_len _ _ _ _) (by omega)) k
           rw [← e2] at hR
           have HA := hide hr
           have HR2 := hide hR.rot
           have HQ2 := hide hQ
           have HZ2 := hide hZ
           clear hr hR hQ hZ e2 HR1 HQ1 HZ1
           rw [g2] at f3
           go_wp2_with (at_builtin; refine wpList_append_eq rfl _ _ _ _ rfl rfl rfl HA.out ?_)
           clear HA g2
           go_roundw
           case rel => exact ⟨k + 1, hlt, by go_num, Or.inr H0.out, HR2.out, HQ2.out⟩
           case measure => simp [intOf]; omega
          ·have e2 := flI_f g2
           rw [Bool.not_eq_true] at g2
           have HR2 := hide HR1.out.rot
           rw [← e2] at HR2
           have HQ2 := HQ1
           have HZ2 := HZ1
           clear e2 HR1 HQ1 HZ1
           rw [g2] at f3
           go_wp2_with fail
           clear g2
           go_roundw
           case rel => exact ⟨k + 1, hlt, by go_num, Or.inr H0.out, HR2.out, HQ2.out⟩
           case measure => simp [intOf]; omega
         ·have e1 := flI_f g1
          rw [Bool.not_eq_true] at g1
          have HR1 := hide HR0.out.rot
          rw [← e1] at HR1
          have HQ1 := HQ0
          have HZ1 := HZ0
          clear e1 HR0 HQ0 HZ0
          rw [g1]
          go_upto_region 30 with fail
          clear g1
          by_cases g2 : metF 2 l t k = true
          ·have e2 := flI_t g2
           obtain ⟨u2, x2, hr, hR, hQ, hZ⟩ := HR1.out.add HZ1.out HQ1.out (Nat.le_trans (flI_len _ _ _ _) (by omega)) k
           rw [← e2] at hR
           have HA := hide hr
           have HR2 := hide hR.rot
           have HQ2 := hide hQ
           have HZ2 := hide hZ
           clear hr hR hQ hZ e2 HR1 HQ1 HZ1
           rw [g2] at f3
           go_wp2_with (at_builtin; refine wpList_append_eq rfl _ _ _ _ rfl rfl rfl HA.out ?_)
           clear HA g2
           go_roundw
           case rel => exact ⟨k + 1, hlt, by go_num, Or.inr H0.out, HR2.out, HQ2.out⟩
           case measure => simp [intOf]; omega
          ·have e2 := flI_f g2
           rw [Bool.not_eq_true] at g2
           have HR2 := hide HR1.out.rot
           rw [← e2] at HR2
           have HQ2 := HQ1
           have HZ2 := HZ1
           clear e2 HR1 HQ1 HZ1
           rw [g2] at f3
           go_wp2_with fail
           clear g2
           go_roundw
           case rel => exact ⟨k + 1, hlt, by go_num, Or.inr H0.out, HR2.out, HQ2.out⟩
           case measure => simp [intOf]; omega
        ·have e0 := flI_f g0
         rw [Bool.not_eq_true] at g0
         have HR0 := hide HR9.out.rot
         rw [← e0] at HR0
         have HQ0 := HQ9
         have HZ0 := HZ9
         clear e0 HR9 HQ9 HZ9
         rw [g0]
         go_upto_region 28 with fail
         clear g0
         by_cases g1 : metF 1 l t k = true
         ·have e1 := flI_t g1
          obtain ⟨u1, x1, hr, hR, hQ, hZ⟩ := HR0.out.add HZ0.out HQ0.out (Nat.le_trans (flI_len _ _ _ _) (by omega)) k
          rw [← e1] at hR
          have HA := hide hr
          have HR1 := hide hR.rot
          have HQ1 := hide hQ
          have HZ1 := hide hZ
          clear hr hR hQ hZ e1 HR0 HQ0 HZ0
          rw [g1]
          go_upto_region 30 with (at_builtin; refine wpList_append_eq rfl _ _ _ _ rfl rfl rfl HA.out ?_)
          clear HA g1
          by_cases g2 : metF 2 l t k = true
          ·have e2 := flI_t g2
           obtain ⟨u2, x2, hr, hR, hQ, hZ⟩ := HR1.out.add HZ1.out HQ1.out (Nat.le_trans (flI_len _ _ _ _) (by omega)) k
           rw [← e2] at hR
           have HA := hide hr
           have HR2 := hide hR.rot
           have HQ2 := hide hQ
           have HZ2 := hide hZ
           clear hr hR hQ hZ e2 HR1 HQ1 HZ1
           rw [g2] at f3
           go_wp2_with (at_builtin; refine wpList_append_eq rfl _ _ _ _ rfl rfl rfl HA.out ?_)
           clear HA g2
           go_roundw
           case rel => exact ⟨k + 1, hlt, by go_num, Or.inr H0.out, HR2.out, HQ2.out⟩
           case measure => simp [intOf]; omega
          ·have e2 := flI_f g2
           rw [Bool.not_eq_true] at g2
           have HR2 := hide HR1.out.rot
           rw [← e2] at HR2
           have HQ2 := HQ1
           have HZ2 := HZ1
           clear e2 HR1 HQ1 HZ1
           rw [g2] at f3
           go_wp2_with fail
           clear g2
           go_roundw
           case rel => exact ⟨k + 1, hlt, by go_num, Or.inr H0.out, HR2.out, HQ2.out⟩
           case measure => simp [intOf]; omega
         ·have e1 := flI_f g1
          rw [Bool.not_eq_true] at g1
          have HR1 := hide HR0.out.rot
          rw [← e1] at HR1
          have HQ1 := HQ0
          have HZ1 := HZ0
          clear e1 HR0 HQ0 HZ0
          rw [g1]
          go_upto_region 30 with fail
          clear g1
          by_cases g2 : metF 2 l t k = true
          ·have e2 := flI_t g2
           obtain ⟨u2, x2, hr, hR, hQ, hZ⟩ := HR1.out.add HZ1.out HQ1.out (Nat.le_trans (flI_len _ _ _ _) (by omega)) k
           rw [← e2] at hR
           have HA := hide hr
           have HR2 := hide hR.rot
           have HQ2 := hide hQ
           have HZ2 := hide hZ
           clear hr hR hQ hZ e2 HR1 HQ1 HZ1
           rw [g2] at f3
           go_wp2_with (at_builtin; refine wpList_append_eq rfl _ _ _ _ rfl rfl rfl HA.out ?_)
           clear HA g2
           go_roundw
           case rel => exact ⟨k + 1, hlt, by go_num, Or.inr H0.out, HR2.out, HQ2.out⟩
           case measure => simp [intOf]; omega
          ·have e2 := flI_f g2
           rw [Bool.not_eq_true] at g2
           have HR2 := hide HR1.out.rot
           rw [← e2] at HR2
           have HQ2 := HQ1
           have HZ2 := HZ1
           clear e2 HR1 HQ1 HZ1
           rw [g2] at f3
           go_wp2_with fail
           clear g2
           go_roundw
           case rel => exact ⟨k + 1, hlt, by go_num, Or.inr H0.out, HR2.out, HQ2.out⟩
           case measure => simp [intOf]; omega
       ·have hb0 : (mayE t == 0) = false := beq_eq_false_iff_ne.2 h0
        have HTL : Hid (∀ j, flI j l t k = tldI j l t) := fun j => tldI_at HKM.out fun h => absurd h h0
        clear h0
        rw [HTL.out, HTL.out, HTL.out] at HR
        clear HKM HTL hk hlt
        obtain ⟨t0, t1, -, hsl⟩ := KT.out w6 HB16.out
        have CO := hide (overI_any HALL.out.2 HALL.out.1 _ X w6 (HX5.out.later (HB6.out.mono (Nat.le_refl _))) ta tc hsl)
        clear hsl
        go_upto_region 33 with (go_at_call 10; refine CO.out.mono ?_; rintro e w7 ⟨p, rfl, hp7, hb7⟩; have HP7 := hide hp7; have HB7 := hide hb7; clear hp7 hb7)
        clear t0 t1 CO
        have HX7 := hide ((HX5.out.later HB6.out).later HB7.out)
        have HR7 := hide (HR.out.later HB7.out)
        have HB17 := hide (HB16.out.trans (HB7.out.mono HB16.out.size))
        clear HX5 HR HB6 HB16 HB7 HB5
        obtain ⟨t0, t1, -, hsl⟩ := KT.out w7 HB17.out
        have CO := hide (underI_any HALL.out.2 HALL.out.1 _ X w7 HX7.out ta tc hsl)
        clear hsl
        go_upto_region 34 with (go_at_call 11; refine CO.out.mono ?_; rintro e w8 ⟨q, rfl, hp8, hb8⟩; have HP8 := hide hp8; have HB8 := hide hb8; clear hp8 hb8)
        clear t0 t1 CO
        have HX8 := hide (HX7.out.later HB8.out)
        have HR8 := hide (HR7.out.later HB8.out)
        have HL8 := hide (HP7.out.later HB8.out)
        have HB18 := hide (HB17.out.trans (HB8.out.mono HB17.out.size))
        clear HX7 HR7 HP7 HB17 HB8
        obtain ⟨t0, t1, -, hsl⟩ := KT.out w8 HB18.out
        have CO := hide (nearI_any HALL.out.2 HALL.out.1 _ X w8 HX8.out ta tc hsl)
        clear hsl
        go_upto_region 35 with (go_at_call 12; refine CO.out.mono ?_; rintro e w9 ⟨r, rfl, hp9, hb9⟩; have HP9 := hide hp9; have HB9 := hide hb9; clear hp9 hb9)
        clear t0 t1 CO
        have HR9 := hide (HR8.out.later HB9.out)
        have HA9 := hide (HL8.out.later HB9.out)
        have HC9 := hide (HP8.out.later HB9.out)
        have HB19 := hide (HB18.out.trans (HB9.out.mono HB18.out.size))
        clear HX8 HR8 HL8 HP8 HB18 HB9
        have LA := hide HR9.out.lv
        have LB := hide HR9.out.rot.lv
        have LC := hide HR9.out.rot.rot.lv
        clear HR9
        have C1 := hide (sameInts_any _ _ _ w9 _ _ HA9.out LA.out)
        go_wp2_with (go_at_call 22; first | (refine C1.out.mono ?_; rintro e w10 ⟨rfl, hb10⟩; have HB10 := hide hb10; have HC10 := hide (HC9.out.later hb10); have LB10 := hide (LB.out.later hb10); have HP10 := hide (HP9.out.later hb10); have LC10 := hide (LC.out.later hb10); clear hb10 C1) | (refine (sameInts_any _ _ _ _ _ _ HC10.out LB10.out).mono ?_; rintro e w11 ⟨rfl, hb11⟩; have HB11 := hide hb11; have HP11 := hide (HP10.out.later hb11); have LC11 := hide (LC10.out.later hb11); clear hb11 HC10 LB10) | (refine (sameInts_any _ _ _ _ _ _ HP11.out LC11.out).mono ?_; rintro e w12 ⟨rfl, hb12⟩; have HB12 := hide hb12; clear hb12 HP11 LC11))
        go_ret
        exact ⟨rfl, H1.out.trans ((((HB19.out.trans (HB10.out.mono HB19.out.size)).trans (HB11.out.mono (Nat.le_trans HB19.out.size HB10.out.size))).trans (HB12.out.mono (Nat.le_trans HB19.out.size (Nat.le_trans HB10.out.size HB11.out.size)))).mono H1.out.size)⟩
      ·have hki : ¬ (k : Int) < (l.length : Int) := by omega
       have HTL : Hid (∀ j, flI j l t k = tldI j l t) := fun j => tldI_at HKM.out fun h => by omega
       rw [HTL.out, HTL.out, HTL.out] at HR
       clear HKM HTL hk hlt
       obtain ⟨t0, t1, -, hsl⟩ := KT.out w6 HB16.out
       have CO := hide (overI_any HALL.out.2 HALL.out.1 _ X w6 (HX5.out.later (HB6.out.mono (Nat.le_refl _))) ta tc hsl)
       clear hsl
       go_upto_region 33 with (go_at_call 10; refine CO.out.mono ?_; rintro e w7 ⟨p, rfl, hp7, hb7⟩; have HP7 := hide hp7; have HB7 := hide hb7; clear hp7 hb7)
       clear t0 t1 CO
       have HX7 := hide ((HX5.out.later HB6.out).later HB7.out)
       have HR7 := hide (HR.out.later HB7.out)
       have HB17 := hide (HB16.out.trans (HB7.out.mono HB16.out.size))
       clear HX5 HR HB6 HB16 HB7 HB5
       obtain ⟨t0, t1, -, hsl⟩ := KT.out w7 HB17.out
       have CO := hide (underI_any HALL.out.2 HALL.out.1 _ X w7 HX7.out ta tc hsl)
       clear hsl
       go_upto_region 34 with (go_at_call 11; refine CO.out.mono ?_; rintro e w8 ⟨q, rfl, hp8, hb8⟩; have HP8 := hide hp8; have HB8 := hide hb8; clear hp8 hb8)
       clear t0 t1 CO
       have HX8 := hide (HX7.out.later HB8.out)
       have HR8 := hide (HR7.out.later HB8.out)
       have HL8 := hide (HP7.out.later HB8.out)
       have HB18 := hide (HB17.out.trans (HB8.out.mono HB17.out.size))
       clear HX7 HR7 HP7 HB17 HB8
       obtain ⟨t0, t1, -, hsl⟩ := KT.out w8 HB18.out
       have CO := hide (nearI_any HALL.out.2 HALL.out.1 _ X w8 HX8.out ta tc hsl)
       clear hsl
       go_upto_region 35 with (go_at_call 12; refine CO.out.mono ?_; rintro e w9 ⟨r, rfl, hp9, hb9⟩; have HP9 := hide hp9; have HB9 := hide hb9; clear hp9 hb9)
       clear t0 t1 CO
       have HR9 := hide (HR8.out.later HB9.out)
       have HA9 := hide (HL8.out.later HB9.out)
       have HC9 := hide (HP8.out.later HB9.out)
       have HB19 := hide (HB18.out.trans (HB9.out.mono HB18.out.size))
       clear HX8 HR8 HL8 HP8 HB18 HB9
       have LA := hide HR9.out.lv
       have LB := hide HR9.out.rot.lv
       have LC := hide HR9.out.rot.rot.lv
       clear HR9
       have C1 := hide (sameInts_any _ _ _ w9 _ _ HA9.out LA.out)
       go_wp2_with (go_at_call 22; first | (refine C1.out.mono ?_; rintro e w10 ⟨rfl, hb10⟩; have HB10 := hide hb10; have HC10 := hide (HC9.out.later hb10); have LB10 := hide (LB.out.later hb10); have HP10 := hide (HP9.out.later hb10); have LC10 := hide (LC.out.later hb10); clear hb10 C1) | (refine (sameInts_any _ _ _ _ _ _ HC10.out LB10.out).mono ?_; rintro e w11 ⟨rfl, hb11⟩; have HB11 := hide hb11; have HP11 := hide (HP10.out.later hb11); have LC11 := hide (LC10.out.later hb11); clear hb11 HC10 LB10) | (refine (sameInts_any _ _ _ _ _ _ HP11.out LC11.out).mono ?_; rintro e w12 ⟨rfl, hb12⟩; have HB12 := hide hb12; clear hb12 HP11 LC11))
       go_ret
       exact ⟨rfl, H1.out.trans ((((HB19.out.trans (HB10.out.mono HB19.out.size)).trans (HB11.out.mono (Nat.le_trans HB19.out.size HB10.out.size))).trans (HB12.out.mono (Nat.le_trans HB19.out.size (Nat.le_trans HB10.out.size HB11.out.size)))).mono H1.out.size)⟩
end Go.Proofs.YtdebiiodhkcnkaaGreat

import Derived.Test.YthnncjgjmohinaaGreatDoorIf14
namespace Go.Proofs.YthnncjgjmohinaaGreatDoor
open Go.RowKit
set_option linter.unusedSimpArgs false
set_option linter.unusedVariables false
set_option maxRecDepth 8000
set_option maxHeartbeats 2000000 in
theorem hasConst_any (t : Lm) : ∀ (v : Value) (w : World) (X : Nat → Prop), MV w X v t → Calls Tryz.prog 24 #[v] w fun e w' => e = .returned (.bool (csL [t])) ∧ Below w.heap.size w w' := by
 induction t using Lm.ind with
 | h k0 i0 l ih =>
  intro v w X ht
  have IH := hide ih
  clear ih
  obtain ⟨a, c, rfl, hs⟩ := ht
  have B1 : Hid (Below w.heap.size w (w.alloc (.cells #[.int .i64 k0, .int .i64 i0, .slice a l.length c] 25))) := (Below.refl _ _).alloc (Nat.le_refl _) _
  have K1 : Hid (Blk (w.alloc (.cells #[.int .i64 k0, .int .i64 i0, .slice a l.length c] 25)) w.heap.size #[.int .i64 k0, .int .i64 i0, .slice a l.length c] 25) := Blk.new _ _ _
  have hla := hs.1
  have HO := hide (csL_one k0 i0 l)
  by_cases hk : k0 = 4
  ·subst hk
   go_enter Tryz.func24, Tryz.ntmps24
   go_wp2_with fail
   go_ret
   exact ⟨by rw [HO.out]; rfl, B1.out⟩
  ·have hkf : (k0 == 4) = false := beq_eq_false_iff_ne.2 hk
   rw [hkf, Bool.false_or] at HO
   clear hk
   go_enter Tryz.func24, Tryz.ntmps24
   go_upto_region 1 with fail
   generalize (w.alloc (.cells #[.int .i64 k0, .int .i64 i0, .slice a l.length c] 25)) = w1 at *
   have c0 := K1.out.c0
   go_wp2_with fail
   clear c0
   go_loopw [3] (fun o wr => ∃ k : Nat, k ≤ l.length ∧ o = .int .i64 (k : Int) ∧ (l.take k).any (fun t => csL [t]) = false ∧ Below w1.heap.size w1 wr) (fun o wr => l.length - (intOf o).toNat)
   case atStart => exact ⟨0, Nat.zero_le _, rfl, by simp, Below.refl _ _⟩
   case round =>
    obtain ⟨k, hk, rfl, hno, hbr⟩ := hrel
    have HNO := hide hno
    have K2 := hide (K1.out.below hbr K1.out.lt)
    have B2 := hide (B1.out.trans (hbr.mono B1.out.size))
    have HBR := hide hbr
    have c0 := K2.out.c0
    have c2 := K2.out.c2
    clear hno hbr
    by_cases hlt : k < l.length
    ·have hki : (k : Int) < (l.length : Int) := by omega
     obtain ⟨b, o, a1, c1, rfl, x0, x0', x1, hx⟩ := hs.get B2.out (fun _ _ h => h) k hlt
     have HX := hide hx
     clear hx
     go_wp2_with fail
     refine (IH.out l[k] (List.getElem_mem hlt) _ _ _ HX.out).mono ?_
     rintro e w2 ⟨rfl, hb2⟩
     have HB2 := hide (HBR.out.trans (hb2.mono HBR.out.size))
     have B3 := hide (B2.out.trans (hb2.mono B2.out.size))
     clear hb2 x0 x0' x1 c0 c2
     cases ho : csL [l[k]] with
     | true =>
      have HA := hide (any_atI (f := fun t => csL [t]) hlt ho)
      clear ho
      go_wp2_with fail
      go_ret
      exact ⟨by rw [HO.out, csL_any, HA.out]; rfl, B3.out⟩
     | false =>
      have HA := hide (any_takeI (f := fun t => csL [t]) hlt HNO.out ho)
      clear ho
      go_wp2_with fail
      go_roundw
      case rel => exact ⟨k + 1, by omega, by go_num, HA.out, HB2.out⟩
      case measure => simp [intOf]; omega
    ·have hki : ¬ (k : Int) < (l.length : Int) := by omega
     have HA : Hid (l.any (fun t => csL [t]) = false) := by have h := HNO.out; rw [List.take_of_length_le (by omega)] at h; exact h
     go_wp2_with fail
     go_ret
     exact ⟨by rw [HO.out, csL_any, HA.out]; rfl, B2.out⟩
end Go.Proofs.YthnncjgjmohinaaGreatDoor

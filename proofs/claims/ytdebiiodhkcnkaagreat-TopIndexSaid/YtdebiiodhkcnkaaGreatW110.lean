import Derived.Test.YtdebiiodhkcnkaaGreatZTopIndexOwn
namespace Go.Proofs.YtdebiiodhkcnkaaGreat
open Go.RowKit
set_option linter.unusedSimpArgs false
set_option linter.unusedVariables false
set_option maxRecDepth 8000
def PmInv (ls : List Pr) (w : World) (v : Value) (wr : World) : Prop := ∃ k : Nat, v = .int .i64 (k : Int) ∧ k ≤ ls.length ∧ pmT ls k = 0 ∧ Below w.heap.size w wr
theorem twoE_fst {a b : Tm} (h : mayE a ≠ 0) : twoE a b = mayE a := by unfold twoE; rw [if_neg h]
theorem twoE_snd {a b : Tm} (h : mayE a = 0) : twoE a b = mayE b := by unfold twoE; rw [if_pos h]
set_option maxHeartbeats 1000000 in
theorem ucheck_any (ls : List Pr) (u : Value) (w : World) (X : Nat → Prop) (hu : QV w X u ls) :
  Calls Tryz.prog 31 #[u] w fun e w' => e = .returned (.int .i64 (pairsE ls)) ∧ Below w.heap.size w w' := by
 have HU := hide (hu.mono (Y := fun b => X b ∧ b < w.heap.size) fun b h1 h2 => ⟨h1, h2⟩)
 obtain ⟨a, c, rfl, hl, hu2⟩ := hu
 clear hu2
 go_enter Tryz.func31, Tryz.ntmps31
 by_cases h40 : 40 < ls.length
 ·go_wp2_with fail
  go_ret
  exact ⟨ret_int (by unfold pairsE; rw [if_pos h40]), Below.refl _ _⟩
 ·go_wp2_with fail
  go_loopw [12] (fun v wr => PmInv ls w v wr) (fun v wr => ls.length - (intOf v).toNat)
  case atStart => exact ⟨0, rfl, Nat.zero_le _, rfl, Below.refl _ _⟩
  case round =>
   obtain ⟨k, rfl, hk, hT, hb⟩ := hrel
   have HB := hide hb
   have HT := hide hT
   clear hT
   by_cases hlt : k < ls.length
   ·obtain ⟨b, o, a1, c1, a2, c2, rfl, d0, d1, d2, d3, hs1, hs2⟩ := (HU.out.later hb).get k hlt
    have hlt2 : (k : Int) < (ls.length : Int) := by omega
    have hbA : Below wr.heap.size wr (wr.alloc (.cells #[.string ls[k].l.name, .slice a1 ls[k].l.args.length c1, .string ls[k].r.name, .slice a2 ls[k].r.args.length c2] 45)) := (Below.refl _ _).alloc (Nat.le_refl _) _
    have HX1 := hide (hs1.later hbA)
    have HX2 := hide (hs2.later hbA)
    have P1 := hide (Blk.new wr #[.string ls[k].l.name, .slice a1 ls[k].l.args.length c1, .string ls[k].r.name, .slice a2 ls[k].r.args.length c2] 45)
    have HB1 := hide (hb.trans (hbA.mono hb.size))
    have HY := hide (pmT_err hlt h40 HT.out)
    have HN := hide (pmT_next hlt HT.out)
    clear hs1 hs2 hb hbA
    generalize ls[k] = d at *
    go_wp2_with fail
    generalize wr.alloc (.cells #[.string d.l.name, .slice a1 d.l.args.length c1, .string d.r.name, .slice a2 d.r.args.length c2] 45) = w1 at *
    generalize wr.heap.size = P at *
    refine (check_any d.l _ _ _ ⟨a1, c1, rfl, HX1.out⟩).mono ?_
    rintro e w2 ⟨rfl, hb2⟩
    have HX3 := hide (HX2.out.later hb2)
    have HB2 := hide (HB1.out.trans (hb2.mono HB1.out.size))
    have p2 := cell_later hb2 (P1.out.cell 2)
    have p3 := cell_later hb2 (P1.out.cell 3)
    clear hb2
    by_cases hm : mayE d.l = 0
    ·have HM := hide (twoE_snd (b := d.r) hm)
     rw [hm]
     clear hm
     go_wp2_with fail
     refine (check_any d.r _ _ _ ⟨a2, c2, rfl, HX3.out⟩).mono ?_
     rintro e w3 ⟨rfl, hb3⟩
     have HB3 := hide (HB2.out.trans (hb3.mono HB2.out.size))
     clear hb3
     by_cases hm : mayE d.r = 0
     ·have HF : Hid (pmT ls (k + 1) = 0) := by unfold Hid; rw [HN.out, HM.out, hm]
      rw [hm]
      clear hm
      go_wp2_with fail
      go_roundw
      case rel => exact ⟨k + 1, by go_num, by omega, HF.out, HB3.out⟩
      case measure => simp [intOf]; omega
     ·have hm2 : (mayE d.r == 0) = false := by simpa using hm
      have HF : Hid (pairsE ls = mayE d.r) := by unfold Hid; rw [HY.out (by rw [HM.out]; exact hm), HM.out]
      clear hm
      go_wp2_with fail
      go_ret
      exact ⟨ret_int HF.out.symm, HB3.out⟩
    ·have hm2 : (mayE d.l == 0) = false := by simpa using hm
     have HF : Hid (pairsE ls = mayE d.l) := by unfold Hid; rw [HY.out (by rw [twoE_fst hm]; exact hm), twoE_fst hm]
     clear hm
     go_wp2_with fail
     go_ret
     exact ⟨ret_int HF.out.symm, HB2.out⟩
   ·have hkl : k = ls.length := by omega
    go_wp2_with fail
    go_ret
    exact ⟨ret_int (by unfold pairsE; rw [if_neg h40, ← hkl]; exact HT.out.symm), HB.out⟩
end Go.Proofs.YtdebiiodhkcnkaaGreat

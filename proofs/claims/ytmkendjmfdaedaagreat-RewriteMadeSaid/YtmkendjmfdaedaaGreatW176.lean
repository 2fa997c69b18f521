import Derived.Test.YtmkendjmfdaedaaGreatW175
import Derived.Test.YtmkendjmfdaedaaGreatZBRewriteMadeOwn
import Derived.Test.YtmkendjmfdaedaaGreatZRewriteMadeOwn
import Derived.Deep.RegionHeld3
namespace Go.Proofs.YtmkendjmfdaedaaGreat
open Go.RowKit
set_option linter.unusedSimpArgs false
set_option linter.unusedVariables false
set_option maxRecDepth 8000
theorem sl_of_row {w : World} {N T : Nat} {X : Nat → Prop} {v : Value} {l : List Tm} {xs : List Value} (h : w.ownsRow N T 2 v l.length xs) (hr : RowT w X l xs) : ∃ a c, v = .slice a l.length c ∧ Sl w (fun _ => True) a l := by
 by_cases h0 : l = []
 ·subst h0
  rcases h.2 with ⟨rfl, _⟩ | ⟨g, cap, cur, hv, _⟩
  ·exact ⟨none, 0, rfl, by simp, Or.inl rfl⟩
  ·exact ⟨_, _, hv, by simp, Or.inl rfl⟩
 ·have hp : 0 < l.length := List.length_pos_iff.2 h0
  obtain ⟨g, cap, hv, _, _, hc⟩ := owned_val h hp
  have hlen : l.length ≤ 9223372036854775807 := by
   rcases h.2 with ⟨_, h1⟩ | ⟨g', cap', cur, _, _, _, h1, h2, _⟩
   ·omega
   ·unfold maxLen at h2; omega
  exact ⟨_, _, hv, hlen, Or.inr ⟨g, 0, rfl, lies_of_rowT g trivial l xs 0 hr (fun a k hs => hs.mono fun _ _ _ => trivial) (fun j u hj => by rw [Nat.zero_add]; exact hc j u hj)⟩⟩
def SmInv (n : Nat) (w w0 : World) (o : Value) (wr : World) : Prop := ∃ k : Nat, k ≤ n ∧ o = .int .i64 (k : Int) ∧ Below w0.heap.size w0 wr
set_option maxHeartbeats 2000000 in
theorem rewriteSays_any (rs : List Pr) (t : Tm) (u v : Value) (w : World) (X : Nat → Prop) (hu : QV w X u rs) (hv : TV w X v t) :
  Calls Tryz.prog 7 #[u, v] w fun e w' => e = .returned (.bool true) ∧ Below w.heap.size w w' := by
 have HU := hide hu
 obtain ⟨ua, uc, rfl, _⟩ := hu
 obtain ⟨aa, ca, rfl, hs⟩ := hv
 have HS := hide hs
 have hB1 : Below w.heap.size w (w.alloc (.cells #[.string t.name, .slice aa t.args.length ca] 27)) := (Below.refl _ _).alloc (Nat.le_refl _) _
 have hT1 := Blk.new w #[.string t.name, .slice aa t.args.length ca] 27
 clear hs
 go_enter Tryz.func7, Tryz.ntmps7
 go_wp2_with fail
 generalize (w.alloc (.cells #[.string t.name, .slice aa t.args.length ca] 27)) = w1 at *
 refine (hugePairs_any rs _ _ X (HU.out.later hB1)).mono ?_
 rintro e w2 ⟨rfl, hb⟩
 have HB2 := hide (hB1.trans (hb.mono hB1.size))
 have hB2 := HB2.out
 have hT2 := hT1.below hb hT1.lt
 clear hb
 have t02 := hT2.c0
 have t12 := hT2.c1
 cases hq : hugeQ rs with
 | true =>
  clear hq
  go_wp2_with fail
  go_ret
  exact ⟨rfl, HB2.out⟩
 | false =>
  clear hq
  go_wp2_with fail
  refine (huge_any t _ _ X ⟨aa, ca, rfl, HS.out.later HB2.out⟩).mono ?_
  rintro e w3 ⟨rfl, hb⟩
  have HB3 := hide (hB2.trans (hb.mono hB2.size))
  have hB3 := HB3.out
  have hT3 := hT2.below hb hT2.lt
  clear hb
  clear t02 t12
  have t03 := hT3.c0
  have t13 := hT3.c1
  by_cases g1 : 3000 < sizeL [t]
  ·have g1d : decide (3000 < sizeL [t]) = true := by simpa using g1
   rw [g1d]
   go_wp2_with fail
   go_ret
   exact ⟨rfl, HB3.out⟩
  have g1d : decide (3000 < sizeL [t]) = false := by simpa using g1
  rw [g1d]
  clear g1d
  go_wp2_with fail
  refine (rulesMay_any rs _ _ X (HU.out.later HB3.out)).mono ?_
  rintro e w4 ⟨rfl, hb⟩
  have HB4 := hide (hB3.trans (hb.mono hB3.size))
  have hB4 := HB4.out
  have hT4 := hT3.below hb hT3.lt
  clear hb
  clear t03 t13
  have t04 := hT4.c0
  have t14 := hT4.c1
  by_cases hr : rulesE rs = 0
  case neg =>
   have HST : Hid (StpE rs t = rulesE rs) := by unfold Hid StpE; rw [if_neg hr]
   have HNZ := hide hr
   have hr1 : (rulesE rs == 0) = false := by simpa using hr
   have hr2 : (rulesE rs != 0) = true := by simpa using hr
   have hr3 : (rulesE rs != rulesE rs) = false := by simp
   go_wp2_with fail
   refine (steps_any rs t _ aa ca _ X (HU.out.later HB4.out) (HS.out.later HB4.out)).mono ?_
   rintro e w5 ⟨hb, ⟨h0, _⟩ | ⟨_, rfl⟩⟩
   ·exact absurd (HST.out.symm.trans h0) HNZ.out
   rw [HST.out]
   have HB5 := hide (hB4.trans (hb.mono hB4.size))
   have hB5 := HB5.out
   have hT5 := hT4.below hb hT4.lt
   clear hb
   go_wp2_with fail
   refine (rCheck_any rs _ _ X (HU.out.later HB5.out)).mono ?_
   rintro e w6 ⟨rfl, hb⟩
   have HB6 := hide (hB5.trans (hb.mono hB5.size))
   have hB6 := HB6.out
   have hT6 := hT5.below hb hT5.lt
   clear hb
   go_wp2_with fail
   go_ret
   exact ⟨rfl, HB6.out⟩
  case pos =>
   rw [hr]
   have HR := hide hr
   clear hr
   go_wp2_with fail
   refine (termMay_any t _ _ X ⟨aa, ca, rfl, HS.out.later HB4.out⟩).mono ?_
   rintro e w5 ⟨rfl, hb⟩
   have HB5 := hide (hB4.trans (hb.mono hB4.size))
   have hB5 := HB5.out
   have hT5 := hT4.below hb hT4.lt
   clear hb
   clear t04 t14
   have t05 := hT5.c0
   have t15 := hT5.c1
   by_cases hm : mayE t = 0
   case neg =>
    have HST : Hid (StpE rs t = mayE t) := by unfold Hid StpE; rw [if_pos HR.out, if_neg hm]
    have HNZ := hide hm
    have hr1 : (mayE t == 0) = false := by simpa using hm
    have hr2 : (mayE t != 0) = true := by simpa using hm
    have hr3 : (mayE t != mayE t) = false := by simp
    go_wp2_with fail
    refine (steps_any rs t _ aa ca _ X (HU.out.later HB5.out) (HS.out.later HB5.out)).mono ?_
    rintro e w6 ⟨hb, ⟨h0, _⟩ | ⟨_, rfl⟩⟩
    ·exact absurd (HST.out.symm.trans h0) HNZ.out
    rw [HST.out]
    have HB6 := hide (hB5.trans (hb.mono hB5.size))
    have hB6 := HB6.out
    have hT6 := hT5.below hb hT5.lt
    clear hb
    go_wp2_with fail
    refine (rCheck_any rs _ _ X (HU.out.later HB6.out)).mono ?_
    rintro e w7 ⟨rfl, hb⟩
    have HB7 := hide (hB6.trans (hb.mono hB6.size))
    have hB7 := HB7.out
    have hT7 := hT6.below hb hT6.lt
    clear hb
    rw [HR.out]
    go_wp2_with fail
    go_ret
    exact ⟨rfl, HB7.out⟩
   case pos =>
    have HSE : Hid (StpE rs t = if ∃ y ∈ stAll rs t, 2000 < sizeL [y] then 8 else 0) := by unfold Hid StpE; rw [if_pos HR.out, if_pos hm]
    have hz := may_le hm
    rw [hm]
    clear hm
    go_wp2_with fail
    refine (stepsOf_any rs t aa ca _ _ X (HU.out.later HB5.out) (HS.out.later HB5.out) (rulesE_len HR.out) (fun p hp => ⟨may_size (ruleE_parts (rulesE_all HR.out p hp)).1, may_size (ruleE_parts (rulesE_all HR.out p hp)).2.1⟩) (by omega)).mono ?_
    rintro e w6 ⟨hb, ⟨v6, hall, rfl, N6, xs6, hN6, hrow6⟩ | ⟨hex, rfl⟩⟩
    ·have HST : Hid (StpE rs t = 0) := by
      unfold Hid
      rw [HSE.out, if_neg]
      rintro ⟨y, hy, h⟩
      have := hall y hy
      omega
     obtain ⟨a6, c6, rfl, hsl6⟩ := sl_of_row hrow6.own hrow6.row
     have HSL6 := hide hsl6
     clear hsl6 hrow6 hall hN6
     have HB6 := hide (hB5.trans (hb.mono hB5.size))
     have hB6 := HB6.out
     have hT6 := hT5.below hb hT5.lt
     clear hb
     clear t05 t15
     have t06 := hT6.c0
     have t16 := hT6.c1
     go_wp2_with fail
     refine (steps_any rs t _ aa ca _ X (HU.out.later HB6.out) (HS.out.later HB6.out)).mono ?_
     rintro e w7 ⟨hb, ⟨_, v7, xs7, rfl, ho7, hr7⟩ | ⟨hn, _⟩⟩
     case inr => exact absurd HST.out hn
     obtain ⟨a7, c7, rfl, hsl7⟩ := sl_of_row ho7 hr7
     have HSL7 := hide hsl7
     have HSL67 := hide (HSL6.out.later hb)
     clear hsl7 ho7 hr7
     have HB7 := hide (hB6.trans (hb.mono hB6.size))
     have hB7 := HB7.out
     have hT7 := hT6.below hb hT6.lt
     clear hb
     clear t06 t16
     go_wp2_with fail
     refine (rCheck_any rs _ _ X (HU.out.later HB7.out)).mono ?_
     rintro e w8 ⟨rfl, hb⟩
     have HSL8 := hide (HSL7.out.later hb)
     have HSL68 := hide (HSL67.out.later hb)
     have HB8 := hide (hB7.trans (hb.mono hB7.size))
     have hB8 := HB8.out
     have hT8 := hT7.below hb hT7.lt
     clear hb
     rw [HR.out]
     clear HSL6 HSL67 HSL7
     obtain ⟨outs, hout⟩ : ∃ outs, stAll rs t = outs := ⟨_, rfl⟩
     rw [hout] at HSL8 HSL68 ⊢
     clear hout HST HSE
     have hlen := HSL8.out.1
     go_wp2_with fail
     go_loopw [10] (fun o wr => SmInv outs.length w w8 o wr) (fun o wr => outs.length - (intOf o).toNat)
     case atStart => exact ⟨0, Nat.zero_le _, rfl, Below.refl _ _⟩
     case round =>
      obtain ⟨k, hk, rfl, hbr⟩ := hrel
      have HBR := hide hbr
      by_cases hlt : k < outs.length
      ·obtain ⟨b1, o1, x1, y1, rfl, d0, d1, hx1⟩ := HSL8.out.get hbr (fun _ _ h => h) k hlt
       obtain ⟨b2, o2, x2, y2, rfl, f0, f1, hx2⟩ := HSL68.out.get hbr (fun _ _ h => h) k hlt
       have hlt2 : (k : Int) < (outs.length : Int) := by omega
       have HX1 := hide hx1
       have HX2 := hide hx2
       have l1 : b1 < wr.heap.size := cell_lt d0
       have l2 : b2 < wr.heap.size := cell_lt f0
       have HS0 := hide (And.intro d0 (And.intro d1 (And.intro f0 f1)))
       have KP : Hid (∀ w', Below wr.heap.size wr w' → w'.cell? ⟨b1, o1 + k * 2, none⟩ = some (.string outs[k].name) ∧ w'.cell? ⟨b1, o1 + k * 2 + 1, none⟩ = some (.slice x1 outs[k].args.length y1) ∧ w'.cell? ⟨b2, o2 + k * 2, none⟩ = some (.string outs[k].name) ∧ w'.cell? ⟨b2, o2 + k * 2 + 1, none⟩ = some (.slice x2 outs[k].args.length y2)) := fun w' hb => ⟨(hb.cell (p := ⟨b1, o1 + k * 2, none⟩) l1).trans HS0.out.1, (hb.cell (p := ⟨b1, o1 + k * 2 + 1, none⟩) l1).trans HS0.out.2.1, (hb.cell (p := ⟨b2, o2 + k * 2, none⟩) l2).trans HS0.out.2.2.1, (hb.cell (p := ⟨b2, o2 + k * 2 + 1, none⟩) l2).trans HS0.out.2.2.2⟩
       clear hx1 hx2 hbr
       go_wp2_with fail
       go_region_held3 (fun w' => w'.cell? ⟨b1, o1 + k * 2, none⟩ = some (.string outs[k].name) ∧ w'.cell? ⟨b1, o1 + k * 2 + 1, none⟩ = some (.slice x1 outs[k].args.length y1) ∧ w'.cell? ⟨b2, o2 + k * 2, none⟩ = some (.string outs[k].name) ∧ w'.cell? ⟨b2, o2 + k * 2 + 1, none⟩ = some (.slice x2 outs[k].args.length y2)) (first | exact hS5 | exact HS0.out | go_keep)
        ((go_at_call 20; refine (same_any outs[k] _ _ _ _ _ (by exact HX1.out.later (below_drewN (Below.refl _ _) 1)) (by exact HX2.out.later (below_drewN (Below.refl _ _) 1))).mono ?_; rintro e w9 ⟨rfl, hb9⟩; have hb10 : Below wr.heap.size wr w9 := (below_drewN (Below.refl wr.heap.size wr) 1).trans hb9; have HB10 := hide hb10; have hS5 := KP.out w9 hb10; clear hb9 hb10))
       go_wp2_with fail
       go_roundw
       case rel => exact ⟨k + 1, by omega, by go_num, HBR.out.trans (HB10.out.mono HBR.out.size)⟩
       case measure => simp [intOf]; omega
      ·have hge : ¬ ((k : Int) < (outs.length : Int)) := by omega
       go_wp2_with fail
       go_ret
       exact ⟨rfl, HB8.out.trans (HBR.out.mono HB8.out.size)⟩
    ·have HST : Hid (StpE rs t = 8) := by unfold Hid; rw [HSE.out, if_pos hex]
     have HNZ : Hid ((8 : Int) ≠ 0) := by unfold Hid; decide
     have HB6 := hide (hB5.trans (hb.mono hB5.size))
     have hB6 := HB6.out
     have hT6 := hT5.below hb hT5.lt
     clear hb
     clear t05 t15
     have t06 := hT6.c0
     have t16 := hT6.c1
     go_wp2_with fail
     refine (steps_any rs t _ aa ca _ X (HU.out.later HB6.out) (HS.out.later HB6.out)).mono ?_
     rintro e w7 ⟨hb, ⟨h0, _⟩ | ⟨_, rfl⟩⟩
     ·exact absurd (HST.out.symm.trans h0) HNZ.out
     rw [HST.out]
     have HB7 := hide (hB6.trans (hb.mono hB6.size))
     have hB7 := HB7.out
     have hT7 := hT6.below hb hT6.lt
     clear hb
     go_wp2_with fail
     refine (rCheck_any rs _ _ X (HU.out.later HB7.out)).mono ?_
     rintro e w8 ⟨rfl, hb⟩
     have HB8 := hide (hB7.trans (hb.mono hB7.size))
     have hB8 := HB8.out
     have hT8 := hT7.below hb hT7.lt
     clear hb
     rw [HR.out]
     go_wp2_with fail
     go_ret
     exact ⟨rfl, HB8.out⟩
end Go.Proofs.YtmkendjmfdaedaaGreat

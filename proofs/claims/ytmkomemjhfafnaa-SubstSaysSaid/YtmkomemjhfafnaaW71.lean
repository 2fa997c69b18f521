/- The law on bindings: it answers true. -/
import Derived.Test.YtmkomemjhfafnaaW68
import Derived.Test.YtmkomemjhfafnaaW69
import Derived.Test.YtmkomemjhfafnaaW70
import Derived.Test.YtmkomemjhfafnaaW53
import Derived.Test.YtmkomemjhfafnaaW54
import Derived.Test.YtmkomemjhfafnaaW11
namespace Go.Proofs.Ytmkomemjhfafnaa
open Go.RowKit
set_option linter.unusedSimpArgs false
set_option linter.unusedVariables false
set_option maxRecDepth 8000

set_option maxHeartbeats 1000000 in
theorem substSays_any (ls : List Bd) (t : Tm) (u v : Value) (w : World) (X0 : Nat → Prop) (hu0 : BV w X0 u ls) (hv0 : TV w X0 v t) :
    Calls Try.prog 3 #[u, v] w fun e w' => e = .returned (.bool true) ∧ Below w.heap.size w w' := by
  obtain ⟨X, hX, hu, hv⟩ : ∃ X : Nat → Prop, (∀ b, X b → b < w.heap.size) ∧ BV w X u ls ∧ TV w X v t := ⟨fun b => X0 b ∧ b < w.heap.size, fun _ h => h.2, hu0.mono fun b h1 h2 => ⟨h1, h2⟩, hv0.mono fun b h1 h2 => ⟨h1, h2⟩⟩
  clear hu0 hv0
  obtain ⟨a, c, rfl, hs⟩ := hv
  have HV := hide (show TV w X (.agg #[.string t.name, .slice a t.args.length c]) t from ⟨a, c, rfl, hs⟩)
  have HU := hide hu
  clear hs hu
  go_enter Try.func3, Try.ntmps3
  go_wp2_with fail
  have K0 := hide (Blk.new w #[.string t.name, .slice a t.args.length c] 25)
  have HB0 := hide ((Below.refl w.heap.size w).alloc (Nat.le_refl _) (.cells #[.string t.name, .slice a t.args.length c] 25))
  generalize w.alloc (.cells #[.string t.name, .slice a t.args.length c] 25) = w0 at *
  refine (hugeBinds_any ls u w0 X (HU.out.later HB0.out)).mono ?_
  rintro e w1 ⟨rfl, hb1⟩
  have HB1 := hide (HB0.out.trans (hb1.mono HB0.out.size))
  have K1 := hide (K0.out.below hb1 K0.out.lt)
  clear hb1
  have t0 : w1.cell? ⟨w.heap.size, 0, none⟩ = some (.string t.name) := K1.out.cell 0
  have t1 : w1.cell? ⟨w.heap.size, 1, none⟩ = some (.slice a t.args.length c) := K1.out.cell 1
  cases hh : hugeB ls with
  | true =>
    clear hh
    go_wp2_with fail
    go_ret
    exact ⟨rfl, HB1.out⟩
  | false =>
    have HH := hide (hugeB_no hh)
    clear hh
    go_wp2_with fail
    refine (huge_any t _ w1 X (HV.out.later HB1.out)).mono ?_
    rintro e w2 ⟨rfl, hb2⟩
    have HB2 := hide (HB1.out.trans (hb2.mono HB1.out.size))
    have K2 := hide (K1.out.below hb2 K1.out.lt)
    clear hb2 t0 t1
    by_cases h1 : 3000 < sizeL [t]
    · have e1 : decide (3000 < sizeL [t]) = true := by simpa using h1
      rw [e1]
      clear e1 h1
      go_wp2_with fail
      go_ret
      exact ⟨rfl, HB2.out⟩
    have e1 : decide (3000 < sizeL [t]) = false := by simpa using h1
    rw [e1]
    have HSZ : Hid (sizeL [t] ≤ 1000000) := by unfold Hid; omega
    clear e1 h1
    go_wp2_with fail
    refine (bindsMay_any ls u w2 X (HU.out.later HB2.out)).mono ?_
    rintro e w3 ⟨rfl, hb3⟩
    have HB3 := hide (HB2.out.trans (hb3.mono HB2.out.size))
    have K3 := hide (K2.out.below hb3 K2.out.lt)
    clear hb3
    have t0 : ∀ o, (w3.alloc o).cell? ⟨w.heap.size, 0, none⟩ = some (.string t.name) := fun o => (K3.out.alloc o).cell 0
    have t1 : ∀ o, (w3.alloc o).cell? ⟨w.heap.size, 1, none⟩ = some (.slice a t.args.length c) := fun o => (K3.out.alloc o).cell 1
    by_cases hE : bindsE ls = 0
    case neg =>
      have hE2 : (bindsE ls == 0) = false := by simpa using hE
      have HE := hide hE
      clear hE
      go_wp2_with fail
      have R4 := hide (Blk.new w3 #[.string ⟨#[]⟩, .slice none 0 0] 25)
      have HB4 := hide (HB3.out.alloc HB3.out.size (.cells #[.string ⟨#[]⟩, .slice none 0 0] 25))
      clear t0 t1
      generalize hRB : w3.heap.size = R at *
      generalize w3.alloc (.cells #[.string ⟨#[]⟩, .slice none 0 0] 25) = w4 at *
      refine (apply_on ls t u _ w4 X (HU.out.later HB4.out) (HV.out.later HB4.out)).mono ?_
      rintro e w5 ⟨hb5, hc⟩
      have HB5 := hide (HB4.out.trans (hb5.mono HB4.out.size))
      have R5 := hide (R4.out.below hb5 R4.out.lt)
      clear hb5
      rcases hc with ⟨_, rfl⟩ | ⟨h0, _⟩ | ⟨h0, _⟩
      · go_wp2_with fail
        have K6 := hide (Blk.new w5 #[.string ⟨#[]⟩, .slice none 0 0] 25)
        have R6 := hide (R5.out.alloc (.cells #[.string ⟨#[]⟩, .slice none 0 0] 25))
        have HB6 := hide (HB5.out.alloc HB5.out.size (.cells #[.string ⟨#[]⟩, .slice none 0 0] 25))
        generalize hKB : w5.heap.size = K at *
        generalize w5.alloc (.cells #[.string ⟨#[]⟩, .slice none 0 0] 25) = w6 at *
        clear hKB hRB
        refine (kind_any ls u w6 X (HU.out.later HB6.out)).mono ?_
        rintro e w7 ⟨rfl, hb7⟩
        have HB7 := hide (HB6.out.trans (hb7.mono HB6.out.size))
        have R7 := hide (R6.out.below hb7 R6.out.lt)
        have K7 := hide (K6.out.below hb7 K6.out.lt)
        clear hb7
        have hdf : decide (bindsE ls = 0) = false := decide_eq_false HE.out
        simp only [hdf, Bool.false_and]
        clear hdf
        go_wp2_with fail
        refine (scheck_any ls u w7 X (HU.out.later HB7.out)).mono ?_
        rintro e w8 ⟨rfl, hb8⟩
        have HB8 := hide (HB7.out.trans (hb8.mono HB7.out.size))
        have r0 : w8.cell? ⟨R, 0, none⟩ = some (.string ⟨#[]⟩) := (R7.out.below hb8 R7.out.lt).cell 0
        have r1 : w8.cell? ⟨R, 1, none⟩ = some (.slice none 0 0) := (R7.out.below hb8 R7.out.lt).cell 1
        have k0 : w8.cell? ⟨K, 0, none⟩ = some (.string ⟨#[]⟩) := (K7.out.below hb8 K7.out.lt).cell 0
        have k1 : w8.cell? ⟨K, 1, none⟩ = some (.slice none 0 0) := (K7.out.below hb8 K7.out.lt).cell 1
        clear hb8
        go_wp2_with fail
        refine (term2_err (bindsE ls) _ _ _ _ _ rfl _ HE.out).mono ?_
        rintro e w9 ⟨rfl, hb9⟩
        have HB9 := hide (HB8.out.trans (hb9.mono HB8.out.size))
        clear hb9
        go_wp2_with fail
        go_ret
        exact ⟨rfl, HB9.out⟩
      · exact absurd h0 HE.out
      · exact absurd h0 HE.out
    have HE := hide hE
    rw [hE]
    clear hE
    go_wp2_with fail
    have R4 := hide (Blk.new w3 #[.string ⟨#[]⟩, .slice none 0 0] 25)
    have HB4 := hide (HB3.out.alloc HB3.out.size (.cells #[.string ⟨#[]⟩, .slice none 0 0] 25))
    have K4 := hide (K3.out.alloc (.cells #[.string ⟨#[]⟩, .slice none 0 0] 25))
    clear t0 t1
    have hRw : w.heap.size < w3.heap.size := K3.out.lt
    generalize hRB : w3.heap.size = R at *
    generalize w3.alloc (.cells #[.string ⟨#[]⟩, .slice none 0 0] 25) = w4' at *
    refine (kindOf_any ls u w4' X (HU.out.later HB4.out) (fun d hd => by have := HH.out.2 d hd; omega)).mono ?_
    rintro e w4a ⟨rfl, hb4a⟩
    have HB4a := hide (HB4.out.trans (hb4a.mono HB4.out.size))
    have R4a := hide (R4.out.below hb4a R4.out.lt)
    have K4a := hide (K4.out.below hb4a K4.out.lt)
    clear hb4a HB4 R4 K4 hRB
    rw [dsB_eq HE.out]
    generalize hsb : stB ls ls = sb at *
    generalize hnb : namesB ls = nb at *
    have HSB := hide hsb
    have HNB := hide hnb
    clear hsb hnb
    have t0 : w4a.cell? ⟨w.heap.size, 0, none⟩ = some (.string t.name) := K4a.out.cell 0
    have t1 : w4a.cell? ⟨w.heap.size, 1, none⟩ = some (.slice a t.args.length c) := K4a.out.cell 1
    go_wp2_with fail
    refine (termMay_any t _ w4a X (HV.out.later HB4a.out)).mono ?_
    rintro e w4 ⟨rfl, hb4⟩
    have HB4 := hide (HB4a.out.trans (hb4.mono HB4a.out.size))
    have R4 := hide (R4a.out.below hb4 R4a.out.lt)
    have K4 := hide (K4a.out.below hb4 K4a.out.lt)
    clear hb4 t0 t1
    have t0 : w4.cell? ⟨w.heap.size, 0, none⟩ = some (.string t.name) := K4.out.cell 0
    have t1 : w4.cell? ⟨w.heap.size, 1, none⟩ = some (.slice a t.args.length c) := K4.out.cell 1
    by_cases hM : mayE t = 0
    case neg =>
      have hM2 : (mayE t == 0) = false := by simpa using hM
      have HM := hide hM
      clear hM
      go_wp2_with fail
      refine (apply_on ls t u _ w4 X (HU.out.later HB4.out) (HV.out.later HB4.out)).mono ?_
      rintro e w5 ⟨hb5, hc⟩
      have HB5 := hide (HB4.out.trans (hb5.mono HB4.out.size))
      have R5 := hide (R4.out.below hb5 R4.out.lt)
      clear hb5
      rcases hc with ⟨h0, _⟩ | ⟨_, _, rfl⟩ | ⟨_, h0, _⟩
      · exact absurd HE.out h0
      · go_wp2_with fail
        have K6 := hide (Blk.new w5 #[.string ⟨#[]⟩, .slice none 0 0] 25)
        have R6 := hide (R5.out.alloc (.cells #[.string ⟨#[]⟩, .slice none 0 0] 25))
        have HB6 := hide (HB5.out.alloc HB5.out.size (.cells #[.string ⟨#[]⟩, .slice none 0 0] 25))
        generalize hKB : w5.heap.size = K at *
        generalize w5.alloc (.cells #[.string ⟨#[]⟩, .slice none 0 0] 25) = w6 at *
        clear hKB
        refine (kind_any ls u w6 X (HU.out.later HB6.out)).mono ?_
        rintro e w7 ⟨rfl, hb7⟩
        have HB7 := hide (HB6.out.trans (hb7.mono HB6.out.size))
        have R7 := hide (R6.out.below hb7 R6.out.lt)
        have K7 := hide (K6.out.below hb7 K6.out.lt)
        clear hb7
        have hdf : decide (bindsE ls = 0) = true := decide_eq_true HE.out
        simp only [hdf, Bool.true_and]
        rw [HE.out]
        clear hdf
        go_wp2_with fail
        refine (scheck_any ls u w7 X (HU.out.later HB7.out)).mono ?_
        rintro e w8 ⟨rfl, hb8⟩
        have HB8 := hide (HB7.out.trans (hb8.mono HB7.out.size))
        have r0 : w8.cell? ⟨R, 0, none⟩ = some (.string ⟨#[]⟩) := (R7.out.below hb8 R7.out.lt).cell 0
        have r1 : w8.cell? ⟨R, 1, none⟩ = some (.slice none 0 0) := (R7.out.below hb8 R7.out.lt).cell 1
        have k0 : w8.cell? ⟨K, 0, none⟩ = some (.string ⟨#[]⟩) := (K7.out.below hb8 K7.out.lt).cell 0
        have k1 : w8.cell? ⟨K, 1, none⟩ = some (.slice none 0 0) := (K7.out.below hb8 K7.out.lt).cell 1
        clear hb8
        rw [HE.out]
        go_wp2_with fail
        refine (term2_err (mayE t) _ _ _ _ _ rfl _ HM.out).mono ?_
        rintro e w9 ⟨rfl, hb9⟩
        have HB9 := hide (HB8.out.trans (hb9.mono HB8.out.size))
        clear hb9
        go_wp2_with fail
        go_ret
        exact ⟨rfl, HB9.out⟩
      · exact absurd h0 HM.out
    have HM := hide hM
    rw [hM]
    clear hM
    go_wp2_with fail
    refine (onAll_any ls t u _ w4 X (HU.out.later HB4.out) (HV.out.later HB4.out) HSZ.out).mono ?_
    rintro e w5a ⟨hb5a, hc5⟩
    have HB5a := hide (HB4.out.trans (hb5a.mono HB4.out.size))
    have R5a := hide (R4.out.below hb5a R4.out.lt)
    have K5a := hide (K4.out.below hb5a K4.out.lt)
    have hRl : R < w5a.heap.size := R5a.out.lt
    have hR4 : R < w4.heap.size := R4.out.lt
    clear hb5a t0 t1
    have r0 : w5a.cell? ⟨R, 0, none⟩ = some (.string ⟨#[]⟩) := R5a.out.cell 0
    have r1 : w5a.cell? ⟨R, 1, none⟩ = some (.slice none 0 0) := R5a.out.cell 1
    have rf := R5a.out.frozen
    rcases hc5 with ⟨hbig, rfl⟩ | ⟨hle, a5, c5, rfl, hsl⟩
    · skip
      have R4b : Hid (Blk (((w5a.setCell ⟨R, 0, none⟩ (.string ⟨#[]⟩)).setCell ⟨R, 1, none⟩ (.slice none 0 0)).alloc (.cells #[.string ⟨#[]⟩, .slice none 0 0] 25)) R #[.string ⟨#[]⟩, .slice none 0 0] 25) := (((R5a.out.set 0 _).set 1 _).alloc _)
      have K4b : Hid (Blk (((w5a.setCell ⟨R, 0, none⟩ (.string ⟨#[]⟩)).setCell ⟨R, 1, none⟩ (.slice none 0 0)).alloc (.cells #[.string ⟨#[]⟩, .slice none 0 0] 25)) w.heap.size #[.string t.name, .slice a t.args.length c] 25) := (((K5a.out.setOther _ _ (by omega)).setOther _ _ (by omega)).alloc _)
      have HB4b : Hid (Below w.heap.size w (((w5a.setCell ⟨R, 0, none⟩ (.string ⟨#[]⟩)).setCell ⟨R, 1, none⟩ (.slice none 0 0)).alloc (.cells #[.string ⟨#[]⟩, .slice none 0 0] 25))) := ((HB5a.out.setCell (by simp; omega) _).setCell (by simp; omega) _).alloc (by have := HB5a.out.size; simp [World.setCell]; omega) _
      have t0 : (((w5a.setCell ⟨R, 0, none⟩ (.string ⟨#[]⟩)).setCell ⟨R, 1, none⟩ (.slice none 0 0)).alloc (.cells #[.string ⟨#[]⟩, .slice none 0 0] 25)).cell? ⟨w.heap.size, 0, none⟩ = some (.string t.name) := K4b.out.cell 0
      have t1 : (((w5a.setCell ⟨R, 0, none⟩ (.string ⟨#[]⟩)).setCell ⟨R, 1, none⟩ (.slice none 0 0)).alloc (.cells #[.string ⟨#[]⟩, .slice none 0 0] 25)).cell? ⟨w.heap.size, 1, none⟩ = some (.slice a t.args.length c) := K4b.out.cell 1
      go_wp2_with fail
      clear t0 t1 r0 r1 rf
      generalize (((w5a.setCell ⟨R, 0, none⟩ (.string ⟨#[]⟩)).setCell ⟨R, 1, none⟩ (.slice none 0 0)).alloc (.cells #[.string ⟨#[]⟩, .slice none 0 0] 25)) = w4c at *
      refine (apply_on ls t u _ w4c X (HU.out.later HB4b.out) (HV.out.later HB4b.out)).mono ?_
      rintro e w5 ⟨hb5, hc⟩
      have HB5 := hide (HB4b.out.trans (hb5.mono HB4b.out.size))
      have R5 := hide (R4b.out.below hb5 R4b.out.lt)
      clear hb5
      rcases hc with ⟨h0, _⟩ | ⟨_, h0, _⟩ | ⟨_, _, ⟨h0, _⟩ | ⟨_, rfl⟩⟩
      · exact absurd HE.out h0
      · exact absurd HM.out h0
      · rw [fT_onT HE.out t HM.out] at h0; omega
      · go_wp2_with fail
        have K6 := hide (Blk.new w5 #[.string ⟨#[]⟩, .slice none 0 0] 25)
        have R6 := hide (R5.out.alloc (.cells #[.string ⟨#[]⟩, .slice none 0 0] 25))
        have HB6 := hide (HB5.out.alloc HB5.out.size (.cells #[.string ⟨#[]⟩, .slice none 0 0] 25))
        generalize hKB : w5.heap.size = K at *
        generalize w5.alloc (.cells #[.string ⟨#[]⟩, .slice none 0 0] 25) = w6 at *
        clear hKB
        refine (kind_any ls u w6 X (HU.out.later HB6.out)).mono ?_
        rintro e w7 ⟨rfl, hb7⟩
        have HB7 := hide (HB6.out.trans (hb7.mono HB6.out.size))
        have R7 := hide (R6.out.below hb7 R6.out.lt)
        have K7 := hide (K6.out.below hb7 K6.out.lt)
        clear hb7
        have hdf : decide (bindsE ls = 0) = true := decide_eq_true HE.out
        simp only [hdf, Bool.true_and]
        rw [HE.out, HSB.out, HNB.out]
        clear hdf
        go_wp2_with fail
        refine (scheck_any ls u w7 X (HU.out.later HB7.out)).mono ?_
        rintro e w8 ⟨rfl, hb8⟩
        have HB8 := hide (HB7.out.trans (hb8.mono HB7.out.size))
        have r0 : w8.cell? ⟨R, 0, none⟩ = some (.string ⟨#[]⟩) := (R7.out.below hb8 R7.out.lt).cell 0
        have r1 : w8.cell? ⟨R, 1, none⟩ = some (.slice none 0 0) := (R7.out.below hb8 R7.out.lt).cell 1
        have k0 : w8.cell? ⟨K, 0, none⟩ = some (.string ⟨#[]⟩) := (K7.out.below hb8 K7.out.lt).cell 0
        have k1 : w8.cell? ⟨K, 1, none⟩ = some (.slice none 0 0) := (K7.out.below hb8 K7.out.lt).cell 1
        clear hb8
        rw [HE.out]
        go_wp2_with fail
        refine (term2_err 8 _ _ _ _ _ rfl _ (by decide)).mono ?_
        rintro e w9 ⟨rfl, hb9⟩
        have HB9 := hide (HB8.out.trans (hb9.mono HB8.out.size))
        clear hb9
        go_wp2_with fail
        go_ret
        exact ⟨rfl, HB9.out⟩
    · skip
      have HTV : Hid (Sl w5a (fun b => (X b ∧ b < w4.heap.size) ∨ w4.heap.size ≤ b) a5 (onT ls t).args) := hsl
      clear hsl
      generalize hn5 : (onT ls t).name = n5 at *
      generalize hl5 : (onT ls t).args.length = l5 at *
      have HN5 := hide hn5
      have HL5 := hide hl5
      clear hn5 hl5
      have R4b : Hid (Blk (((w5a.setCell ⟨R, 0, none⟩ (.string n5)).setCell ⟨R, 1, none⟩ (.slice a5 l5 c5)).alloc (.cells #[.string n5, .slice a5 l5 c5] 25)) R #[.string n5, .slice a5 l5 c5] 25) := (((R5a.out.set 0 _).set 1 _).alloc _)
      have K4b : Hid (Blk (((w5a.setCell ⟨R, 0, none⟩ (.string n5)).setCell ⟨R, 1, none⟩ (.slice a5 l5 c5)).alloc (.cells #[.string n5, .slice a5 l5 c5] 25)) w.heap.size #[.string t.name, .slice a t.args.length c] 25) := (((K5a.out.setOther _ _ (by omega)).setOther _ _ (by omega)).alloc _)
      have HB4b : Hid (Below w.heap.size w (((w5a.setCell ⟨R, 0, none⟩ (.string n5)).setCell ⟨R, 1, none⟩ (.slice a5 l5 c5)).alloc (.cells #[.string n5, .slice a5 l5 c5] 25))) := ((HB5a.out.setCell (by simp; omega) _).setCell (by simp; omega) _).alloc (by have := HB5a.out.size; simp [World.setCell]; omega) _
      have t0 : (((w5a.setCell ⟨R, 0, none⟩ (.string n5)).setCell ⟨R, 1, none⟩ (.slice a5 l5 c5)).alloc (.cells #[.string n5, .slice a5 l5 c5] 25)).cell? ⟨w.heap.size, 0, none⟩ = some (.string t.name) := K4b.out.cell 0
      have t1 : (((w5a.setCell ⟨R, 0, none⟩ (.string n5)).setCell ⟨R, 1, none⟩ (.slice a5 l5 c5)).alloc (.cells #[.string n5, .slice a5 l5 c5] 25)).cell? ⟨w.heap.size, 1, none⟩ = some (.slice a t.args.length c) := K4b.out.cell 1
      have HT4b : Hid (TV (((w5a.setCell ⟨R, 0, none⟩ (.string n5)).setCell ⟨R, 1, none⟩ (.slice a5 l5 c5)).alloc (.cells #[.string n5, .slice a5 l5 c5] 25)) (fun b => (X b ∧ b < w4.heap.size) ∨ w4.heap.size ≤ b) (.agg #[.string n5, .slice a5 l5 c5]) (onT ls t)) :=
        ⟨a5, c5, by rw [HN5.out, HL5.out], (HTV.out.kept fun b hb => by
          have hbR : b ≠ R := by
            rcases hb with ⟨h1, h2⟩ | h1
            · have := hX b h1; omega
            · omega
          rw [Below.heap_setCell _ _ _ _ (by simp; omega), Below.heap_setCell _ _ _ _ (by simp; omega)]).later ((Below.refl _ _).alloc (Nat.le_refl _) _)⟩
      go_wp2_with fail
      clear t0 t1 r0 r1 rf
      generalize (((w5a.setCell ⟨R, 0, none⟩ (.string n5)).setCell ⟨R, 1, none⟩ (.slice a5 l5 c5)).alloc (.cells #[.string n5, .slice a5 l5 c5] 25)) = w4c at *
      refine (apply_on ls t u _ w4c X (HU.out.later HB4b.out) (HV.out.later HB4b.out)).mono ?_
      rintro e w5 ⟨hb5, hc⟩
      have HB5 := hide (HB4b.out.trans (hb5.mono HB4b.out.size))
      have R5 := hide (R4b.out.below hb5 R4b.out.lt)
      have HT5 := hide (HT4b.out.later hb5)
      clear hb5
      rcases hc with ⟨h0, _⟩ | ⟨_, h0, _⟩ | ⟨_, _, ⟨_, a6, c6, rfl, hs6⟩ | ⟨h0, _⟩⟩
      · exact absurd HE.out h0
      · exact absurd HM.out h0
      · rw [fT_onT HE.out t HM.out] at hs6
        rw [fT_onT HE.out t HM.out, HN5.out, HL5.out]
        have HS6 : Hid (TV w5 (fun b => w4c.heap.size ≤ b) (.agg #[.string n5, .slice a6 l5 c6]) (onT ls t)) := ⟨a6, c6, by rw [HN5.out, HL5.out], hs6⟩
        clear hs6
        go_wp2_with fail
        have K6 := hide (Blk.new w5 #[.string n5, .slice a6 l5 c6] 25)
        have R6 := hide (R5.out.alloc (.cells #[.string n5, .slice a6 l5 c6] 25))
        have HB6 := hide (HB5.out.alloc HB5.out.size (.cells #[.string n5, .slice a6 l5 c6] 25))
        have HT6 := hide (HT5.out.alloc (.cells #[.string n5, .slice a6 l5 c6] 25))
        have HX6 := hide (HS6.out.alloc (.cells #[.string n5, .slice a6 l5 c6] 25))
        generalize hKB : w5.heap.size = K at *
        generalize w5.alloc (.cells #[.string n5, .slice a6 l5 c6] 25) = w6 at *
        clear hKB
        refine (kind_any ls u w6 X (HU.out.later HB6.out)).mono ?_
        rintro e w7 ⟨rfl, hb7⟩
        have HB7 := hide (HB6.out.trans (hb7.mono HB6.out.size))
        have R7 := hide (R6.out.below hb7 R6.out.lt)
        have K7 := hide (K6.out.below hb7 K6.out.lt)
        have HT7 := hide (HT6.out.later hb7)
        have HX7 := hide (HX6.out.later hb7)
        clear hb7
        have hdf : decide (bindsE ls = 0) = true := decide_eq_true HE.out
        simp only [hdf, Bool.true_and]
        rw [HE.out, HSB.out, HNB.out]
        clear hdf
        go_wp2_with fail
        refine (scheck_any ls u w7 X (HU.out.later HB7.out)).mono ?_
        rintro e w8 ⟨rfl, hb8⟩
        have HB8 := hide (HB7.out.trans (hb8.mono HB7.out.size))
        have r0 : w8.cell? ⟨R, 0, none⟩ = some (.string n5) := (R7.out.below hb8 R7.out.lt).cell 0
        have r1 : w8.cell? ⟨R, 1, none⟩ = some (.slice a5 l5 c5) := (R7.out.below hb8 R7.out.lt).cell 1
        have k0 : w8.cell? ⟨K, 0, none⟩ = some (.string n5) := (K7.out.below hb8 K7.out.lt).cell 0
        have k1 : w8.cell? ⟨K, 1, none⟩ = some (.slice a6 l5 c6) := (K7.out.below hb8 K7.out.lt).cell 1
        have HT8 := hide (HT7.out.later hb8)
        have HX8 := hide (HX7.out.later hb8)
        clear hb8
        rw [HE.out]
        go_wp2_with fail
        refine (term2_ok (onT ls t) _ _ w8 _ _ HX8.out HT8.out).mono ?_
        rintro e w9 ⟨rfl, hb9⟩
        have HB9 := hide (HB8.out.trans (hb9.mono HB8.out.size))
        clear hb9
        go_wp2_with fail
        go_ret
        exact ⟨rfl, HB9.out⟩
      · rw [fT_onT HE.out t HM.out] at h0; omega
#print axioms substSays_any
end Go.Proofs.Ytmkomemjhfafnaa

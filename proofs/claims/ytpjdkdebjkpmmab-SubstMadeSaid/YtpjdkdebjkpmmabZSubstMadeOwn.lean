/- Several texts in one. -/
import Derived.Test.YtpjdkdebjkpmmabW8
import Derived.Deep.RegionHeld3
import Derived.Test.YtpjdkdebjkpmmabW68
import Derived.Test.YtpjdkdebjkpmmabW69
import Derived.Test.YtpjdkdebjkpmmabW70
import Derived.Test.YtpjdkdebjkpmmabW53
import Derived.Test.YtpjdkdebjkpmmabW54
import Derived.Test.YtpjdkdebjkpmmabW64
import Derived.Test.YtpjdkdebjkpmmabW17
import Derived.Test.YtpjdkdebjkpmmabSrt
import Derived.Test.YtpjdkdebjkpmmabW82
import Derived.Shelf.GgSortFunc.InsertionK
import Derived.Test.YtpjdkdebjkpmmabSortL
import Derived.Test.YtpjdkdebjkpmmabBnd
import Derived.Test.YtpjdkdebjkpmmabW100
import Derived.Test.YtpjdkdebjkpmmabRows
import Derived.Test.YtpjdkdebjkpmmabW7
import Derived.ProofKit
import Derived.Test.YtpjdkdebjkpmmabW28
/- Walks: two terms that are the same. -/
namespace Go.Proofs.Ytpjdkdebjkpmmab
open Go.RowKit
set_option linter.unusedSimpArgs false
set_option linter.unusedVariables false

theorem same_cells {w w1 : World} {n : Nat} {p1 p2 p3 p4 p5 p6 : Addr} {v1 v2 v3 v4 v5 v6 : Value} (hb : Below (w.drewN n).heap.size (w.drewN n) w1)
    (h : w.cell? p1 = some v1 ∧ w.cell? p2 = some v2 ∧ w.cell? p3 = some v3 ∧ w.cell? p4 = some v4 ∧ w.cell? p5 = some v5 ∧ w.cell? p6 = some v6) :
    w1.cell? p1 = some v1 ∧ w1.cell? p2 = some v2 ∧ w1.cell? p3 = some v3 ∧ w1.cell? p4 = some v4 ∧ w1.cell? p5 = some v5 ∧ w1.cell? p6 = some v6 := by
  have hb' : Below w.heap.size w w1 := (below_drewN (Below.refl _ _) n).trans (hb.mono (by simp))
  exact ⟨cell_later hb' h.1, cell_later hb' h.2.1, cell_later hb' h.2.2.1, cell_later hb' h.2.2.2.1, cell_later hb' h.2.2.2.2.1, cell_later hb' h.2.2.2.2.2⟩

set_option maxHeartbeats 1000000 in
theorem same_any (t : Tm) : ∀ (v u : Value) (w : World) (X Y : Nat → Prop), TV w X v t → TV w Y u t →
    Calls Try.prog 51 #[v, u] w fun e w' => e = .returned (.bool true) ∧ Below w.heap.size w w' := by
  induction t using Tm.ind with
  | h s l ih =>
    intro v u w X Y hv hu
    have IH := hide ih
    clear ih
    obtain ⟨a, c, rfl, hs⟩ := hv
    obtain ⟨a2, c2, rfl, hs2⟩ := hu
    have hl := hs.1
    go_enter Try.func51, Try.ntmps51
    go_wp2_with fail
    go_loopw [5] (fun i wr => ∃ (k : Nat), k ≤ l.length ∧ i = .int .i64 k ∧ Below w.heap.size w wr ∧ wr.cell? ⟨w.heap.size, 1, none⟩ = some (.slice a l.length c) ∧ wr.cell? ⟨w.heap.size + 1, 1, none⟩ = some (.slice a2 l.length c2) ∧ w.heap.size + 2 ≤ wr.heap.size) (fun i wr => l.length - (intOf i).toNat)
    case atStart => exact ⟨0, Nat.zero_le _, rfl, below2 _ _, by simp, by simp, by simp⟩
    case round =>
      obtain ⟨k, hk, rfl, hb, hc1, hc2, hsz⟩ := hrel
      by_cases hlt : k < l.length
      · obtain ⟨b, o, a', c', rfl, d0, d1, hx⟩ := hs.get hb (fun _ _ h => h) k hlt
        obtain ⟨b2, o2, a2', c2', rfl, e0, e1, hx2⟩ := hs2.get hb (fun _ _ h => h) k hlt
        have HX := hide hx
        have HX2 := hide hx2
        have HB := hide hb
        have HS0 := hide (And.intro hc1 (And.intro hc2 (And.intro d0 (And.intro d1 (And.intro e0 e1)))))
        clear hx hx2 hb
        go_wp2_with fail
        go_region_held3 (fun w' => w'.cell? ⟨w.heap.size, 1, none⟩ = some (.slice (some ⟨b, o, none⟩) l.length c) ∧ w'.cell? ⟨w.heap.size + 1, 1, none⟩ = some (.slice (some ⟨b2, o2, none⟩) l.length c2) ∧ w'.cell? ⟨b, o + k * 2, none⟩ = some (.string l[k].name) ∧ w'.cell? ⟨b, o + k * 2 + 1, none⟩ = some (.slice a' l[k].args.length c') ∧ w'.cell? ⟨b2, o2 + k * 2, none⟩ = some (.string l[k].name) ∧ w'.cell? ⟨b2, o2 + k * 2 + 1, none⟩ = some (.slice a2' l[k].args.length c2')) (first | exact HS0.out | exact hS1)
          ((go_at_call 51; refine (IH.out _ (List.getElem_mem hlt) _ _ _ X Y (by exact HX.out.later (below_drewN (Below.refl _ _) 1)) (by exact HX2.out.later (below_drewN (Below.refl _ _) 1))).mono ?_; rintro e w1 ⟨rfl, hb1⟩; have hS1 := same_cells (n := 1) hb1 HS0.out))
        go_wp2_with fail
        go_roundw
        case rel => exact ⟨k + 1, by omega, by go_num, (HB.out.trans (below_drewN (Below.refl _ _) 1)).trans (hb1.mono (by simp; omega)), hS1.1, hS1.2.1, by have := hb1.size; simp at this; omega⟩
        case measure => simp [intOf]; omega
      · go_wp2_with fail
        go_ret
        exact ⟨rfl, hb⟩
#print axioms same_any
end Go.Proofs.Ytpjdkdebjkpmmab

/- Walks: two answers that are terms. -/
namespace Go.Proofs.Ytpjdkdebjkpmmab
open Go.RowKit
set_option linter.unusedSimpArgs false
set_option linter.unusedVariables false

set_option maxHeartbeats 1000000 in
theorem term2_ok (t : Tm) (v u : Value) (w : World) (X Y : Nat → Prop) (hv : TV w X v t) (hu : TV w Y u t) :
    Calls Try.prog 38 #[v, .int .i64 0, u, .int .i64 0] w fun e w' => e = .returned (.bool true) ∧ Below w.heap.size w w' := by
  obtain ⟨a, c, rfl, hs⟩ := hv
  obtain ⟨a2, c2, rfl, hs2⟩ := hu
  have HV := hide (show TV w X (.agg #[.string t.name, .slice a t.args.length c]) t from ⟨a, c, rfl, hs⟩)
  have HU := hide (show TV w Y (.agg #[.string t.name, .slice a2 t.args.length c2]) t from ⟨a2, c2, rfl, hs2⟩)
  clear hs hs2
  go_enter Try.func38, Try.ntmps38
  go_wp2_with fail
  refine (same_any t _ _ _ X Y (by exact HV.out.later (below2 _ _)) (by exact HU.out.later (below2 _ _))).mono ?_
  rintro e w1 ⟨rfl, hb1⟩
  go_wp2_with fail
  go_ret
  exact ⟨rfl, (below2 _ _).trans (hb1.mono (by simp; omega))⟩

set_option maxHeartbeats 1000000 in
theorem term2_err (f : Int) (u : Value) (s2 : ByteArray) (a2 : Option Addr) (n2 c2 : Nat) (hu : u = .agg #[.string s2, .slice a2 n2 c2]) (w : World) (hf : f ≠ 0) :
    Calls Try.prog 38 #[zeroT, .int .i64 f, u, .int .i64 f] w fun e w' => e = .returned (.bool true) ∧ Below w.heap.size w w' := by
  subst hu
  unfold zeroT
  have hf' : (f == 0) = false := by simpa using hf
  go_enter Try.func38, Try.ntmps38
  go_wp2_with fail
  go_ret
  exact ⟨rfl, below2 _ _⟩
#print axioms term2_ok
end Go.Proofs.Ytpjdkdebjkpmmab

/- The law on bindings: it answers true. -/
namespace Go.Proofs.Ytpjdkdebjkpmmab
open Go.RowKit
set_option linter.unusedSimpArgs false
set_option linter.unusedVariables false
set_option maxRecDepth 8000

set_option maxHeartbeats 1000000 in
theorem substSays_any (ls : List Bd) (t : Tm) (u v : Value) (w : World) (X0 : Nat → Prop) (hu0 : BV w X0 u ls) (hv0 : TV w X0 v t) :
    Calls Try.prog 10 #[u, v] w fun e w' => e = .returned (.bool true) ∧ Below w.heap.size w w' := by
  obtain ⟨X, hX, hu, hv⟩ : ∃ X : Nat → Prop, (∀ b, X b → b < w.heap.size) ∧ BV w X u ls ∧ TV w X v t := ⟨fun b => X0 b ∧ b < w.heap.size, fun _ h => h.2, hu0.mono fun b h1 h2 => ⟨h1, h2⟩, hv0.mono fun b h1 h2 => ⟨h1, h2⟩⟩
  clear hu0 hv0
  obtain ⟨a, c, rfl, hs⟩ := hv
  have HV := hide (show TV w X (.agg #[.string t.name, .slice a t.args.length c]) t from ⟨a, c, rfl, hs⟩)
  have HU := hide hu
  clear hs hu
  go_enter Try.func10, Try.ntmps10
  go_wp2_with fail
  have K0 := hide (Blk.new w #[.string t.name, .slice a t.args.length c] 29)
  have HB0 := hide ((Below.refl w.heap.size w).alloc (Nat.le_refl _) (.cells #[.string t.name, .slice a t.args.length c] 29))
  generalize w.alloc (.cells #[.string t.name, .slice a t.args.length c] 29) = w0 at *
  refine (hugeBinds_any ls u w0 X (HU.out.later HB0.out)).mono ?_
  rintro e w1 ⟨rfl, hb1⟩
  have HB1 := hide (HB0.out.trans (hb1.mono HB0.out.size))
  have K1 := hide (K0.out.below hb1 K0.out.lt)
  clear hb1
  have t0 : w1.cell? ⟨w.heap.size, 0, none⟩ = some (.string t.name) := K1.out.cell 0
  have t1 : w1.cell? ⟨w.heap.size, 1, none⟩ = some (.slice a t.args.length c) := K1.out.cell 1
  cases hh : hugeB ls with
  | true =>
    clear hh
    go_wp2_with fail
    go_ret
    exact ⟨rfl, HB1.out⟩
  | false =>
    have HH := hide (hugeB_no hh)
    clear hh
    go_wp2_with fail
    refine (huge_any t _ w1 X (HV.out.later HB1.out)).mono ?_
    rintro e w2 ⟨rfl, hb2⟩
    have HB2 := hide (HB1.out.trans (hb2.mono HB1.out.size))
    have K2 := hide (K1.out.below hb2 K1.out.lt)
    clear hb2 t0 t1
    by_cases h1 : 3000 < sizeL [t]
    · have e1 : decide (3000 < sizeL [t]) = true := by simpa using h1
      rw [e1]
      clear e1 h1
      go_wp2_with fail
      go_ret
      exact ⟨rfl, HB2.out⟩
    have e1 : decide (3000 < sizeL [t]) = false := by simpa using h1
    rw [e1]
    have HSZ : Hid (sizeL [t] ≤ 1000000) := by unfold Hid; omega
    clear e1 h1
    go_wp2_with fail
    refine (bindsMay_any ls u w2 X (HU.out.later HB2.out)).mono ?_
    rintro e w3 ⟨rfl, hb3⟩
    have HB3 := hide (HB2.out.trans (hb3.mono HB2.out.size))
    have K3 := hide (K2.out.below hb3 K2.out.lt)
    clear hb3
    have t0 : ∀ o, (w3.alloc o).cell? ⟨w.heap.size, 0, none⟩ = some (.string t.name) := fun o => (K3.out.alloc o).cell 0
    have t1 : ∀ o, (w3.alloc o).cell? ⟨w.heap.size, 1, none⟩ = some (.slice a t.args.length c) := fun o => (K3.out.alloc o).cell 1
    by_cases hE : bindsE ls = 0
    case neg =>
      have hE2 : (bindsE ls == 0) = false := by simpa using hE
      have HE := hide hE
      clear hE
      go_wp2_with fail
      have R4 := hide (Blk.new w3 #[.string ⟨#[]⟩, .slice none 0 0] 29)
      have HB4 := hide (HB3.out.alloc HB3.out.size (.cells #[.string ⟨#[]⟩, .slice none 0 0] 29))
      clear t0 t1
      generalize hRB : w3.heap.size = R at *
      generalize w3.alloc (.cells #[.string ⟨#[]⟩, .slice none 0 0] 29) = w4 at *
      refine (apply_on ls t u _ w4 X (HU.out.later HB4.out) (HV.out.later HB4.out)).mono ?_
      rintro e w5 ⟨hb5, hc⟩
      have HB5 := hide (HB4.out.trans (hb5.mono HB4.out.size))
      have R5 := hide (R4.out.below hb5 R4.out.lt)
      clear hb5
      rcases hc with ⟨_, rfl⟩ | ⟨h0, _⟩ | ⟨h0, _⟩
      · go_wp2_with fail
        have K6 := hide (Blk.new w5 #[.string ⟨#[]⟩, .slice none 0 0] 29)
        have R6 := hide (R5.out.alloc (.cells #[.string ⟨#[]⟩, .slice none 0 0] 29))
        have HB6 := hide (HB5.out.alloc HB5.out.size (.cells #[.string ⟨#[]⟩, .slice none 0 0] 29))
        generalize hKB : w5.heap.size = K at *
        generalize w5.alloc (.cells #[.string ⟨#[]⟩, .slice none 0 0] 29) = w6 at *
        clear hKB hRB
        refine (kind_any ls u w6 X (HU.out.later HB6.out)).mono ?_
        rintro e w7 ⟨rfl, hb7⟩
        have HB7 := hide (HB6.out.trans (hb7.mono HB6.out.size))
        have R7 := hide (R6.out.below hb7 R6.out.lt)
        have K7 := hide (K6.out.below hb7 K6.out.lt)
        clear hb7
        have hdf : decide (bindsE ls = 0) = false := decide_eq_false HE.out
        simp only [hdf, Bool.false_and]
        clear hdf
        go_wp2_with fail
        refine (scheck_any ls u w7 X (HU.out.later HB7.out)).mono ?_
        rintro e w8 ⟨rfl, hb8⟩
        have HB8 := hide (HB7.out.trans (hb8.mono HB7.out.size))
        have r0 : w8.cell? ⟨R, 0, none⟩ = some (.string ⟨#[]⟩) := (R7.out.below hb8 R7.out.lt).cell 0
        have r1 : w8.cell? ⟨R, 1, none⟩ = some (.slice none 0 0) := (R7.out.below hb8 R7.out.lt).cell 1
        have k0 : w8.cell? ⟨K, 0, none⟩ = some (.string ⟨#[]⟩) := (K7.out.below hb8 K7.out.lt).cell 0
        have k1 : w8.cell? ⟨K, 1, none⟩ = some (.slice none 0 0) := (K7.out.below hb8 K7.out.lt).cell 1
        clear hb8
        go_wp2_with fail
        refine (term2_err (bindsE ls) _ _ _ _ _ rfl _ HE.out).mono ?_
        rintro e w9 ⟨rfl, hb9⟩
        have HB9 := hide (HB8.out.trans (hb9.mono HB8.out.size))
        clear hb9
        go_wp2_with fail
        go_ret
        exact ⟨rfl, HB9.out⟩
      · exact absurd h0 HE.out
      · exact absurd h0 HE.out
    have HE := hide hE
    rw [hE]
    clear hE
    go_wp2_with fail
    have R4 := hide (Blk.new w3 #[.string ⟨#[]⟩, .slice none 0 0] 29)
    have HB4 := hide (HB3.out.alloc HB3.out.size (.cells #[.string ⟨#[]⟩, .slice none 0 0] 29))
    have K4 := hide (K3.out.alloc (.cells #[.string ⟨#[]⟩, .slice none 0 0] 29))
    clear t0 t1
    have hRw : w.heap.size < w3.heap.size := K3.out.lt
    generalize hRB : w3.heap.size = R at *
    generalize w3.alloc (.cells #[.string ⟨#[]⟩, .slice none 0 0] 29) = w4' at *
    refine (kindOf_any ls u w4' X (HU.out.later HB4.out) (fun d hd => by have := HH.out.2 d hd; omega)).mono ?_
    rintro e w4a ⟨rfl, hb4a⟩
    have HB4a := hide (HB4.out.trans (hb4a.mono HB4.out.size))
    have R4a := hide (R4.out.below hb4a R4.out.lt)
    have K4a := hide (K4.out.below hb4a K4.out.lt)
    clear hb4a HB4 R4 K4 hRB
    rw [dsB_eq HE.out]
    generalize hsb : stB ls ls = sb at *
    generalize hnb : namesB ls = nb at *
    have HSB := hide hsb
    have HNB := hide hnb
    clear hsb hnb
    have t0 : w4a.cell? ⟨w.heap.size, 0, none⟩ = some (.string t.name) := K4a.out.cell 0
    have t1 : w4a.cell? ⟨w.heap.size, 1, none⟩ = some (.slice a t.args.length c) := K4a.out.cell 1
    go_wp2_with fail
    refine (termMay_any t _ w4a X (HV.out.later HB4a.out)).mono ?_
    rintro e w4 ⟨rfl, hb4⟩
    have HB4 := hide (HB4a.out.trans (hb4.mono HB4a.out.size))
    have R4 := hide (R4a.out.below hb4 R4a.out.lt)
    have K4 := hide (K4a.out.below hb4 K4a.out.lt)
    clear hb4 t0 t1
    have t0 : w4.cell? ⟨w.heap.size, 0, none⟩ = some (.string t.name) := K4.out.cell 0
    have t1 : w4.cell? ⟨w.heap.size, 1, none⟩ = some (.slice a t.args.length c) := K4.out.cell 1
    by_cases hM : mayE t = 0
    case neg =>
      have hM2 : (mayE t == 0) = false := by simpa using hM
      have HM := hide hM
      clear hM
      go_wp2_with fail
      refine (apply_on ls t u _ w4 X (HU.out.later HB4.out) (HV.out.later HB4.out)).mono ?_
      rintro e w5 ⟨hb5, hc⟩
      have HB5 := hide (HB4.out.trans (hb5.mono HB4.out.size))
      have R5 := hide (R4.out.below hb5 R4.out.lt)
      clear hb5
      rcases hc with ⟨h0, _⟩ | ⟨_, _, rfl⟩ | ⟨_, h0, _⟩
      · exact absurd HE.out h0
      · go_wp2_with fail
        have K6 := hide (Blk.new w5 #[.string ⟨#[]⟩, .slice none 0 0] 29)
        have R6 := hide (R5.out.alloc (.cells #[.string ⟨#[]⟩, .slice none 0 0] 29))
        have HB6 := hide (HB5.out.alloc HB5.out.size (.cells #[.string ⟨#[]⟩, .slice none 0 0] 29))
        generalize hKB : w5.heap.size = K at *
        generalize w5.alloc (.cells #[.string ⟨#[]⟩, .slice none 0 0] 29) = w6 at *
        clear hKB
        refine (kind_any ls u w6 X (HU.out.later HB6.out)).mono ?_
        rintro e w7 ⟨rfl, hb7⟩
        have HB7 := hide (HB6.out.trans (hb7.mono HB6.out.size))
        have R7 := hide (R6.out.below hb7 R6.out.lt)
        have K7 := hide (K6.out.below hb7 K6.out.lt)
        clear hb7
        have hdf : decide (bindsE ls = 0) = true := decide_eq_true HE.out
        simp only [hdf, Bool.true_and]
        rw [HE.out]
        clear hdf
        go_wp2_with fail
        refine (scheck_any ls u w7 X (HU.out.later HB7.out)).mono ?_
        rintro e w8 ⟨rfl, hb8⟩
        have HB8 := hide (HB7.out.trans (hb8.mono HB7.out.size))
        have r0 : w8.cell? ⟨R, 0, none⟩ = some (.string ⟨#[]⟩) := (R7.out.below hb8 R7.out.lt).cell 0
        have r1 : w8.cell? ⟨R, 1, none⟩ = some (.slice none 0 0) := (R7.out.below hb8 R7.out.lt).cell 1
        have k0 : w8.cell? ⟨K, 0, none⟩ = some (.string ⟨#[]⟩) := (K7.out.below hb8 K7.out.lt).cell 0
        have k1 : w8.cell? ⟨K, 1, none⟩ = some (.slice none 0 0) := (K7.out.below hb8 K7.out.lt).cell 1
        clear hb8
        rw [HE.out]
        go_wp2_with fail
        refine (term2_err (mayE t) _ _ _ _ _ rfl _ HM.out).mono ?_
        rintro e w9 ⟨rfl, hb9⟩
        have HB9 := hide (HB8.out.trans (hb9.mono HB8.out.size))
        clear hb9
        go_wp2_with fail
        go_ret
        exact ⟨rfl, HB9.out⟩
      · exact absurd h0 HM.out
    have HM := hide hM
    rw [hM]
    clear hM
    go_wp2_with fail
    refine (onAll_any ls t u _ w4 X (HU.out.later HB4.out) (HV.out.later HB4.out) HSZ.out).mono ?_
    rintro e w5a ⟨hb5a, hc5⟩
    have HB5a := hide (HB4.out.trans (hb5a.mono HB4.out.size))
    have R5a := hide (R4.out.below hb5a R4.out.lt)
    have K5a := hide (K4.out.below hb5a K4.out.lt)
    have hRl : R < w5a.heap.size := R5a.out.lt
    have hR4 : R < w4.heap.size := R4.out.lt
    clear hb5a t0 t1
    have r0 : w5a.cell? ⟨R, 0, none⟩ = some (.string ⟨#[]⟩) := R5a.out.cell 0
    have r1 : w5a.cell? ⟨R, 1, none⟩ = some (.slice none 0 0) := R5a.out.cell 1
    have rf := R5a.out.frozen
    rcases hc5 with ⟨hbig, rfl⟩ | ⟨hle, a5, c5, rfl, hsl⟩
    · skip
      have R4b : Hid (Blk (((w5a.setCell ⟨R, 0, none⟩ (.string ⟨#[]⟩)).setCell ⟨R, 1, none⟩ (.slice none 0 0)).alloc (.cells #[.string ⟨#[]⟩, .slice none 0 0] 29)) R #[.string ⟨#[]⟩, .slice none 0 0] 29) := (((R5a.out.set 0 _).set 1 _).alloc _)
      have K4b : Hid (Blk (((w5a.setCell ⟨R, 0, none⟩ (.string ⟨#[]⟩)).setCell ⟨R, 1, none⟩ (.slice none 0 0)).alloc (.cells #[.string ⟨#[]⟩, .slice none 0 0] 29)) w.heap.size #[.string t.name, .slice a t.args.length c] 29) := (((K5a.out.setOther _ _ (by omega)).setOther _ _ (by omega)).alloc _)
      have HB4b : Hid (Below w.heap.size w (((w5a.setCell ⟨R, 0, none⟩ (.string ⟨#[]⟩)).setCell ⟨R, 1, none⟩ (.slice none 0 0)).alloc (.cells #[.string ⟨#[]⟩, .slice none 0 0] 29))) := ((HB5a.out.setCell (by simp; omega) _).setCell (by simp; omega) _).alloc (by have := HB5a.out.size; simp [World.setCell]; omega) _
      have t0 : (((w5a.setCell ⟨R, 0, none⟩ (.string ⟨#[]⟩)).setCell ⟨R, 1, none⟩ (.slice none 0 0)).alloc (.cells #[.string ⟨#[]⟩, .slice none 0 0] 29)).cell? ⟨w.heap.size, 0, none⟩ = some (.string t.name) := K4b.out.cell 0
      have t1 : (((w5a.setCell ⟨R, 0, none⟩ (.string ⟨#[]⟩)).setCell ⟨R, 1, none⟩ (.slice none 0 0)).alloc (.cells #[.string ⟨#[]⟩, .slice none 0 0] 29)).cell? ⟨w.heap.size, 1, none⟩ = some (.slice a t.args.length c) := K4b.out.cell 1
      go_wp2_with fail
      clear t0 t1 r0 r1 rf
      generalize (((w5a.setCell ⟨R, 0, none⟩ (.string ⟨#[]⟩)).setCell ⟨R, 1, none⟩ (.slice none 0 0)).alloc (.cells #[.string ⟨#[]⟩, .slice none 0 0] 29)) = w4c at *
      refine (apply_on ls t u _ w4c X (HU.out.later HB4b.out) (HV.out.later HB4b.out)).mono ?_
      rintro e w5 ⟨hb5, hc⟩
      have HB5 := hide (HB4b.out.trans (hb5.mono HB4b.out.size))
      have R5 := hide (R4b.out.below hb5 R4b.out.lt)
      clear hb5
      rcases hc with ⟨h0, _⟩ | ⟨_, h0, _⟩ | ⟨_, _, ⟨h0, _⟩ | ⟨_, rfl⟩⟩
      · exact absurd HE.out h0
      · exact absurd HM.out h0
      · rw [fT_onT HE.out t HM.out] at h0; omega
      · go_wp2_with fail
        have K6 := hide (Blk.new w5 #[.string ⟨#[]⟩, .slice none 0 0] 29)
        have R6 := hide (R5.out.alloc (.cells #[.string ⟨#[]⟩, .slice none 0 0] 29))
        have HB6 := hide (HB5.out.alloc HB5.out.size (.cells #[.string ⟨#[]⟩, .slice none 0 0] 29))
        generalize hKB : w5.heap.size = K at *
        generalize w5.alloc (.cells #[.string ⟨#[]⟩, .slice none 0 0] 29) = w6 at *
        clear hKB
        refine (kind_any ls u w6 X (HU.out.later HB6.out)).mono ?_
        rintro e w7 ⟨rfl, hb7⟩
        have HB7 := hide (HB6.out.trans (hb7.mono HB6.out.size))
        have R7 := hide (R6.out.below hb7 R6.out.lt)
        have K7 := hide (K6.out.below hb7 K6.out.lt)
        clear hb7
        have hdf : decide (bindsE ls = 0) = true := decide_eq_true HE.out
        simp only [hdf, Bool.true_and]
        rw [HE.out, HSB.out, HNB.out]
        clear hdf
        go_wp2_with fail
        refine (scheck_any ls u w7 X (HU.out.later HB7.out)).mono ?_
        rintro e w8 ⟨rfl, hb8⟩
        have HB8 := hide (HB7.out.trans (hb8.mono HB7.out.size))
        have r0 : w8.cell? ⟨R, 0, none⟩ = some (.string ⟨#[]⟩) := (R7.out.below hb8 R7.out.lt).cell 0
        have r1 : w8.cell? ⟨R, 1, none⟩ = some (.slice none 0 0) := (R7.out.below hb8 R7.out.lt).cell 1
        have k0 : w8.cell? ⟨K, 0, none⟩ = some (.string ⟨#[]⟩) := (K7.out.below hb8 K7.out.lt).cell 0
        have k1 : w8.cell? ⟨K, 1, none⟩ = some (.slice none 0 0) := (K7.out.below hb8 K7.out.lt).cell 1
        clear hb8
        rw [HE.out]
        go_wp2_with fail
        refine (term2_err 8 _ _ _ _ _ rfl _ (by decide)).mono ?_
        rintro e w9 ⟨rfl, hb9⟩
        have HB9 := hide (HB8.out.trans (hb9.mono HB8.out.size))
        clear hb9
        go_wp2_with fail
        go_ret
        exact ⟨rfl, HB9.out⟩
    · skip
      have HTV : Hid (Sl w5a (fun b => (X b ∧ b < w4.heap.size) ∨ w4.heap.size ≤ b) a5 (onT ls t).args) := hsl
      clear hsl
      generalize hn5 : (onT ls t).name = n5 at *
      generalize hl5 : (onT ls t).args.length = l5 at *
      have HN5 := hide hn5
      have HL5 := hide hl5
      clear hn5 hl5
      have R4b : Hid (Blk (((w5a.setCell ⟨R, 0, none⟩ (.string n5)).setCell ⟨R, 1, none⟩ (.slice a5 l5 c5)).alloc (.cells #[.string n5, .slice a5 l5 c5] 29)) R #[.string n5, .slice a5 l5 c5] 29) := (((R5a.out.set 0 _).set 1 _).alloc _)
      have K4b : Hid (Blk (((w5a.setCell ⟨R, 0, none⟩ (.string n5)).setCell ⟨R, 1, none⟩ (.slice a5 l5 c5)).alloc (.cells #[.string n5, .slice a5 l5 c5] 29)) w.heap.size #[.string t.name, .slice a t.args.length c] 29) := (((K5a.out.setOther _ _ (by omega)).setOther _ _ (by omega)).alloc _)
      have HB4b : Hid (Below w.heap.size w (((w5a.setCell ⟨R, 0, none⟩ (.string n5)).setCell ⟨R, 1, none⟩ (.slice a5 l5 c5)).alloc (.cells #[.string n5, .slice a5 l5 c5] 29))) := ((HB5a.out.setCell (by simp; omega) _).setCell (by simp; omega) _).alloc (by have := HB5a.out.size; simp [World.setCell]; omega) _
      have t0 : (((w5a.setCell ⟨R, 0, none⟩ (.string n5)).setCell ⟨R, 1, none⟩ (.slice a5 l5 c5)).alloc (.cells #[.string n5, .slice a5 l5 c5] 29)).cell? ⟨w.heap.size, 0, none⟩ = some (.string t.name) := K4b.out.cell 0
      have t1 : (((w5a.setCell ⟨R, 0, none⟩ (.string n5)).setCell ⟨R, 1, none⟩ (.slice a5 l5 c5)).alloc (.cells #[.string n5, .slice a5 l5 c5] 29)).cell? ⟨w.heap.size, 1, none⟩ = some (.slice a t.args.length c) := K4b.out.cell 1
      have HT4b : Hid (TV (((w5a.setCell ⟨R, 0, none⟩ (.string n5)).setCell ⟨R, 1, none⟩ (.slice a5 l5 c5)).alloc (.cells #[.string n5, .slice a5 l5 c5] 29)) (fun b => (X b ∧ b < w4.heap.size) ∨ w4.heap.size ≤ b) (.agg #[.string n5, .slice a5 l5 c5]) (onT ls t)) :=
        ⟨a5, c5, by rw [HN5.out, HL5.out], (HTV.out.kept fun b hb => by
          have hbR : b ≠ R := by
            rcases hb with ⟨h1, h2⟩ | h1
            · have := hX b h1; omega
            · omega
          rw [Below.heap_setCell _ _ _ _ (by simp; omega), Below.heap_setCell _ _ _ _ (by simp; omega)]).later ((Below.refl _ _).alloc (Nat.le_refl _) _)⟩
      go_wp2_with fail
      clear t0 t1 r0 r1 rf
      generalize (((w5a.setCell ⟨R, 0, none⟩ (.string n5)).setCell ⟨R, 1, none⟩ (.slice a5 l5 c5)).alloc (.cells #[.string n5, .slice a5 l5 c5] 29)) = w4c at *
      refine (apply_on ls t u _ w4c X (HU.out.later HB4b.out) (HV.out.later HB4b.out)).mono ?_
      rintro e w5 ⟨hb5, hc⟩
      have HB5 := hide (HB4b.out.trans (hb5.mono HB4b.out.size))
      have R5 := hide (R4b.out.below hb5 R4b.out.lt)
      have HT5 := hide (HT4b.out.later hb5)
      clear hb5
      rcases hc with ⟨h0, _⟩ | ⟨_, h0, _⟩ | ⟨_, _, ⟨_, a6, c6, rfl, hs6⟩ | ⟨h0, _⟩⟩
      · exact absurd HE.out h0
      · exact absurd HM.out h0
      · rw [fT_onT HE.out t HM.out] at hs6
        rw [fT_onT HE.out t HM.out, HN5.out, HL5.out]
        have HS6 : Hid (TV w5 (fun b => w4c.heap.size ≤ b) (.agg #[.string n5, .slice a6 l5 c6]) (onT ls t)) := ⟨a6, c6, by rw [HN5.out, HL5.out], hs6⟩
        clear hs6
        go_wp2_with fail
        have K6 := hide (Blk.new w5 #[.string n5, .slice a6 l5 c6] 29)
        have R6 := hide (R5.out.alloc (.cells #[.string n5, .slice a6 l5 c6] 29))
        have HB6 := hide (HB5.out.alloc HB5.out.size (.cells #[.string n5, .slice a6 l5 c6] 29))
        have HT6 := hide (HT5.out.alloc (.cells #[.string n5, .slice a6 l5 c6] 29))
        have HX6 := hide (HS6.out.alloc (.cells #[.string n5, .slice a6 l5 c6] 29))
        generalize hKB : w5.heap.size = K at *
        generalize w5.alloc (.cells #[.string n5, .slice a6 l5 c6] 29) = w6 at *
        clear hKB
        refine (kind_any ls u w6 X (HU.out.later HB6.out)).mono ?_
        rintro e w7 ⟨rfl, hb7⟩
        have HB7 := hide (HB6.out.trans (hb7.mono HB6.out.size))
        have R7 := hide (R6.out.below hb7 R6.out.lt)
        have K7 := hide (K6.out.below hb7 K6.out.lt)
        have HT7 := hide (HT6.out.later hb7)
        have HX7 := hide (HX6.out.later hb7)
        clear hb7
        have hdf : decide (bindsE ls = 0) = true := decide_eq_true HE.out
        simp only [hdf, Bool.true_and]
        rw [HE.out, HSB.out, HNB.out]
        clear hdf
        go_wp2_with fail
        refine (scheck_any ls u w7 X (HU.out.later HB7.out)).mono ?_
        rintro e w8 ⟨rfl, hb8⟩
        have HB8 := hide (HB7.out.trans (hb8.mono HB7.out.size))
        have r0 : w8.cell? ⟨R, 0, none⟩ = some (.string n5) := (R7.out.below hb8 R7.out.lt).cell 0
        have r1 : w8.cell? ⟨R, 1, none⟩ = some (.slice a5 l5 c5) := (R7.out.below hb8 R7.out.lt).cell 1
        have k0 : w8.cell? ⟨K, 0, none⟩ = some (.string n5) := (K7.out.below hb8 K7.out.lt).cell 0
        have k1 : w8.cell? ⟨K, 1, none⟩ = some (.slice a6 l5 c6) := (K7.out.below hb8 K7.out.lt).cell 1
        have HT8 := hide (HT7.out.later hb8)
        have HX8 := hide (HX7.out.later hb8)
        clear hb8
        rw [HE.out]
        go_wp2_with fail
        refine (term2_ok (onT ls t) _ _ w8 _ _ HX8.out HT8.out).mono ?_
        rintro e w9 ⟨rfl, hb9⟩
        have HB9 := hide (HB8.out.trans (hb9.mono HB8.out.size))
        clear hb9
        go_wp2_with fail
        go_ret
        exact ⟨rfl, HB9.out⟩
      · rw [fT_onT HE.out t HM.out] at h0; omega
#print axioms substSays_any
end Go.Proofs.Ytpjdkdebjkpmmab

/- Small facts on terms and bindings: plain. -/
namespace Go.Proofs.Ytpjdkdebjkpmmab
open Go.RowKit
set_option linter.unusedSimpArgs false
set_option linter.unusedVariables false

theorem errL_name {s : ByteArray} {a r : List Tm} (h : errL (⟨s, a⟩ :: r) = 0) : nameB s = true := by
  rw [errL] at h
  split at h
  · assumption
  · cases h
theorem forT_of {l : List Bd} (ha : ApartB l) {d : Bd} (hd : d ∈ l) : forT l d.nm = some d.t := by
  induction l with
  | nil => cases hd
  | cons a r ih =>
    obtain ⟨h1, h2⟩ := List.pairwise_cons.1 ha
    rcases List.mem_cons.1 hd with rfl | hd
    · simp [forT]
    · rw [forT, if_neg (h1 d hd)]
      exact ih h2 hd
theorem forT_append (a b : List Bd) (n : ByteArray) : forT (a ++ b) n = (forT a n).or (forT b n) := by
  induction a with
  | nil => simp [forT]
  | cons d r ih =>
    rw [List.cons_append, forT, forT]
    split
    · rfl
    · exact ih
theorem onT_leaf (l : List Bd) (n : ByteArray) : onT l ⟨n, []⟩ = (forT l n).getD ⟨n, []⟩ := by
  cases h : forT l n with
  | none => rw [onT_deep (Or.inr h)]; simp [onL]
  | some t => rw [onT_some h]; rfl
theorem forT_some_of {ls : List Bd} {d : Bd} (h : d ∈ ls) : ∃ t, forT ls d.nm = some t := by
  induction ls with
  | nil => cases h
  | cons a r ih =>
    rw [forT]
    split
    · exact ⟨_, rfl⟩
    · rename_i hne
      rcases List.mem_cons.1 h with rfl | h
      · exact absurd rfl hne
      · exact ih h

theorem varsP_sub : ∀ (ks : List Tm) (acc : List ByteArray) (n : ByteArray), n ∈ varsP acc ks → n ∈ acc ∨ ∃ k ∈ ks, k.name = n ∧ varB n = true
  | [], acc, n, h => Or.inl (by simpa [varsP] using h)
  | k :: r, acc, n, h => by
    have e : varsP acc (k :: r) = varsP (addV acc k.name) r := rfl
    rw [e] at h
    rcases varsP_sub r _ n h with h1 | ⟨k', h1, h2⟩
    · cases hv : varB k.name with
      | false => rw [addV_no hv] at h1; exact Or.inl h1
      | true =>
        cases hi : inB k.name acc with
        | true => rw [addV_in hv hi] at h1; exact Or.inl h1
        | false =>
          rw [addV_yes hv hi] at h1
          rcases List.mem_append.1 h1 with h1 | h1
          · exact Or.inl h1
          · have e2 : n = k.name := by simpa using h1
            exact Or.inr ⟨k, by simp, e2.symm, by rw [e2]; exact hv⟩
    · exact Or.inr ⟨k', by simp [h1], h2⟩
theorem varsP_has : ∀ (ks : List Tm) (acc : List ByteArray), (∀ n ∈ acc, n ∈ varsP acc ks) ∧ ∀ k ∈ ks, varB k.name = true → k.name ∈ varsP acc ks
  | [], acc => ⟨fun n h => by simpa [varsP] using h, fun k h => by cases h⟩
  | k :: r, acc => by
    have e : varsP acc (k :: r) = varsP (addV acc k.name) r := rfl
    rw [e]
    obtain ⟨h1, h2⟩ := varsP_has r (addV acc k.name)
    have hsub : ∀ n ∈ acc, n ∈ addV acc k.name := fun n hn => by
      cases hv : varB k.name with
      | false => rw [addV_no hv]; exact hn
      | true =>
        cases hi : inB k.name acc with
        | true => rw [addV_in hv hi]; exact hn
        | false => rw [addV_yes hv hi]; simp [hn]
    refine ⟨fun n hn => h1 n (hsub n hn), fun k' hk' hv' => ?_⟩
    rcases List.mem_cons.1 hk' with rfl | hk'
    · refine h1 _ ?_
      cases hi : inB k'.name acc with
      | true =>
        rw [addV_in hv' hi]
        unfold inB at hi
        obtain ⟨y, hy, e2⟩ := List.any_eq_true.1 hi
        have e3 : y = k'.name := bytes_inj (by simpa using e2)
        rw [← e3]; exact hy
      | false => rw [addV_yes hv' hi]; simp
    · exact h2 k' hk' hv'
end Go.Proofs.Ytpjdkdebjkpmmab

/- Walks: what stands for itself is struck out of a map. -/
namespace Go.Proofs.Ytpjdkdebjkpmmab
open Go.RowKit
set_option linter.unusedSimpArgs false
set_option linter.unusedVariables false
set_option maxRecDepth 8000

/-- A binding of which something is seen. -/
def keepB (d : Bd) : Bool := !(d.t.name.toList == d.nm.toList)

theorem standsForItself_any (n : ByteArray) (t : Tm) (a : Option Addr) (c : Nat) (w : World) :
    Calls Try.prog 71 #[.string n, .agg #[.string t.name, .slice a t.args.length c]] w fun e w' => e = .returned (.bool (t.name.toList == n.toList)) ∧ Below w.heap.size w w' := by
  go_enter Try.func71, Try.ntmps71
  go_wp2_with fail
  go_ret
  exact ⟨rfl, (Below.refl _ _).alloc (Nat.le_refl _) _⟩

theorem mapGet_toP {Z : List Bc} (ha : ApartB (Z.map (·.1))) : ∀ x ∈ Z, mapGet (Z.map toP) x.1.nm = some (toP x).2 := by
  induction Z with
  | nil => intro x hx; cases hx
  | cons y r ih =>
    intro x hx
    simp only [List.map_cons] at ha ⊢
    obtain ⟨h1, h2⟩ := List.pairwise_cons.1 ha
    rcases List.mem_cons.1 hx with rfl | hx
    · simp [mapGet, toP]
    · have hne : y.1.nm ≠ x.1.nm := h1 x.1 (List.mem_map.2 ⟨x, hx, rfl⟩)
      rw [mapGet, if_neg (by simpa [toP] using hne)]
      exact ih h2 x hx
theorem delP_toP {Z : List Bc} (ha : ApartB (Z.map (·.1))) : ∀ x ∈ Z, ∃ Z' : List Bc, delP (Z.map toP) x.1.nm = Z'.map toP ∧ Z.Perm (x :: Z') := by
  induction Z with
  | nil => intro x hx; cases hx
  | cons y r ih =>
    intro x hx
    simp only [List.map_cons] at ha ⊢
    obtain ⟨h1, h2⟩ := List.pairwise_cons.1 ha
    rcases List.mem_cons.1 hx with rfl | hx
    · exact ⟨r, by simp [delP, toP], List.Perm.refl _⟩
    · have hne : y.1.nm ≠ x.1.nm := h1 x.1 (List.mem_map.2 ⟨x, hx, rfl⟩)
      obtain ⟨Z', h3, h4⟩ := ih h2 x hx
      refine ⟨y :: Z', ?_, (h4.cons y).trans (List.Perm.swap x y Z')⟩
      rw [delP, if_neg (by simpa [toP] using hne), h3]; rfl

def DfInv (w : World) (Z : List Bc) (b : Nat) (wr : World) : Prop :=
  ∃ Zc Zr K : List Bc, RangeAt wr b w.heap.size (Zc.map toP) (Zr.map toP) ∧ Zc.Perm (K ++ Zr) ∧ (K ++ Zr.filter (fun x => keepB x.1)).Perm (Z.filter fun x => keepB x.1) ∧ ApartB (Zc.map (·.1)) ∧ w.grownBy wr (some b)

set_option maxHeartbeats 1000000 in
theorem deleteFunc_any (Z : List Bc) (b : Nat) (w : World) (hM : MapAt w b (Z.map toP)) (hap : ApartB (Z.map (·.1))) :
    Calls Try.prog 70 #[.map (some b), .func (.func 71) #[] #[]] w fun e w' => e = .returned (.tuple #[]) ∧ ∃ Z' : List Bc, MapAt w' b (Z'.map toP) ∧ Z'.Perm (Z.filter fun x => keepB x.1) ∧ w.grownBy w' (some b) := by
  have hbl := hM.lt
  obtain ⟨o, hrange, hR0⟩ := hM.range (P := Try.prog) Try.underlying73
  have HR0 := hide hR0
  have HAP := hide hap
  clear hR0 hap hM
  go_enter Try.func70, Try.ntmps70
  go_wp2_with fail
  go_loopw [8] (fun _ wr => DfInv w Z b wr) (fun _ wr => leftAt wr b w.heap.size)
  case atStart =>
    exact ⟨Z, Z, [], HR0.out, List.Perm.refl _, List.Perm.refl _, HAP.out, World.grownBy_alloc w _ _⟩
  case round =>
    obtain ⟨Zc, Zr, K, hR, hP, hK, hA, hg⟩ := hrel
    have HR := hide hR
    have HP := hide hP
    have HK := hide hK
    have HA := hide hA
    have HG := hide hg
    clear hP hK hA
    rcases hR.next (P := Try.prog) 0 with ⟨he, hnx⟩ | ⟨p, rem', w1, hpm, hnx, hR1, hz1, ho1, ht1, hu1, hk1, hen⟩
    · have hZr : Zr = [] := by simpa using he
      subst hZr
      clear hR hg he
      go_wp2_with fail
      go_end0
      exact ⟨rfl, Zc, HR.out.map, HP.out.trans (by simpa using HK.out), HG.out⟩
    · obtain ⟨x, Z', hpx, rfl, rfl⟩ := next_lift hpm
      simp only [toP] at hnx hen
      have hxZ : x ∈ Zc := HP.out.symm.subset (by simp [hpx.symm.subset (List.mem_cons_self (a := x))])
      have HG1 : Hid (w.grownBy w1 (some b)) := ⟨ho1.trans hg.os, ht1.trans hg.tape, hu1.trans hg.output, by rw [hz1]; exact hg.size, fun j hj hne => (hk1 j (by omega)).trans (hg.block j hj hne)⟩
      have HR1 := hide hR1
      have hr1 := hR1.lt
      have HMS : Hid (Z'.length < Zr.length) := by have := hpx.length_eq; simp at this; unfold Hid; omega
      have HPX := hide hpx
      have HXZ := hide hxZ
      have hb1 : b < w1.heap.size := hR1.map.lt
      clear hR hg hz1 ho1 ht1 hu1 hk1 hR1 hpm hpx hxZ
      have HG2 := hide (HG1.out.andThen (World.grownBy_alloc w1 (.cells #[.string x.1.t.name, .slice x.2.1 x.1.t.args.length x.2.2] 29) none) (by simp))
      have HR2 := hide (HR1.out.below ((Below.refl _ _).alloc (Nat.le_refl _) (.cells #[.string x.1.t.name, .slice x.2.1 x.1.t.args.length x.2.2] 29)) hb1 hr1)
      go_wp2_with fail
      clear hnx hen hb1 hr1
      generalize w1.alloc (.cells #[.string x.1.t.name, .slice x.2.1 x.1.t.args.length x.2.2] 29) = w2 at *
      refine (standsForItself_any x.1.nm x.1.t x.2.1 x.2.2 w2).mono ?_
      rintro e w3 ⟨rfl, hb3⟩
      have HG3 := hide (HG2.out.andThen (World.grownBy.but ⟨hb3.os, hb3.tape, hb3.output, hb3.size, fun j hj _ => hb3.block j hj⟩ none) (by simp))
      have HR3 := hide (HR2.out.below hb3 HR2.out.map.lt HR2.out.lt)
      clear hb3
      cases hkp : (x.1.t.name.toList == x.1.nm.toList) with
      | false =>
        have HKK : Hid ((K ++ [x] ++ Z'.filter (fun x => keepB x.1)).Perm (Z.filter fun x => keepB x.1)) := by
          have h1 := (HPX.out.filter (fun x => keepB x.1))
          rw [List.filter_cons_of_pos (by simp [keepB, hkp])] at h1
          have h2 := (h1.append_left K).symm.trans HK.out
          unfold Hid
          simpa using h2
        have HPP : Hid (Zc.Perm (K ++ [x] ++ Z')) := by
          have h2 := HP.out.trans (HPX.out.append_left K)
          unfold Hid
          simpa using h2
        clear hkp
        go_wp2_with fail
        go_roundw
        case rel => exact ⟨Zc, Z', K ++ [x], HR3.out, HPP.out, HKK.out, HA.out, HG3.out⟩
        case measure =>
          rw [HR3.out.left, HR.out.left]
          have := HMS.out
          simpa using this
      | true =>
        obtain ⟨Zc', hd1, hd2⟩ := delP_toP HA.out x HXZ.out
        have hAx : ApartB ((x :: Zc').map (·.1)) := HA.out.perm (hd2.map _).symm
        have hZ'c : Zc'.Perm (K ++ Z') := by
          have h2 := hd2.symm.trans (HP.out.trans (HPX.out.append_left K))
          exact (h2.trans List.perm_middle).cons_inv
        have hne : ∀ p ∈ Z'.map toP, p.1 ≠ x.1.nm := fun p hp => by
          obtain ⟨y, hy, rfl⟩ := List.mem_map.1 hp
          have h3 : y ∈ Zc' := hZ'c.symm.subset (by simp [hy])
          simp only [List.map_cons] at hAx
          exact fun e => (List.pairwise_cons.1 hAx).1 y.1 (List.mem_map.2 ⟨y, h3, rfl⟩) e.symm
        obtain ⟨w4, hdel, hR4, hz4, ho4, ht4, hu4, hk4⟩ := HR3.out.drop (P := Try.prog) (ty := 0) Try.underlying73 Try.underlying9 x.1.nm hne _ (mapGet_toP HA.out x HXZ.out)
        rw [hd1] at hR4
        have HR4 := hide hR4
        have HG4 : Hid (w.grownBy w4 (some b)) := ⟨ho4.trans HG3.out.os, ht4.trans HG3.out.tape, hu4.trans HG3.out.output, by rw [hz4]; exact HG3.out.size, fun j hj hne => (hk4 j (fun e => hne (by rw [e]))).trans (HG3.out.block j hj hne)⟩
        have HKK : Hid ((K ++ Z'.filter (fun x => keepB x.1)).Perm (Z.filter fun x => keepB x.1)) := by
          have h1 := (HPX.out.filter (fun x => keepB x.1))
          rw [List.filter_cons_of_neg (by simp [keepB, hkp])] at h1
          exact (h1.append_left K).symm.trans HK.out
        have HPP := hide hZ'c
        have HAA : Hid (ApartB (Zc'.map (·.1))) := by
          simp only [List.map_cons] at hAx
          exact (List.pairwise_cons.1 hAx).2
        clear hkp hd1 hd2 hAx hZ'c hne hR4 hz4 ho4 ht4 hu4 hk4
        go_wp2_with fail
        go_roundw
        case rel => exact ⟨Zc', Z', K, HR4.out, HPP.out, HKK.out, HAA.out, HG4.out⟩
        case measure =>
          rw [HR4.out.left, HR.out.left]
          have := HMS.out
          simpa using this
#print axioms deleteFunc_any
end Go.Proofs.Ytpjdkdebjkpmmab

/- A row of bindings as the library's sort takes it, and as it leaves it. -/
namespace Go.Proofs.Ytpjdkdebjkpmmab
open Go.RowKit Go.Sort Go.Proofs
set_option linter.unusedSimpArgs false
set_option linter.unusedVariables false

theorem flatK_flat3 (cs : List Bc) : (flatK enc3 3 cs.toArray).toList = flat3 cs := by
  apply List.ext_getElem?
  intro t
  by_cases ht : t < cs.length * 3
  · have h1 : (flatK enc3 3 cs.toArray).toList[t]? = some ((flatK enc3 3 cs.toArray)[t]!) := by
      rw [Array.getElem?_toList, getElem!_pos _ t (by simpa using ht), Array.getElem?_eq_getElem (by simpa using ht)]
    have hi : t / 3 < cs.length := by omega
    rw [h1, get_flatK _ _ _ _ (by simpa using ht)]
    have h2 := flat3_get cs (t / 3) hi (t % 3) (by omega)
    rw [show t / 3 * 3 + t % 3 = t by omega] at h2
    rw [h2, getElem!_pos _ (t / 3) (by simpa using hi)]
    have hm : t % 3 < (enc3 cs.toArray[t / 3]).length := by simp [enc3]; omega
    rw [getElem!_pos _ (t % 3) hm]
    simp
  · rw [List.getElem?_eq_none (by simp; omega), List.getElem?_eq_none (by rw [flat3_length]; omega)]

theorem holdsK_row {w : World} {g : Nat} {cur : Array Value} {e : TypeId} {cs : List Bc} (hb : w.heap[g]? = some (.cells cur e (0, 0))) (ht : cur.toList.take (cs.length * 3) = flat3 cs) : HoldsK enc3 3 w g 0 cs.toArray := by
  intro j hj
  have hj' : j < cs.length * 3 := by simpa using hj
  refine ⟨?_, by simp [World.frozen?, hb]⟩
  have h1 : (cur.toList.take (cs.length * 3))[j]? = (flatK enc3 3 cs.toArray).toList[j]? := by rw [ht, flatK_flat3]
  rw [List.getElem?_take_of_lt hj'] at h1
  simp only [World.cell?, hb, Nat.zero_add]
  simp only [Option.isSome_none, Bool.false_eq_true, if_false]
  rw [← Array.getElem?_toList, h1, Array.getElem?_toList, Array.getElem?_eq_getElem hj, getElem!_pos _ j hj]
  rfl

theorem heap_sortK {w : World} {g n : Nat} {os : Array Obj} {cur : Array Value} {e : TypeId} {fr : Nat × Nat} (F : Array Value) (hb : w.heap[g]? = some (.cells cur e fr)) :
    (grow (putRow id (Sort.ahead w n) g 0 F) os).heap[g]? = some (.cells (putCells id 0 F cur) e fr) := by
  have hg : g < w.heap.size := (Array.getElem?_eq_some_iff.1 hb).1
  rw [heap_grow_old _ _ (by simpa using hg)]
  simp [putRow, mapBlock, Sort.ahead, Array.getElem?_modify, hb, onCells]
theorem grownBy_sortK {w : World} {g n : Nat} {os : Array Obj} (F : Array Value) : w.grownBy (grow (putRow id (Sort.ahead w n) g 0 F) os) (some g) := by
  refine ⟨rfl, rfl, rfl, by simp, fun k hk hne => ?_⟩
  rw [heap_grow_old _ _ (by simpa using hk)]
  have : g ≠ k := fun e => hne (by rw [e])
  simp [putRow, mapBlock, Sort.ahead, Array.getElem?_modify, this]
theorem take_putK (cur F : Array Value) (h : F.size ≤ cur.size) : (putCells id 0 F cur).toList.take F.size = F.toList := by
  apply List.ext_getElem?
  intro j
  by_cases hj : j < F.size
  · rw [List.getElem?_take_of_lt hj, Array.getElem?_toList]
    simp [putCells, hj, show j < cur.size by omega]
  · rw [List.getElem?_take_eq_none (by omega), List.getElem?_eq_none (by simp; omega)]

/-- Behind the sort. -/
theorem BRow.sorted {w : World} {N : Nat} {Y : Nat → Prop} {cs : List Bc} {g cap n : Nat} {os : Array Obj} {d : Array Bc} (h : BRow w N Y (.slice (some ⟨g, 0, none⟩) cs.length cap) cs) (hY : ∀ b, Y b → b < N) (hp : d.toList.Perm cs) :
    BRow (sortWorldK enc3 3 w g 0 n d os) N Y (.slice (some ⟨g, 0, none⟩) cs.length cap) d.toList ∧ w.grownBy (sortWorldK enc3 3 w g 0 n d os) (some g) := by
  have hg : w.grownBy (sortWorldK enc3 3 w g 0 n d os) (some g) := grownBy_sortK _
  have hl : d.toList.length = cs.length := hp.length_eq
  refine ⟨⟨?_, fun x hx => ?_⟩, hg⟩
  · rcases h.own.2 with ⟨e, _⟩ | ⟨g', cap', cur, e, hbase, hb, h1, h2, h3, h4⟩
    · cases e
    · simp at e
      obtain ⟨rfl, rfl⟩ := e
      refine ⟨flat3_length _, Or.inr ⟨g, cap, putCells id 0 (flatK enc3 3 d) cur, by rw [hl], hbase, heap_sortK _ hb, by omega, h2, by simp [putCells, h3], ?_⟩⟩
      have e2 := take_putK cur (flatK enc3 3 d) (by have : d.size = cs.length := by simpa using hl
                                                    simp [h3]; omega)
      have e3 := flatK_flat3 d.toList
      rw [Array.toArray_toList] at e3
      rw [e3] at e2
      simpa using e2
  · have hx' : x ∈ cs := hp.subset hx
    have h1 := (h.row x hx').mono (Y := fun b => (Y b ∨ (N ≤ b ∧ some b ≠ (Value.slice (some ⟨g, 0, none⟩) cs.length cap).ownBlock)) ∧ b < w.heap.size) fun b h1 h2 => ⟨h1, h2⟩
    refine (h1.kept fun b hb => hg.block b hb.2 ?_).mono fun b hb _ => hb.1
    rcases hb.1 with h2 | h2
    · exact h.ne (hY b h2)
    · exact h2.2
#print axioms BRow.sorted
end Go.Proofs.Ytpjdkdebjkpmmab

/- The library's sort at bindings. -/
namespace Go.Proofs.Ytpjdkdebjkpmmab
open Go.RowKit Go.Sort Go.Proofs
set_option linter.unusedSimpArgs false
set_option linter.unusedVariables false
set_option maxRecDepth 8000

set_option maxHeartbeats 2000000 in
theorem insertionNone_any (p : Option Addr) (cap : Nat) (fv : Value) (w : World) :
    Calls Try.prog 111 #[.slice p 0 cap, .int .i64 0, .int .i64 0, fv] w fun e w' => e = .returned (.tuple #[]) ∧ w' = w := by
  go_enter Try.func111, Try.ntmps111
  go_wp2_with fail
  refine wp_loop_rounds 1 ?_
  rw [rounds_succ]
  go_wp2_with fail
  go_end0
  exact ⟨rfl, rfl⟩
set_option maxHeartbeats 2000000 in
theorem pdqNone_any (p : Option Addr) (cap : Nat) (lim : Int) (fv : Value) (w : World) :
    Calls Try.prog 95 #[.slice p 0 cap, .int .i64 0, .int .i64 0, .int .i64 lim, fv] w fun e w' => e = .returned (.tuple #[]) ∧ w' = w := by
  go_enter Try.func95, Try.ntmps95
  go_wp2_with fail
  refine wp_loop_rounds 1 ?_
  rw [rounds_succ]
  go_wp2_with (go_at_call 111; refine (insertionNone_any _ _ _ _).mono ?_; rintro e w' ⟨rfl, rfl⟩)
  (try simp only [Exit.inBlock, Exit.then]); refine bodyPost_ret (results_none rfl _ _ _) rfl ?_
  exact ⟨rfl, rfl⟩
set_option maxHeartbeats 2000000 in
theorem sortNone_any (p : Option Addr) (cap : Nat) (fv : Value) (w : World) :
    Calls Try.prog 76 #[.slice p 0 cap, fv] w fun e w' => e = .returned (.tuple #[]) ∧ w' = w := by
  have hl : ∀ W, Calls Try.prog 96 #[.int .u64 0] W fun e w' => e = .returned (.int .i64 (Lib.bitLen 0 : Nat)) ∧ w' = W := fun W => by
    have h := Any.bits_Len (SlLaysF0.n15.bits (P := Try.prog) (ρ := Try.sortBind_ren) { Try.sortBind with }) 0 W (by omega) (by omega)
    exact h
  go_enter Try.func76, Try.ntmps76
  go_wp2_with (first | (go_at_call 96; refine (hl _).mono ?_; rintro e w' ⟨rfl, rfl⟩) | (go_at_call 95; refine (pdqNone_any _ _ _ _ _).mono ?_; rintro e w' ⟨rfl, rfl⟩))
  go_end0
  exact ⟨rfl, rfl⟩

theorem ltOf_cmpN (x y : Bc) : ltOf (fun x y : Bc => cmpN x.1.nm y.1.nm) x y = ltB x.1.nm y.1.nm := by
  unfold ltOf cmpN
  cases h : ltB x.1.nm y.1.nm with
  | true => simp [h]
  | false => cases h2 : ltB y.1.nm x.1.nm <;> simp [h, h2]
theorem swo_cmpN : SWO (ltOf fun x y : Bc => cmpN x.1.nm y.1.nm) where
  irrefl x := by rw [ltOf_cmpN]; exact ltB_irrefl _
  trans x y z h1 h2 := by rw [ltOf_cmpN] at *; exact ltB_trans h1 h2
  ntrans x y z h1 h2 := by rw [ltOf_cmpN] at *; exact ltB_ntrans h1 h2

set_option maxHeartbeats 1000000 in
theorem sortBinds : SortBinds := by
  intro cs v w N Y h hY hn
  by_cases h0 : 0 < cs.length
  · obtain ⟨g, cap, rfl, hN, hlt⟩ := h.own.form h0
    have hH : HoldsK enc3 3 w g 0 cs.toArray := by
      rcases h.own.2 with ⟨e, _⟩ | ⟨g', cap', cur, e, _, hb, _, _, _, h4⟩
      · cases e
      · simp at e
        obtain ⟨rfl, rfl⟩ := e
        exact holdsK_row hb h4
    have eg : ∀ args w, (callFunc 77 args).run Try.prog w = .ok (.enter 77 args) w := enters_of Try.func77 (by kernel_rfl) rfl
    have hcon := AnyQ.slices_SortFunc Try.sortBind 3 Try.isAgg55 Try.sizeOf55 enc3 (fun _ => rfl) (fun x v hv => by simp [enc3] at hv; rcases hv with rfl | rfl | rfl <;> rfl) (fun x y => cmpN x.1.nm y.1.nm) swo_cmpN 77 #[] g 0 cap cs.toArray w eg (fun _ _ _ _ x y => inOrder1_any x y _) hH hlt (by simpa using hn)
    change Calls Try.prog 76 _ _ _ at hcon
    have hsz : cs.toArray.size = cs.length := by simp
    rw [hsz] at hcon
    refine hcon.mono ?_
    rintro e w' ⟨rfl, d', n, os, hp, hs, rfl⟩
    obtain ⟨hp1, _, hp3⟩ := hp
    have hd : d'.size = cs.length := by simpa using hp1
    have hp4 : d'.toList.Perm cs := by
      have e1 : d'.extract 0 cs.length = d' := by rw [← hd]; simp
      have e2 : cs.toArray.extract 0 cs.length = cs.toArray := by rw [← hsz]; exact Array.extract_size
      rw [e1, e2] at hp3
      simpa using hp3
    obtain ⟨r1, r2⟩ := h.sorted (n := n) (os := os) hY hp4
    refine ⟨rfl, d'.toList, hp4, ?_, r1, r2⟩
    rw [List.pairwise_iff_getElem]
    intro i j hi hj hij
    have := hs i j (Nat.zero_le _) hij (by simpa [hd] using hj)
    rw [ltOf_cmpN, getElem!_pos _ j (by simpa using hj), getElem!_pos _ i (by simpa using hi)] at this
    simpa using this
  · have e : cs = [] := List.length_eq_zero_iff.1 (by omega)
    subst e
    obtain ⟨p, cap, rfl⟩ : ∃ p cap, v = .slice p 0 cap := by
      rcases h.own.2 with ⟨e, _⟩ | ⟨g', cap', cur, e, _⟩
      · exact ⟨none, 0, e⟩
      · exact ⟨_, _, e⟩
    refine (sortNone_any p cap _ w).mono ?_
    rintro e w' ⟨rfl, rfl⟩
    exact ⟨rfl, [], List.Perm.refl _, List.Pairwise.nil, h, ⟨rfl, rfl, rfl, Nat.le_refl _, fun _ _ _ => rfl⟩⟩
#print axioms sortBinds
end Go.Proofs.Ytpjdkdebjkpmmab

/- Walks: Then. -/
namespace Go.Proofs.Ytpjdkdebjkpmmab
open Go.RowKit
set_option linter.unusedSimpArgs false
set_option linter.unusedVariables false
set_option maxRecDepth 8000

theorem pairsL_Z {w : World} {X : Nat → Prop} : ∀ {ls : List Bd} {L : List (ByteArray × Value)}, PairsL w X ls L → ∃ Z : List Bc, L = Z.map toP ∧ Z.map (·.1) = ls ∧ ∀ x ∈ Z, Sl w X x.2.1 x.1.t.args
  | [], L, h => by
    have e : L = [] := h
    subst e
    exact ⟨[], rfl, rfl, by simp⟩
  | d :: r, L, h => by
    obtain ⟨a, c, L', rfl, h1, h2⟩ := h
    obtain ⟨Z, rfl, e, h3⟩ := pairsL_Z h2
    refine ⟨(d, a, c) :: Z, rfl, by simp [e], fun x hx => ?_⟩
    rcases List.mem_cons.1 hx with rfl | hx
    · exact h1
    · exact h3 x hx

/-- A binding with another list of them in its term. -/
def fB (rs : List Bd) (d : Bd) : Bd := ⟨d.nm, fT rs d.t⟩
/-- Is one of the terms too great? -/
def fullB (ls rs : List Bd) : Bool := ls.any fun d => decide (2000 < sizeL [fT rs d.t])
theorem fullB_yes {ls rs : List Bd} {k : Nat} (h : k < ls.length) (h0 : 2000 < sizeL [fT rs ls[k].t]) : fullB ls rs = true := by
  unfold fullB
  rw [List.any_eq_true]
  exact ⟨ls[k], List.getElem_mem h, by simpa using h0⟩
theorem fullB_no {ls rs : List Bd} (h : ∀ d ∈ ls, sizeL [fT rs d.t] ≤ 2000) : fullB ls rs = false := by
  unfold fullB
  rw [List.any_eq_false]
  intro d hd
  have := h d hd
  simp; omega
/-- Both, before what stands for itself is struck. -/
def bothB (ls rs : List Bd) : List Bd := ls.map (fB rs) ++ rs.filter fun d => (forT ls d.nm).isNone
def ThPost (w : World) (ls rs : List Bd) (e : Ending) (w' : World) : Prop :=
  Below w.heap.size w w' ∧ ((bindsE ls ≠ 0 ∧ e = .returned (.tuple #[.slice none 0 0, .int .i64 (bindsE ls)])) ∨ (bindsE ls = 0 ∧ bindsE rs ≠ 0 ∧ e = .returned (.tuple #[.slice none 0 0, .int .i64 (bindsE rs)])) ∨
    (bindsE ls = 0 ∧ bindsE rs = 0 ∧ fullB ls rs = true ∧ e = .returned (.tuple #[.slice none 0 0, .int .i64 8])) ∨
    (bindsE ls = 0 ∧ bindsE rs = 0 ∧ fullB ls rs = false ∧ ∃ v ls', e = .returned (.tuple #[v, .int .i64 0]) ∧ BV w' (fun b => w.heap.size ≤ b) v ls' ∧ ls'.Perm ((bothB ls rs).filter keepB) ∧ SortedB ls'))

theorem bindsE_sorted {ls : List Bd} (h : bindsE ls = 0) : SortedB ls := by
  unfold SortedB
  rw [List.pairwise_iff_getElem]
  intro i j hi hj hij
  obtain ⟨e, rfl⟩ : ∃ e, j = i + 1 + e := ⟨j - (i + 1), by omega⟩
  have h1 := bindsE_far h i e hj
  unfold leB at h1
  simp only [Bool.or_eq_false_iff] at h1
  cases h2 : ltB ls[i].nm ls[i + 1 + e].nm with
  | true => rfl
  | false =>
    have e2 := ltB_conn h2 h1.1
    rw [e2] at h1
    simp at h1
theorem mapGet_no {Z : List Bc} {n : ByteArray} (h : ∀ x ∈ Z, x.1.nm ≠ n) : mapGet (Z.map toP) n = none := by
  induction Z with
  | nil => rfl
  | cons y r ih =>
    rw [List.map_cons, mapGet, if_neg (by simpa [toP] using h y (by simp))]
    exact ih fun x hx => h x (by simp [hx])
/-- What the region of the first loop leaves. -/
def ThB (w4 : World) (P : Nat) (s : ByteArray) (a : Option Addr) (n c : Nat) (l0 : List Tm) (w9 : World) : Prop := Blk w9 P #[.string s, .slice a n c] 29 ∧ Below w4.heap.size w4 w9 ∧ Sl w9 (fun b => w4.heap.size ≤ b) a l0
theorem thB_set {w4 w8 : World} {P Q n c : Nat} {s : ByteArray} {a : Option Addr} {l0 : List Tm} (hP : Blk w8 P #[.string ⟨#[]⟩, .slice none 0 0] 29) (hw : w4.heap.size ≤ P) (hb : Below w4.heap.size w4 w8) (hs : Sl w8 (fun b => Q ≤ b) a l0) (hQ : P < Q) :
    ThB w4 P s a n c l0 ((w8.setCell ⟨P, 0, none⟩ (.string s)).setCell ⟨P, 1, none⟩ (.slice a n c)) :=
  ⟨(hP.set 0 _).set 1 _, (hb.setCell (by simpa using hw) _).setCell (by simpa using hw) _, (hs.kept fun b hb => by
    rw [Below.heap_setCell _ _ _ _ (by simp; omega), Below.heap_setCell _ _ _ _ (by simp; omega)]).mono fun b hb _ => by omega⟩
/-- What is known in the first loop. -/
def T1Inv (w3 : World) (ls rs : List Bd) (v : Value) (wr : World) : Prop :=
  ∃ (k : Nat) (Z : List Bc), v = .int .i64 (k : Int) ∧ k ≤ ls.length ∧ MapAt wr w3.heap.size (Z.map toP) ∧ Z.map (·.1) = (ls.take k).map (fB rs) ∧ (∀ x ∈ Z, Sl wr (fun b => w3.heap.size < b) x.2.1 x.1.t.args) ∧ (∀ d ∈ ls.take k, sizeL [fT rs d.t] ≤ 2000) ∧ Below w3.heap.size w3 wr

/-- What is known in the second loop. -/
def T2Inv (w3 w5 : World) (q I : Nat) (ls : List Bd) (Z Zq : List Bc) (wr : World) : Prop :=
  ∃ Zr K Zb : List Bc, RangeAt wr q I (Zq.map toP) (Zr.map toP) ∧ Zq.Perm (K ++ Zr) ∧ MapAt wr w3.heap.size (Zb.map toP) ∧ Zb.Perm (Z ++ K.filter fun x => (forT ls x.1.nm).isNone) ∧ ApartB (Zb.map (·.1)) ∧ Below w3.heap.size w3 wr ∧ (∀ b, b < I → b ≠ w3.heap.size → wr.heap[b]? = w5.heap[b]?)
theorem bindsE_len {ls : List Bd} (h : bindsE ls = 0) : ls.length ≤ 40 := by
  unfold bindsE at h
  split at h
  · cases h
  · omega
set_option maxHeartbeats 2000000 in
theorem then_of (HSORT : Hid SortBinds) (ls rs : List Bd) (u v : Value) (w : World) (X : Nat → Prop) (hu : BV w X u ls) (hv : BV w X v rs) :
    Calls Try.prog 41 #[u, v] w fun e w' => ThPost w ls rs e w' := by
  have HU := hide (hu.mono (Y := fun b => X b ∧ b < w.heap.size) fun b h1 h2 => ⟨h1, h2⟩)
  have HV := hide (hv.mono (Y := fun b => X b ∧ b < w.heap.size) fun b h1 h2 => ⟨h1, h2⟩)
  obtain ⟨au, cu, rfl, hlu, hu2⟩ := hu
  clear hv hu2
  have hmm := @run_makeMap Try.prog
  go_enter Try.func41, Try.ntmps41
  go_wp2_with fail
  refine (scheck_any ls _ w _ HU.out).mono ?_
  rintro e w1 ⟨rfl, hb1⟩
  have HB1 := hide hb1
  clear hb1
  by_cases hbe : bindsE ls = 0
  case neg =>
    have hbe' : (bindsE ls == 0) = false := by simpa using hbe
    have HBE := hide hbe
    clear hbe
    go_wp2_with fail
    refine bodyPost_ret (v := .tuple #[.slice none 0 0, .int .i64 (bindsE ls)]) (by simp [results, Try.results41, go_sem]) rfl ?_
    exact ⟨HB1.out, Or.inl ⟨HBE.out, rfl⟩⟩
  have HBE := hide hbe
  rw [hbe]
  clear hbe
  go_wp2_with fail
  refine (scheck_any rs _ w1 _ (HV.out.later HB1.out)).mono ?_
  rintro e w2 ⟨rfl, hb2⟩
  have HB2 := hide (HB1.out.trans (hb2.mono HB1.out.size))
  clear hb2
  by_cases hbr : bindsE rs = 0
  case neg =>
    have hbe' : (bindsE rs == 0) = false := by simpa using hbr
    have HBR := hide hbr
    clear hbr
    go_wp2_with fail
    refine bodyPost_ret (v := .tuple #[.slice none 0 0, .int .i64 (bindsE rs)]) (by simp [results, Try.results41, go_sem]) rfl ?_
    exact ⟨HB2.out, Or.inr (Or.inl ⟨HBE.out, HBR.out, rfl⟩)⟩
  have HBR := hide hbr
  rw [hbr]
  clear hbr
  go_wp2_with fail
  refine (byName_any rs (bindsE_once HBR.out) _ w2 _ (HV.out.later HB2.out)).mono ?_
  rintro e w3 ⟨L, rfl, hM3, hP3, hb3⟩
  have hq3 := hM3.lt
  have HM3 := hide hM3
  have HP3 : Hid (PairsL w3 (fun b => X b ∧ b < w.heap.size) rs L) := hP3.imp fun a l hs => hs.mono fun b h _ => h.1
  have HB3 := hide (HB2.out.trans (hb3.mono HB2.out.size))
  have hq : w.heap.size ≤ w2.heap.size := HB2.out.size
  clear hM3 hP3 hb3
  generalize w2.heap.size = q at *
  go_wp2_with fail
  go_loopw [33] (fun v wr => T1Inv w3 ls rs v wr) (fun v wr => ls.length - (intOf v).toNat)
  case atStart =>
    exact ⟨0, [], rfl, Nat.zero_le _, MapAt.new w3, rfl, by simp, by simp, (Below.refl _ _).alloc (Nat.le_refl _) _⟩
  case round =>
    obtain ⟨k, Z, rfl, hk, hM, hZe, hZs, hsz, hb⟩ := hrel
    have HM := hide hM
    have HZE := hide hZe
    have HZS := hide hZs
    have HSZ := hide hsz
    have HB := hide hb
    have hMr := hM.lt
    clear hM hZe hZs hsz
    by_cases hlt : k < ls.length
    · obtain ⟨b, o, a', c', rfl, d0, d1, d2, hs⟩ := ((HU.out.later HB3.out).later hb).get k hlt
      have hlt2 : (k : Int) < (ls.length : Int) := by omega
      have HS := hide hs
      clear hb hs
      have hBw0 : w3.heap.size < wr.heap.size := hMr
      have HNO : Hid (mapGet (Z.map toP) ls[k].nm = none) := mapGet_no fun x hx e => by
        have h1 : x.1 ∈ (ls.take k).map (fB rs) := by rw [← HZE.out]; exact List.mem_map.2 ⟨x, hx, rfl⟩
        obtain ⟨d', hd', e'⟩ := List.mem_map.1 h1
        have h2 := (bindsE_sorted HBE.out).apart
        obtain ⟨i, hi, rfl⟩ := List.getElem_of_mem hd'
        have hi' : i < k := by simp at hi; omega
        unfold ApartB at h2
        rw [List.pairwise_iff_getElem] at h2
        have h3 := h2 i k (by omega) hlt hi'
        rw [← e'] at e
        rw [List.getElem_take] at e
        exact h3 e
      have HZE1 : Hid (∀ (a8 : Option Addr) (c8 : Nat), (Z ++ [(fB rs ls[k], a8, c8)]).map (·.1) = (ls.take (k + 1)).map (fB rs)) := fun a8 c8 => by
        rw [List.take_succ_eq_append_getElem hlt, List.map_append, List.map_append, HZE.out]; rfl
      have HSZ1 : Hid (sizeL [fT rs ls[k].t] ≤ 2000 → ∀ d ∈ ls.take (k + 1), sizeL [fT rs d.t] ≤ 2000) := fun h d hd => by
        rw [List.take_succ_eq_append_getElem hlt] at hd
        rcases List.mem_append.1 hd with hd | hd
        · exact HSZ.out d hd
        · have e : d = ls[k] := by simpa using hd
          rw [e]; exact h
      have HFU := hide (fullB_yes (rs := rs) hlt)
      generalize ls[k] = d at *
      go_wp2_with fail
      have BK := hide (Blk.new wr #[.string d.nm, .string d.t.name, .slice a' d.t.args.length c'] 55)
      have HBW := hide (HB.out.alloc HB.out.size (.cells #[.string d.nm, .string d.t.name, .slice a' d.t.args.length c'] 55))
      have HSW := hide (HS.out.later ((Below.refl _ _).alloc (Nat.le_refl _) (.cells #[.string d.nm, .string d.t.name, .slice a' d.t.args.length c'] 55)))
      have HMW := hide (HM.out.below ((Below.refl _ _).alloc (Nat.le_refl _) (.cells #[.string d.nm, .string d.t.name, .slice a' d.t.args.length c'] 55)) hMr)
      have HZW : Hid (∀ x ∈ Z, Sl (wr.alloc (.cells #[.string d.nm, .string d.t.name, .slice a' d.t.args.length c'] 55)) (fun b => w3.heap.size < b) x.2.1 x.1.t.args) := fun x hx => (HZS.out x hx).later ((Below.refl _ _).alloc (Nat.le_refl _) _)
      have hBw : w3.heap.size < (wr.alloc (.cells #[.string d.nm, .string d.t.name, .slice a' d.t.args.length c'] 55)).heap.size := by simp; omega
      have hAw : wr.heap.size < (wr.alloc (.cells #[.string d.nm, .string d.t.name, .slice a' d.t.args.length c'] 55)).heap.size := by simp
      clear d0 d1 d2
      generalize wr.alloc (.cells #[.string d.nm, .string d.t.name, .slice a' d.t.args.length c'] 55) = w4 at *
      generalize wr.heap.size = A at *
      have KP : Hid (∀ w', Below w4.heap.size w4 w' → w'.cell? ⟨A, 1, none⟩ = some (.string d.t.name) ∧ w'.cell? ⟨A, 2, none⟩ = some (.slice a' d.t.args.length c')) := fun w' hb => ⟨(BK.out.below hb hAw).cell 1, (BK.out.below hb hAw).cell 2⟩
      have t05 := (KP.out w4 (Below.refl _ _)).1
      have t15 := (KP.out w4 (Below.refl _ _)).2
      have LKA : Hid (∀ w', Below w4.heap.size w4 w' → Calls Try.prog 63 #[.map (some q)] w' fun e w'' => ∃ B, e = .returned (.func (.func 90) #[] #[.pointer (some ⟨B, 0, none⟩)]) ∧ Env w'' B q (fun b => X b ∧ b < w.heap.size) rs L ∧ Below w4.heap.size w4 w'' ∧ Below w'.heap.size w' w'') := fun w' hb => by
        refine (look_any q w').mono ?_
        rintro e w7 ⟨rfl, hw7⟩
        have hb7 : Below w'.heap.size w' w7 := by rw [hw7]; exact (Below.refl _ _).alloc (Nat.le_refl _) _
        have hb8 : Below w3.heap.size w3 w7 := (HBW.out.trans (hb.mono HBW.out.size)).trans (hb7.mono (Nat.le_trans HBW.out.size hb.size))
        exact ⟨_, rfl, ⟨by rw [hw7]; exact Blk.new w' _ _, HM3.out.below hb8 hq3, HP3.out.imp fun a l hs => hs.later hb8⟩, hb.trans (hb7.mono hb.size), hb7⟩
      by_cases hle : sizeL [fT rs d.t] ≤ 2000
      · have FIA : Hid (∀ B w', Env w' B q (fun b => X b ∧ b < w.heap.size) rs L → Below w4.heap.size w4 w' → Calls Try.prog 62 #[.agg #[.string d.t.name, .slice a' d.t.args.length c'], .func (.func 90) #[] #[.pointer (some ⟨B, 0, none⟩)]] w' fun e w'' => ∃ a8 c8, e = .returned (.tuple #[.agg #[.string (fT rs d.t).name, .slice a8 (fT rs d.t).args.length c8], .int .i64 0]) ∧ Below w4.heap.size w4 w'' ∧ Below w'.heap.size w' w'' ∧ Sl w'' (fun b => w'.heap.size ≤ b) a8 (fT rs d.t).args) := fun B w' hE hb => by
          refine (sfill_any B q rs L d.t a' c' w' _ (HSW.out.later hb) hE).mono ?_
          rintro e w8 ⟨hb8, ⟨_, a8, c8, rfl, h8⟩ | ⟨h8, _⟩⟩
          · exact ⟨a8, c8, rfl, hb.trans (hb8.mono hb.size), hb8, h8⟩
          · omega
        go_region_held3 (fun w' => w'.cell? ⟨A, 1, none⟩ = some (.string d.t.name) ∧ w'.cell? ⟨A, 2, none⟩ = some (.slice a' d.t.args.length c')) (first | exact hS | exact ⟨t05, t15⟩ | exact two_keep (two_keep hS nP nP) nP nP | exact two_keep hS nP nP | go_keep)
          (first
            | (go_at_call 63; refine (LKA.out _ (by first | exact Below.refl _ _ | exact (Below.refl _ _).drew | exact ((Below.refl _ _).alloc (Nat.le_refl _) _) | exact ((Below.refl _ _).drew.alloc (Nat.le_refl _) _) | exact ((Below.refl _ _).alloc (Nat.le_refl _) _).drew)).mono ?_; rintro e w7 ⟨B, rfl, hE7, hb7, hbl7⟩; have hS := KP.out _ hb7)
            | (go_at_call 62; refine (FIA.out _ _ (by first | exact hE7 | exact hE7.later ((Below.refl _ _).alloc (Nat.le_refl _) _)) (by first | exact hb7 | exact hb7.drew | exact hb7.alloc hb7.size _)).mono ?_; rintro e w8 ⟨a8, c8, rfl, hb8, hbl8, hs8⟩; have hS := KP.out _ hb8;
                first
                  | (have PB : Blk w8 w7.heap.size #[.string ⟨#[]⟩, .slice none 0 0] 29 := (Blk.new w7 _ _).below hbl8 (by simp); have p0 := PB.cell 0; have p1 := PB.cell 1; have pf := PB.frozen; have pl := PB.lt; have hPN : w4.heap.size ≤ w7.heap.size := hb7.size; have nP : w7.heap.size ≠ A := by omega)
                  | (have PB : Blk w8 w4.heap.size #[.string ⟨#[]⟩, .slice none 0 0] 29 := (((Blk.new w4 _ _).drewN 1).below hbl7 (by simp)).below hbl8 (by have := hbl7.size; simp at this; omega); have p0 := PB.cell 0; have p1 := PB.cell 1; have pf := PB.frozen; have pl := PB.lt; have hPN : w4.heap.size ≤ w4.heap.size := Nat.le_refl _; have nP : w4.heap.size ≠ A := by omega)
                  | skip))
        all_goals first
          | (have TB : Hid (ThB w4 w7.heap.size (fT rs d.t).name a8 (fT rs d.t).args.length c8 (fT rs d.t).args ((w8.setCell ⟨w7.heap.size, 0, none⟩ (.string (fT rs d.t).name)).setCell ⟨w7.heap.size, 1, none⟩ (.slice a8 (fT rs d.t).args.length c8))) := thB_set PB hPN hb8 hs8 (by simp); generalize ((w8.setCell ⟨w7.heap.size, 0, none⟩ (.string (fT rs d.t).name)).setCell ⟨w7.heap.size, 1, none⟩ (.slice a8 (fT rs d.t).args.length c8)) = w9 at *)
          | (have TB : Hid (ThB w4 w4.heap.size (fT rs d.t).name a8 (fT rs d.t).args.length c8 (fT rs d.t).args ((w8.setCell ⟨w4.heap.size, 0, none⟩ (.string (fT rs d.t).name)).setCell ⟨w4.heap.size, 1, none⟩ (.slice a8 (fT rs d.t).args.length c8))) := thB_set PB hPN hb8 hs8 (by have := hbl7.size; simp at this; omega); generalize ((w8.setCell ⟨w4.heap.size, 0, none⟩ (.string (fT rs d.t).name)).setCell ⟨w4.heap.size, 1, none⟩ (.slice a8 (fT rs d.t).args.length c8)) = w9 at *)
          | (have TB : Hid (ThB w4 w8.heap.size (fT rs d.t).name a8 (fT rs d.t).args.length c8 (fT rs d.t).args (w8.alloc (.cells #[.string (fT rs d.t).name, .slice a8 (fT rs d.t).args.length c8] 29))) := ⟨Blk.new w8 _ _, hb8.alloc hb8.size _, (hs8.later ((Below.refl _ _).alloc (Nat.le_refl _) _)).mono fun b hb _ => by have := hb7.size; omega⟩; generalize (w8.alloc (.cells #[.string (fT rs d.t).name, .slice a8 (fT rs d.t).args.length c8] 29)) = w9 at *)
        all_goals
          have c0 : w9.cell? ⟨A, 0, none⟩ = some (.string d.nm) := (BK.out.below TB.out.2.1 hAw).cell 0
          have p0' := TB.out.1.cell 0
          have p1' := TB.out.1.cell 1
          obtain ⟨w10, hrun, hM10, hz10, ho10, ht10, hu10, hk10⟩ := run_put (P := Try.prog) Try.underlying73 Try.underlying9 (HMW.out.below TB.out.2.1 hBw) d.nm (.agg #[.string (fT rs d.t).name, .slice a8 (fT rs d.t).args.length c8]) HNO.out
          have HM10 : Hid (MapAt w10 w3.heap.size ((Z ++ [(fB rs d, a8, c8)]).map toP)) := by unfold Hid; rw [List.map_append]; exact hM10
          have HB9 := hide (HBW.out.trans (TB.out.2.1.mono HBW.out.size))
          have HB10 : Hid (Below w3.heap.size w3 w10) := ⟨ho10.trans HB9.out.os, ht10.trans HB9.out.tape, hu10.trans HB9.out.output, by rw [hz10]; exact HB9.out.size, fun j hj => (hk10 j (by omega)).trans (HB9.out.block j hj)⟩
          have HZ10 : Hid (∀ x ∈ Z ++ [(fB rs d, a8, c8)], Sl w10 (fun b => w3.heap.size < b) x.2.1 x.1.t.args) := fun x hx => by
            rcases List.mem_append.1 hx with hx | hx
            · exact ((HZW.out x hx).later TB.out.2.1).kept fun b hb => hk10 b (by omega)
            · have e : x = (fB rs d, a8, c8) := by simpa using hx
              subst e
              exact (TB.out.2.2.kept fun b hb => hk10 b (by omega)).mono fun b hb _ => by omega
          clear hM10 hz10 ho10 ht10 hu10 hk10
          go_wp2_with fail
          go_roundw
          case rel => exact ⟨k + 1, Z ++ [(fB rs d, a8, c8)], by go_num, by omega, HM10.out, HZE1.out a8 c8, HZ10.out, HSZ1.out hle, HB10.out⟩
          case measure => simp [intOf]; omega
      · have FIA : Hid (∀ B w', Env w' B q (fun b => X b ∧ b < w.heap.size) rs L → Below w4.heap.size w4 w' → Calls Try.prog 62 #[.agg #[.string d.t.name, .slice a' d.t.args.length c'], .func (.func 90) #[] #[.pointer (some ⟨B, 0, none⟩)]] w' fun e w'' => e = .returned (.tuple #[.agg #[.string ⟨#[]⟩, .slice none 0 0], .int .i64 8]) ∧ Below w4.heap.size w4 w'' ∧ Below w'.heap.size w' w'') := fun B w' hE hb => by
          refine (sfill_any B q rs L d.t a' c' w' _ (HSW.out.later hb) hE).mono ?_
          rintro e w8 ⟨hb8, ⟨h8, _⟩ | ⟨_, rfl⟩⟩
          · omega
          · exact ⟨rfl, hb.trans (hb8.mono hb.size), hb8⟩
        go_region_held3 (fun w' => w'.cell? ⟨A, 1, none⟩ = some (.string d.t.name) ∧ w'.cell? ⟨A, 2, none⟩ = some (.slice a' d.t.args.length c')) (first | exact hS | exact ⟨t05, t15⟩ | exact two_keep (two_keep hS nP nP) nP nP | exact two_keep hS nP nP | go_keep)
          (first
            | (go_at_call 63; refine (LKA.out _ (by first | exact Below.refl _ _ | exact (Below.refl _ _).drew | exact ((Below.refl _ _).alloc (Nat.le_refl _) _) | exact ((Below.refl _ _).drew.alloc (Nat.le_refl _) _) | exact ((Below.refl _ _).alloc (Nat.le_refl _) _).drew)).mono ?_; rintro e w7 ⟨B, rfl, hE7, hb7, hbl7⟩; have hS := KP.out _ hb7)
            | (go_at_call 62; refine (FIA.out _ _ (by first | exact hE7 | exact hE7.later ((Below.refl _ _).alloc (Nat.le_refl _) _)) (by first | exact hb7 | exact hb7.drew | exact hb7.alloc hb7.size _)).mono ?_; rintro e w8 ⟨rfl, hb8, hbl8⟩; have hS := KP.out _ hb8;
                first
                  | (have PB : Blk w8 w7.heap.size #[.string ⟨#[]⟩, .slice none 0 0] 29 := (Blk.new w7 _ _).below hbl8 (by simp); have p0 := PB.cell 0; have p1 := PB.cell 1; have pf := PB.frozen; have pl := PB.lt; have hPN : w4.heap.size ≤ w7.heap.size := hb7.size; have nP : w7.heap.size ≠ A := by omega)
                  | (have PB : Blk w8 w4.heap.size #[.string ⟨#[]⟩, .slice none 0 0] 29 := (((Blk.new w4 _ _).drewN 1).below hbl7 (by simp)).below hbl8 (by have := hbl7.size; simp at this; omega); have p0 := PB.cell 0; have p1 := PB.cell 1; have pf := PB.frozen; have pl := PB.lt; have hPN : w4.heap.size ≤ w4.heap.size := Nat.le_refl _; have nP : w4.heap.size ≠ A := by omega)
                  | skip))
        all_goals first
          | (have TB : Hid (Below w4.heap.size w4 ((w8.setCell ⟨w7.heap.size, 0, none⟩ (.string ⟨#[]⟩)).setCell ⟨w7.heap.size, 1, none⟩ (.slice none 0 0))) := ((hb8.setCell (by simpa using hPN) _).setCell (by simpa using hPN) _); generalize ((w8.setCell ⟨w7.heap.size, 0, none⟩ (.string ⟨#[]⟩)).setCell ⟨w7.heap.size, 1, none⟩ (.slice none 0 0)) = w9 at *)
          | (have TB : Hid (Below w4.heap.size w4 ((w8.setCell ⟨w4.heap.size, 0, none⟩ (.string ⟨#[]⟩)).setCell ⟨w4.heap.size, 1, none⟩ (.slice none 0 0))) := ((hb8.setCell (by exact hPN) _).setCell (by exact hPN) _); generalize ((w8.setCell ⟨w4.heap.size, 0, none⟩ (.string ⟨#[]⟩)).setCell ⟨w4.heap.size, 1, none⟩ (.slice none 0 0)) = w9 at *)
          | (have TB : Hid (Below w4.heap.size w4 (w8.alloc (.cells #[.string ⟨#[]⟩, .slice none 0 0] 29))) := hb8.alloc hb8.size _; generalize (w8.alloc (.cells #[.string ⟨#[]⟩, .slice none 0 0] 29)) = w9 at *)
        all_goals
          have HFL := hide (HFU.out (by omega))
          go_wp2_with fail
          refine bodyPost_ret (v := .tuple #[.slice none 0 0, .int .i64 8]) (by simp [results, Try.results41, go_sem]) rfl ?_
          exact ⟨HB3.out.trans ((HBW.out.trans (TB.out.mono HBW.out.size)).mono HB3.out.size), Or.inr (Or.inr (Or.inl ⟨HBE.out, HBR.out, HFL.out, rfl⟩))⟩
    · have hkl : k = ls.length := by omega
      have htk : ls.take k = ls := List.take_of_length_le (by omega)
      have HFN : Hid (fullB ls rs = false) := fullB_no (by rw [← htk]; exact HSZ.out)
      have HZL : Hid (Z.map (·.1) = ls.map (fB rs)) := by have h := HZE.out; rw [htk] at h; exact h
      obtain ⟨Zq, rfl, hZq, hZqs⟩ := pairsL_Z HP3.out
      have HZQ := hide hZq
      have HZQS := hide hZqs
      obtain ⟨o, hrange, hR0⟩ := (HM3.out.below hb hq3).range (P := Try.prog) Try.underlying73
      have HR0 := hide hR0
      have HAZ : Hid (ApartB (Z.map (·.1))) := by
        unfold Hid
        rw [HZL.out]
        unfold ApartB
        rw [List.pairwise_map]
        exact (bindsE_sorted HBE.out).apart
      have HAQ : Hid (ApartB (Zq.map (·.1))) := by unfold Hid; rw [hZq]; exact (bindsE_sorted HBR.out).apart
      have hqI : q < wr.heap.size := by have := hb.size; omega
      clear hb hkl htk hZq hZqs hR0
      have hz : ∀ w', (zeroValue 29).run Try.prog w' = .ok (.agg #[.string ⟨#[]⟩, .slice none 0 0]) w' := fun w' => Try.zeroValue29 w'
      go_wp2_with fail
      have HM5 := hide (HM.out.below ((Below.refl _ _).alloc (Nat.le_refl _) o) hMr)
      have HB5 := hide (HB.out.alloc HB.out.size o)
      have HZ5 : Hid (∀ x ∈ Z, Sl (wr.alloc o) (fun b => w3.heap.size < b ∧ b < wr.heap.size) x.2.1 x.1.t.args) := fun x hx => ((HZS.out x hx).mono (Y := fun b => w3.heap.size < b ∧ b < wr.heap.size) fun b h1 h2 => ⟨h1, h2⟩).later ((Below.refl _ _).alloc (Nat.le_refl _) o)
      clear hrange
      generalize wr.alloc o = w5 at *
      generalize wr.heap.size = I at *
      go_loopw [55] (fun _ wr' => T2Inv w3 w5 q I ls Z Zq wr') (fun _ wr' => leftAt wr' q I)
      case atStart => exact ⟨Zq, [], Z, HR0.out, List.Perm.refl _, HM5.out, by simp, HAZ.out, HB5.out, fun _ _ _ => rfl⟩
      case round =>
        obtain ⟨Zr, K, Zb, hR, hPq, hMb, hPb, hAb, hbb, hfr⟩ := hrel
        have HR := hide hR
        have HPQ := hide hPq
        have HMB := hide hMb
        have HPB := hide hPb
        have HAB := hide hAb
        have HBB := hide hbb
        have HFR := hide hfr
        have hIl := hR.lt
        clear hPq hPb hAb hMb
        rcases hR.next (P := Try.prog) 0 with ⟨he, hnx⟩ | ⟨p, rem', w1', hpm, hnx, hR1, hz1, ho1, ht1, hu1, hk1, hen⟩
        · have hZr : Zr = [] := by simpa using he
          subst hZr
          have HZK : Hid (Zb.Perm (Z ++ Zq.filter fun x => (forT ls x.1.nm).isNone)) := by
            have h1 : Zq.Perm K := by simpa using HPQ.out
            exact HPB.out.trans ((h1.symm.filter _).append_left Z)
          have hz5 := HBB.out.size
          clear hR hbb hfr he
          go_wp2_with fail
          refine (deleteFunc_any Zb w3.heap.size wr HMB.out HAB.out).mono ?_
          rintro e w6 ⟨rfl, Z6, hM6, hP6, hg6⟩
          have HM6 := hide hM6
          have HP6 := hide hP6
          have HB6 : Hid (Below w3.heap.size w3 w6) := HBB.out.grown hg6 HBB.out.size (fun j hj => by cases hj; exact Nat.le_refl _)
          have HIN : Hid (∀ x ∈ Z6, x ∈ Z ∨ x ∈ Zq) := fun x hx => by
            have h1 := (List.mem_filter.1 (hP6.subset hx)).1
            rcases List.mem_append.1 (HZK.out.subset h1) with h2 | h2
            · exact Or.inl h2
            · exact Or.inr (List.mem_filter.1 h2).1
          have HS6 : Hid (∀ x ∈ Z6, Sl w6 (fun b => (w3.heap.size < b ∧ b < I) ∨ (X b ∧ b < w.heap.size)) x.2.1 x.1.t.args) := fun x hx => by
            rcases HIN.out x hx with h1 | h1
            · refine ((HZ5.out x h1).kept (w' := w6) fun b hb => ?_).mono fun b hb _ => Or.inl hb
              rw [hg6.block b (by omega) (by simp; omega), HFR.out b hb.2 (by omega)]
            · exact ((HZQS.out x h1).below HB6.out fun b hb _ => by have := HB3.out.size; omega).mono fun b hb _ => Or.inr hb
          have HSZ6 : Hid (∀ x ∈ Z6, sizeL [x.1.t] ≤ 1000000) := fun x hx => by
            rcases HIN.out x hx with h1 | h1
            · have h2 : x.1 ∈ ls.map (fB rs) := by rw [← HZL.out]; exact List.mem_map.2 ⟨x, h1, rfl⟩
              obtain ⟨d, hd, e⟩ := List.mem_map.1 h2
              rw [← e]
              have h3 : ¬ (2000 < sizeL [fT rs d.t]) := fun h => by
                obtain ⟨i, hi, rfl⟩ := List.getElem_of_mem hd
                have := fullB_yes hi h
                rw [HFN.out] at this; cases this
              show sizeL [fT rs d.t] ≤ 1000000
              omega
            · have h2 : x.1 ∈ rs := by rw [← HZQ.out]; exact List.mem_map.2 ⟨x, h1, rfl⟩
              obtain ⟨i, hi, e⟩ := List.getElem_of_mem h2
              have h3 := (bindsE_at HBR.out i hi).2
              rw [e] at h3
              unfold mayE at h3
              split at h3
              · cases h3
              · omega
          have HL6 : Hid (Z6.length ≤ 1000000) := by
            have h1 := HP6.out.length_eq
            have h2 := List.length_filter_le (fun x : Bc => keepB x.1) Zb
            have h3 := HZK.out.length_eq
            have h4 := List.length_filter_le (fun x : Bc => (forT ls x.1.nm).isNone) Zq
            have h5 := congrArg List.length HZL.out
            have h6 := congrArg List.length HZQ.out
            have h7 := bindsE_len HBE.out
            have h8 := bindsE_len HBR.out
            simp at h3 h5 h6
            unfold Hid
            omega
          have HA6 : Hid (ApartB (Z6.map (·.1))) := by
            refine ApartB.perm ?_ (HP6.out.map (·.1))
            exact HAB.out.sublist (List.Sublist.map _ List.filter_sublist)
          have HPF : Hid ((Z6.map (·.1)).Perm ((bothB ls rs).filter keepB)) := by
            have h1 := HP6.out.map (·.1)
            have h2 : ((Zb.filter fun x => keepB x.1).map (·.1)).Perm ((bothB ls rs).filter keepB) := by
              have h3 := (HZK.out.map (·.1)).filter keepB
              have e1 : (Z ++ Zq.filter fun x => (forT ls x.1.nm).isNone).map (·.1) = bothB ls rs := by
                rw [List.map_append, HZL.out]
                unfold bothB
                rw [← HZQ.out, List.filter_map]
                rfl
              rw [e1] at h3
              rw [List.filter_map] at h3
              exact h3
            exact h1.trans h2
          clear hM6 hP6 hg6
          go_wp2_with fail
          refine (inOrder_of HSORT Z6 w3.heap.size w6 _ HM6.out HS6.out HSZ6.out HL6.out HA6.out).mono ?_
          rintro e w7 ⟨v7, l7, rfl, hbv7, hp7, hs7, hb7⟩
          have HBV7 := hide hbv7
          have HP7 := hide (hp7.trans HPF.out)
          have HS7 := hide hs7
          have HB7 := hide (HB3.out.trans ((HB6.out.trans (hb7.mono HB6.out.size)).mono HB3.out.size))
          have hz6 := HB6.out.size
          have hz3 := HB3.out.size
          clear hbv7 hp7 hs7 hb7
          go_wp2_with fail
          refine bodyPost_ret (v := .tuple #[v7, .int .i64 0]) (by simp [results, Try.results41, go_sem]) rfl ?_
          exact ⟨HB7.out, Or.inr (Or.inr (Or.inr ⟨HBE.out, HBR.out, HFN.out, v7, l7, rfl, HBV7.out.mono fun b hb _ => by omega, HP7.out, HS7.out⟩))⟩
        · obtain ⟨x, Z', hpx, rfl, rfl⟩ := next_lift hpm
          simp only [toP] at hnx hen
          have hxq : x ∈ Zq := HPQ.out.symm.subset (by simp [hpx.symm.subset (List.mem_cons_self (a := x))])
          have hBI : w3.heap.size < I := hMr
          have HBB1 : Hid (Below w3.heap.size w3 w1') := ⟨ho1.trans hbb.os, ht1.trans hbb.tape, hu1.trans hbb.output, by rw [hz1]; exact hbb.size, fun j hj => (hk1 j (by omega)).trans (hbb.block j hj)⟩
          have HFR1 : Hid (∀ b, b < I → b ≠ w3.heap.size → w1'.heap[b]? = w5.heap[b]?) := fun b h1 h2 => (hk1 b (by omega)).trans (hfr b h1 h2)
          have HMB1 := hide (HMB.out.kept (hk1 w3.heap.size (by omega)))
          have HR1 := hide hR1
          have hI1 : I < w1'.heap.size := hR1.lt
          have HPQ1 : Hid (Zq.Perm (K ++ [x] ++ Z')) := by
            have h2 := HPQ.out.trans (hpx.append_left K)
            unfold Hid
            simpa using h2
          have HMS : Hid (Z'.length < Zr.length) := by have := hpx.length_eq; simp at this; unfold Hid; omega
          clear hR hbb hfr hz1 ho1 ht1 hu1 hk1 hR1 hpm hpx
          have J0 := hide (Blk.new w1' #[.string x.1.t.name, .slice x.2.1 x.1.t.args.length x.2.2] 29)
          have bA := hide ((Below.refl w1'.heap.size w1').alloc (Nat.le_refl _) (.cells #[.string x.1.t.name, .slice x.2.1 x.1.t.args.length x.2.2] 29))
          generalize hw6 : w1'.alloc (.cells #[.string x.1.t.name, .slice x.2.1 x.1.t.args.length x.2.2] 29) = w6 at *
          have HBB2 := hide (HBB1.out.trans (bA.out.mono HBB1.out.size))
          have HFR2 : Hid (∀ b, b < I → b ≠ w3.heap.size → w6.heap[b]? = w5.heap[b]?) := fun b h1 h2 => (bA.out.block b (by omega)).trans (HFR1.out b h1 h2)
          have HMB2 := hide (HMB1.out.below bA.out (by omega))
          have HR2 := hide (HR1.out.below bA.out (by omega) hI1)
          have hI2 : I < w6.heap.size := by have := bA.out.size; omega
          cases hf : forT ls x.1.nm with
          | none =>
            have hno : mapGet (Zb.map toP) x.1.nm = none := mapGet_no fun y hy e => by
              rcases List.mem_append.1 (HPB.out.subset hy) with h1 | h1
              · have h2 : y.1 ∈ ls.map (fB rs) := by rw [← HZL.out]; exact List.mem_map.2 ⟨y, h1, rfl⟩
                obtain ⟨d, hd, e2⟩ := List.mem_map.1 h2
                obtain ⟨t, ht⟩ := forT_some_of hd
                have e3 : d.nm = x.1.nm := by rw [← e, ← e2]; rfl
                rw [e3, hf] at ht; cases ht
              · have h2 := HAQ.out.perm ((HPQ1.out.map (·.1)).symm)
                rw [List.map_append, List.map_append] at h2
                have h3 := (List.pairwise_append.1 (List.pairwise_append.1 h2).1).2.2 y.1 (List.mem_map.2 ⟨y, (List.mem_filter.1 h1).1, rfl⟩) x.1 (by simp)
                exact h3 e
            have hlk : (Instr.lookup 73 (.map (some w3.heap.size)) (.string x.1.nm) true).run Try.prog w6 = .ok (.tuple #[.agg #[.string ⟨#[]⟩, .slice none 0 0], .bool false]) w6 := by
              rw [run_look (P := Try.prog) Try.underlying73 Try.underlying9 (hz _) HMB2.out x.1.nm, hno]; rfl
            have bB := hide ((Below.refl w6.heap.size w6).alloc (Nat.le_refl _) (.cells #[.string ⟨#[]⟩, .slice none 0 0] 29))
            have J1 := hide (J0.out.alloc (.cells #[.string ⟨#[]⟩, .slice none 0 0] 29))
            have HMB3 := hide (HMB2.out.below bB.out (by omega))
            have HR3 := hide (HR2.out.below bB.out (by omega) hI2)
            have HBB3 := hide (HBB2.out.trans (bB.out.mono HBB2.out.size))
            have j0 := J1.out.cell 0
            have j1 := J1.out.cell 1
            have hF3 : ∀ b, b < I → b ≠ w3.heap.size → (w6.alloc (.cells #[.string ⟨#[]⟩, .slice none 0 0] 29)).heap[b]? = w5.heap[b]? := fun b h1 h2 => (bB.out.block b (by omega)).trans (HFR2.out b h1 h2)
            have HF3 := hide hF3
            clear hF3
            obtain ⟨w8, hrun, hM8, hz8, ho8, ht8, hu8, hk8⟩ := run_put (P := Try.prog) Try.underlying73 Try.underlying9 HMB3.out x.1.nm (.agg #[.string x.1.t.name, .slice x.2.1 x.1.t.args.length x.2.2]) hno
            have HM8 : Hid (MapAt w8 w3.heap.size ((Zb ++ [x]).map toP)) := by unfold Hid; rw [List.map_append]; exact hM8
            have HB8 : Hid (Below w3.heap.size w3 w8) := ⟨ho8.trans HBB3.out.os, ht8.trans HBB3.out.tape, hu8.trans HBB3.out.output, by rw [hz8]; exact HBB3.out.size, fun j hj => (hk8 j (by omega)).trans (HBB3.out.block j hj)⟩
            have HF8 : Hid (∀ b, b < I → b ≠ w3.heap.size → w8.heap[b]? = w5.heap[b]?) := fun b h1 h2 => (hk8 b h2).trans (HF3.out b h1 h2)
            have HR8 := hide (HR3.out.kept (w' := w8) (hk8 q (by omega)) (hk8 I (by omega)))
            have HP8 : Hid ((Zb ++ [x]).Perm (Z ++ (K ++ [x]).filter fun x => (forT ls x.1.nm).isNone)) := by
              unfold Hid
              rw [List.filter_append, List.filter_cons_of_pos (by rw [hf]; rfl), List.filter_nil, ← List.append_assoc]
              exact HPB.out.append_right [x]
            have HA8 : Hid (ApartB ((Zb ++ [x]).map (·.1))) := by
              unfold Hid
              rw [List.map_append]
              refine List.pairwise_append.2 ⟨HAB.out, by simp, fun a ha b hb e => ?_⟩
              obtain ⟨y, hy, rfl⟩ := List.mem_map.1 ha
              have eb : b = x.1 := by simpa using hb
              rw [eb] at e
              have h2 := mapGet_toP HAB.out y hy
              rw [e, hno] at h2
              cases h2
            clear hM8 hz8 ho8 ht8 hu8 hk8 hf hno
            go_wp2_with fail
            go_roundw
            case rel => exact ⟨Z', K ++ [x], Zb ++ [x], HR8.out, HPQ1.out, HM8.out, HP8.out, HA8.out, HB8.out, HF8.out⟩
            case measure =>
              rw [HR8.out.left, HR.out.left]
              have := HMS.out
              simpa using this
          | some t0 =>
            obtain ⟨d, hd, hn, _⟩ := forT_mem hf
            have h2 : fB rs d ∈ Z.map (·.1) := by rw [HZL.out]; exact List.mem_map.2 ⟨d, hd, rfl⟩
            obtain ⟨y, hy, ey⟩ := List.mem_map.1 h2
            have hyb : y ∈ Zb := HPB.out.symm.subset (by simp [hy])
            have hyn : y.1.nm = x.1.nm := by rw [ey]; exact hn
            have hsome := mapGet_toP HAB.out y hyb
            rw [hyn] at hsome
            have hlk : (Instr.lookup 73 (.map (some w3.heap.size)) (.string x.1.nm) true).run Try.prog w6 = .ok (.tuple #[.agg #[.string y.1.t.name, .slice y.2.1 y.1.t.args.length y.2.2], .bool true]) w6 := by
              rw [run_look (P := Try.prog) Try.underlying73 Try.underlying9 (hz _) HMB2.out x.1.nm, hsome]; rfl
            have bB := hide ((Below.refl w6.heap.size w6).alloc (Nat.le_refl _) (.cells #[.string y.1.t.name, .slice y.2.1 y.1.t.args.length y.2.2] 29))
            have HMB3 := hide (HMB2.out.below bB.out (by omega))
            have HR3 := hide (HR2.out.below bB.out (by omega) hI2)
            have HBB3 := hide (HBB2.out.trans (bB.out.mono HBB2.out.size))
            have HF3 : Hid (∀ b, b < I → b ≠ w3.heap.size → (w6.alloc (.cells #[.string y.1.t.name, .slice y.2.1 y.1.t.args.length y.2.2] 29)).heap[b]? = w5.heap[b]?) := fun b h1 h2 => (bB.out.block b (by omega)).trans (HFR2.out b h1 h2)
            have HP8 : Hid (Zb.Perm (Z ++ (K ++ [x]).filter fun x => (forT ls x.1.nm).isNone)) := by
              unfold Hid
              rw [List.filter_append, List.filter_cons_of_neg (by rw [hf]; simp), List.filter_nil, List.append_nil]
              exact HPB.out
            clear hd hn h2 hy ey hyb hyn hsome hf
            go_wp2_with fail
            go_roundw
            case rel => exact ⟨Z', K ++ [x], Zb, HR3.out, HPQ1.out, HMB3.out, HP8.out, HAB.out, HBB3.out, HF3.out⟩
            case measure =>
              rw [HR3.out.left, HR.out.left]
              have := HMS.out
              simpa using this
#print axioms then_of
/-- Then. -/
theorem then_any (ls rs : List Bd) (u v : Value) (w : World) (X : Nat → Prop) (hu : BV w X u ls) (hv : BV w X v rs) :
    Calls Try.prog 41 #[u, v] w fun e w' => ThPost w ls rs e w' := then_of (hide sortBinds) ls rs u v w X hu hv
end Go.Proofs.Ytpjdkdebjkpmmab

/- Walks: bindings that are the same; two answers that are bindings. -/
namespace Go.Proofs.Ytpjdkdebjkpmmab
open Go.RowKit
set_option linter.unusedSimpArgs false
set_option linter.unusedVariables false
set_option maxRecDepth 8000

def SmbInv (ls : List Bd) (w : World) (v : Value) (wr : World) : Prop := ∃ k : Nat, v = .int .i64 (k : Int) ∧ k ≤ ls.length ∧ Below w.heap.size w wr

set_option maxHeartbeats 1000000 in
theorem sameBinds_any (ls : List Bd) (u v : Value) (w : World) (X Y : Nat → Prop) (hu : BV w X u ls) (hv : BV w Y v ls) :
    Calls Try.prog 21 #[u, v] w fun e w' => e = .returned (.bool true) ∧ Below w.heap.size w w' := by
  have HU := hide hu
  have HV := hide hv
  obtain ⟨a, c, rfl, hl, _⟩ := hu
  obtain ⟨a2, c2, rfl, hl2, _⟩ := hv
  go_enter Try.func21, Try.ntmps21
  go_wp2_with fail
  go_loopw [5] (fun v wr => SmbInv ls w v wr) (fun v wr => ls.length - (intOf v).toNat)
  case atStart => exact ⟨0, rfl, Nat.zero_le _, Below.refl _ _⟩
  case round =>
    obtain ⟨k, rfl, hk, hb⟩ := hrel
    have HB := hide hb
    by_cases hlt : k < ls.length
    · obtain ⟨b, o, a', c', rfl, d0, d1, d2, hs⟩ := (HU.out.later hb).get k hlt
      obtain ⟨b2, o2, a2', c2', rfl, e0, e1, e2, hs2⟩ := (HV.out.later hb).get k hlt
      have HX := hide hs
      have HX2 := hide hs2
      have HS0 := hide (And.intro d0 (And.intro d1 (And.intro d2 (And.intro e0 (And.intro e1 e2)))))
      clear hb hs hs2
      generalize ls[k] = d at *
      have hbb : (d.nm.toList == d.nm.toList) = true := by simp
      go_wp2_with fail
      go_region_held3 (fun w' => w'.cell? ⟨b, o + k * 3, none⟩ = some (.string d.nm) ∧ w'.cell? ⟨b, o + k * 3 + 1, none⟩ = some (.string d.t.name) ∧ w'.cell? ⟨b, o + k * 3 + 2, none⟩ = some (.slice a' d.t.args.length c') ∧ w'.cell? ⟨b2, o2 + k * 3, none⟩ = some (.string d.nm) ∧ w'.cell? ⟨b2, o2 + k * 3 + 1, none⟩ = some (.string d.t.name) ∧ w'.cell? ⟨b2, o2 + k * 3 + 2, none⟩ = some (.slice a2' d.t.args.length c2')) (first | exact HS0.out | exact hS1 | go_keep)
        ((go_at_call 51; refine (same_any d.t _ _ _ X Y (by exact ⟨_, _, rfl, HX.out.later (below_drewN (Below.refl _ _) 1)⟩) (by exact ⟨_, _, rfl, HX2.out.later (below_drewN (Below.refl _ _) 1)⟩)).mono ?_; rintro e w1 ⟨rfl, hb1⟩; have hS1 := same_cells (n := 1) hb1 HS0.out))
      have HB1 := hide ((below_drewN HB.out 1).trans (hb1.mono (by have := HB.out.size; simp; omega)))
      clear hb1
      go_wp2_with fail
      go_roundw
      case rel => exact ⟨k + 1, by go_num, by omega, HB1.out⟩
      case measure => simp [intOf]; omega
    · go_wp2_with fail
      go_ret
      exact ⟨rfl, HB.out⟩

theorem binds2_err (e : Int) (c : Nat) (v : Value) (w : World) (he : e ≠ 0) :
    Calls Try.prog 28 #[.slice none 0 c, .int .i64 e, v, .int .i64 e] w fun r w' => r = .returned (.bool true) ∧ w' = w := by
  have h1 : (e == 0) = false := by simpa using he
  clear he
  go_enter Try.func28, Try.ntmps28
  go_wp2_with fail
  go_ret
  exact ⟨rfl, rfl⟩
theorem binds2_ok (ls : List Bd) (u v : Value) (w : World) (X Y : Nat → Prop) (hu : BV w X u ls) (hv : BV w Y v ls) :
    Calls Try.prog 28 #[u, .int .i64 0, v, .int .i64 0] w fun r w' => r = .returned (.bool true) ∧ Below w.heap.size w w' := by
  have HC := hide (sameBinds_any ls u v w X Y hu hv)
  clear hu hv
  go_enter Try.func28, Try.ntmps28
  go_wp2_with (go_at_call 21; refine HC.out.mono ?_; rintro e w' ⟨rfl, hb⟩)
  go_ret
  exact ⟨rfl, hb⟩
#print axioms sameBinds_any
#print axioms binds2_err
#print axioms binds2_ok
end Go.Proofs.Ytpjdkdebjkpmmab

/- Walks: bindings sorted, as the document says. -/
namespace Go.Proofs.Ytpjdkdebjkpmmab
open Go.RowKit
set_option linter.unusedSimpArgs false
set_option linter.unusedVariables false
set_option maxRecDepth 8000

theorem flat3_set (y : Bc) : ∀ (cs : List Bc) (i : Nat), i < cs.length → flat3 (cs.set i y) = (((flat3 cs).set (i * 3) (.string y.1.nm)).set (i * 3 + 1) (.string y.1.t.name)).set (i * 3 + 2) (.slice y.2.1 y.1.t.args.length y.2.2)
  | [], i, h => by simp at h
  | x :: r, 0, h => by simp [flat3, enc3]
  | x :: r, i + 1, h => by
    have ih := flat3_set y r i (by simpa using h)
    rw [List.set_cons_succ, flat3, flat3, ih]
    rw [show (i + 1) * 3 = i * 3 + 3 by omega, show i * 3 + 3 + 1 = (i * 3 + 1) + 3 by omega, show i * 3 + 3 + 2 = (i * 3 + 2) + 3 by omega]
    simp [enc3]
/-- The world with a binding stored in a row. -/
def put3 (w : World) (g i : Nat) (y : Bc) : World := (((w.setCell ⟨g, i * 3, none⟩ (.string y.1.nm)).setCell ⟨g, i * 3 + 1, none⟩ (.string y.1.t.name)).setCell ⟨g, i * 3 + 2, none⟩ (.slice y.2.1 y.1.t.args.length y.2.2))
theorem put3_block {w : World} {g i b : Nat} {y : Bc} (h : b ≠ g) : (put3 w g i y).heap[b]? = w.heap[b]? := by
  unfold put3
  rw [Below.heap_setCell _ _ _ _ (by simpa using h), Below.heap_setCell _ _ _ _ (by simpa using h), Below.heap_setCell _ _ _ _ (by simpa using h)]
theorem put3_size {w : World} {g i : Nat} {y : Bc} : (put3 w g i y).heap.size = w.heap.size := by simp [put3, World.setCell]
theorem put3_below {w0 w : World} {B g i : Nat} {y : Bc} (h : Below B w0 w) (hg : B ≤ g) : Below B w0 (put3 w g i y) := ((h.setCell (by exact hg) _).setCell (by exact hg) _).setCell (by exact hg) _
theorem Sl.put3 {w : World} {N g n cap i : Nat} {Y : Nat → Prop} {a : Option Addr} {l : List Tm} {y : Bc} (h : Sl w (fun b => Y b ∨ (N ≤ b ∧ some b ≠ (Value.slice (some ⟨g, 0, none⟩) n cap).ownBlock)) a l) (hY : ∀ b, Y b → b < N) (hg : N ≤ g) : Sl (put3 w g i y) (fun b => Y b ∨ (N ≤ b ∧ some b ≠ (Value.slice (some ⟨g, 0, none⟩) n cap).ownBlock)) a l :=
  h.kept fun b hb => put3_block (by
    rcases hb with hb | hb
    · have := hY b hb; omega
    · intro e; exact hb.2 (by simp [Value.ownBlock, e]))
theorem BRow.put {w : World} {N : Nat} {Y : Nat → Prop} {cs : List Bc} {g n cap : Nat} (h : BRow w N Y (.slice (some ⟨g, 0, none⟩) n cap) cs) (hY : ∀ b, Y b → b < N) (i : Nat) (hi : i < cs.length) (y : Bc) (hy : Sl w (fun b => Y b ∨ (N ≤ b ∧ some b ≠ (Value.slice (some ⟨g, 0, none⟩) n cap).ownBlock)) y.2.1 y.1.t.args) : BRow (put3 w g i y) N Y (.slice (some ⟨g, 0, none⟩) n cap) (cs.set i y) := by
  have hNg : N ≤ g := (h.own.lt g rfl).1
  refine ⟨?_, fun x hx => ?_⟩
  · rcases h.own.2 with ⟨e, _⟩ | ⟨g', cap', cur, e, hbase, hb, h1, h2, h3, h4⟩
    · cases e
    · simp at e
      obtain ⟨rfl, rfl, rfl⟩ := e
      have hB : Blk w g cur 55 := hb
      have hB' := ((hB.set (i * 3) (.string y.1.nm)).set (i * 3 + 1) (.string y.1.t.name)).set (i * 3 + 2) (.slice y.2.1 y.1.t.args.length y.2.2)
      refine ⟨flat3_length _, Or.inr ⟨g, cap, _, by simp, hbase, hB', by simpa using h1, h2, by simpa using h3, ?_⟩⟩
      rw [flat3_set y cs i hi, ← h4]
      simp [List.take_set]
  · rcases List.mem_or_eq_of_mem_set hx with h1 | h1
    · exact (h.row x h1).put3 hY hNg
    · rw [h1]; exact hy.put3 hY hNg
/-- Two of a row change places. -/
theorem BRow.swap {w : World} {N : Nat} {Y : Nat → Prop} {A B : List Bc} {x y : Bc} {g n cap : Nat} (h : BRow w N Y (.slice (some ⟨g, 0, none⟩) n cap) ((A ++ [y]) ++ x :: B)) (hY : ∀ b, Y b → b < N) : BRow (put3 (put3 w g (A.length + 1) y) g A.length x) N Y (.slice (some ⟨g, 0, none⟩) n cap) (A ++ x :: y :: B) := by
  have hNg : N ≤ g := (h.own.lt g rfl).1
  have h1 := h.put hY (A.length + 1) (by simp) y (h.row y (by simp))
  have h2 := h1.put hY A.length (by simp) x ((h.row x (by simp)).put3 hY hNg)
  have e : (((A ++ [y]) ++ x :: B).set (A.length + 1) y).set A.length x = A ++ x :: y :: B := by
    rw [List.set_append_right _ _ (by simp)]
    simp [List.set_append_right]
  rw [e] at h2
  exact h2

/-- None is ahead of one that stands ahead of it. -/
def Weak (l : List Bc) : Prop := l.Pairwise fun a b => ltB b.1.nm a.1.nm = false
theorem weak_ins {A B : List Bc} {x : Bc} (hw : Weak (A ++ B)) (hB : ∀ b ∈ B, ltB x.1.nm b.1.nm = true) (hA : ∀ a ∈ A, ltB x.1.nm a.1.nm = false) : Weak (A ++ x :: B) := by
  obtain ⟨h1, h2, h3⟩ := List.pairwise_append.1 hw
  refine List.pairwise_append.2 ⟨h1, List.pairwise_cons.2 ⟨fun b hb => ltB_asymm (hB b hb), h2⟩, fun a ha b hb => ?_⟩
  rcases List.mem_cons.1 hb with rfl | hb
  · exact hA a ha
  · exact h3 a ha b hb
theorem weak_last {A B : List Bc} {a x : Bc} (hw : Weak (A ++ [a] ++ B)) (h : ltB x.1.nm a.1.nm = false) : ∀ y ∈ A ++ [a], ltB x.1.nm y.1.nm = false := fun y hy => by
  rcases List.mem_append.1 hy with hy | hy
  · obtain ⟨h1, _⟩ := List.pairwise_append.1 hw
    exact ltB_ntrans h ((List.pairwise_append.1 h1).2.2 y hy a (by simp))
  · have e : y = a := by simpa using hy
    rw [e]; exact h

theorem BRow.atk {w : World} {N : Nat} {Y : Nat → Prop} {P Q : List Bc} {z : Bc} {g n cap : Nat} (h : BRow w N Y (.slice (some ⟨g, 0, none⟩) n cap) (P ++ z :: Q)) :
    w.cell? ⟨g, P.length * 3, none⟩ = some (.string z.1.nm) ∧ w.cell? ⟨g, P.length * 3 + 1, none⟩ = some (.string z.1.t.name) ∧ w.cell? ⟨g, P.length * 3 + 2, none⟩ = some (.slice z.2.1 z.1.t.args.length z.2.2) ∧ ∀ j, w.frozen? ⟨g, j, none⟩ = false := by
  obtain ⟨g', cap', e, _, _, hc⟩ := owned_val h.own (by simp only [List.length_append, List.length_cons]; omega)
  simp at e
  obtain ⟨rfl, _, rfl⟩ := e
  have hf : ∀ j, w.frozen? ⟨g, j, none⟩ = false := by
    rcases h.own.2 with ⟨e, _⟩ | ⟨g', cap', cur, e, _, hb, _⟩
    · cases e
    · simp at e
      obtain ⟨rfl, _, rfl⟩ := e
      intro j
      simp [World.frozen?, hb]
  have hg : ∀ j, j < 3 → (flat3 (P ++ z :: Q))[P.length * 3 + j]? = (enc3 z)[j]? := fun j hj => by
    rw [flat3_get _ P.length (by simp) j hj]
    simp
  exact ⟨hc _ _ (by have h0 := hg 0 (by decide); rw [Nat.add_zero] at h0; rw [h0]; rfl), hc _ _ (by rw [hg 1 (by decide)]; rfl), hc _ _ (by rw [hg 2 (by decide)]; rfl), hf⟩
theorem ins_perm {A B cs : List Bc} {x : Bc} {l : List Bd} (h : A ++ B = cs) (hp : (cs.map (·.1) ++ [x.1]).Perm l) : ((A ++ x :: B).map (·.1)).Perm l := by
  refine List.Perm.trans ?_ hp
  have h1 : (A ++ x :: B).Perm (cs ++ [x]) := by
    rw [← h]
    exact List.perm_middle.trans (List.perm_append_singleton x (A ++ B)).symm
  simpa using h1.map (·.1)

/-- What is known in the outer loop. -/
def SoInv (w : World) (Y : Nat → Prop) (ls : List Bd) (u v : Value) (wr : World) : Prop :=
  ∃ (k : Nat) (cs : List Bc), v = .int .i64 (k : Int) ∧ k ≤ ls.length ∧ BRow wr w.heap.size Y u cs ∧ (cs.map (·.1)).Perm (ls.take k) ∧ Weak cs ∧ Below w.heap.size w wr
/-- What is known in the inner loop. -/
def SiInv (w : World) (Y : Nat → Prop) (cs : List Bc) (x : Bc) (g cap : Nat) (v : Value) (wr : World) : Prop :=
  ∃ (A B : List Bc), v = .int .i64 (A.length : Int) ∧ A ++ B = cs ∧ (∀ b ∈ B, ltB x.1.nm b.1.nm = true) ∧ BRow wr w.heap.size Y (.slice (some ⟨g, 0, none⟩) (cs.length + 1) cap) (A ++ x :: B) ∧ Below w.heap.size w wr

set_option maxHeartbeats 2000000 in
theorem sorted_any (ls : List Bd) (u : Value) (w : World) (X : Nat → Prop) (hu : BV w X u ls) (hn : ls.length ≤ 1000000) :
    Calls Try.prog 44 #[u] w fun e w' => ∃ (v : Value) (cs : List Bc), e = .returned v ∧ BRow w' w.heap.size (fun b => X b ∧ b < w.heap.size) v cs ∧ (cs.map (·.1)).Perm ls ∧ Weak cs ∧ Below w.heap.size w w' := by
  have HU := hide (hu.mono (Y := fun b => X b ∧ b < w.heap.size) fun b h1 h2 => ⟨h1, h2⟩)
  obtain ⟨a, c, rfl, hl, hu2⟩ := hu
  clear hu2
  go_enter Try.func44, Try.ntmps44
  go_wp2_with fail
  go_loopw [3, 4] (fun u v wr => SoInv w (fun b => X b ∧ b < w.heap.size) ls u v wr) (fun u v wr => ls.length - (intOf v).toNat)
  case atStart => exact ⟨0, [], rfl, Nat.zero_le _, BRow.start _ _ _, by simp, List.Pairwise.nil, Below.refl _ _⟩
  case round =>
    obtain ⟨k, cs, rfl, hk, hrow, hperm, hweak, hb⟩ := hrel
    have HROW := hide hrow
    have HP := hide hperm
    have HW := hide hweak
    have HB := hide hb
    clear hrow hperm hweak
    by_cases hlt : k < ls.length
    · obtain ⟨b, o, a', c', rfl, d0, d1, d2, hs⟩ := (HU.out.later hb).get k hlt
      have hlt2 : (k : Int) < (ls.length : Int) := by omega
      have HS := hide hs
      have HP1 : Hid ((cs.map (·.1) ++ [ls[k]]).Perm (ls.take (k + 1))) := by
        unfold Hid
        rw [List.take_succ_eq_append_getElem hlt]
        exact HP.out.append_right _
      have hLC : cs.length ≤ 1000000 := by have := HP.out.length_eq; simp at this; omega
      clear hb hs
      generalize ls[k] = d at *
      obtain ⟨v2, w2, hrun, hB2, hg2⟩ := binds_append HROW.out HB.out.size (fun b h => h.2) (Below.refl wr.heap.size wr) (d, a', c') (HS.out.mono fun b h _ => Or.inl h) hLC wr.heap.size rfl
      obtain ⟨g, cap, rfl, hNg, hgl⟩ := hB2.own.form (by simp)
      have HRUN := hide hrun
      have HB2 := hide hB2
      have HBW : Hid (Below w.heap.size w w2) := (HB.out.alloc HB.out.size _).grown hg2 (by have := HB.out.size; simp; omega) (fun j hj => by have := (HROW.out.own.lt j hj).1; omega)
      have hlen2 : (cs ++ [(d, a', c')]).length = cs.length + 1 := by simp
      rw [hlen2] at HB2 HRUN
      clear hrun hB2 hg2
      have hgw : w.heap.size ≤ g := hNg
      go_wp2_with (at_builtin; refine wpList_append_eq rfl _ _ _ _ rfl rfl rfl HRUN.out ?_)
      go_loopw [5] (fun v wr => SiInv w (fun b => X b ∧ b < w.heap.size) cs (d, a', c') g cap v wr) (fun v wr => (intOf v).toNat)
      case atStart =>
        exact ⟨cs, [], by go_num, by simp, by simp, HB2.out, HBW.out⟩
      case round =>
        obtain ⟨A, B, rfl, hAB, hBx, hrow, hb⟩ := hrel
        have HROW3 := hide hrow
        have HB3 := hide hb
        have HBX := hide hBx
        have HAB := hide hAB
        have HLA : Hid (A.length + B.length = cs.length) := by have := congrArg List.length hAB; unfold Hid; simpa using this
        clear hBx hAB
        rcases List.eq_nil_or_concat A with rfl | ⟨A', y, hAe⟩
        · clear hrow hb
          go_wp2_with fail
          go_quiet (fail)
          go_wp2_with fail
          go_roundw
          case rel => exact ⟨k + 1, [] ++ (d, a', c') :: B, by go_num, by omega, HROW3.out.below (below_drewN (Below.refl _ _) _), ins_perm HAB.out HP1.out, weak_ins (by rw [HAB.out]; exact HW.out) HBX.out (by simp), below_drewN HB3.out _⟩
          case measure => simp [intOf]; omega
        · rw [List.concat_eq_append] at hAe
          subst hAe
          have hlen : (A' ++ [y]).length = A'.length + 1 := by simp
          have hm1 : A'.length + 1 < cs.length + 1 := by have := HLA.out; simp at this; omega
          have e1 : (A' ++ [y]) ++ (d, a', c') :: B = A' ++ y :: (d, a', c') :: B := by simp
          obtain ⟨x0, x1, x2, xf⟩ := hrow.atk
          rw [e1] at hrow
          obtain ⟨y0, y1, y2, _⟩ := hrow.atk
          simp only [List.length_append, List.length_cons, List.length_nil, Nat.zero_add] at x0 x1 x2 ⊢
          clear hrow hb hlen e1
          generalize hmA : A'.length = m at *
          have HMA := hide hmA
          clear hmA
          have hj0 : (0 : Int) ≤ (m : Int) := by omega
          have hw1 : IntKind.i64.wrap ((m : Int) + 1 - 1) = (m : Int) := by rw [IntKind.wrap_i64]; omega
          have hw2 : IntKind.i64.wrap (m : Int) = (m : Int) := by rw [IntKind.wrap_i64]; omega
          cases hlt3 : Op.bytesLess d.nm.toList y.1.nm.toList with
          | true =>
            have HLT := hide hlt3
            go_wp2_with fail
            go_quiet (fail)
            have HROW5 := hide (HROW3.out.below (below_drewN (Below.refl wr.heap.size wr) nq))
            have HB5 := hide (below_drewN HB3.out nq)
            have x0' : (wr.drewN nq).cell? ⟨g, (m + 1) * 3, none⟩ = some (.string d.nm) := x0
            have x1' : (wr.drewN nq).cell? ⟨g, (m + 1) * 3 + 1, none⟩ = some (.string d.t.name) := x1
            have x2' : (wr.drewN nq).cell? ⟨g, (m + 1) * 3 + 2, none⟩ = some (.slice a' d.t.args.length c') := x2
            have y0' : (wr.drewN nq).cell? ⟨g, m * 3, none⟩ = some (.string y.1.nm) := y0
            have y1' : (wr.drewN nq).cell? ⟨g, m * 3 + 1, none⟩ = some (.string y.1.t.name) := y1
            have y2' : (wr.drewN nq).cell? ⟨g, m * 3 + 2, none⟩ = some (.slice y.2.1 y.1.t.args.length y.2.2) := y2
            have xf' : ∀ j, (wr.drewN nq).frozen? ⟨g, j, none⟩ = false := xf
            have hg5 : g < (wr.drewN nq).heap.size := cell_lt x0'
            clear x0 x1 x2 y0 y1 y2 xf hlt3
            generalize wr.drewN nq = w5 at *
            go_wp2_with fail
            go_roundw
            case rel =>
              have hr := (HROW5.out.swap fun b h => h.2).below ((Below.refl _ _).alloc (Nat.le_refl _) (.cells #[.string d.nm, .string d.t.name, .slice a' d.t.args.length c'] 55))
              rw [HMA.out] at hr
              have hbb := (put3_below (i := m) (y := (d, a', c')) (put3_below (i := m + 1) (y := y) HB5.out hgw) hgw).alloc (by rw [put3_size, put3_size]; exact HB5.out.size) (.cells #[.string d.nm, .string d.t.name, .slice a' d.t.args.length c'] 55)
              simp only [put3] at hr hbb
              refine ⟨A', y :: B, by rw [HMA.out], by have := HAB.out; simpa using this, fun b hb => ?_, hr, hbb⟩
              rcases List.mem_cons.1 hb with rfl | hb
              · exact HLT.out
              · exact HBX.out b hb
            case measure => simp [intOf]
          | false =>
            have HLT := hide hlt3
            go_wp2_with fail
            go_quiet (fail)
            go_wp2_with fail
            go_roundw
            case rel => exact ⟨k + 1, (A' ++ [y]) ++ (d, a', c') :: B, by go_num, by omega, HROW3.out.below (below_drewN (Below.refl _ _) _), ins_perm HAB.out HP1.out, weak_ins (by rw [HAB.out]; exact HW.out) HBX.out (weak_last (by rw [HAB.out]; exact HW.out) HLT.out), below_drewN HB3.out _⟩
            case measure => simp [intOf]; omega
    · go_wp2_with fail
      go_ret
      exact ⟨u3, cs, rfl, HROW.out, by have h := HP.out; rwa [List.take_of_length_le (by omega)] at h, HW.out, HB.out⟩
#print axioms sorted_any
end Go.Proofs.Ytpjdkdebjkpmmab

/- Walks: one behind the other, as the document says. -/
namespace Go.Proofs.Ytpjdkdebjkpmmab
open Go.RowKit
set_option linter.unusedSimpArgs false
set_option linter.unusedVariables false
set_option maxRecDepth 8000

/-- A binding with another list of them in its term, as the document says. -/
def onB (rs : List Bd) (d : Bd) : Bd := ⟨d.nm, onT rs d.t⟩
def fullO (ls rs : List Bd) : Bool := ls.any fun d => decide (2000 < sizeL [onT rs d.t])
theorem fullO_yes {ls rs : List Bd} {k : Nat} (h : k < ls.length) (h0 : 2000 < sizeL [onT rs ls[k].t]) : fullO ls rs = true := by
  unfold fullO
  rw [List.any_eq_true]
  exact ⟨ls[k], List.getElem_mem h, by simpa using h0⟩
def fstO (ls rs : List Bd) : List Bd := (ls.map (onB rs)).filter keepB
def sndO (ls rs : List Bd) : List Bd := rs.filter fun d => (forT ls d.nm).isNone && keepB d
theorem fstO_take {ls rs : List Bd} {k : Nat} (h : k < ls.length) : fstO (ls.take (k + 1)) rs = fstO (ls.take k) rs ++ (if keepB (onB rs ls[k]) = true then [onB rs ls[k]] else []) := by
  unfold fstO
  rw [List.take_succ_eq_append_getElem h, List.map_append, List.filter_append]
  congr 1
  simp only [List.map_cons, List.map_nil, List.filter_cons, List.filter_nil]
theorem sndO_take {ls rs : List Bd} {k : Nat} (h : k < rs.length) : sndO ls (rs.take (k + 1)) = sndO ls (rs.take k) ++ (if ((forT ls rs[k].nm).isNone && keepB rs[k]) = true then [rs[k]] else []) := by
  unfold sndO
  rw [List.take_succ_eq_append_getElem h, List.filter_append]
  congr 1
  simp only [List.filter_cons, List.filter_nil]

theorem fstO_len (ls rs : List Bd) : (fstO ls rs).length ≤ ls.length := by
  unfold fstO
  have := List.length_filter_le keepB (ls.map (onB rs))
  simpa using this
theorem sndO_len (ls rs : List Bd) : (sndO ls rs).length ≤ rs.length := List.length_filter_le _ _

def O1Inv (w : World) (Y : Nat → Prop) (ls rs : List Bd) (u v : Value) (wr : World) : Prop :=
  ∃ (k : Nat) (cs : List Bc), v = .int .i64 (k : Int) ∧ k ≤ ls.length ∧ BRow wr w.heap.size Y u cs ∧ cs.map (·.1) = fstO (ls.take k) rs ∧ (∀ d ∈ ls.take k, sizeL [onT rs d.t] ≤ 2000) ∧ Below w.heap.size w wr
def O2Inv (w : World) (Y : Nat → Prop) (ls rs : List Bd) (u v : Value) (wr : World) : Prop :=
  ∃ (k : Nat) (cs : List Bc), v = .int .i64 (k : Int) ∧ k ≤ rs.length ∧ BRow wr w.heap.size Y u cs ∧ cs.map (·.1) = fstO ls rs ++ sndO ls (rs.take k) ∧ Below w.heap.size w wr
def OPost (w : World) (ls rs : List Bd) (Y : Nat → Prop) (e : Ending) (w' : World) : Prop :=
  Below w.heap.size w w' ∧ ((fullO ls rs = true ∧ e = .returned (.tuple #[.slice none 0 0, .int .i64 8])) ∨ (fullO ls rs = false ∧ ∃ v l', e = .returned (.tuple #[v, .int .i64 0]) ∧ BV w' Y v l' ∧ l'.Perm (fstO ls rs ++ sndO ls rs) ∧ l'.Pairwise fun a b => ltB b.nm a.nm = false))

set_option maxHeartbeats 2000000 in
theorem thenOf_any (ls rs : List Bd) (u v : Value) (w : World) (X : Nat → Prop) (hu : BV w X u ls) (hv : BV w X v rs) (hn : ls.length ≤ 1000) (hm : rs.length ≤ 1000) (hsz : ∀ d ∈ ls, sizeL [d.t] ≤ 1000000) :
    Calls Try.prog 40 #[u, v] w fun e w' => OPost w ls rs (fun b => (X b ∧ b < w.heap.size) ∨ w.heap.size ≤ b) e w' := by
  have HU := hide (hu.mono (Y := fun b => X b ∧ b < w.heap.size) fun b h1 h2 => ⟨h1, h2⟩)
  have HV := hide (hv.mono (Y := fun b => X b ∧ b < w.heap.size) fun b h1 h2 => ⟨h1, h2⟩)
  obtain ⟨a, c, rfl, hl, _⟩ := hu
  obtain ⟨a2, c2, rfl, hl2, _⟩ := hv
  go_enter Try.func40, Try.ntmps40
  go_wp2_with fail
  go_loopw [6, 7] (fun u v wr => O1Inv w (fun b => X b ∧ b < w.heap.size) ls rs u v wr) (fun u v wr => ls.length - (intOf v).toNat)
  case atStart => exact ⟨0, [], rfl, Nat.zero_le _, BRow.start _ _ _, by simp [fstO], by simp, Below.refl _ _⟩
  case round =>
    obtain ⟨k, cs, rfl, hk, hrow, hcs, hfu, hb⟩ := hrel
    have HROW := hide hrow
    have HCS := hide hcs
    have HFU := hide hfu
    have HB := hide hb
    clear hrow hcs hfu
    by_cases hlt : k < ls.length
    · obtain ⟨b, o, a', c', rfl, d0, d1, d2, hs⟩ := (HU.out.later hb).get k hlt
      have hlt2 : (k : Int) < (ls.length : Int) := by omega
      have HS := hide hs
      have HSK := hide (hsz ls[k] (List.getElem_mem hlt))
      clear hb hs
      go_wp2_with fail
      refine (onAll_any rs ls[k].t _ _ wr _ (HV.out.later HB.out) ⟨_, _, rfl, HS.out⟩ HSK.out).mono ?_
      rintro e w1 ⟨hb1, hc1⟩
      have HB1 := hide (HB.out.trans (hb1.mono HB.out.size))
      have HROW1 := hide (HROW.out.below hb1)
      have HBR1 := hide hb1
      have d0' := cell_later hb1 d0
      have hz1 := hb1.size
      clear hb1 d0 d1 d2
      rcases hc1 with ⟨hbig, rfl⟩ | ⟨hle, a5, c5, rfl, hsl⟩
      · have HF := hide (fullO_yes (rs := rs) hlt hbig)
        go_wp2_with fail
        refine bodyPost_ret (v := .tuple #[.slice none 0 0, .int .i64 8]) (by simp [results, Try.results40, go_sem]) rfl ?_
        exact ⟨HB1.out.alloc HB1.out.size _, Or.inl ⟨HF.out, rfl⟩⟩
      · have HSL := hide hsl
        clear hsl
        have HFU1 : Hid (∀ d ∈ ls.take (k + 1), sizeL [onT rs d.t] ≤ 2000) := fun d hd => by
          rw [List.take_succ_eq_append_getElem hlt] at hd
          rcases List.mem_append.1 hd with hd | hd
          · exact HFU.out d hd
          · have e : d = ls[k] := by simpa using hd
            rw [e]; exact hle
        have HTK := hide (fstO_take (rs := rs) hlt)
        have hcl : cs.length ≤ 1000000 := by
          have h1 := congrArg List.length HCS.out
          have h2 := fstO_len (ls.take k) rs
          rw [List.length_map] at h1
          rw [List.length_take] at h2
          omega
        generalize ls[k] = d at *
        go_wp2_with fail
        have P2 := hide (Blk.new w1 #[.string (onT rs d.t).name, .slice a5 (onT rs d.t).args.length c5] 29)
        have hbA : Below w1.heap.size w1 (w1.alloc (.cells #[.string (onT rs d.t).name, .slice a5 (onT rs d.t).args.length c5] 29)) := (Below.refl _ _).alloc (Nat.le_refl _) _
        have HB2 := hide (HB1.out.trans (hbA.mono HB1.out.size))
        have HROW2 := hide (HROW1.out.below hbA)
        have HBR2 := hide (HBR1.out.trans (hbA.mono HBR1.out.size))
        have HSL2 := hide (HSL.out.later hbA)
        have d0'' := cell_later hbA d0'
        have p0 := P2.out.cell 0
        have p1 := P2.out.cell 1
        clear hbA d0'
        generalize w1.alloc (.cells #[.string (onT rs d.t).name, .slice a5 (onT rs d.t).args.length c5] 29) = w2 at *
        generalize w1.heap.size = P at *
        cases hkp : ((onT rs d.t).name.toList == d.nm.toList) with
        | true =>
          have HN : Hid (cs.map (·.1) = fstO (ls.take (k + 1)) rs) := by
            unfold Hid
            rw [HTK.out, if_neg (by simp [keepB, onB, hkp]), List.append_nil]; exact HCS.out
          go_quiet (fail)
          go_wp2_with fail
          go_roundw
          case rel => exact ⟨k + 1, cs, by go_num, by omega, HROW2.out.below (below_drewN (Below.refl _ _) _), HN.out, HFU1.out, below_drewN HB2.out _⟩
          case measure => simp [intOf]; omega
        | false =>
          have HN : Hid ((cs ++ [(onB rs d, a5, c5)]).map (·.1) = fstO (ls.take (k + 1)) rs) := by
            unfold Hid
            rw [HTK.out, if_pos (by simp [keepB, onB, hkp]), List.map_append, HCS.out]; rfl
          go_quiet (fail)
          have d3 : (w2.drewN nq).cell? ⟨b, o + k * 3, none⟩ = some (.string d.nm) := d0''
          have q0 : (w2.drewN nq).cell? ⟨P, 0, none⟩ = some (.string (onT rs d.t).name) := p0
          have q1 : (w2.drewN nq).cell? ⟨P, 1, none⟩ = some (.slice a5 (onT rs d.t).args.length c5) := p1
          have HROW3 := hide (HROW2.out.below (below_drewN (Below.refl _ _) nq))
          have HSL3 := hide (HSL2.out.later (below_drewN (Below.refl _ _) nq))
          have HB3 := hide (below_drewN HB2.out nq)
          have HBR3 := hide (below_drewN HBR2.out nq)
          clear d0'' p0 p1
          generalize w2.drewN nq = w3 at *
          obtain ⟨i0, hi, hz0, hzz1, hzz2⟩ := info_parts Try.infoBind
          go_wp2_with fail
          go_region_law (refine step_append_lies _ rfl _ _ 23 rfl w.heap.size 55 i0 _ 3 56 Try.underlying23 hi hz0 hzz1 hzz2 rfl (by decide) u6 cs.length (flat3 cs) rfl (by exact (HROW3.out.below (below_drewN (Below.refl _ _) 1)).own.alloc _) ⟨w3.heap.size, 0, none⟩ 1 1 (enc3 (onB rs d, a5, c5)) rfl rfl (cell_three_new _ _ _ _ _) (fun x hx => by simp [enc3] at hx; rcases hx with rfl | rfl | rfl <;> rfl) (by decide) (by unfold maxLen; omega) (by omega) (by have := HB3.out.size; simp; omega) _ rfl ?_; intro g cap w4 hown4 hgrow4 hat4 hlt4)
          all_goals
            have HR4 := hide (HROW.out.push (w1 := w3.drew) (x := (onB rs d, a5, c5)) HB.out.size (fun b h => h.2) (below_drewN HBR3.out 1) ((HSL3.out.later (below_drewN (Below.refl _ _) 1)).mono fun b hb _ => by rcases hb with hb | hb; exact Or.inl ⟨hb.1.1, hb.1.2⟩; exact Or.inr (by omega)) _ rfl hown4 hgrow4 hat4)
            have HB4 : Hid (Below w.heap.size w w4) := ((below_drewN HB3.out 1).alloc (by have := HB3.out.size; simp; omega) _).grown hgrow4 (by have := HB3.out.size; simp; omega) (fun j hj => by have := (HROW3.out.own.lt j hj).1; omega)
            clear hown4 hgrow4 hat4 hlt4
            go_wp2_with fail
            go_roundw
            case rel => exact ⟨k + 1, cs ++ [(onB rs d, a5, c5)], by go_num, by omega, HR4.out, HN.out, HFU1.out, HB4.out⟩
            case measure => simp [intOf]; omega
    · have htk : ls.take k = ls := List.take_of_length_le (by omega)
      have HFN : Hid (fullO ls rs = false) := by
        have h := HFU.out
        rw [htk] at h
        unfold Hid fullO
        rw [List.any_eq_false]
        intro d hd
        have := h d hd
        simp; omega
      have HCS0 : Hid (cs.map (·.1) = fstO ls rs) := by have h := HCS.out; rw [htk] at h; exact h
      clear htk hb
      go_wp2_with fail
      go_loopw [6, 10] (fun u v wr => O2Inv w (fun b => X b ∧ b < w.heap.size) ls rs u v wr) (fun u v wr => rs.length - (intOf v).toNat)
      case atStart => exact ⟨0, cs, rfl, Nat.zero_le _, HROW.out, by rw [HCS0.out]; simp [sndO], HB.out⟩
      case round =>
        obtain ⟨k', cs', rfl, hk', hrow', hcs', hb'⟩ := hrel
        have HROW' := hide hrow'
        have HCS' := hide hcs'
        have HB' := hide hb'
        have hcl : cs'.length ≤ 1000000 := by
          have h1 := congrArg List.length hcs'
          have h2 := fstO_len ls rs
          have h3 := sndO_len ls (rs.take k')
          rw [List.length_map, List.length_append] at h1
          rw [List.length_take] at h3
          omega
        clear hrow' hcs'
        by_cases hlt' : k' < rs.length
        · obtain ⟨b, o, a', c', rfl, d0, d1, d2, hs⟩ := (HV.out.later hb').get k' hlt'
          have hlt2 : (k' : Int) < (rs.length : Int) := by omega
          have HS := hide hs
          have HTK := hide (sndO_take (ls := ls) hlt')
          clear hb' hs
          generalize rs[k'] = d at *
          go_wp2_with fail
          refine (for_any ls d.nm _ wr _ (HU.out.later HB'.out)).mono ?_
          rintro e w1 ⟨hb1, hc1⟩
          have HB1 := hide (HB'.out.trans (hb1.mono HB'.out.size))
          have HROW1 := hide (HROW'.out.below hb1)
          have e0 := cell_later hb1 d0
          have e1 := cell_later hb1 d1
          have e2 := cell_later hb1 d2
          have HS1 := hide (HS.out.later hb1)
          have hz1 := hb1.size
          clear hb1 d0 d1 d2
          rcases hc1 with ⟨x, ax, cx, hf, rfl, hsx⟩ | ⟨hf, rfl⟩
          · have HN : Hid (cs'.map (·.1) = fstO ls rs ++ sndO ls (rs.take (k' + 1))) := by
              unfold Hid
              rw [HTK.out, if_neg (by rw [hf]; simp), List.append_nil]; exact HCS'.out
            clear hf hsx
            go_wp2_with fail
            go_quiet (fail)
            go_wp2_with fail
            go_roundw
            case rel => exact ⟨k' + 1, cs', by go_num, by omega, (HROW1.out.below ((Below.refl _ _).alloc (Nat.le_refl _) _)).below (below_drewN (Below.refl _ _) _), HN.out, below_drewN (HB1.out.alloc HB1.out.size _) _⟩
            case measure => simp [intOf]; omega
          · have hbA : Below w1.heap.size w1 (w1.alloc (.cells #[.string ⟨#[]⟩, .slice none 0 0] 29)) := (Below.refl _ _).alloc (Nat.le_refl _) _
            have HB2 := hide (HB1.out.trans (hbA.mono HB1.out.size))
            have HROW2 := hide (HROW1.out.below hbA)
            have HS2 := hide (HS1.out.later hbA)
            have f0 := cell_later hbA e0
            have f1 := cell_later hbA e1
            have f2 := cell_later hbA e2
            clear hbA e0 e1 e2
            cases hkp : (d.t.name.toList == d.nm.toList) with
            | true =>
              have HN : Hid (cs'.map (·.1) = fstO ls rs ++ sndO ls (rs.take (k' + 1))) := by
                unfold Hid
                rw [HTK.out, if_neg (by simp [keepB, hkp]), List.append_nil]; exact HCS'.out
              clear hf
              go_wp2_with fail
              generalize w1.alloc (.cells #[.string ⟨#[]⟩, .slice none 0 0] 29) = w2 at *
              go_quiet (fail)
              go_wp2_with fail
              go_roundw
              case rel => exact ⟨k' + 1, cs', by go_num, by omega, HROW2.out.below (below_drewN (Below.refl _ _) _), HN.out, below_drewN HB2.out _⟩
              case measure => simp [intOf]; omega
            | false =>
              have HN : Hid ((cs' ++ [(d, a', c')]).map (·.1) = fstO ls rs ++ sndO ls (rs.take (k' + 1))) := by
                unfold Hid
                rw [HTK.out, if_pos (by simp [keepB, hkp, hf]), List.map_append, HCS'.out, List.append_assoc]; rfl
              clear hf
              go_wp2_with fail
              generalize w1.alloc (.cells #[.string ⟨#[]⟩, .slice none 0 0] 29) = w2 at *
              go_quiet (fail)
              have g0 : (w2.drewN nq).cell? ⟨b, o + k' * 3, none⟩ = some (.string d.nm) := f0
              have g1 : (w2.drewN nq).cell? ⟨b, o + k' * 3 + 1, none⟩ = some (.string d.t.name) := f1
              have g2 : (w2.drewN nq).cell? ⟨b, o + k' * 3 + 2, none⟩ = some (.slice a' d.t.args.length c') := f2
              have HROW3 := hide (HROW2.out.below (below_drewN (Below.refl _ _) nq))
              have HS3 := hide (HS2.out.later (below_drewN (Below.refl _ _) nq))
              have HB3 := hide (below_drewN HB2.out nq)
              clear f0 f1 f2
              generalize w2.drewN nq = w3 at *
              obtain ⟨v4, w4, hrun, hB4, hg4⟩ := binds_append HROW3.out HB3.out.size (fun b h => h.2) (Below.refl w3.heap.size w3) (d, a', c') (HS3.out.mono fun b h _ => Or.inl h) hcl w3.heap.size rfl
              have HRUN := hide hrun
              have HB4 := hide hB4
              have HBW : Hid (Below w.heap.size w w4) := (HB3.out.alloc HB3.out.size _).grown hg4 (by have := HB3.out.size; simp; omega) (fun j hj => by have := (HROW3.out.own.lt j hj).1; omega)
              clear hrun hB4 hg4
              go_wp2_with (at_builtin; refine wpList_append_eq rfl _ _ _ _ rfl rfl rfl HRUN.out ?_)
              go_roundw
              case rel => exact ⟨k' + 1, _, by go_num, by omega, HB4.out, HN.out, HBW.out⟩
              case measure => simp [intOf]; omega
        · have htk : rs.take k' = rs := List.take_of_length_le (by omega)
          have HCF : Hid (cs'.map (·.1) = fstO ls rs ++ sndO ls rs) := by have h := HCS'.out; rw [htk] at h; exact h
          clear htk hb'
          go_wp2_with fail
          refine (sorted_any (cs'.map (·.1)) _ wr _ HROW'.out.bv (by simpa using hcl)).mono ?_
          rintro e w5 ⟨v5, cs5, rfl, hr5, hp5, hw5, hb5⟩
          have HR5 := hide hr5
          have HP5 := hide hp5
          have HW5 := hide hw5
          have HB5 := hide (HB'.out.trans (hb5.mono HB'.out.size))
          have hzz := HB'.out.size
          clear hr5 hp5 hw5 hb5
          go_wp2_with fail
          refine bodyPost_ret (v := .tuple #[v5, .int .i64 0]) (by simp [results, Try.results40, go_sem]) rfl ?_
          refine ⟨HB5.out, Or.inr ⟨HFN.out, v5, cs5.map (·.1), rfl, HR5.out.bv.mono fun b hb _ => ?_, by rw [← HCF.out]; exact HP5.out, List.pairwise_map.2 (show cs5.Pairwise (fun a b => ltB b.1.nm a.1.nm = false) from HW5.out)⟩⟩
          rcases hb with ⟨hb, _⟩ | hb
          · exact hb
          · exact Or.inr (by omega)
#print axioms thenOf_any
end Go.Proofs.Ytpjdkdebjkpmmab

/- The law on one list of bindings behind another: it answers true. -/
namespace Go.Proofs.Ytpjdkdebjkpmmab
open Go.RowKit
set_option linter.unusedSimpArgs false
set_option linter.unusedVariables false
set_option maxRecDepth 8000

/-- What the program and the document make is the same. -/
theorem onB_fB {ls rs : List Bd} (h1 : bindsE ls = 0) (h2 : bindsE rs = 0) {d : Bd} (hd : d ∈ ls) : onB rs d = fB rs d := by
  obtain ⟨k, hk, rfl⟩ := List.getElem_of_mem hd
  unfold onB fB
  rw [fT_onT h2 _ (bindsE_at h1 k hk).2]
theorem fullO_eq {ls rs : List Bd} (h1 : bindsE ls = 0) (h2 : bindsE rs = 0) : fullO ls rs = fullB ls rs := by
  unfold fullO fullB
  rw [Bool.eq_iff_iff, List.any_eq_true, List.any_eq_true]
  have key : ∀ d ∈ ls, onT rs d.t = fT rs d.t := fun d hd => congrArg Bd.t (onB_fB h1 h2 hd)
  constructor
  · rintro ⟨d, hd, h⟩
    exact ⟨d, hd, by rw [← key d hd]; exact h⟩
  · rintro ⟨d, hd, h⟩
    exact ⟨d, hd, by rw [key d hd]; exact h⟩
theorem thenO_eq {ls rs : List Bd} (h1 : bindsE ls = 0) (h2 : bindsE rs = 0) : fstO ls rs ++ sndO ls rs = (bothB ls rs).filter keepB := by
  unfold fstO sndO bothB
  rw [List.filter_append, List.filter_filter]
  congr 1
  · congr 1
    exact List.map_congr_left fun d hd => onB_fB h1 h2 hd
  · exact List.filter_congr fun d _ => Bool.and_comm _ _
theorem bothB_apart {ls rs : List Bd} (h1 : bindsE ls = 0) (h2 : bindsE rs = 0) : ApartB (bothB ls rs) := by
  unfold bothB
  refine List.pairwise_append.2 ⟨List.pairwise_map.2 (bindsE_sorted h1).apart, (bindsE_sorted h2).apart.sublist List.filter_sublist, fun a ha b hb e => ?_⟩
  obtain ⟨d, hd, rfl⟩ := List.mem_map.1 ha
  obtain ⟨_, hf⟩ := List.mem_filter.1 hb
  obtain ⟨t, ht⟩ := forT_some_of hd
  have e2 : d.nm = b.nm := e
  rw [← e2, ht] at hf
  cases hf
theorem then_eq {ls rs l1 l2 : List Bd} (h1 : bindsE ls = 0) (h2 : bindsE rs = 0) (p1 : l1.Perm ((bothB ls rs).filter keepB)) (s1 : SortedB l1) (p2 : l2.Perm (fstO ls rs ++ sndO ls rs)) (s2 : l2.Pairwise fun a b => ltB b.nm a.nm = false) : l1 = l2 := by
  rw [thenO_eq h1 h2] at p2
  refine sortedB_unique (p1.trans p2.symm) s1 (sortedB_of ?_ s2)
  exact ApartB.perm (show ApartB ((bothB ls rs).filter keepB) from (bothB_apart h1 h2).sublist List.filter_sublist) p2

set_option maxHeartbeats 1000000 in
theorem substThen_any (ls rs : List Bd) (u v : Value) (w : World) (X0 : Nat → Prop) (hu0 : BV w X0 u ls) (hv0 : BV w X0 v rs) :
    Calls Try.prog 12 #[u, v] w fun e w' => e = .returned (.bool true) ∧ Below w.heap.size w w' := by
  obtain ⟨X, hX, hu, hv⟩ : ∃ X : Nat → Prop, (∀ b, X b → b < w.heap.size) ∧ BV w X u ls ∧ BV w X v rs := ⟨fun b => X0 b ∧ b < w.heap.size, fun _ h => h.2, hu0.mono fun b h1 h2 => ⟨h1, h2⟩, hv0.mono fun b h1 h2 => ⟨h1, h2⟩⟩
  clear hu0 hv0
  have HV := hide hv
  have HU := hide hu
  clear hv hu
  go_enter Try.func12, Try.ntmps12
  go_wp2_with fail
  refine (hugeBinds_any ls u w X HU.out).mono ?_
  rintro e w1 ⟨rfl, hb1⟩
  have HB1 := hide hb1
  clear hb1
  cases hh : hugeB ls with
  | true =>
    clear hh
    go_wp2_with fail
    go_ret
    exact ⟨rfl, HB1.out⟩
  | false =>
    have HH := hide (hugeB_no hh)
    clear hh
    go_wp2_with fail
    refine (hugeBinds_any rs v w1 X (HV.out.later HB1.out)).mono ?_
    rintro e w2 ⟨rfl, hb2⟩
    have HB2 := hide (HB1.out.trans (hb2.mono HB1.out.size))
    clear hb2
    cases hh2 : hugeB rs with
    | true =>
      clear hh2
      go_wp2_with fail
      go_ret
      exact ⟨rfl, HB2.out⟩
    | false =>
      have HH2 := hide (hugeB_no hh2)
      clear hh2
      go_wp2_with fail
      refine (bindsMay_any ls u w2 X (HU.out.later HB2.out)).mono ?_
      rintro e w3 ⟨rfl, hb3⟩
      have HB3 := hide (HB2.out.trans (hb3.mono HB2.out.size))
      clear hb3
      by_cases hE : bindsE ls = 0
      case neg =>
        have hE2 : (bindsE ls == 0) = false := by simpa using hE
        have HE := hide hE
        clear hE
        go_wp2_with fail
        refine (then_any ls rs u v w3 X (HU.out.later HB3.out) (HV.out.later HB3.out)).mono ?_
        rintro e w5 ⟨hb5, hc⟩
        have HB5 := hide (HB3.out.trans (hb5.mono HB3.out.size))
        clear hb5
        rcases hc with ⟨_, rfl⟩ | ⟨h0, _⟩ | ⟨h0, _⟩ | ⟨h0, _⟩
        · go_wp2_with fail
          refine (binds2_err (bindsE ls) 0 _ w5 HE.out).mono ?_
          rintro e w6 ⟨rfl, rfl⟩
          go_wp2_with fail
          go_ret
          exact ⟨rfl, HB5.out⟩
        · exact absurd h0 HE.out
        · exact absurd h0 HE.out
        · exact absurd h0 HE.out
      have HE := hide hE
      rw [hE]
      clear hE
      go_wp2_with fail
      refine (bindsMay_any rs v w3 X (HV.out.later HB3.out)).mono ?_
      rintro e w4 ⟨rfl, hb4⟩
      have HB4 := hide (HB3.out.trans (hb4.mono HB3.out.size))
      clear hb4
      by_cases hE : bindsE rs = 0
      case neg =>
        have hE2 : (bindsE rs == 0) = false := by simpa using hE
        have HER := hide hE
        clear hE
        go_wp2_with fail
        refine (then_any ls rs u v w4 X (HU.out.later HB4.out) (HV.out.later HB4.out)).mono ?_
        rintro e w5 ⟨hb5, hc⟩
        have HB5 := hide (HB4.out.trans (hb5.mono HB4.out.size))
        clear hb5
        rcases hc with ⟨h0, _⟩ | ⟨_, _, rfl⟩ | ⟨_, h0, _⟩ | ⟨_, h0, _⟩
        · exact absurd HE.out h0
        · go_wp2_with fail
          refine (binds2_err (bindsE rs) 0 _ w5 HER.out).mono ?_
          rintro e w6 ⟨rfl, rfl⟩
          go_wp2_with fail
          go_ret
          exact ⟨rfl, HB5.out⟩
        · exact absurd h0 HER.out
        · exact absurd h0 HER.out
      have HER := hide hE
      rw [hE]
      clear hE
      go_wp2_with fail
      refine (thenOf_any ls rs u v w4 X (HU.out.later HB4.out) (HV.out.later HB4.out) (by have := HH.out.1; omega) (by have := HH2.out.1; omega) (fun d hd => by have := HH.out.2 d hd; omega)).mono ?_
      rintro e w5 ⟨hb5, hc5⟩
      have HB5 := hide (HB4.out.trans (hb5.mono HB4.out.size))
      clear hb5
      rcases hc5 with ⟨hfu, rfl⟩ | ⟨hfu, v5, l5, rfl, hbv5, hp5, hs5⟩
      · have HFU := hide hfu
        clear hfu
        go_wp2_with fail
        refine (then_any ls rs u v w5 X (HU.out.later HB5.out) (HV.out.later HB5.out)).mono ?_
        rintro e w6 ⟨hb6, hc⟩
        have HB6 := hide (HB5.out.trans (hb6.mono HB5.out.size))
        clear hb6
        rcases hc with ⟨h0, _⟩ | ⟨_, h0, _⟩ | ⟨_, _, _, rfl⟩ | ⟨_, _, h0, _⟩
        · exact absurd HE.out h0
        · exact absurd HER.out h0
        · go_wp2_with fail
          refine (binds2_err 8 0 _ w6 (by decide)).mono ?_
          rintro e w7 ⟨rfl, rfl⟩
          go_wp2_with fail
          go_ret
          exact ⟨rfl, HB6.out⟩
        · rw [← fullO_eq HE.out HER.out, HFU.out] at h0; cases h0
      · have HFU := hide hfu
        have HBV5 := hide hbv5
        have HP5 := hide hp5
        have HS5 := hide hs5
        clear hfu hbv5 hp5 hs5
        go_wp2_with fail
        refine (then_any ls rs u v w5 X (HU.out.later HB5.out) (HV.out.later HB5.out)).mono ?_
        rintro e w6 ⟨hb6, hc⟩
        have HB6 := hide (HB5.out.trans (hb6.mono HB5.out.size))
        have HBV6 := hide (HBV5.out.later hb6)
        clear hb6
        rcases hc with ⟨h0, _⟩ | ⟨_, h0, _⟩ | ⟨_, _, h0, _⟩ | ⟨_, _, _, v6, l6, rfl, hbv6, hp6, hs6⟩
        · exact absurd HE.out h0
        · exact absurd HER.out h0
        · rw [← fullO_eq HE.out HER.out, HFU.out] at h0; cases h0
        · have e := then_eq HE.out HER.out hp6 hs6 HP5.out HS5.out
          subst e
          have HX6 := hide hbv6
          clear hbv6 hp6 hs6
          go_wp2_with fail
          refine (binds2_ok l6 v6 v5 w6 _ _ HX6.out HBV6.out).mono ?_
          rintro e w7 ⟨rfl, hb7⟩
          have HB7 := hide (HB6.out.trans (hb7.mono HB6.out.size))
          clear hb7
          go_wp2_with fail
          go_ret
          exact ⟨rfl, HB7.out⟩
#print axioms substThen_any
end Go.Proofs.Ytpjdkdebjkpmmab

/- The law on bindings made of raw numbers: it answers true. -/
namespace Go.Proofs.Ytpjdkdebjkpmmab
open Go.RowKit
set_option linter.unusedSimpArgs false
set_option linter.unusedVariables false
set_option maxRecDepth 8000

set_option maxHeartbeats 400000 in
theorem substMade_any (zs : List Int) (hr : ∀ z ∈ zs, Rng z) (y y2 : Int) (hy : Rng y) (hy2 : Rng y2) (u : Value) (w : World) (X : Nat → Prop) (hu : PV w X u zs) :
    Calls Try.prog 3 #[u, .int .i64 y, .int .i64 y2] w fun e w' => e = .returned (.bool true) ∧ Below w.heap.size w w' := by
  have HU := hide hu
  obtain ⟨a, c, rfl, hlc, hu2⟩ := hu
  clear hu2
  by_cases h256 : 256 < zs.length
  · go_enter Try.func3, Try.ntmps3
    go_wp2_with fail
    go_ret
    exact ⟨rfl, Below.refl _ _⟩
  · go_enter Try.func3, Try.ntmps3
    go_wp2_with fail
    refine (pick_any _ 9 (by decide) (by decide) hy _).mono ?_
    rintro e w1 ⟨k1, rfl, hk1, rfl⟩
    go_wp2_with fail
    refine (bindsFrom_any 4 (by decide) (by decide) zs hr (by omega) k1 0 _ _ X HU.out (by omega) (by unfold top; split <;> omega)).mono ?_
    rintro e w2 ⟨v2, l2, rfl, hv2, _, _, hb2⟩
    have B2 := hide hb2
    have V2 := hide hv2
    clear hb2 hv2
    go_wp2_with fail
    refine (pick_any _ 9 (by decide) (by decide) hy2 _).mono ?_
    rintro e w3 ⟨k3, rfl, hk3, rfl⟩
    go_wp2_with fail
    refine (bindsFrom_any 4 (by decide) (by decide) zs hr (by omega) k3 40 _ _ X (HU.out.later B2.out) (by omega) (by unfold top; split <;> omega)).mono ?_
    rintro e w4 ⟨v4, l4, rfl, hv4, _, _, hb4⟩
    have B4 := hide (B2.out.trans (hb4.mono B2.out.size))
    have V24 := hide ((V2.out.later hb4).mono (Y := fun _ => True) fun _ _ _ => trivial)
    have V4 := hide (hv4.mono (Y := fun _ => True) fun _ _ _ => trivial)
    clear hb4 hv4
    go_wp2_with fail
    refine (termOf_any 4 (by decide) (by decide) zs hr (by omega) 12 80 _ _ X (HU.out.later B4.out) (by omega) (by unfold top; split <;> omega)).mono ?_
    rintro e w5 ⟨t5, a5, c5, rfl, hs5, _, hb5, _⟩
    have B5 := hide (B4.out.trans (hb5.mono B4.out.size))
    have V25 := hide (V24.out.later hb5)
    have V45 := hide (V4.out.later hb5)
    have S5 := hide (hs5.mono (Y := fun _ => True) fun _ _ _ => trivial)
    clear hb5 hs5
    go_wp2_with fail
    refine (substSays_any l2 t5 _ _ w5 (fun _ => True) V25.out ⟨_, _, rfl, S5.out⟩).mono ?_
    rintro e w6 ⟨rfl, hb6⟩
    have B6 := hide (B5.out.trans (hb6.mono B5.out.size))
    have V26 := hide (V25.out.later hb6)
    have V46 := hide (V45.out.later hb6)
    clear hb6
    go_wp2_with fail
    refine (substThen_any l2 l4 _ _ w6 (fun _ => True) V26.out V46.out).mono ?_
    rintro e w7 ⟨rfl, hb7⟩
    have B7 := hide (B6.out.trans (hb7.mono B6.out.size))
    have V27 := hide (V26.out.later hb7)
    have V47 := hide (V46.out.later hb7)
    clear hb7
    go_wp2_with fail
    refine (substThen_any l4 l2 _ _ w7 (fun _ => True) V47.out V27.out).mono ?_
    rintro e w8 ⟨rfl, hb8⟩
    have B8 := hide (B7.out.trans (hb8.mono B7.out.size))
    clear hb8
    go_wp2_with fail
    go_ret
    exact ⟨rfl, B8.out⟩
#print axioms substMade_any
end Go.Proofs.Ytpjdkdebjkpmmab

/- Terms and lists of numbers as they are read before the call. -/
namespace Go.Proofs.Ytpjdkdebjkpmmab
open Go.ChangeShapes Go.WideShapes Go.ChangeAt Go.RowKit
set_option linter.unusedSimpArgs false
set_option linter.unusedVariables false
set_option maxRecDepth 8000

theorem Try.cellsTerm : Try.prog.cellsOf 29 = 2 := by kernel_rfl
theorem Try.cellsStr : Try.prog.cellsOf 9 = 1 := by kernel_rfl
theorem Try.cellsSl : Try.prog.cellsOf 27 = 1 := by kernel_rfl
theorem Try.cellsInt : Try.prog.cellsOf 3 = 1 := by kernel_rfl

theorem cells2 {w : World} {a : Addr} {cs : List Value} (h : w.cells? 0 a 2 = some cs) : ∃ c0 c1, cs = [c0, c1] ∧ w.cell? a = some c0 ∧ w.cell? (a.add 1) = some c1 := by
  have e : (List.range 2) = [0, 1] := rfl
  simp only [World.cells?, Nat.zero_le, if_true, e] at h
  simp only [List.mapM_cons, List.mapM_nil, Option.bind_eq_bind, Option.bind_eq_some_iff, Option.pure_def] at h
  obtain ⟨c0, h0, r, ⟨c1, h1, r2, h2, h3⟩, h4⟩ := h
  simp only [Option.some.injEq] at h2 h3 h4
  subst h2; subst h3; subst h4
  exact ⟨c0, c1, rfl, by simpa [Addr.add] using h0, h1⟩

theorem cells1 {w : World} {a : Addr} {cs : List Value} (h : w.cells? 0 a 1 = some cs) : ∃ c0, cs = [c0] ∧ w.cell? a = some c0 := by
  have e : (List.range 1) = [0] := rfl
  simp only [World.cells?, Nat.zero_le, if_true, e] at h
  simp only [List.mapM_cons, List.mapM_nil, Option.bind_eq_bind, Option.bind_eq_some_iff, Option.pure_def] at h
  obtain ⟨c0, h0, r, h1, h2⟩ := h
  simp only [Option.some.injEq] at h1 h2
  subst h1; subst h2
  exact ⟨c0, rfl, by simpa [Addr.add] using h0⟩

theorem open_term {H : Type} {enc : TypeId × Value → H} {w : World} {sp : Nat → Bool} {held : Bool} : ∀ (fuel : Nat) (cs : List Value) (x : DataW H × List MemPlace), DataW.trod enc Try.prog w 0 sp held fuel 29 cs = some x →
    ∃ (t : Tm) (a : Option Addr) (c : Nat), cs = [.string t.name, .slice a t.args.length c] ∧ Sl w (fun _ => True) a t.args := by
  intro fuel
  induction fuel using Nat.strongRecOn with
  | ind fuel ih =>
    intro cs x h
    obtain ⟨xs, n, hfu, hx, hl, hxl, hf⟩ := DataW.trod_struct Try.underlying29 h
    have f0 := hf 0 _ rfl
    have f1 := hf 1 _ rfl
    rw [Try.cellsTerm] at hl
    match cs, hl with
    | [c0, c1], _ =>
      match xs, hxl with
      | [y0, y1], _ =>
        simp [Try.cellsStr, Try.cellsSl] at f0 f1
        obtain ⟨s, e0, _, hs⟩ := DataW.trod_string Try.underlying9 f0
        simp at e0
        subst e0
        rcases DataW.trod_slice Try.underlying27 f1 with ⟨e1, _⟩ | ⟨a, len, cap, elems, rest, n2, hn2, e1, _, hb, hlc, hcm, hel, helem, _⟩
        · simp at e1
          subst e1
          exact ⟨⟨s, []⟩, none, 0, rfl, by simp, Or.inl rfl⟩
        · simp at e1
          subst e1
          unfold maxLen at hcm
          rw [Try.cellsTerm] at helem
          have key : ∀ i, ∃ t : Tm, i < len → ∃ a' c', w.cell? (a.add (i * 2)) = some (.string t.name) ∧ w.cell? ((a.add (i * 2)).add 1) = some (.slice a' t.args.length c') ∧ Sl w (fun _ => True) a' t.args := by
            intro i
            by_cases hi : i < len
            · have h1 := helem i hi
              have hie : i < elems.length := by omega
              rw [List.getElem?_eq_getElem hie, Option.bind_eq_some_iff] at h1
              obtain ⟨cs', h2, h3⟩ := h1
              obtain ⟨d0, d1, rfl, g0, g1⟩ := cells2 h2
              obtain ⟨t, a', c', e3, hsl⟩ := ih n2 (by omega) _ _ h3
              simp at e3
              obtain ⟨rfl, rfl⟩ := e3
              exact ⟨t, fun _ => ⟨a', c', g0, g1, hsl⟩⟩
            · exact ⟨⟨s, []⟩, fun h => absurd h hi⟩
          obtain ⟨T, hT⟩ := Classical.skolem.1 key
          refine ⟨⟨s, (List.range len).map T⟩, some a, cap, by simp, by simp; omega, ?_⟩
          by_cases h0 : len = 0
          · subst h0; exact Or.inl rfl
          · right
            obtain ⟨b, o, sp⟩ := a
            obtain ⟨a0, c0, g0, _, _⟩ := hT 0 (by omega)
            have hsp : sp = none := by simpa [Addr.add] using World.cell?_spot g0
            subst hsp
            refine ⟨b, o, rfl, lies_mk _ _ _ fun i hi => ?_⟩
            simp at hi
            obtain ⟨a', c', g0, g1, hsl⟩ := hT i hi
            refine ⟨trivial, ?_, a', c', ?_, ?_⟩
            · simp only [List.getElem_map, List.getElem_range]
              by_cases h00 : i = 0
              · subst h00; simpa [Addr.add] using g0
              · have : i * 2 ≠ 0 := by omega
                simpa [Addr.add, this] using g0
            · simp only [List.getElem_map, List.getElem_range]
              by_cases h00 : i = 0
              · subst h00; simpa [Addr.add] using g1
              · have : i * 2 ≠ 0 := by omega
                simpa [Addr.add, this] using g1
            · simpa using hsl

theorem open_tv {H : Type} {enc : TypeId × Value → H} {w : World} {sp : Nat → Bool} {held : Bool} {r : Reach} {b0 : Nat} {v : Value} {d : DataW H} {p : List MemPlace} (hv : Value.okWide Try.prog w r b0 29 v) (h : DataW.Trod enc Try.prog w 0 sp held 29 v d p) : ∃ t, TV w (fun _ => True) v t := by
  obtain ⟨cs, rfl, hsz⟩ := okWide_struct Try.underlying29 hv
  obtain ⟨fuel, hf⟩ := h
  obtain ⟨t, a, c, e, hs⟩ := open_term fuel _ _ hf
  refine ⟨t, a, c, ?_, hs⟩
  simp [Value.cells] at e
  congr 1
  apply Array.ext'
  simpa using e

theorem open_pv {H : Type} {enc : TypeId × Value → H} {w : World} {sp : Nat → Bool} {held : Bool} {r : Reach} {b0 : Nat} {v : Value} {d : DataW H} {p : List MemPlace} (hv : Value.okWide Try.prog w r b0 22 v) (h : DataW.Trod enc Try.prog w 0 sp held 22 v d p) : ∃ zs, PV w (fun _ => True) v zs := by
  obtain ⟨a0, len0, cap0, rfl⟩ := okWide_slice Try.underlying22 hv
  obtain ⟨fuel, hf⟩ := h
  rcases DataW.trod_slice Try.underlying22 hf with ⟨e1, _⟩ | ⟨a, len, cap, elems, rest, n2, hn2, e1, _, hb, hlc, hcm, hel, helem, _⟩
  · simp [Value.cells] at e1
    obtain ⟨rfl, rfl, rfl⟩ := e1
    exact ⟨[], none, 0, rfl, by simp, Or.inl rfl⟩
  · simp [Value.cells] at e1
    obtain ⟨rfl, rfl, rfl⟩ := e1
    unfold maxLen at hcm
    rw [Try.cellsInt] at helem
    have key : ∀ i, ∃ z : Int, i < len0 → w.cell? (a.add i) = some (.int .i64 z) := by
      intro i
      by_cases hi : i < len0
      · have h1 := helem i hi
        have hie : i < elems.length := by omega
        rw [List.getElem?_eq_getElem hie, Option.bind_eq_some_iff, Nat.mul_one] at h1
        obtain ⟨cs', h2, h3⟩ := h1
        obtain ⟨d0, rfl, g0⟩ := cells1 h2
        obtain ⟨z, e3, _⟩ := DataW.trod_int Try.underlying3 h3
        simp at e3
        subst e3
        exact ⟨z, fun _ => g0⟩
      · exact ⟨0, fun h => absurd h hi⟩
    obtain ⟨Z, hZ⟩ := Classical.skolem.1 key
    refine ⟨(List.range len0).map Z, some a, cap0, by simp, by simp; omega, ?_⟩
    by_cases h0 : len0 = 0
    · subst h0; exact Or.inl rfl
    · right
      obtain ⟨b, o, sp⟩ := a
      have g0 := hZ 0 (by omega)
      have hsp : sp = none := by simpa [Addr.add] using World.cell?_spot g0
      subst hsp
      refine ⟨b, o, rfl, trivial, fun i hi => ?_⟩
      simp at hi
      have g1 := hZ i hi
      simp only [List.getElem_map, List.getElem_range]
      by_cases h00 : i = 0
      · subst h00; simpa [Addr.add] using g1
      · simpa [Addr.add, h00] using g1
#print axioms open_tv
#print axioms open_pv
end Go.Proofs.Ytpjdkdebjkpmmab

/- Lists of numbers as they are read before the call, with their bounds. -/
namespace Go.Proofs.Ytpjdkdebjkpmmab
open Go.ChangeShapes Go.WideShapes Go.ChangeAt Go.RowKit
set_option linter.unusedSimpArgs false
set_option linter.unusedVariables false
set_option maxRecDepth 8000

theorem rng_wf {n : Int} (h : (Lit.int .i64 n).wf = true) : Rng n := by
  have h1 : IntKind.i64.min = -9223372036854775808 := by decide
  have h2 : IntKind.i64.max = 9223372036854775807 := by decide
  simp only [Lit.wf, h1, h2, Bool.and_eq_true, decide_eq_true_eq] at h
  exact h

theorem open_int {H : Type} {enc : TypeId × Value → H} {w : World} {sp : Nat → Bool} {held : Bool} {r : Reach} {b0 : Nat} {v : Value} {d : DataW H} {p : List MemPlace} (hv : Value.okWide Try.prog w r b0 3 v) (h : DataW.Trod enc Try.prog w 0 sp held 3 v d p) : ∃ z, v = .int .i64 z ∧ Rng z := by
  obtain ⟨z, rfl⟩ := okWide_int Try.underlying3 hv
  obtain ⟨fuel, hf⟩ := h
  obtain ⟨z', e3, _, hwf⟩ := DataW.trod_int Try.underlying3 hf
  simp [Value.cells] at e3
  subst e3
  exact ⟨_, rfl, rng_wf hwf⟩

theorem open_pvr {H : Type} {enc : TypeId × Value → H} {w : World} {sp : Nat → Bool} {held : Bool} {r : Reach} {b0 : Nat} {v : Value} {d : DataW H} {p : List MemPlace} (hv : Value.okWide Try.prog w r b0 22 v) (h : DataW.Trod enc Try.prog w 0 sp held 22 v d p) : ∃ zs, PV w (fun _ => True) v zs ∧ ∀ z ∈ zs, Rng z := by
  obtain ⟨a0, len0, cap0, rfl⟩ := okWide_slice Try.underlying22 hv
  obtain ⟨fuel, hf⟩ := h
  rcases DataW.trod_slice Try.underlying22 hf with ⟨e1, _⟩ | ⟨a, len, cap, elems, rest, n2, hn2, e1, _, hb, hlc, hcm, hel, helem, _⟩
  · simp [Value.cells] at e1
    obtain ⟨rfl, rfl, rfl⟩ := e1
    exact ⟨[], ⟨none, 0, rfl, by simp, Or.inl rfl⟩, by simp⟩
  · simp [Value.cells] at e1
    obtain ⟨rfl, rfl, rfl⟩ := e1
    unfold maxLen at hcm
    rw [Try.cellsInt] at helem
    have key : ∀ i, ∃ z : Int, Rng z ∧ (i < len0 → w.cell? (a.add i) = some (.int .i64 z)) := by
      intro i
      by_cases hi : i < len0
      · have h1 := helem i hi
        have hie : i < elems.length := by omega
        rw [List.getElem?_eq_getElem hie, Option.bind_eq_some_iff, Nat.mul_one] at h1
        obtain ⟨cs', h2, h3⟩ := h1
        obtain ⟨d0, rfl, g0⟩ := cells1 h2
        obtain ⟨z, e3, _, hwf⟩ := DataW.trod_int Try.underlying3 h3
        simp at e3
        subst e3
        exact ⟨z, rng_wf hwf, fun _ => g0⟩
      · exact ⟨0, by unfold Rng; omega, fun h => absurd h hi⟩
    obtain ⟨Z, hZ⟩ := Classical.skolem.1 key
    refine ⟨(List.range len0).map Z, ⟨some a, cap0, by simp, by simp; omega, ?_⟩, fun z hz => by obtain ⟨i, _, rfl⟩ := List.mem_map.1 hz; exact (hZ i).1⟩
    by_cases h0 : len0 = 0
    · subst h0; exact Or.inl rfl
    · right
      obtain ⟨b, o, sp⟩ := a
      have g0 := (hZ 0).2 (by omega)
      have hsp : sp = none := by simpa [Addr.add] using World.cell?_spot g0
      subst hsp
      refine ⟨b, o, rfl, trivial, fun i hi => ?_⟩
      simp at hi
      have g1 := (hZ i).2 hi
      simp only [List.getElem_map, List.getElem_range]
      by_cases h00 : i = 0
      · subst h00; simpa [Addr.add] using g1
      · simpa [Addr.add, h00] using g1
#print axioms open_pvr
#print axioms open_int
end Go.Proofs.Ytpjdkdebjkpmmab

/- The law on what is said of a term: it answers true. -/
import Derived.Test.YthlgknglalcggaaW26
import Derived.Test.YthlgknglalcggaaW23
import Derived.Test.YthlgknglalcggaaW21
import Derived.Test.YthlgknglalcggaaW19
import Derived.Test.YthlgknglalcggaaW15
namespace Go.Proofs.Ythlgknglalcggaa
open Go.RowKit
set_option linter.unusedSimpArgs false
set_option linter.unusedVariables false
set_option maxRecDepth 8000

/-- The parameter's box stands, and what was there ahead of it. -/
def St (w : World) (t : Tm) (a : Option Addr) (c : Nat) (wk : World) : Prop :=
  Blk wk w.heap.size #[.string t.name, .slice a t.args.length c] 24 ∧ Below w.heap.size w wk
theorem St.new (w : World) (t : Tm) (a : Option Addr) (c : Nat) : St w t a c (w.alloc (.cells #[.string t.name, .slice a t.args.length c] 24)) := ⟨Blk.new _ _ _, (Below.refl _ _).alloc (Nat.le_refl _) _⟩
theorem St.next {w wk wk' : World} {t : Tm} {a : Option Addr} {c : Nat} (h : St w t a c wk) (hb : Below wk.heap.size wk wk') : St w t a c wk' := ⟨h.1.below hb h.1.lt, h.2.trans (hb.mono h.2.size)⟩
theorem St.alloc {w wk : World} {t : Tm} {a : Option Addr} {c : Nat} (h : St w t a c wk) (o : Obj) : St w t a c (wk.alloc o) := h.next ((Below.refl _ _).alloc (Nat.le_refl _) o)
theorem St.c0 {w wk : World} {t : Tm} {a : Option Addr} {c : Nat} (h : St w t a c wk) : wk.cell? ⟨w.heap.size, 0, none⟩ = some (.string t.name) := h.1.cell 0
theorem St.c1 {w wk : World} {t : Tm} {a : Option Addr} {c : Nat} (h : St w t a c wk) : wk.cell? ⟨w.heap.size, 1, none⟩ = some (.slice a t.args.length c) := h.1.cell 1
theorem St.b0 {w wk : World} {t : Tm} {a : Option Addr} {c : Nat} (h : St w t a c wk) (o : Obj) : (wk.alloc o).cell? ⟨w.heap.size, 0, none⟩ = some (.string t.name) := (h.alloc o).c0
theorem St.b1 {w wk : World} {t : Tm} {a : Option Addr} {c : Nat} (h : St w t a c wk) (o : Obj) : (wk.alloc o).cell? ⟨w.heap.size, 1, none⟩ = some (.slice a t.args.length c) := (h.alloc o).c1

theorem may_parts {t : Tm} (h : mayE t = 0) : errL [t] = 0 ∧ sizeL [t] ≤ 200 := by
  unfold mayE at h
  split at h
  · exact absurd h (by decide)
  · exact ⟨h, by omega⟩
theorem may_txt {t : Tm} (h : mayE t = 0) : (txtL [t]).length ≤ 1000000 := by
  obtain ⟨h1, h2⟩ := may_parts h
  have := txt_len [t] h1
  omega
theorem may_small {t : Tm} (h : mayE t = 0) : sizeL [t] ≤ 900000 := by
  obtain ⟨h1, h2⟩ := may_parts h
  omega

theorem term2_at (t : Tm) (zs : List Int) (sv : Int) (hsv : atE t zs = sv) (hz : mayE t = 0) (vd va : Value) (w : World) (Z Z' : Nat → Prop) (hd : ∀ y, atT t zs = some y → TV w Z vd y) (hd0 : atE t zs ≠ 0 → vd = zeroT) (ha : ∀ y, atT t zs = some y → TV w Z' va y) (s : ByteArray) (a : Option Addr) (n c : Nat) (hf : va = .agg #[.string s, .slice a n c]) :
    Calls Try.prog 21 #[vd, .int .i64 sv, va, .int .i64 sv] w fun e w' => e = .returned (.bool true) ∧ Below w.heap.size w w' := by
  cases hat : atT t zs with
  | none =>
    have h10 : atE t zs = 10 := by unfold atE; rw [if_pos hz, hat]; rfl
    have hv := hd0 (by rw [h10]; decide)
    rw [← hsv, h10, hv]
    exact term2_err 10 _ _ _ _ _ hf _ (by decide)
  | some y =>
    have h0 : atE t zs = 0 := by unfold atE; rw [if_pos hz, hat]; rfl
    rw [← hsv, h0]
    exact term2_ok y _ _ _ _ _ (hd y hat) (ha y hat)

theorem St.from {w w7 wk : World} {t : Tm} {a : Option Addr} {c : Nat} (h : St w t a c w7) (hb : Below w7.heap.size w7 wk) : St w t a c wk := h.next hb

theorem ls_small {t : Tm} (h : mayE t = 0) {ls : List (List Int)} (he : plcT t = ls) : ls.length ≤ 200 := by
  rw [← he, plcT_len]; exact (may_parts h).2

theorem same_kept {wr w15 : World} {g g' i i' : Nat} {u u' : Value} (hb : Below wr.heap.size wr w15) (hg : g < wr.heap.size) (hg' : g' < wr.heap.size) (h : wr.cell? ⟨g, i, none⟩ = some u) (h' : wr.cell? ⟨g', i', none⟩ = some u') : w15.cell? ⟨g, i, none⟩ = some u ∧ w15.cell? ⟨g', i', none⟩ = some u' := by
  have h1 := hb.block g hg
  have h2 := hb.block g' hg'
  exact ⟨by simpa [World.cell?, h1] using h, by simpa [World.cell?, h2] using h'⟩

def SyInv (w14 : World) (n : Nat) (i : Value) (wr : World) : Prop := ∃ k : Nat, k ≤ n ∧ i = .int .i64 k ∧ Below w14.heap.size w14 wr

theorem lv_of_pv {w : World} {Z : Nat → Prop} {u : Value} {z : List Int} (h : PV w Z u z) : LV (fun z => Value.int .i64 z) w Z u z := h

set_option maxHeartbeats 4000000 in
theorem termSays_any (t : Tm) (zs : List Int) (v p : Value) (w : World) (X0 : Nat → Prop) (hv0 : TV w X0 v t) (hp0 : PV w X0 p zs) :
    Calls Try.prog 3 #[v, p] w fun e w' => e = .returned (.bool true) ∧ Below w.heap.size w w' := by
  obtain ⟨X, hX, hv, hp⟩ : ∃ X : Nat → Prop, (∀ b, X b → b < w.heap.size) ∧ TV w X v t ∧ PV w X p zs := ⟨fun b => X0 b ∧ b < w.heap.size, fun _ h => h.2, hv0.mono fun b h1 h2 => ⟨h1, h2⟩, hp0.mono fun b h1 h2 => ⟨h1, h2⟩⟩
  clear hv0 hp0
  obtain ⟨a, c, rfl, hs⟩ := hv
  obtain ⟨pa, pc, rfl, hpr⟩ := hp
  have HV := hide (show TV w X (.agg #[.string t.name, .slice a t.args.length c]) t from ⟨a, c, rfl, hs⟩)
  have HP := hide (show PV w X (.slice pa zs.length pc) zs from ⟨pa, pc, rfl, hpr⟩)
  clear hs hpr
  go_enter Try.func3, Try.ntmps3
  go_wp2_with fail
  refine (huge_any t _ _ X (by exact HV.out.alloc _)).mono ?_
  rintro e w1 ⟨rfl, hb1⟩
  have S1 := hide ((St.new w t a c).next hb1)
  clear hb1
  by_cases h1 : 3000 < sizeL [t]
  · have e1 : decide (3000 < sizeL [t]) = true := by simpa using h1
    rw [e1]
    clear e1 h1
    go_wp2_with fail
    go_ret
    exact ⟨rfl, S1.out.2⟩
  · have e1 : decide (3000 < sizeL [t]) = false := by simpa using h1
    rw [e1]
    clear e1 h1
    by_cases h3 : 100 < zs.length
    · go_wp2_with fail
      go_ret
      exact ⟨rfl, S1.out.2⟩
    · have c0 := S1.out.c0
      have c1 := S1.out.c1
      go_wp2_with fail
      refine (termMay_any t _ _ X (by exact HV.out.later S1.out.2)).mono ?_
      rintro e w2 ⟨rfl, hb2⟩
      have S2 := hide (S1.out.next hb2)
      clear hb2 c0 c1
      by_cases h4 : mayE t = 0
      · have HZ := hide h4
        have htx : (txtL [t]).length ≤ 1000000 := may_txt h4
        have hsz : sizeL [t] ≤ 900000 := may_small h4
        rw [h4]
        clear h4
        generalize htxe : (⟨(txtL [t]).toArray⟩ : ByteArray) = tx at *
        have HTXE := hide htxe
        clear htxe
        have c0 := S2.out.b0
        have c1 := S2.out.b1
        go_wp2_with fail
        refine (show_any t _ _ X (by exact HV.out.later (S2.out.alloc _).2) htx).mono ?_
        rintro e w3 ⟨rfl, hb3⟩
        rw [HTXE.out]
        have S3 := hide ((S2.out.alloc _).next hb3)
        have A3 := hide ((Blk.new w2 #[.string ⟨#[]⟩, .slice none 0 0] 24).below hb3 (by simp))
        clear hb3 c0 c1
        have c0 := S3.out.c0
        have c1 := S3.out.c1
        go_wp2_with fail
        refine (varsOf_any t _ _ X (by exact HV.out.later S3.out.2) (by omega)).mono ?_
        rintro e w4 ⟨v4, rfl, hlv4, hb4⟩
        have HL4 := hide hlv4
        have S4 := hide (S3.out.next hb4)
        have A4 := hide (A3.out.below hb4 A3.out.lt)
        clear hb4 c0 c1 hlv4
        have c0 := S4.out.c0
        have c1 := S4.out.c1
        go_wp2_with fail
        refine (placesOf_any t _ _ X (by exact HV.out.later S4.out.2) hsz).mono ?_
        rintro e w5 ⟨v5, xs5, rfl, hown5, hrow5, hb5⟩
        obtain ⟨g5, cap5, rfl, hg5, hg5', hcel5⟩ := owned_val hown5 (by simp [plcT])
        have HR5 := hide hrow5
        have HC5 := hide hcel5
        have HL5 := hide (HL4.out.later hb5)
        have S5 := hide (S4.out.next hb5)
        have A5 := hide (A4.out.below hb5 A4.out.lt)
        clear hb5 c0 c1 hown5 hrow5 hcel5 HL4
        have c0 := S5.out.c0
        have c1 := S5.out.c1
        go_wp2_with fail
        refine (atOf_any zs t _ _ _ X (by exact HV.out.later S5.out.2) (by exact HP.out.later S5.out.2)).mono ?_
        rintro e w6 ⟨v6, rfl, hyes, hno, hb6⟩
        obtain ⟨s6, a6, n6, c6, rfl⟩ := tvform hyes hno
        have HYES : Hid (∀ y, atT t zs = some y → TV w X (.agg #[.string s6, .slice a6 n6 c6]) y) := fun y hy => (hyes y hy).kept fun b hb => (S5.out.2.block b (hX b hb)).symm
        have HB6 := hide hb6
        have S6 := hide (S5.out.next hb6)
        have A6 := hide (A5.out.below hb6 A5.out.lt)
        clear hb6 c0 c1 hyes hno
        have hlt25 : w2.heap.size < w6.heap.size := A6.out.lt
        have hwk2 : w.heap.size ≤ w2.heap.size := S2.out.2.size
        have hwl2 : w.heap.size < w2.heap.size := S2.out.1.lt
        have r0 : ∀ o, (w6.alloc o).cell? ⟨w2.heap.size, 0, none⟩ = some (.string ⟨#[]⟩) := fun o => (A6.out.alloc o).cell 0
        have r1 : ∀ o, (w6.alloc o).cell? ⟨w2.heap.size, 1, none⟩ = some (.slice none 0 0) := fun o => (A6.out.alloc o).cell 1
        have rf := fun o => (A6.out.alloc o).frozen
        have r2 : w6.cell? ⟨w2.heap.size, 0, none⟩ = some (.string ⟨#[]⟩) := A6.out.cell 0
        have r3 : w6.cell? ⟨w2.heap.size, 1, none⟩ = some (.slice none 0 0) := A6.out.cell 1
        have rf2 := A6.out.frozen
        obtain ⟨w7, hw7⟩ : ∃ w7, w7 = ((w6.setCell ⟨w2.heap.size, 0, none⟩ (.string s6)).setCell ⟨w2.heap.size, 1, none⟩ (.slice a6 n6 c6)).alloc (.cells #[.string s6, .slice a6 n6 c6] 24) := ⟨_, rfl⟩
        have hk7 : ∀ b, b < w6.heap.size → b ≠ w2.heap.size → w7.heap[b]? = w6.heap[b]? := fun b hb1 hb => by
          rw [hw7, Below.heap_alloc _ _ _ (by simpa [World.setCell] using hb1), Below.heap_setCell _ _ _ _ (by simpa using hb), Below.heap_setCell _ _ _ _ (by simpa using hb)]
        have HW7 : Hid (Below w.heap.size w w7) := by unfold Hid; rw [hw7]; exact ((S6.out.2.setCell (by simp; omega) _).setCell (by simp; omega) _).alloc (by simpa [World.setCell] using S6.out.2.size) _
        have S7 : Hid (St w t a c w7) := ⟨by unfold Blk; rw [hk7 _ (by omega) (by omega)]; exact S6.out.1, HW7.out⟩
        have A7 : Hid (Blk w7 w2.heap.size #[.string s6, .slice a6 n6 c6] 24) := by unfold Hid; rw [hw7]; exact ((A6.out.set 0 _).set 1 _).alloc _
        have HSZ7 : Hid (w6.heap.size ≤ w7.heap.size) := by unfold Hid; rw [hw7]; simp [World.setCell]
        have hw23 : w2.heap.size < w3.heap.size := A3.out.lt
        have hw24 : w2.heap.size < w4.heap.size := A4.out.lt
        have hw56 : w5.heap.size ≤ w6.heap.size := HB6.out.size
        have hk57 : ∀ b, b < w5.heap.size → b ≠ w2.heap.size → w7.heap[b]? = w5.heap[b]? := fun b h1 h2 => (hk7 b (by omega) h2).trans (HB6.out.block b h1)
        have HL7 : Hid (LV Value.string w7 (fun b => w3.heap.size ≤ b ∧ b < w5.heap.size) v4 (varsP [] (preL [t]))) := (HL5.out.mono fun b h1 h2 => ⟨h1, h2⟩).kept fun b hb => hk57 b hb.2 (by omega)
        have HC7 : Hid (∀ j u, xs5[j]? = some u → w7.cell? ⟨g5, j, none⟩ = some u) := fun j u hj => by
          have h1 := HC5.out j u hj
          have h2 := hk57 g5 hg5' (by omega)
          simpa [World.cell?, h2] using h1
        have HR7 : Hid (RowP w7 (fun b => w4.heap.size ≤ b ∧ b < w5.heap.size) (plcT t) xs5) := HR5.out.imp fun u z hp => (hp.mono fun b h1 h2 => ⟨h1.1, h2⟩).kept fun b hb => hk57 b hb.2 (by omega)
        have HG7 : Hid (g5 < w7.heap.size) := by have := HSZ7.out; unfold Hid; omega
        have HWE := hide hw7
        have y0 := S7.out.c0
        have y1 := S7.out.c1
        rw [hw7] at y0 y1
        clear hw7 hk7 hk57 HR5 HC5 HL5
        obtain ⟨sv, hsv, hsv2⟩ : ∃ sv : Int, atE t zs = sv ∧ sv = if (atT t zs).isSome = true then 0 else 10 := ⟨_, rfl, by unfold atE; rw [if_pos HZ.out]⟩
        have HSV := hide hsv
        clear hsv
        cases hat : (atT t zs).isSome
        all_goals
          rw [hat] at hsv2
          simp only [Bool.false_eq_true, if_true, if_false] at hsv2
          subst hsv2
          go_wp2_with fail
          rw [← HWE.out]
          clear y0 y1 r0 r1 rf r2 r3 rf2 hat
          refine (text_any t _ _ X (by exact HV.out.later S7.out.2)).mono ?_
          rintro e w8 ⟨rfl, hb8⟩
          rw [if_pos HZ.out, HZ.out, HTXE.out]
          have B8 := hide hb8
          clear hb8
          have y0 := (S7.out.next B8.out).c0
          have y1 := (S7.out.next B8.out).c1
          go_wp2_with fail
          refine (namesOf_any t _ _ X (by exact HV.out.later (S7.out.next B8.out).2)).mono ?_
          rintro e w9 ⟨v9, rfl, hyes, _, hb9⟩
          rw [HZ.out]
          have L9 := hide (hyes HZ.out)
          have B9 := hide (B8.out.trans (hb9.mono B8.out.size))
          clear hb9 hyes y0 y1
          have y0 := (S7.out.next B9.out).c0
          have y1 := (S7.out.next B9.out).c1
          go_wp2_with fail
          refine (places_any t _ _ X (by exact HV.out.later (S7.out.next B9.out).2)).mono ?_
          rintro e w10 ⟨v10, rfl, hyes, _, hb10⟩
          rw [HZ.out]
          obtain ⟨xs10, hown10, hrow10⟩ := hyes HZ.out
          obtain ⟨g10, cap10, rfl, hg10, hg10', hcel10⟩ := owned_val hown10 (by simp [plcT])
          have R10 := hide hrow10
          have C10 := hide hcel10
          have L10 := hide (L9.out.later hb10)
          have B10 := hide (B9.out.trans (hb10.mono B9.out.size))
          clear hb10 hyes y0 y1 hown10 hrow10 hcel10
          have y0 := (S7.out.next B10.out).c0
          have y1 := (S7.out.next B10.out).c1
          go_wp2_with fail
          refine (at_any t zs _ _ _ X (by exact HV.out.later (S7.out.next B10.out).2) (by exact HP.out.later (S7.out.next B10.out).2)).mono ?_
          rintro e w11 ⟨v11, rfl, hyes, hno, hb11⟩
          obtain ⟨s11, a11, n11, c11, rfl⟩ := tvform (o := atT t zs) (fun x hx => hyes x HZ.out hx) (fun hx => hno (by unfold atE; rw [if_pos HZ.out, hx]; decide))
          have HY11 := hide fun x hx => hyes x HZ.out hx
          have HN11 := hide hno
          have B11 := hide (B10.out.trans (hb11.mono B10.out.size))
          have BB11 := hide hb11
          rw [HSV.out]
          clear hb11 hyes y0 y1 hno
          have y0 := (S7.out.next B11.out).b0
          have y1 := (S7.out.next B11.out).b1
          go_wp2_with fail
          refine (check_any t _ _ X (by exact HV.out.later ((S7.out.next B11.out).alloc _).2)).mono ?_
          rintro e w12 ⟨rfl, hb12⟩
          rw [HZ.out]
          have D12 := hide ((Blk.new w11 #[.string s11, .slice a11 n11 c11] 24).below hb12 (by simp))
          have BB12 := hide (((Below.refl w11.heap.size w11).alloc (Nat.le_refl _) (.cells #[.string s11, .slice a11 n11 c11] 24)).trans (hb12.mono (by simp)))
          clear hb12 y0 y1
          go_wp2_with fail
          have B12 := hide (B11.out.trans (BB12.out.mono B11.out.size))
          refine (names2_ok (varsP [] (preL [t])) _ _ _ _ _ ((L10.out.later BB11.out).later BB12.out) (HL7.out.later B12.out)).mono ?_
          rintro e w13 ⟨rfl, hb13⟩
          have BB13 := hide (BB12.out.trans (hb13.mono BB12.out.size))
          have B13 := hide (B12.out.trans (hb13.mono B12.out.size))
          have D13 := hide (D12.out.below hb13 D12.out.lt)
          have A13 := hide (A7.out.below B13.out A7.out.lt)
          clear hb13
          have a0 : w13.cell? ⟨w2.heap.size, 0, none⟩ = some (.string s6) := A13.out.cell 0
          have a1 : w13.cell? ⟨w2.heap.size, 1, none⟩ = some (.slice a6 n6 c6) := A13.out.cell 1
          have d0 : w13.cell? ⟨w11.heap.size, 0, none⟩ = some (.string s11) := D13.out.cell 0
          have d1 : w13.cell? ⟨w11.heap.size, 1, none⟩ = some (.slice a11 n11 c11) := D13.out.cell 1
          go_wp2_with fail
          refine (term2_at t zs _ HSV.out HZ.out _ _ _ _ _ (fun y hy => (HY11.out y hy).later BB13.out) HN11.out (fun y hy => (HYES.out y hy).later (S7.out.next B13.out).2) _ _ _ _ rfl).mono ?_
          rintro e w14 ⟨rfl, hb14⟩
          have BB14 := hide ((BB11.out).trans ((BB13.out.trans (hb14.mono BB13.out.size)).mono BB11.out.size))
          have B14 := hide (B13.out.trans (hb14.mono B13.out.size))
          have HT14 := hide (S7.out.next B14.out).2
          clear hb14 a0 a1 d0 d1
          generalize hlse : plcT t = ls at *
          have HPTL := hide (ls_small HZ.out hlse)
          clear hlse
          go_wp2_with fail
          go_loopw [21] (fun i wr => SyInv w14 ls.length i wr) (fun i wr => ls.length - (intOf i).toNat)
          case atStart => exact ⟨0, Nat.zero_le _, rfl, Below.refl _ _⟩
          case round =>
            obtain ⟨k, hk, rfl, hbr⟩ := hrel
            have HBR := hide hbr
            clear hbr
            have hptl := HPTL.out
            by_cases hlt : k < ls.length
            · obtain ⟨u1, hu1, hp1⟩ := R10.out.get k hlt
              obtain ⟨u2, hu2, hp2⟩ := HR7.out.get k hlt
              have hB1 := BB14.out.trans (HBR.out.mono BB14.out.size)
              have hB2 := B14.out.trans (HBR.out.mono B14.out.size)
              have e1 : wr.cell? ⟨g10, k, none⟩ = some u1 := by
                have h1 := C10.out k u1 hu1
                have h2 := hB1.block g10 hg10'
                simpa [World.cell?, h2] using h1
              have e2 : wr.cell? ⟨g5, k, none⟩ = some u2 := by
                have h1 := HC7.out k u2 hu2
                have h2 := hB2.block g5 HG7.out
                simpa [World.cell?, h2] using h1
              have P1 := hide ((lv_of_pv (hp1.later hB1)).later ((Below.refl wr.heap.size wr).drew))
              have P2 := hide ((lv_of_pv (hp2.later hB2)).later ((Below.refl wr.heap.size wr).drew))
              clear hu1 hu2 hp1 hp2 hB1 hB2
              go_wp2_with fail
              have hgr10 : g10 < wr.heap.size := by have := BB14.out.size; have := HBR.out.size; omega
              have hgr5 : g5 < wr.heap.size := by have := HG7.out; have := B14.out.size; have := HBR.out.size; omega
              go_region_held3 (fun w' => w'.cell? ⟨g10, k, none⟩ = some u1 ∧ w'.cell? ⟨g5, k, none⟩ = some u2) (first | exact hS | exact ⟨e1, e2⟩ | go_keep)
                ((go_at_call 22; refine (sameInts_any ls[k] _ _ _ _ _ P1.out P2.out).mono ?_; rintro e w15 ⟨rfl, hb15⟩; have hb16 := ((Below.refl wr.heap.size wr).drew).trans hb15; have hS := same_kept hb16 hgr10 hgr5 e1 e2))
              have HB15 := hide hb16
              clear hb15 hb16 hS
              go_wp2_with fail
              go_roundw
              case rel => exact ⟨k + 1, by omega, by go_num, HBR.out.trans (HB15.out.mono HBR.out.size)⟩
              case measure => simp [intOf]; omega
            · go_wp2_with fail
              go_ret
              exact ⟨rfl, HT14.out.trans (HBR.out.mono HT14.out.size)⟩
      · have h4' : (mayE t == 0) = false := by simpa using h4
        have HNE := hide h4
        clear h4
        have c0 := S2.out.b0
        have c1 := S2.out.b1
        go_wp2_with fail
        refine (text_any t _ _ X (by exact HV.out.later (S2.out.alloc _).2)).mono ?_
        rintro e w3 ⟨rfl, hb3⟩
        rw [if_neg HNE.out]
        have S3 := hide ((S2.out.alloc _).next hb3)
        have A3 := hide ((Blk.new w2 #[.string ⟨#[]⟩, .slice none 0 0] 24).below hb3 (by simp))
        clear hb3 c0 c1
        have c0 := S3.out.c0
        have c1 := S3.out.c1
        go_wp2_with fail
        refine (namesOf_any t _ _ X (by exact HV.out.later S3.out.2)).mono ?_
        rintro e w4 ⟨v4, rfl, _, hno, hb4⟩
        have hv4 : v4 = .slice none 0 0 := hno HNE.out
        subst hv4
        have S4 := hide (S3.out.next hb4)
        have A4 := hide (A3.out.below hb4 A3.out.lt)
        clear hb4 c0 c1 hno
        have c0 := S4.out.c0
        have c1 := S4.out.c1
        go_wp2_with fail
        refine (places_any t _ _ X (by exact HV.out.later S4.out.2)).mono ?_
        rintro e w5 ⟨v5, rfl, _, hno, hb5⟩
        have hv5 : v5 = .slice none 0 0 := hno HNE.out
        subst hv5
        have S5 := hide (S4.out.next hb5)
        have A5 := hide (A4.out.below hb5 A4.out.lt)
        clear hb5 c0 c1 hno
        have c0 := S5.out.c0
        have c1 := S5.out.c1
        go_wp2_with fail
        refine (at_any t zs _ _ _ X (by exact HV.out.later S5.out.2) (by exact HP.out.later S5.out.2)).mono ?_
        rintro e w6 ⟨v6, rfl, _, hno, hb6⟩
        have hat : atE t zs = mayE t := by unfold atE; rw [if_neg HNE.out]
        rw [hat] at hno
        rw [hat]
        have hv6 : v6 = .agg #[.string ⟨#[]⟩, .slice none 0 0] := hno HNE.out
        subst hv6
        have S6 := hide ((S5.out.next hb6).alloc (.cells #[.string ⟨#[]⟩, .slice none 0 0] 24))
        have A6 := hide ((A5.out.below hb6 A5.out.lt).alloc (.cells #[.string ⟨#[]⟩, .slice none 0 0] 24))
        have D6 := hide (Blk.new w6 #[.string ⟨#[]⟩, .slice none 0 0] 24)
        clear hb6 c0 c1 hno hat
        have c0 := S6.out.c0
        have c1 := S6.out.c1
        go_wp2_with fail
        refine (check_any t _ _ X (by exact HV.out.later S6.out.2)).mono ?_
        rintro e w7 ⟨rfl, hb7⟩
        have S7 := hide (S6.out.next hb7)
        have A7 := hide (A6.out.below hb7 A6.out.lt)
        have D7 := hide (D6.out.below hb7 D6.out.lt)
        clear hb7 c0 c1
        go_wp2_with fail
        refine (names2_err (mayE t) HNE.out 0 none _ _).mono ?_
        rintro e w8 ⟨rfl, hb8⟩
        have S8 := hide (S7.out.next hb8)
        have A8 := hide (A7.out.below hb8 A7.out.lt)
        have D8 := hide (D7.out.below hb8 D7.out.lt)
        clear hb8
        have a0 : w8.cell? ⟨w2.heap.size, 0, none⟩ = some (.string ⟨#[]⟩) := A8.out.cell 0
        have a1 : w8.cell? ⟨w2.heap.size, 1, none⟩ = some (.slice none 0 0) := A8.out.cell 1
        have d0 : w8.cell? ⟨w6.heap.size, 0, none⟩ = some (.string ⟨#[]⟩) := D8.out.cell 0
        have d1 : w8.cell? ⟨w6.heap.size, 1, none⟩ = some (.slice none 0 0) := D8.out.cell 1
        go_wp2_with fail
        refine (term2_err (mayE t) _ _ _ _ _ rfl _ HNE.out).mono ?_
        rintro e w9 ⟨rfl, hb9⟩
        have S9 := hide (S8.out.next hb9)
        clear hb9 a0 a1 d0 d1
        go_wp2_with fail
        go_loopw [21] (fun i wr => i = .int .i64 0 ∧ Below w.heap.size w wr) (fun i wr => 0)
        case atStart => exact ⟨rfl, S9.out.2⟩
        case round =>
          obtain ⟨rfl, hrel⟩ := hrel
          have HREL := hide hrel
          clear hrel
          go_wp2_with fail
          go_ret
          exact ⟨rfl, HREL.out⟩
#print axioms termSays_any
end Go.Proofs.Ythlgknglalcggaa

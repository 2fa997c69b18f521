/- Walks: the law CombSays. -/
import Derived.Test.YtcdabjekppddjaaGreatDoorCs7
import Derived.Test.YtcdabjekppddjaaGreatDoorCs2
import Derived.Test.YtcdabjekppddjaaGreatDoorCf2
import Derived.Test.YtcdabjekppddjaaGreatDoorW11
import Derived.Test.YtcdabjekppddjaaGreatDoorZCombMadeOwn
namespace Go.Proofs.YtcdabjekppddjaaGreatDoor
open Go.RowKit
set_option linter.unusedSimpArgs false
set_option linter.unusedVariables false
set_option maxRecDepth 8000

theorem brkE_one {nm : ByteArray} {t : Tm} (h : ¬ (nameB nm = true ∧ varB nm = true)) : brkE nm t = 1 := by unfold brkE; rw [if_neg h]
theorem brkE_ce {nm : ByteArray} {t : Tm} (h : nameB nm = true) (h2 : varB nm = true) : brkE nm t = combE t := by unfold brkE; rw [if_pos ⟨h, h2⟩]
set_option maxHeartbeats 8000000 in
theorem combSays_any (nm : ByteArray) (t : Tm) (v : Value) (w : World) (X : Nat → Prop) (hv : TV w X v t) (hT : Tb w.heap.size w) (hS : Tse w.heap.size w) :
    Calls Tryz.prog 3 #[.string nm, v] w fun e w' => e = .returned (.bool true) ∧ Below w.heap.size w w' := by
  obtain ⟨a, c, rfl, hs⟩ := hv
  obtain ⟨XR, hXR⟩ : ∃ XR : Nat → Prop, XR = fun b => X b ∧ b < w.heap.size := ⟨_, rfl⟩
  have V3 : Hid (∀ w', Below w.heap.size w w' → TV w' XR (.agg #[.string t.name, .slice a t.args.length c]) t) := fun w' hb => by rw [hXR]; exact TV.later ⟨a, c, rfl, hs.mono fun b h1 h2 => ⟨h1, h2⟩⟩ hb
  have HXR : Hid (∀ b, XR b → b < w.heap.size) := fun b hb => by rw [hXR] at hb; exact hb.2
  clear hXR
  have HT : Hid (∀ w', Below w.heap.size w w' → Tb w'.heap.size w') := fun w' hb => hT.raise hb hb.size
  have HS : Hid (∀ w', Below w.heap.size w w' → Tse w'.heap.size w') := fun w' hb => hS.raise hb hb.size
  have PB0 := hide (Blk.new w #[.string t.name, .slice a t.args.length c] 24)
  have HB0 : Hid (Below w.heap.size w (w.alloc (.cells #[.string t.name, .slice a t.args.length c] 24))) := (Below.refl _ _).alloc (Nat.le_refl _) _
  clear hs hT hS
  go_enter Tryz.func3, Tryz.ntmps3
  by_cases hl : 100 < nm.size
  · have hl' : (100 : Int) < (nm.size : Int) := by omega
    go_wp2_with fail
    go_ret
    exact ⟨rfl, HB0.out⟩
  have hl' : ¬ (100 : Int) < (nm.size : Int) := by omega
  go_wp2_with fail
  refine (huge_any t _ _ XR (by exact V3.out _ HB0.out)).mono ?_
  rintro e w1 ⟨rfl, hb1⟩
  have HB1 := hide (HB0.out.trans (hb1.mono (by simp)))
  have PB1 := hide (PB0.out.below hb1 PB0.out.lt)
  have PL1 : Hid (w.heap.size < w1.heap.size) := PB1.out.lt
  clear hb1 PB0 HB0
  by_cases hh : 3000 < sizeL [t]
  · go_wp2_with fail
    go_ret
    exact ⟨rfl, HB1.out⟩
  rw [decide_eq_false hh]
  clear hh
  obtain ⟨P, hP⟩ : ∃ P, P = w.heap.size := ⟨_, rfl⟩
  rw [← hP] at PB1
  have HP := hide hP
  rw [← hP]
  clear hP
  have p0 : w1.cell? ⟨P, 0, none⟩ = some (.string t.name) := PB1.out.cell 0
  have p1 : w1.cell? ⟨P, 1, none⟩ = some (.slice a t.args.length c) := PB1.out.cell 1
  have pl := PB1.out.lt
  have pf := PB1.out.frozen
  go_wp2_with fail
  refine (combMay_any t _ _ XR (by exact V3.out _ HB1.out)).mono ?_
  rintro e u1 ⟨rfl, hbx⟩
  have K1 := hide (HB1.out.trans (hbx.mono HB1.out.size))
  have ph1 := hide (PB1.out.below hbx PB1.out.lt)
  clear p0 p1 pl pf
  obtain ⟨ce, hce⟩ : ∃ ce, ce = combE t := ⟨_, rfl⟩
  rw [← hce]
  have HCE := hide hce
  clear hce
  have p0 : u1.cell? ⟨P, 0, none⟩ = some (.string t.name) := ph1.out.cell 0
  have p1 : u1.cell? ⟨P, 1, none⟩ = some (.slice a t.args.length c) := ph1.out.cell 1
  have pl := ph1.out.lt
  have pf := ph1.out.frozen
  go_wp2_with fail
  refine (isNameR_any nm _).mono ?_
  rintro e wx ⟨rfl, hwx⟩
  subst wx
  clear p0 p1 pl pf
  cases hN : nameB nm with
  | false =>
    have HBE : Hid (brkE nm t = 1) := brkE_one (by rw [hN]; simp)
    have HBN : Hid (brkE nm t ≠ 0) := by unfold Hid; rw [HBE.out]; decide
    have her : (1 : Int) ≠ 0 := by decide
    clear hN
    have K2 : Hid (Below w.heap.size w (u1.alloc (.cells #[.string ⟨#[]⟩, .slice none 0 0] 24))) := K1.out.alloc K1.out.size _
    have ph2 := hide (ph1.out.alloc (.cells #[.string ⟨#[]⟩, .slice none 0 0] 24))
    have oh2 : Hid (Blk (u1.alloc (.cells #[.string ⟨#[]⟩, .slice none 0 0] 24)) u1.heap.size #[.string ⟨#[]⟩, .slice none 0 0] 24) := Blk.new u1 _ _
    have HA2 : Hid (w.heap.size ≤ u1.heap.size ∧ P < u1.heap.size ∧ u1.heap.size < (u1.alloc (.cells #[.string ⟨#[]⟩, .slice none 0 0] 24)).heap.size) := ⟨K1.out.size, ph1.out.lt, by simp⟩
    go_upto_region 12 with fail
    generalize (u1.alloc (.cells #[.string ⟨#[]⟩, .slice none 0 0] 24)) = u2 at *
    obtain ⟨O, hO⟩ : ∃ O, O = u1.heap.size := ⟨_, rfl⟩
    rw [← hO] at oh2 HA2 ⊢
    clear hO
    have p0 : u2.cell? ⟨P, 0, none⟩ = some (.string t.name) := ph2.out.cell 0
    have p1 : u2.cell? ⟨P, 1, none⟩ = some (.slice a t.args.length c) := ph2.out.cell 1
    have pl := ph2.out.lt
    have pf := ph2.out.frozen
    have o0 : u2.cell? ⟨O, 0, none⟩ = some (.string ⟨#[]⟩) := oh2.out.cell 0
    have o1 : u2.cell? ⟨O, 1, none⟩ = some (.slice none 0 0) := oh2.out.cell 1
    have ol := oh2.out.lt
    have of := oh2.out.frozen
    go_wp2_with fail
    refine (bracketE_any nm t HBN.out _ _ XR (by exact V3.out _ K2.out)).mono ?_
    rintro e u3 ⟨rfl, hbx⟩
    have K3 := hide (K2.out.trans (hbx.mono K2.out.size))
    have ph3 := hide (ph2.out.below hbx ph2.out.lt)
    have oh3 := hide (oh2.out.below hbx oh2.out.lt)
    clear p0 p1 pl pf o0 o1 ol of
    rw [HBE.out]
    have K4 : Hid (Below w.heap.size w (u3.alloc (.cells #[.string ⟨#[]⟩, .slice none 0 0] 24))) := K3.out.alloc K3.out.size _
    have ph4 := hide (ph3.out.alloc (.cells #[.string ⟨#[]⟩, .slice none 0 0] 24))
    have oh4 := hide (oh3.out.alloc (.cells #[.string ⟨#[]⟩, .slice none 0 0] 24))
    have qh4 : Hid (Blk (u3.alloc (.cells #[.string ⟨#[]⟩, .slice none 0 0] 24)) u3.heap.size #[.string ⟨#[]⟩, .slice none 0 0] 24) := Blk.new u3 _ _
    have HA4 : Hid (w.heap.size ≤ u3.heap.size ∧ P < u3.heap.size ∧ u3.heap.size < (u3.alloc (.cells #[.string ⟨#[]⟩, .slice none 0 0] 24)).heap.size) := ⟨K3.out.size, ph3.out.lt, by simp⟩
    go_upto_region 13 with fail
    generalize (u3.alloc (.cells #[.string ⟨#[]⟩, .slice none 0 0] 24)) = u4 at *
    obtain ⟨Q, hQ⟩ : ∃ Q, Q = u3.heap.size := ⟨_, rfl⟩
    rw [← hQ] at qh4 HA4 ⊢
    clear hQ
    have p0 : u4.cell? ⟨P, 0, none⟩ = some (.string t.name) := ph4.out.cell 0
    have p1 : u4.cell? ⟨P, 1, none⟩ = some (.slice a t.args.length c) := ph4.out.cell 1
    have pl := ph4.out.lt
    have pf := ph4.out.frozen
    have o0 : u4.cell? ⟨O, 0, none⟩ = some (.string ⟨#[]⟩) := oh4.out.cell 0
    have o1 : u4.cell? ⟨O, 1, none⟩ = some (.slice none 0 0) := oh4.out.cell 1
    have ol := oh4.out.lt
    have of := oh4.out.frozen
    have q0 : u4.cell? ⟨Q, 0, none⟩ = some (.string ⟨#[]⟩) := qh4.out.cell 0
    have q1 : u4.cell? ⟨Q, 1, none⟩ = some (.slice none 0 0) := qh4.out.cell 1
    have ql := qh4.out.lt
    have qf := qh4.out.frozen
    go_wp2_with fail
    refine (ccheck_any t _ _ XR (by exact V3.out _ K4.out)).mono ?_
    rintro e u5 ⟨rfl, hbx⟩
    have K5 := hide (K4.out.trans (hbx.mono K4.out.size))
    have ph5 := hide (ph4.out.below hbx ph4.out.lt)
    have oh5 := hide (oh4.out.below hbx oh4.out.lt)
    have qh5 := hide (qh4.out.below hbx qh4.out.lt)
    clear p0 p1 pl pf o0 o1 ol of q0 q1 ql qf
    rw [← HCE.out]
    have p0 : u5.cell? ⟨P, 0, none⟩ = some (.string t.name) := ph5.out.cell 0
    have p1 : u5.cell? ⟨P, 1, none⟩ = some (.slice a t.args.length c) := ph5.out.cell 1
    have pl := ph5.out.lt
    have pf := ph5.out.frozen
    have o0 : u5.cell? ⟨O, 0, none⟩ = some (.string ⟨#[]⟩) := oh5.out.cell 0
    have o1 : u5.cell? ⟨O, 1, none⟩ = some (.slice none 0 0) := oh5.out.cell 1
    have ol := oh5.out.lt
    have of := oh5.out.frozen
    have q0 : u5.cell? ⟨Q, 0, none⟩ = some (.string ⟨#[]⟩) := qh5.out.cell 0
    have q1 : u5.cell? ⟨Q, 1, none⟩ = some (.slice none 0 0) := qh5.out.cell 1
    have ql := qh5.out.lt
    have qf := qh5.out.frozen
    go_wp2_with fail
    refine (term2_err 1 _ _ _ _ _ rfl _ her).mono ?_
    rintro e u6 ⟨rfl, hbx⟩
    have K6 := hide (K5.out.trans (hbx.mono K5.out.size))
    have ph6 := hide (ph5.out.below hbx ph5.out.lt)
    have oh6 := hide (oh5.out.below hbx oh5.out.lt)
    have qh6 := hide (qh5.out.below hbx qh5.out.lt)
    clear p0 p1 pl pf o0 o1 ol of q0 q1 ql qf
    by_cases hce0 : ce = 0
    · have HC0 : Hid (combE t = 0) := by unfold Hid; rw [← HCE.out]; exact hce0
      rw [hce0]
      clear hce0
      have K7 : Hid (Below w.heap.size w (u6.alloc (.cells #[.int .i64 0, .int .i64 0, .slice none 0 0] 36))) := K6.out.alloc K6.out.size _
      have ph7 := hide (ph6.out.alloc (.cells #[.int .i64 0, .int .i64 0, .slice none 0 0] 36))
      have yh7 : Hid (Blk (u6.alloc (.cells #[.int .i64 0, .int .i64 0, .slice none 0 0] 36)) u6.heap.size #[.int .i64 0, .int .i64 0, .slice none 0 0] 36) := Blk.new u6 _ _
      have HA7 : Hid (w.heap.size ≤ u6.heap.size ∧ P < u6.heap.size ∧ u6.heap.size < (u6.alloc (.cells #[.int .i64 0, .int .i64 0, .slice none 0 0] 36)).heap.size) := ⟨K6.out.size, ph6.out.lt, by simp⟩
      go_upto_region 18 with fail
      generalize (u6.alloc (.cells #[.int .i64 0, .int .i64 0, .slice none 0 0] 36)) = u7 at *
      obtain ⟨Y, hY⟩ : ∃ Y, Y = u6.heap.size := ⟨_, rfl⟩
      rw [← hY] at yh7 HA7 ⊢
      clear hY
      have p0 : u7.cell? ⟨P, 0, none⟩ = some (.string t.name) := ph7.out.cell 0
      have p1 : u7.cell? ⟨P, 1, none⟩ = some (.slice a t.args.length c) := ph7.out.cell 1
      have pl := ph7.out.lt
      have pf := ph7.out.frozen
      have y0 : u7.cell? ⟨Y, 0, none⟩ = some (.int .i64 0) := yh7.out.cell 0
      have y1 : u7.cell? ⟨Y, 1, none⟩ = some (.int .i64 0) := yh7.out.cell 1
      have y2 : u7.cell? ⟨Y, 2, none⟩ = some (.slice none 0 0) := yh7.out.cell 2
      have yl := yh7.out.lt
      have yf := yh7.out.frozen
      go_wp2_with fail
      refine (lamOf_any (sizeL [t]) t _ _ XR (OkC.of HC0.out).1 (by exact V3.out _ K7.out) (Nat.le_refl _)).mono ?_
      rintro e u8 ⟨hbx, au, cu, rfl, hsu, hnu⟩
      have K8 := hide (K7.out.trans (hbx.mono K7.out.size))
      have ph8 := hide (ph7.out.below hbx ph7.out.lt)
      have yh8 := hide (yh7.out.below hbx yh7.out.lt)
      clear p0 p1 pl pf y0 y1 y2 yl yf
      obtain ⟨⟨er, u⟩, hu⟩ : ∃ r, r = toL (sizeL [t]) t := ⟨_, rfl⟩
      rw [← hu] at hsu ⊢
      have HU := hide hu.symm
      clear hu hnu
      simp only at hsu ⊢
      have SU := hide hsu
      clear hsu
      have p0 : u8.cell? ⟨P, 0, none⟩ = some (.string t.name) := ph8.out.cell 0
      have p1 : u8.cell? ⟨P, 1, none⟩ = some (.slice a t.args.length c) := ph8.out.cell 1
      have pl := ph8.out.lt
      have pf := ph8.out.frozen
      have y0 : u8.cell? ⟨Y, 0, none⟩ = some (.int .i64 0) := yh8.out.cell 0
      have y1 : u8.cell? ⟨Y, 1, none⟩ = some (.int .i64 0) := yh8.out.cell 1
      have y2 : u8.cell? ⟨Y, 2, none⟩ = some (.slice none 0 0) := yh8.out.cell 2
      have yl := yh8.out.lt
      have yf := yh8.out.frozen
      go_upto_region 19 with fail
      clear p0 p1 pl pf y0 y1 y2 yl yf
      have hPY : P ≠ Y := by have := HA7.out; omega
      have yh9 : Hid (Blk (((u8.setCell ⟨Y, 0, none⟩ (.int .i64 u.kind)).setCell ⟨Y, 1, none⟩ (.int .i64 u.idx)).setCell ⟨Y, 2, none⟩ (.slice au u.subs.length cu)) Y #[.int .i64 u.kind, .int .i64 u.idx, .slice au u.subs.length cu] 36) := ((yh8.out.set 0 _).set 1 _).set 2 _
      have ph9 : Hid (Blk (((u8.setCell ⟨Y, 0, none⟩ (.int .i64 u.kind)).setCell ⟨Y, 1, none⟩ (.int .i64 u.idx)).setCell ⟨Y, 2, none⟩ (.slice au u.subs.length cu)) P #[.string t.name, .slice a t.args.length c] 24) := ((ph8.out.setOther 0 _ hPY).setOther 1 _ hPY).setOther 2 _ hPY
      have K9 : Hid (Below w.heap.size w (((u8.setCell ⟨Y, 0, none⟩ (.int .i64 u.kind)).setCell ⟨Y, 1, none⟩ (.int .i64 u.idx)).setCell ⟨Y, 2, none⟩ (.slice au u.subs.length cu))) := set3_below K8.out HA7.out.1 _ _ _
      have us9 : Hid (SlM (((u8.setCell ⟨Y, 0, none⟩ (.int .i64 u.kind)).setCell ⟨Y, 1, none⟩ (.int .i64 u.idx)).setCell ⟨Y, 2, none⟩ (.slice au u.subs.length cu)) (fun b => u7.heap.size ≤ b) au u.subs) := SU.out.kept fun b hb => set3_other b (by have := HA7.out; omega)
      generalize (((u8.setCell ⟨Y, 0, none⟩ (.int .i64 u.kind)).setCell ⟨Y, 1, none⟩ (.int .i64 u.idx)).setCell ⟨Y, 2, none⟩ (.slice au u.subs.length cu)) = u9 at *
      clear hPY
      have HTE0 : Hid (toE t = if er = 0 then (if 2000 < sizeM [u] then (8, nilL) else (0, u)) else (er, nilL)) := by unfold Hid toE; rw [if_pos HC0.out, HU.out]
      by_cases he : er = 0
      rotate_left
      · have he' : (er == 0) = false := by simpa using he
        have HTE : Hid (toE t = (er, nilL)) := by unfold Hid; rw [HTE0.out, if_neg he]
        have p0 : u9.cell? ⟨P, 0, none⟩ = some (.string t.name) := ph9.out.cell 0
        have p1 : u9.cell? ⟨P, 1, none⟩ = some (.slice a t.args.length c) := ph9.out.cell 1
        have pl := ph9.out.lt
        have pf := ph9.out.frozen
        have y0 : u9.cell? ⟨Y, 0, none⟩ = some (.int .i64 u.kind) := yh9.out.cell 0
        have y1 : u9.cell? ⟨Y, 1, none⟩ = some (.int .i64 u.idx) := yh9.out.cell 1
        have y2 : u9.cell? ⟨Y, 2, none⟩ = some (.slice au u.subs.length cu) := yh9.out.cell 2
        have yl := yh9.out.lt
        have yf := yh9.out.frozen
        go_wp2_with fail
        refine (cTo_any t _ _ XR (by exact V3.out _ K9.out) (HT.out _ K9.out) (HS.out _ K9.out)).mono ?_
        rintro e u10 ⟨hbx, az, cz, rfl, hsz, hnz⟩
        have K10 := hide (K9.out.trans (hbx.mono K9.out.size))
        have ph10 := hide (ph9.out.below hbx ph9.out.lt)
        have yh10 := hide (yh9.out.below hbx yh9.out.lt)
        have uss10 := hide (us9.out.later hbx)
        clear p0 p1 pl pf y0 y1 y2 yl yf
        rw [HTE.out] at hnz ⊢
        obtain ⟨_, rfl, rfl⟩ := hnz he
        clear hsz
        simp only [nilL, List.length_nil]
        have K11 : Hid (Below w.heap.size w (u10.alloc (.cells #[.int .i64 0, .int .i64 0, .slice none 0 0] 36))) := K10.out.alloc K10.out.size _
        have ph11 := hide (ph10.out.alloc (.cells #[.int .i64 0, .int .i64 0, .slice none 0 0] 36))
        have yh11 := hide (yh10.out.alloc (.cells #[.int .i64 0, .int .i64 0, .slice none 0 0] 36))
        have uss11 := hide (uss10.out.later ((Below.refl _ _).alloc (Nat.le_refl _) (.cells #[.int .i64 0, .int .i64 0, .slice none 0 0] 36)))
        have zh11 : Hid (Blk (u10.alloc (.cells #[.int .i64 0, .int .i64 0, .slice none 0 0] 36)) u10.heap.size #[.int .i64 0, .int .i64 0, .slice none 0 0] 36) := Blk.new u10 _ _
        have HA11 : Hid (w.heap.size ≤ u10.heap.size ∧ P < u10.heap.size ∧ u10.heap.size < (u10.alloc (.cells #[.int .i64 0, .int .i64 0, .slice none 0 0] 36)).heap.size) := ⟨K10.out.size, ph10.out.lt, by simp⟩
        go_upto_region 22 with fail
        generalize (u10.alloc (.cells #[.int .i64 0, .int .i64 0, .slice none 0 0] 36)) = u11 at *
        obtain ⟨ZZ, hZZ⟩ : ∃ ZZ, ZZ = u10.heap.size := ⟨_, rfl⟩
        rw [← hZZ] at zh11 HA11 ⊢
        clear hZZ
        have p0 : u11.cell? ⟨P, 0, none⟩ = some (.string t.name) := ph11.out.cell 0
        have p1 : u11.cell? ⟨P, 1, none⟩ = some (.slice a t.args.length c) := ph11.out.cell 1
        have pl := ph11.out.lt
        have pf := ph11.out.frozen
        have y0 : u11.cell? ⟨Y, 0, none⟩ = some (.int .i64 u.kind) := yh11.out.cell 0
        have y1 : u11.cell? ⟨Y, 1, none⟩ = some (.int .i64 u.idx) := yh11.out.cell 1
        have y2 : u11.cell? ⟨Y, 2, none⟩ = some (.slice au u.subs.length cu) := yh11.out.cell 2
        have yl := yh11.out.lt
        have yf := yh11.out.frozen
        have z0 : u11.cell? ⟨ZZ, 0, none⟩ = some (.int .i64 0) := zh11.out.cell 0
        have z1 : u11.cell? ⟨ZZ, 1, none⟩ = some (.int .i64 0) := zh11.out.cell 1
        have z2 : u11.cell? ⟨ZZ, 2, none⟩ = some (.slice none 0 0) := zh11.out.cell 2
        have zl := zh11.out.lt
        have zf := zh11.out.frozen
        go_wp2_with fail
        refine (lam2_err er _ _ _ _ _ _ rfl _ he).mono ?_
        rintro e u12 ⟨rfl, hbx⟩
        have K12 := hide (K11.out.trans (hbx.mono K11.out.size))
        have ph12 := hide (ph11.out.below hbx ph11.out.lt)
        have yh12 := hide (yh11.out.below hbx yh11.out.lt)
        have zh12 := hide (zh11.out.below hbx zh11.out.lt)
        have uss12 := hide (uss11.out.later hbx)
        clear p0 p1 pl pf y0 y1 y2 yl yf z0 z1 z2 zl zf
        go_wp2_with fail
        go_ret
        exact ⟨rfl, K12.out⟩
      subst he
      have p0 : u9.cell? ⟨P, 0, none⟩ = some (.string t.name) := ph9.out.cell 0
      have p1 : u9.cell? ⟨P, 1, none⟩ = some (.slice a t.args.length c) := ph9.out.cell 1
      have pl := ph9.out.lt
      have pf := ph9.out.frozen
      have y0 : u9.cell? ⟨Y, 0, none⟩ = some (.int .i64 u.kind) := yh9.out.cell 0
      have y1 : u9.cell? ⟨Y, 1, none⟩ = some (.int .i64 u.idx) := yh9.out.cell 1
      have y2 : u9.cell? ⟨Y, 2, none⟩ = some (.slice au u.subs.length cu) := yh9.out.cell 2
      have yl := yh9.out.lt
      have yf := yh9.out.frozen
      go_wp2_with fail
      refine (lamSize_any u _ 2000 _ (fun b => u7.heap.size ≤ b) (by exact ⟨au, cu, rfl, us9.out⟩) (by omega) (by omega)).mono ?_
      rintro e u13 ⟨rfl, hbx⟩
      have K13 := hide (K9.out.trans (hbx.mono K9.out.size))
      have ph13 := hide (ph9.out.below hbx ph9.out.lt)
      have yh13 := hide (yh9.out.below hbx yh9.out.lt)
      have uss13 := hide (us9.out.later hbx)
      clear p0 p1 pl pf y0 y1 y2 yl yf
      obtain ⟨q, hq⟩ : ∃ q : Int, q = min ((sizeM [u] : Nat) : Int) (2000 + 1) := ⟨_, rfl⟩
      have HQ := hide hq
      rw [← hq]
      clear hq
      by_cases hg : 2000 < q
      · have HTE : Hid (toE t = (8, nilL)) := by unfold Hid; rw [HTE0.out, if_pos (by first | trivial | rfl), if_pos (by have := HQ.out; omega)]
        have h8 : (8 : Int) ≠ 0 := by decide
        have p0 : u13.cell? ⟨P, 0, none⟩ = some (.string t.name) := ph13.out.cell 0
        have p1 : u13.cell? ⟨P, 1, none⟩ = some (.slice a t.args.length c) := ph13.out.cell 1
        have pl := ph13.out.lt
        have pf := ph13.out.frozen
        have y0 : u13.cell? ⟨Y, 0, none⟩ = some (.int .i64 u.kind) := yh13.out.cell 0
        have y1 : u13.cell? ⟨Y, 1, none⟩ = some (.int .i64 u.idx) := yh13.out.cell 1
        have y2 : u13.cell? ⟨Y, 2, none⟩ = some (.slice au u.subs.length cu) := yh13.out.cell 2
        have yl := yh13.out.lt
        have yf := yh13.out.frozen
        go_wp2_with fail
        refine (cTo_any t _ _ XR (by exact V3.out _ K13.out) (HT.out _ K13.out) (HS.out _ K13.out)).mono ?_
        rintro e u14 ⟨hbx, az, cz, rfl, hsz, hnz⟩
        have K14 := hide (K13.out.trans (hbx.mono K13.out.size))
        have ph14 := hide (ph13.out.below hbx ph13.out.lt)
        have yh14 := hide (yh13.out.below hbx yh13.out.lt)
        have uss14 := hide (uss13.out.later hbx)
        clear p0 p1 pl pf y0 y1 y2 yl yf
        rw [HTE.out] at hnz ⊢
        obtain ⟨_, rfl, rfl⟩ := hnz h8
        clear hsz
        simp only [nilL, List.length_nil]
        have K15 : Hid (Below w.heap.size w (u14.alloc (.cells #[.int .i64 0, .int .i64 0, .slice none 0 0] 36))) := K14.out.alloc K14.out.size _
        have ph15 := hide (ph14.out.alloc (.cells #[.int .i64 0, .int .i64 0, .slice none 0 0] 36))
        have yh15 := hide (yh14.out.alloc (.cells #[.int .i64 0, .int .i64 0, .slice none 0 0] 36))
        have uss15 := hide (uss14.out.later ((Below.refl _ _).alloc (Nat.le_refl _) (.cells #[.int .i64 0, .int .i64 0, .slice none 0 0] 36)))
        have zh15 : Hid (Blk (u14.alloc (.cells #[.int .i64 0, .int .i64 0, .slice none 0 0] 36)) u14.heap.size #[.int .i64 0, .int .i64 0, .slice none 0 0] 36) := Blk.new u14 _ _
        have HA15 : Hid (w.heap.size ≤ u14.heap.size ∧ P < u14.heap.size ∧ u14.heap.size < (u14.alloc (.cells #[.int .i64 0, .int .i64 0, .slice none 0 0] 36)).heap.size) := ⟨K14.out.size, ph14.out.lt, by simp⟩
        go_upto_region 22 with fail
        generalize (u14.alloc (.cells #[.int .i64 0, .int .i64 0, .slice none 0 0] 36)) = u15 at *
        obtain ⟨ZZ, hZZ⟩ : ∃ ZZ, ZZ = u14.heap.size := ⟨_, rfl⟩
        rw [← hZZ] at zh15 HA15 ⊢
        clear hZZ
        have p0 : u15.cell? ⟨P, 0, none⟩ = some (.string t.name) := ph15.out.cell 0
        have p1 : u15.cell? ⟨P, 1, none⟩ = some (.slice a t.args.length c) := ph15.out.cell 1
        have pl := ph15.out.lt
        have pf := ph15.out.frozen
        have y0 : u15.cell? ⟨Y, 0, none⟩ = some (.int .i64 u.kind) := yh15.out.cell 0
        have y1 : u15.cell? ⟨Y, 1, none⟩ = some (.int .i64 u.idx) := yh15.out.cell 1
        have y2 : u15.cell? ⟨Y, 2, none⟩ = some (.slice au u.subs.length cu) := yh15.out.cell 2
        have yl := yh15.out.lt
        have yf := yh15.out.frozen
        have z0 : u15.cell? ⟨ZZ, 0, none⟩ = some (.int .i64 0) := zh15.out.cell 0
        have z1 : u15.cell? ⟨ZZ, 1, none⟩ = some (.int .i64 0) := zh15.out.cell 1
        have z2 : u15.cell? ⟨ZZ, 2, none⟩ = some (.slice none 0 0) := zh15.out.cell 2
        have zl := zh15.out.lt
        have zf := zh15.out.frozen
        go_wp2_with fail
        refine (lam2_err 8 _ _ _ _ _ _ rfl _ h8).mono ?_
        rintro e u16 ⟨rfl, hbx⟩
        have K16 := hide (K15.out.trans (hbx.mono K15.out.size))
        have ph16 := hide (ph15.out.below hbx ph15.out.lt)
        have yh16 := hide (yh15.out.below hbx yh15.out.lt)
        have zh16 := hide (zh15.out.below hbx zh15.out.lt)
        have uss16 := hide (uss15.out.later hbx)
        clear p0 p1 pl pf y0 y1 y2 yl yf z0 z1 z2 zl zf
        go_wp2_with fail
        go_ret
        exact ⟨rfl, K16.out⟩
      have HTE : Hid (toE t = (0, u)) := by unfold Hid; rw [HTE0.out, if_pos (by first | trivial | rfl), if_neg (by have := HQ.out; omega)]
      have p0 : u13.cell? ⟨P, 0, none⟩ = some (.string t.name) := ph13.out.cell 0
      have p1 : u13.cell? ⟨P, 1, none⟩ = some (.slice a t.args.length c) := ph13.out.cell 1
      have pl := ph13.out.lt
      have pf := ph13.out.frozen
      have y0 : u13.cell? ⟨Y, 0, none⟩ = some (.int .i64 u.kind) := yh13.out.cell 0
      have y1 : u13.cell? ⟨Y, 1, none⟩ = some (.int .i64 u.idx) := yh13.out.cell 1
      have y2 : u13.cell? ⟨Y, 2, none⟩ = some (.slice au u.subs.length cu) := yh13.out.cell 2
      have yl := yh13.out.lt
      have yf := yh13.out.frozen
      go_wp2_with fail
      refine (cTo_any t _ _ XR (by exact V3.out _ K13.out) (HT.out _ K13.out) (HS.out _ K13.out)).mono ?_
      rintro e u17 ⟨hbx, az, cz, rfl, hsz, hnz⟩
      have K17 := hide (K13.out.trans (hbx.mono K13.out.size))
      have ph17 := hide (ph13.out.below hbx ph13.out.lt)
      have yh17 := hide (yh13.out.below hbx yh13.out.lt)
      have uss17 := hide (uss13.out.later hbx)
      clear p0 p1 pl pf y0 y1 y2 yl yf
      rw [HTE.out] at hsz ⊢
      clear hnz
      simp only at hsz ⊢
      have SZ := hide hsz
      clear hsz
      have K18 : Hid (Below w.heap.size w (u17.alloc (.cells #[.int .i64 u.kind, .int .i64 u.idx, .slice az u.subs.length cz] 36))) := K17.out.alloc K17.out.size _
      have ph18 := hide (ph17.out.alloc (.cells #[.int .i64 u.kind, .int .i64 u.idx, .slice az u.subs.length cz] 36))
      have yh18 := hide (yh17.out.alloc (.cells #[.int .i64 u.kind, .int .i64 u.idx, .slice az u.subs.length cz] 36))
      have uss18 := hide (uss17.out.later ((Below.refl _ _).alloc (Nat.le_refl _) (.cells #[.int .i64 u.kind, .int .i64 u.idx, .slice az u.subs.length cz] 36)))
      have vss18 := hide (SZ.out.later ((Below.refl _ _).alloc (Nat.le_refl _) (.cells #[.int .i64 u.kind, .int .i64 u.idx, .slice az u.subs.length cz] 36)))
      have zh18 : Hid (Blk (u17.alloc (.cells #[.int .i64 u.kind, .int .i64 u.idx, .slice az u.subs.length cz] 36)) u17.heap.size #[.int .i64 u.kind, .int .i64 u.idx, .slice az u.subs.length cz] 36) := Blk.new u17 _ _
      have HA18 : Hid (w.heap.size ≤ u17.heap.size ∧ P < u17.heap.size ∧ u17.heap.size < (u17.alloc (.cells #[.int .i64 u.kind, .int .i64 u.idx, .slice az u.subs.length cz] 36)).heap.size) := ⟨K17.out.size, ph17.out.lt, by simp⟩
      go_upto_region 22 with fail
      generalize (u17.alloc (.cells #[.int .i64 u.kind, .int .i64 u.idx, .slice az u.subs.length cz] 36)) = u18 at *
      obtain ⟨ZZ, hZZ⟩ : ∃ ZZ, ZZ = u17.heap.size := ⟨_, rfl⟩
      rw [← hZZ] at zh18 HA18 ⊢
      clear hZZ
      have p0 : u18.cell? ⟨P, 0, none⟩ = some (.string t.name) := ph18.out.cell 0
      have p1 : u18.cell? ⟨P, 1, none⟩ = some (.slice a t.args.length c) := ph18.out.cell 1
      have pl := ph18.out.lt
      have pf := ph18.out.frozen
      have y0 : u18.cell? ⟨Y, 0, none⟩ = some (.int .i64 u.kind) := yh18.out.cell 0
      have y1 : u18.cell? ⟨Y, 1, none⟩ = some (.int .i64 u.idx) := yh18.out.cell 1
      have y2 : u18.cell? ⟨Y, 2, none⟩ = some (.slice au u.subs.length cu) := yh18.out.cell 2
      have yl := yh18.out.lt
      have yf := yh18.out.frozen
      have z0 : u18.cell? ⟨ZZ, 0, none⟩ = some (.int .i64 u.kind) := zh18.out.cell 0
      have z1 : u18.cell? ⟨ZZ, 1, none⟩ = some (.int .i64 u.idx) := zh18.out.cell 1
      have z2 : u18.cell? ⟨ZZ, 2, none⟩ = some (.slice az u.subs.length cz) := zh18.out.cell 2
      have zl := zh18.out.lt
      have zf := zh18.out.frozen
      go_wp2_with fail
      refine (lam2_ok u _ _ _ (fun b => u13.heap.size ≤ b) (fun b => u7.heap.size ≤ b) (by exact ⟨az, cz, rfl, vss18.out⟩) (by exact ⟨au, cu, rfl, uss18.out⟩)).mono ?_
      rintro e u19 ⟨rfl, hbx⟩
      have K19 := hide (K18.out.trans (hbx.mono K18.out.size))
      have ph19 := hide (ph18.out.below hbx ph18.out.lt)
      have yh19 := hide (yh18.out.below hbx yh18.out.lt)
      have zh19 := hide (zh18.out.below hbx zh18.out.lt)
      have uss19 := hide (uss18.out.later hbx)
      have vss19 := hide (vss18.out.later hbx)
      clear p0 p1 pl pf y0 y1 y2 yl yf z0 z1 z2 zl zf
      go_wp2_with fail
      go_ret
      exact ⟨rfl, K19.out⟩
    · have hce1 : (ce == 0) = false := by simpa using hce0
      have K20 : Hid (Below w.heap.size w (u6.alloc (.cells #[.int .i64 0, .int .i64 0, .slice none 0 0] 36))) := K6.out.alloc K6.out.size _
      have ph20 := hide (ph6.out.alloc (.cells #[.int .i64 0, .int .i64 0, .slice none 0 0] 36))
      have yh20 : Hid (Blk (u6.alloc (.cells #[.int .i64 0, .int .i64 0, .slice none 0 0] 36)) u6.heap.size #[.int .i64 0, .int .i64 0, .slice none 0 0] 36) := Blk.new u6 _ _
      have HA20 : Hid (w.heap.size ≤ u6.heap.size ∧ P < u6.heap.size ∧ u6.heap.size < (u6.alloc (.cells #[.int .i64 0, .int .i64 0, .slice none 0 0] 36)).heap.size) := ⟨K6.out.size, ph6.out.lt, by simp⟩
      go_upto_region 21 with fail
      generalize (u6.alloc (.cells #[.int .i64 0, .int .i64 0, .slice none 0 0] 36)) = u20 at *
      obtain ⟨Y, hY⟩ : ∃ Y, Y = u6.heap.size := ⟨_, rfl⟩
      rw [← hY] at yh20 HA20 ⊢
      clear hY
      have HTE : Hid (toE t = (ce, nilL)) := by unfold Hid toE; rw [← HCE.out, if_neg hce0]
      have p0 : u20.cell? ⟨P, 0, none⟩ = some (.string t.name) := ph20.out.cell 0
      have p1 : u20.cell? ⟨P, 1, none⟩ = some (.slice a t.args.length c) := ph20.out.cell 1
      have pl := ph20.out.lt
      have pf := ph20.out.frozen
      have y0 : u20.cell? ⟨Y, 0, none⟩ = some (.int .i64 0) := yh20.out.cell 0
      have y1 : u20.cell? ⟨Y, 1, none⟩ = some (.int .i64 0) := yh20.out.cell 1
      have y2 : u20.cell? ⟨Y, 2, none⟩ = some (.slice none 0 0) := yh20.out.cell 2
      have yl := yh20.out.lt
      have yf := yh20.out.frozen
      go_wp2_with fail
      refine (cTo_any t _ _ XR (by exact V3.out _ K20.out) (HT.out _ K20.out) (HS.out _ K20.out)).mono ?_
      rintro e u21 ⟨hbx, az, cz, rfl, hsz, hnz⟩
      have K21 := hide (K20.out.trans (hbx.mono K20.out.size))
      have ph21 := hide (ph20.out.below hbx ph20.out.lt)
      have yh21 := hide (yh20.out.below hbx yh20.out.lt)
      clear p0 p1 pl pf y0 y1 y2 yl yf
      rw [HTE.out] at hnz ⊢
      obtain ⟨_, rfl, rfl⟩ := hnz hce0
      clear hsz
      simp only [nilL, List.length_nil]
      have K22 : Hid (Below w.heap.size w (u21.alloc (.cells #[.int .i64 0, .int .i64 0, .slice none 0 0] 36))) := K21.out.alloc K21.out.size _
      have ph22 := hide (ph21.out.alloc (.cells #[.int .i64 0, .int .i64 0, .slice none 0 0] 36))
      have yh22 := hide (yh21.out.alloc (.cells #[.int .i64 0, .int .i64 0, .slice none 0 0] 36))
      have zh22 : Hid (Blk (u21.alloc (.cells #[.int .i64 0, .int .i64 0, .slice none 0 0] 36)) u21.heap.size #[.int .i64 0, .int .i64 0, .slice none 0 0] 36) := Blk.new u21 _ _
      have HA22 : Hid (w.heap.size ≤ u21.heap.size ∧ P < u21.heap.size ∧ u21.heap.size < (u21.alloc (.cells #[.int .i64 0, .int .i64 0, .slice none 0 0] 36)).heap.size) := ⟨K21.out.size, ph21.out.lt, by simp⟩
      go_upto_region 22 with fail
      generalize (u21.alloc (.cells #[.int .i64 0, .int .i64 0, .slice none 0 0] 36)) = u22 at *
      obtain ⟨ZZ, hZZ⟩ : ∃ ZZ, ZZ = u21.heap.size := ⟨_, rfl⟩
      rw [← hZZ] at zh22 HA22 ⊢
      clear hZZ
      have p0 : u22.cell? ⟨P, 0, none⟩ = some (.string t.name) := ph22.out.cell 0
      have p1 : u22.cell? ⟨P, 1, none⟩ = some (.slice a t.args.length c) := ph22.out.cell 1
      have pl := ph22.out.lt
      have pf := ph22.out.frozen
      have y0 : u22.cell? ⟨Y, 0, none⟩ = some (.int .i64 0) := yh22.out.cell 0
      have y1 : u22.cell? ⟨Y, 1, none⟩ = some (.int .i64 0) := yh22.out.cell 1
      have y2 : u22.cell? ⟨Y, 2, none⟩ = some (.slice none 0 0) := yh22.out.cell 2
      have yl := yh22.out.lt
      have yf := yh22.out.frozen
      have z0 : u22.cell? ⟨ZZ, 0, none⟩ = some (.int .i64 0) := zh22.out.cell 0
      have z1 : u22.cell? ⟨ZZ, 1, none⟩ = some (.int .i64 0) := zh22.out.cell 1
      have z2 : u22.cell? ⟨ZZ, 2, none⟩ = some (.slice none 0 0) := zh22.out.cell 2
      have zl := zh22.out.lt
      have zf := zh22.out.frozen
      go_wp2_with fail
      refine (lam2_err ce _ _ _ _ _ _ rfl _ hce0).mono ?_
      rintro e u23 ⟨rfl, hbx⟩
      have K23 := hide (K22.out.trans (hbx.mono K22.out.size))
      have ph23 := hide (ph22.out.below hbx ph22.out.lt)
      have yh23 := hide (yh22.out.below hbx yh22.out.lt)
      have zh23 := hide (zh22.out.below hbx zh22.out.lt)
      clear p0 p1 pl pf y0 y1 y2 yl yf z0 z1 z2 zl zf
      go_wp2_with fail
      go_ret
      exact ⟨rfl, K23.out⟩
  | true =>
    have p0 : u1.cell? ⟨P, 0, none⟩ = some (.string t.name) := ph1.out.cell 0
    have p1 : u1.cell? ⟨P, 1, none⟩ = some (.slice a t.args.length c) := ph1.out.cell 1
    have pl := ph1.out.lt
    have pf := ph1.out.frozen
    go_wp2_with fail
    refine (isVarR_any nm _).mono ?_
    rintro e wx ⟨rfl, hwx⟩
    subst wx
    clear p0 p1 pl pf
    cases hV : varB nm with
    | false =>
      have HBE : Hid (brkE nm t = 1) := brkE_one (by rw [hV]; simp)
      have HBN : Hid (brkE nm t ≠ 0) := by unfold Hid; rw [HBE.out]; decide
      have her : (1 : Int) ≠ 0 := by decide
      clear hN hV
      have K24 : Hid (Below w.heap.size w (u1.alloc (.cells #[.string ⟨#[]⟩, .slice none 0 0] 24))) := K1.out.alloc K1.out.size _
      have ph24 := hide (ph1.out.alloc (.cells #[.string ⟨#[]⟩, .slice none 0 0] 24))
      have oh24 : Hid (Blk (u1.alloc (.cells #[.string ⟨#[]⟩, .slice none 0 0] 24)) u1.heap.size #[.string ⟨#[]⟩, .slice none 0 0] 24) := Blk.new u1 _ _
      have HA24 : Hid (w.heap.size ≤ u1.heap.size ∧ P < u1.heap.size ∧ u1.heap.size < (u1.alloc (.cells #[.string ⟨#[]⟩, .slice none 0 0] 24)).heap.size) := ⟨K1.out.size, ph1.out.lt, by simp⟩
      go_upto_region 12 with fail
      generalize (u1.alloc (.cells #[.string ⟨#[]⟩, .slice none 0 0] 24)) = u24 at *
      obtain ⟨O, hO⟩ : ∃ O, O = u1.heap.size := ⟨_, rfl⟩
      rw [← hO] at oh24 HA24 ⊢
      clear hO
      have p0 : u24.cell? ⟨P, 0, none⟩ = some (.string t.name) := ph24.out.cell 0
      have p1 : u24.cell? ⟨P, 1, none⟩ = some (.slice a t.args.length c) := ph24.out.cell 1
      have pl := ph24.out.lt
      have pf := ph24.out.frozen
      have o0 : u24.cell? ⟨O, 0, none⟩ = some (.string ⟨#[]⟩) := oh24.out.cell 0
      have o1 : u24.cell? ⟨O, 1, none⟩ = some (.slice none 0 0) := oh24.out.cell 1
      have ol := oh24.out.lt
      have of := oh24.out.frozen
      go_wp2_with fail
      refine (bracketE_any nm t HBN.out _ _ XR (by exact V3.out _ K24.out)).mono ?_
      rintro e u25 ⟨rfl, hbx⟩
      have K25 := hide (K24.out.trans (hbx.mono K24.out.size))
      have ph25 := hide (ph24.out.below hbx ph24.out.lt)
      have oh25 := hide (oh24.out.below hbx oh24.out.lt)
      clear p0 p1 pl pf o0 o1 ol of
      rw [HBE.out]
      have K26 : Hid (Below w.heap.size w (u25.alloc (.cells #[.string ⟨#[]⟩, .slice none 0 0] 24))) := K25.out.alloc K25.out.size _
      have ph26 := hide (ph25.out.alloc (.cells #[.string ⟨#[]⟩, .slice none 0 0] 24))
      have oh26 := hide (oh25.out.alloc (.cells #[.string ⟨#[]⟩, .slice none 0 0] 24))
      have qh26 : Hid (Blk (u25.alloc (.cells #[.string ⟨#[]⟩, .slice none 0 0] 24)) u25.heap.size #[.string ⟨#[]⟩, .slice none 0 0] 24) := Blk.new u25 _ _
      have HA26 : Hid (w.heap.size ≤ u25.heap.size ∧ P < u25.heap.size ∧ u25.heap.size < (u25.alloc (.cells #[.string ⟨#[]⟩, .slice none 0 0] 24)).heap.size) := ⟨K25.out.size, ph25.out.lt, by simp⟩
      go_upto_region 13 with fail
      generalize (u25.alloc (.cells #[.string ⟨#[]⟩, .slice none 0 0] 24)) = u26 at *
      obtain ⟨Q, hQ⟩ : ∃ Q, Q = u25.heap.size := ⟨_, rfl⟩
      rw [← hQ] at qh26 HA26 ⊢
      clear hQ
      have p0 : u26.cell? ⟨P, 0, none⟩ = some (.string t.name) := ph26.out.cell 0
      have p1 : u26.cell? ⟨P, 1, none⟩ = some (.slice a t.args.length c) := ph26.out.cell 1
      have pl := ph26.out.lt
      have pf := ph26.out.frozen
      have o0 : u26.cell? ⟨O, 0, none⟩ = some (.string ⟨#[]⟩) := oh26.out.cell 0
      have o1 : u26.cell? ⟨O, 1, none⟩ = some (.slice none 0 0) := oh26.out.cell 1
      have ol := oh26.out.lt
      have of := oh26.out.frozen
      have q0 : u26.cell? ⟨Q, 0, none⟩ = some (.string ⟨#[]⟩) := qh26.out.cell 0
      have q1 : u26.cell? ⟨Q, 1, none⟩ = some (.slice none 0 0) := qh26.out.cell 1
      have ql := qh26.out.lt
      have qf := qh26.out.frozen
      go_wp2_with fail
      refine (ccheck_any t _ _ XR (by exact V3.out _ K26.out)).mono ?_
      rintro e u27 ⟨rfl, hbx⟩
      have K27 := hide (K26.out.trans (hbx.mono K26.out.size))
      have ph27 := hide (ph26.out.below hbx ph26.out.lt)
      have oh27 := hide (oh26.out.below hbx oh26.out.lt)
      have qh27 := hide (qh26.out.below hbx qh26.out.lt)
      clear p0 p1 pl pf o0 o1 ol of q0 q1 ql qf
      rw [← HCE.out]
      have p0 : u27.cell? ⟨P, 0, none⟩ = some (.string t.name) := ph27.out.cell 0
      have p1 : u27.cell? ⟨P, 1, none⟩ = some (.slice a t.args.length c) := ph27.out.cell 1
      have pl := ph27.out.lt
      have pf := ph27.out.frozen
      have o0 : u27.cell? ⟨O, 0, none⟩ = some (.string ⟨#[]⟩) := oh27.out.cell 0
      have o1 : u27.cell? ⟨O, 1, none⟩ = some (.slice none 0 0) := oh27.out.cell 1
      have ol := oh27.out.lt
      have of := oh27.out.frozen
      have q0 : u27.cell? ⟨Q, 0, none⟩ = some (.string ⟨#[]⟩) := qh27.out.cell 0
      have q1 : u27.cell? ⟨Q, 1, none⟩ = some (.slice none 0 0) := qh27.out.cell 1
      have ql := qh27.out.lt
      have qf := qh27.out.frozen
      go_wp2_with fail
      refine (term2_err 1 _ _ _ _ _ rfl _ her).mono ?_
      rintro e u28 ⟨rfl, hbx⟩
      have K28 := hide (K27.out.trans (hbx.mono K27.out.size))
      have ph28 := hide (ph27.out.below hbx ph27.out.lt)
      have oh28 := hide (oh27.out.below hbx oh27.out.lt)
      have qh28 := hide (qh27.out.below hbx qh27.out.lt)
      clear p0 p1 pl pf o0 o1 ol of q0 q1 ql qf
      by_cases hce0 : ce = 0
      · have HC0 : Hid (combE t = 0) := by unfold Hid; rw [← HCE.out]; exact hce0
        rw [hce0]
        clear hce0
        have K29 : Hid (Below w.heap.size w (u28.alloc (.cells #[.int .i64 0, .int .i64 0, .slice none 0 0] 36))) := K28.out.alloc K28.out.size _
        have ph29 := hide (ph28.out.alloc (.cells #[.int .i64 0, .int .i64 0, .slice none 0 0] 36))
        have yh29 : Hid (Blk (u28.alloc (.cells #[.int .i64 0, .int .i64 0, .slice none 0 0] 36)) u28.heap.size #[.int .i64 0, .int .i64 0, .slice none 0 0] 36) := Blk.new u28 _ _
        have HA29 : Hid (w.heap.size ≤ u28.heap.size ∧ P < u28.heap.size ∧ u28.heap.size < (u28.alloc (.cells #[.int .i64 0, .int .i64 0, .slice none 0 0] 36)).heap.size) := ⟨K28.out.size, ph28.out.lt, by simp⟩
        go_upto_region 18 with fail
        generalize (u28.alloc (.cells #[.int .i64 0, .int .i64 0, .slice none 0 0] 36)) = u29 at *
        obtain ⟨Y, hY⟩ : ∃ Y, Y = u28.heap.size := ⟨_, rfl⟩
        rw [← hY] at yh29 HA29 ⊢
        clear hY
        have p0 : u29.cell? ⟨P, 0, none⟩ = some (.string t.name) := ph29.out.cell 0
        have p1 : u29.cell? ⟨P, 1, none⟩ = some (.slice a t.args.length c) := ph29.out.cell 1
        have pl := ph29.out.lt
        have pf := ph29.out.frozen
        have y0 : u29.cell? ⟨Y, 0, none⟩ = some (.int .i64 0) := yh29.out.cell 0
        have y1 : u29.cell? ⟨Y, 1, none⟩ = some (.int .i64 0) := yh29.out.cell 1
        have y2 : u29.cell? ⟨Y, 2, none⟩ = some (.slice none 0 0) := yh29.out.cell 2
        have yl := yh29.out.lt
        have yf := yh29.out.frozen
        go_wp2_with fail
        refine (lamOf_any (sizeL [t]) t _ _ XR (OkC.of HC0.out).1 (by exact V3.out _ K29.out) (Nat.le_refl _)).mono ?_
        rintro e u30 ⟨hbx, au, cu, rfl, hsu, hnu⟩
        have K30 := hide (K29.out.trans (hbx.mono K29.out.size))
        have ph30 := hide (ph29.out.below hbx ph29.out.lt)
        have yh30 := hide (yh29.out.below hbx yh29.out.lt)
        clear p0 p1 pl pf y0 y1 y2 yl yf
        obtain ⟨⟨er, u⟩, hu⟩ : ∃ r, r = toL (sizeL [t]) t := ⟨_, rfl⟩
        rw [← hu] at hsu ⊢
        have HU := hide hu.symm
        clear hu hnu
        simp only at hsu ⊢
        have SU := hide hsu
        clear hsu
        have p0 : u30.cell? ⟨P, 0, none⟩ = some (.string t.name) := ph30.out.cell 0
        have p1 : u30.cell? ⟨P, 1, none⟩ = some (.slice a t.args.length c) := ph30.out.cell 1
        have pl := ph30.out.lt
        have pf := ph30.out.frozen
        have y0 : u30.cell? ⟨Y, 0, none⟩ = some (.int .i64 0) := yh30.out.cell 0
        have y1 : u30.cell? ⟨Y, 1, none⟩ = some (.int .i64 0) := yh30.out.cell 1
        have y2 : u30.cell? ⟨Y, 2, none⟩ = some (.slice none 0 0) := yh30.out.cell 2
        have yl := yh30.out.lt
        have yf := yh30.out.frozen
        go_upto_region 19 with fail
        clear p0 p1 pl pf y0 y1 y2 yl yf
        have hPY : P ≠ Y := by have := HA29.out; omega
        have yh31 : Hid (Blk (((u30.setCell ⟨Y, 0, none⟩ (.int .i64 u.kind)).setCell ⟨Y, 1, none⟩ (.int .i64 u.idx)).setCell ⟨Y, 2, none⟩ (.slice au u.subs.length cu)) Y #[.int .i64 u.kind, .int .i64 u.idx, .slice au u.subs.length cu] 36) := ((yh30.out.set 0 _).set 1 _).set 2 _
        have ph31 : Hid (Blk (((u30.setCell ⟨Y, 0, none⟩ (.int .i64 u.kind)).setCell ⟨Y, 1, none⟩ (.int .i64 u.idx)).setCell ⟨Y, 2, none⟩ (.slice au u.subs.length cu)) P #[.string t.name, .slice a t.args.length c] 24) := ((ph30.out.setOther 0 _ hPY).setOther 1 _ hPY).setOther 2 _ hPY
        have K31 : Hid (Below w.heap.size w (((u30.setCell ⟨Y, 0, none⟩ (.int .i64 u.kind)).setCell ⟨Y, 1, none⟩ (.int .i64 u.idx)).setCell ⟨Y, 2, none⟩ (.slice au u.subs.length cu))) := set3_below K30.out HA29.out.1 _ _ _
        have us31 : Hid (SlM (((u30.setCell ⟨Y, 0, none⟩ (.int .i64 u.kind)).setCell ⟨Y, 1, none⟩ (.int .i64 u.idx)).setCell ⟨Y, 2, none⟩ (.slice au u.subs.length cu)) (fun b => u29.heap.size ≤ b) au u.subs) := SU.out.kept fun b hb => set3_other b (by have := HA29.out; omega)
        generalize (((u30.setCell ⟨Y, 0, none⟩ (.int .i64 u.kind)).setCell ⟨Y, 1, none⟩ (.int .i64 u.idx)).setCell ⟨Y, 2, none⟩ (.slice au u.subs.length cu)) = u31 at *
        clear hPY
        have HTE0 : Hid (toE t = if er = 0 then (if 2000 < sizeM [u] then (8, nilL) else (0, u)) else (er, nilL)) := by unfold Hid toE; rw [if_pos HC0.out, HU.out]
        by_cases he : er = 0
        rotate_left
        · have he' : (er == 0) = false := by simpa using he
          have HTE : Hid (toE t = (er, nilL)) := by unfold Hid; rw [HTE0.out, if_neg he]
          have p0 : u31.cell? ⟨P, 0, none⟩ = some (.string t.name) := ph31.out.cell 0
          have p1 : u31.cell? ⟨P, 1, none⟩ = some (.slice a t.args.length c) := ph31.out.cell 1
          have pl := ph31.out.lt
          have pf := ph31.out.frozen
          have y0 : u31.cell? ⟨Y, 0, none⟩ = some (.int .i64 u.kind) := yh31.out.cell 0
          have y1 : u31.cell? ⟨Y, 1, none⟩ = some (.int .i64 u.idx) := yh31.out.cell 1
          have y2 : u31.cell? ⟨Y, 2, none⟩ = some (.slice au u.subs.length cu) := yh31.out.cell 2
          have yl := yh31.out.lt
          have yf := yh31.out.frozen
          go_wp2_with fail
          refine (cTo_any t _ _ XR (by exact V3.out _ K31.out) (HT.out _ K31.out) (HS.out _ K31.out)).mono ?_
          rintro e u32 ⟨hbx, az, cz, rfl, hsz, hnz⟩
          have K32 := hide (K31.out.trans (hbx.mono K31.out.size))
          have ph32 := hide (ph31.out.below hbx ph31.out.lt)
          have yh32 := hide (yh31.out.below hbx yh31.out.lt)
          have uss32 := hide (us31.out.later hbx)
          clear p0 p1 pl pf y0 y1 y2 yl yf
          rw [HTE.out] at hnz ⊢
          obtain ⟨_, rfl, rfl⟩ := hnz he
          clear hsz
          simp only [nilL, List.length_nil]
          have K33 : Hid (Below w.heap.size w (u32.alloc (.cells #[.int .i64 0, .int .i64 0, .slice none 0 0] 36))) := K32.out.alloc K32.out.size _
          have ph33 := hide (ph32.out.alloc (.cells #[.int .i64 0, .int .i64 0, .slice none 0 0] 36))
          have yh33 := hide (yh32.out.alloc (.cells #[.int .i64 0, .int .i64 0, .slice none 0 0] 36))
          have uss33 := hide (uss32.out.later ((Below.refl _ _).alloc (Nat.le_refl _) (.cells #[.int .i64 0, .int .i64 0, .slice none 0 0] 36)))
          have zh33 : Hid (Blk (u32.alloc (.cells #[.int .i64 0, .int .i64 0, .slice none 0 0] 36)) u32.heap.size #[.int .i64 0, .int .i64 0, .slice none 0 0] 36) := Blk.new u32 _ _
          have HA33 : Hid (w.heap.size ≤ u32.heap.size ∧ P < u32.heap.size ∧ u32.heap.size < (u32.alloc (.cells #[.int .i64 0, .int .i64 0, .slice none 0 0] 36)).heap.size) := ⟨K32.out.size, ph32.out.lt, by simp⟩
          go_upto_region 22 with fail
          generalize (u32.alloc (.cells #[.int .i64 0, .int .i64 0, .slice none 0 0] 36)) = u33 at *
          obtain ⟨ZZ, hZZ⟩ : ∃ ZZ, ZZ = u32.heap.size := ⟨_, rfl⟩
          rw [← hZZ] at zh33 HA33 ⊢
          clear hZZ
          have p0 : u33.cell? ⟨P, 0, none⟩ = some (.string t.name) := ph33.out.cell 0
          have p1 : u33.cell? ⟨P, 1, none⟩ = some (.slice a t.args.length c) := ph33.out.cell 1
          have pl := ph33.out.lt
          have pf := ph33.out.frozen
          have y0 : u33.cell? ⟨Y, 0, none⟩ = some (.int .i64 u.kind) := yh33.out.cell 0
          have y1 : u33.cell? ⟨Y, 1, none⟩ = some (.int .i64 u.idx) := yh33.out.cell 1
          have y2 : u33.cell? ⟨Y, 2, none⟩ = some (.slice au u.subs.length cu) := yh33.out.cell 2
          have yl := yh33.out.lt
          have yf := yh33.out.frozen
          have z0 : u33.cell? ⟨ZZ, 0, none⟩ = some (.int .i64 0) := zh33.out.cell 0
          have z1 : u33.cell? ⟨ZZ, 1, none⟩ = some (.int .i64 0) := zh33.out.cell 1
          have z2 : u33.cell? ⟨ZZ, 2, none⟩ = some (.slice none 0 0) := zh33.out.cell 2
          have zl := zh33.out.lt
          have zf := zh33.out.frozen
          go_wp2_with fail
          refine (lam2_err er _ _ _ _ _ _ rfl _ he).mono ?_
          rintro e u34 ⟨rfl, hbx⟩
          have K34 := hide (K33.out.trans (hbx.mono K33.out.size))
          have ph34 := hide (ph33.out.below hbx ph33.out.lt)
          have yh34 := hide (yh33.out.below hbx yh33.out.lt)
          have zh34 := hide (zh33.out.below hbx zh33.out.lt)
          have uss34 := hide (uss33.out.later hbx)
          clear p0 p1 pl pf y0 y1 y2 yl yf z0 z1 z2 zl zf
          go_wp2_with fail
          go_ret
          exact ⟨rfl, K34.out⟩
        subst he
        have p0 : u31.cell? ⟨P, 0, none⟩ = some (.string t.name) := ph31.out.cell 0
        have p1 : u31.cell? ⟨P, 1, none⟩ = some (.slice a t.args.length c) := ph31.out.cell 1
        have pl := ph31.out.lt
        have pf := ph31.out.frozen
        have y0 : u31.cell? ⟨Y, 0, none⟩ = some (.int .i64 u.kind) := yh31.out.cell 0
        have y1 : u31.cell? ⟨Y, 1, none⟩ = some (.int .i64 u.idx) := yh31.out.cell 1
        have y2 : u31.cell? ⟨Y, 2, none⟩ = some (.slice au u.subs.length cu) := yh31.out.cell 2
        have yl := yh31.out.lt
        have yf := yh31.out.frozen
        go_wp2_with fail
        refine (lamSize_any u _ 2000 _ (fun b => u29.heap.size ≤ b) (by exact ⟨au, cu, rfl, us31.out⟩) (by omega) (by omega)).mono ?_
        rintro e u35 ⟨rfl, hbx⟩
        have K35 := hide (K31.out.trans (hbx.mono K31.out.size))
        have ph35 := hide (ph31.out.below hbx ph31.out.lt)
        have yh35 := hide (yh31.out.below hbx yh31.out.lt)
        have uss35 := hide (us31.out.later hbx)
        clear p0 p1 pl pf y0 y1 y2 yl yf
        obtain ⟨q, hq⟩ : ∃ q : Int, q = min ((sizeM [u] : Nat) : Int) (2000 + 1) := ⟨_, rfl⟩
        have HQ := hide hq
        rw [← hq]
        clear hq
        by_cases hg : 2000 < q
        · have HTE : Hid (toE t = (8, nilL)) := by unfold Hid; rw [HTE0.out, if_pos (by first | trivial | rfl), if_pos (by have := HQ.out; omega)]
          have h8 : (8 : Int) ≠ 0 := by decide
          have p0 : u35.cell? ⟨P, 0, none⟩ = some (.string t.name) := ph35.out.cell 0
          have p1 : u35.cell? ⟨P, 1, none⟩ = some (.slice a t.args.length c) := ph35.out.cell 1
          have pl := ph35.out.lt
          have pf := ph35.out.frozen
          have y0 : u35.cell? ⟨Y, 0, none⟩ = some (.int .i64 u.kind) := yh35.out.cell 0
          have y1 : u35.cell? ⟨Y, 1, none⟩ = some (.int .i64 u.idx) := yh35.out.cell 1
          have y2 : u35.cell? ⟨Y, 2, none⟩ = some (.slice au u.subs.length cu) := yh35.out.cell 2
          have yl := yh35.out.lt
          have yf := yh35.out.frozen
          go_wp2_with fail
          refine (cTo_any t _ _ XR (by exact V3.out _ K35.out) (HT.out _ K35.out) (HS.out _ K35.out)).mono ?_
          rintro e u36 ⟨hbx, az, cz, rfl, hsz, hnz⟩
          have K36 := hide (K35.out.trans (hbx.mono K35.out.size))
          have ph36 := hide (ph35.out.below hbx ph35.out.lt)
          have yh36 := hide (yh35.out.below hbx yh35.out.lt)
          have uss36 := hide (uss35.out.later hbx)
          clear p0 p1 pl pf y0 y1 y2 yl yf
          rw [HTE.out] at hnz ⊢
          obtain ⟨_, rfl, rfl⟩ := hnz h8
          clear hsz
          simp only [nilL, List.length_nil]
          have K37 : Hid (Below w.heap.size w (u36.alloc (.cells #[.int .i64 0, .int .i64 0, .slice none 0 0] 36))) := K36.out.alloc K36.out.size _
          have ph37 := hide (ph36.out.alloc (.cells #[.int .i64 0, .int .i64 0, .slice none 0 0] 36))
          have yh37 := hide (yh36.out.alloc (.cells #[.int .i64 0, .int .i64 0, .slice none 0 0] 36))
          have uss37 := hide (uss36.out.later ((Below.refl _ _).alloc (Nat.le_refl _) (.cells #[.int .i64 0, .int .i64 0, .slice none 0 0] 36)))
          have zh37 : Hid (Blk (u36.alloc (.cells #[.int .i64 0, .int .i64 0, .slice none 0 0] 36)) u36.heap.size #[.int .i64 0, .int .i64 0, .slice none 0 0] 36) := Blk.new u36 _ _
          have HA37 : Hid (w.heap.size ≤ u36.heap.size ∧ P < u36.heap.size ∧ u36.heap.size < (u36.alloc (.cells #[.int .i64 0, .int .i64 0, .slice none 0 0] 36)).heap.size) := ⟨K36.out.size, ph36.out.lt, by simp⟩
          go_upto_region 22 with fail
          generalize (u36.alloc (.cells #[.int .i64 0, .int .i64 0, .slice none 0 0] 36)) = u37 at *
          obtain ⟨ZZ, hZZ⟩ : ∃ ZZ, ZZ = u36.heap.size := ⟨_, rfl⟩
          rw [← hZZ] at zh37 HA37 ⊢
          clear hZZ
          have p0 : u37.cell? ⟨P, 0, none⟩ = some (.string t.name) := ph37.out.cell 0
          have p1 : u37.cell? ⟨P, 1, none⟩ = some (.slice a t.args.length c) := ph37.out.cell 1
          have pl := ph37.out.lt
          have pf := ph37.out.frozen
          have y0 : u37.cell? ⟨Y, 0, none⟩ = some (.int .i64 u.kind) := yh37.out.cell 0
          have y1 : u37.cell? ⟨Y, 1, none⟩ = some (.int .i64 u.idx) := yh37.out.cell 1
          have y2 : u37.cell? ⟨Y, 2, none⟩ = some (.slice au u.subs.length cu) := yh37.out.cell 2
          have yl := yh37.out.lt
          have yf := yh37.out.frozen
          have z0 : u37.cell? ⟨ZZ, 0, none⟩ = some (.int .i64 0) := zh37.out.cell 0
          have z1 : u37.cell? ⟨ZZ, 1, none⟩ = some (.int .i64 0) := zh37.out.cell 1
          have z2 : u37.cell? ⟨ZZ, 2, none⟩ = some (.slice none 0 0) := zh37.out.cell 2
          have zl := zh37.out.lt
          have zf := zh37.out.frozen
          go_wp2_with fail
          refine (lam2_err 8 _ _ _ _ _ _ rfl _ h8).mono ?_
          rintro e u38 ⟨rfl, hbx⟩
          have K38 := hide (K37.out.trans (hbx.mono K37.out.size))
          have ph38 := hide (ph37.out.below hbx ph37.out.lt)
          have yh38 := hide (yh37.out.below hbx yh37.out.lt)
          have zh38 := hide (zh37.out.below hbx zh37.out.lt)
          have uss38 := hide (uss37.out.later hbx)
          clear p0 p1 pl pf y0 y1 y2 yl yf z0 z1 z2 zl zf
          go_wp2_with fail
          go_ret
          exact ⟨rfl, K38.out⟩
        have HTE : Hid (toE t = (0, u)) := by unfold Hid; rw [HTE0.out, if_pos (by first | trivial | rfl), if_neg (by have := HQ.out; omega)]
        have p0 : u35.cell? ⟨P, 0, none⟩ = some (.string t.name) := ph35.out.cell 0
        have p1 : u35.cell? ⟨P, 1, none⟩ = some (.slice a t.args.length c) := ph35.out.cell 1
        have pl := ph35.out.lt
        have pf := ph35.out.frozen
        have y0 : u35.cell? ⟨Y, 0, none⟩ = some (.int .i64 u.kind) := yh35.out.cell 0
        have y1 : u35.cell? ⟨Y, 1, none⟩ = some (.int .i64 u.idx) := yh35.out.cell 1
        have y2 : u35.cell? ⟨Y, 2, none⟩ = some (.slice au u.subs.length cu) := yh35.out.cell 2
        have yl := yh35.out.lt
        have yf := yh35.out.frozen
        go_wp2_with fail
        refine (cTo_any t _ _ XR (by exact V3.out _ K35.out) (HT.out _ K35.out) (HS.out _ K35.out)).mono ?_
        rintro e u39 ⟨hbx, az, cz, rfl, hsz, hnz⟩
        have K39 := hide (K35.out.trans (hbx.mono K35.out.size))
        have ph39 := hide (ph35.out.below hbx ph35.out.lt)
        have yh39 := hide (yh35.out.below hbx yh35.out.lt)
        have uss39 := hide (uss35.out.later hbx)
        clear p0 p1 pl pf y0 y1 y2 yl yf
        rw [HTE.out] at hsz ⊢
        clear hnz
        simp only at hsz ⊢
        have SZ := hide hsz
        clear hsz
        have K40 : Hid (Below w.heap.size w (u39.alloc (.cells #[.int .i64 u.kind, .int .i64 u.idx, .slice az u.subs.length cz] 36))) := K39.out.alloc K39.out.size _
        have ph40 := hide (ph39.out.alloc (.cells #[.int .i64 u.kind, .int .i64 u.idx, .slice az u.subs.length cz] 36))
        have yh40 := hide (yh39.out.alloc (.cells #[.int .i64 u.kind, .int .i64 u.idx, .slice az u.subs.length cz] 36))
        have uss40 := hide (uss39.out.later ((Below.refl _ _).alloc (Nat.le_refl _) (.cells #[.int .i64 u.kind, .int .i64 u.idx, .slice az u.subs.length cz] 36)))
        have vss40 := hide (SZ.out.later ((Below.refl _ _).alloc (Nat.le_refl _) (.cells #[.int .i64 u.kind, .int .i64 u.idx, .slice az u.subs.length cz] 36)))
        have zh40 : Hid (Blk (u39.alloc (.cells #[.int .i64 u.kind, .int .i64 u.idx, .slice az u.subs.length cz] 36)) u39.heap.size #[.int .i64 u.kind, .int .i64 u.idx, .slice az u.subs.length cz] 36) := Blk.new u39 _ _
        have HA40 : Hid (w.heap.size ≤ u39.heap.size ∧ P < u39.heap.size ∧ u39.heap.size < (u39.alloc (.cells #[.int .i64 u.kind, .int .i64 u.idx, .slice az u.subs.length cz] 36)).heap.size) := ⟨K39.out.size, ph39.out.lt, by simp⟩
        go_upto_region 22 with fail
        generalize (u39.alloc (.cells #[.int .i64 u.kind, .int .i64 u.idx, .slice az u.subs.length cz] 36)) = u40 at *
        obtain ⟨ZZ, hZZ⟩ : ∃ ZZ, ZZ = u39.heap.size := ⟨_, rfl⟩
        rw [← hZZ] at zh40 HA40 ⊢
        clear hZZ
        have p0 : u40.cell? ⟨P, 0, none⟩ = some (.string t.name) := ph40.out.cell 0
        have p1 : u40.cell? ⟨P, 1, none⟩ = some (.slice a t.args.length c) := ph40.out.cell 1
        have pl := ph40.out.lt
        have pf := ph40.out.frozen
        have y0 : u40.cell? ⟨Y, 0, none⟩ = some (.int .i64 u.kind) := yh40.out.cell 0
        have y1 : u40.cell? ⟨Y, 1, none⟩ = some (.int .i64 u.idx) := yh40.out.cell 1
        have y2 : u40.cell? ⟨Y, 2, none⟩ = some (.slice au u.subs.length cu) := yh40.out.cell 2
        have yl := yh40.out.lt
        have yf := yh40.out.frozen
        have z0 : u40.cell? ⟨ZZ, 0, none⟩ = some (.int .i64 u.kind) := zh40.out.cell 0
        have z1 : u40.cell? ⟨ZZ, 1, none⟩ = some (.int .i64 u.idx) := zh40.out.cell 1
        have z2 : u40.cell? ⟨ZZ, 2, none⟩ = some (.slice az u.subs.length cz) := zh40.out.cell 2
        have zl := zh40.out.lt
        have zf := zh40.out.frozen
        go_wp2_with fail
        refine (lam2_ok u _ _ _ (fun b => u35.heap.size ≤ b) (fun b => u29.heap.size ≤ b) (by exact ⟨az, cz, rfl, vss40.out⟩) (by exact ⟨au, cu, rfl, uss40.out⟩)).mono ?_
        rintro e u41 ⟨rfl, hbx⟩
        have K41 := hide (K40.out.trans (hbx.mono K40.out.size))
        have ph41 := hide (ph40.out.below hbx ph40.out.lt)
        have yh41 := hide (yh40.out.below hbx yh40.out.lt)
        have zh41 := hide (zh40.out.below hbx zh40.out.lt)
        have uss41 := hide (uss40.out.later hbx)
        have vss41 := hide (vss40.out.later hbx)
        clear p0 p1 pl pf y0 y1 y2 yl yf z0 z1 z2 zl zf
        go_wp2_with fail
        go_ret
        exact ⟨rfl, K41.out⟩
      · have hce1 : (ce == 0) = false := by simpa using hce0
        have K42 : Hid (Below w.heap.size w (u28.alloc (.cells #[.int .i64 0, .int .i64 0, .slice none 0 0] 36))) := K28.out.alloc K28.out.size _
        have ph42 := hide (ph28.out.alloc (.cells #[.int .i64 0, .int .i64 0, .slice none 0 0] 36))
        have yh42 : Hid (Blk (u28.alloc (.cells #[.int .i64 0, .int .i64 0, .slice none 0 0] 36)) u28.heap.size #[.int .i64 0, .int .i64 0, .slice none 0 0] 36) := Blk.new u28 _ _
        have HA42 : Hid (w.heap.size ≤ u28.heap.size ∧ P < u28.heap.size ∧ u28.heap.size < (u28.alloc (.cells #[.int .i64 0, .int .i64 0, .slice none 0 0] 36)).heap.size) := ⟨K28.out.size, ph28.out.lt, by simp⟩
        go_upto_region 21 with fail
        generalize (u28.alloc (.cells #[.int .i64 0, .int .i64 0, .slice none 0 0] 36)) = u42 at *
        obtain ⟨Y, hY⟩ : ∃ Y, Y = u28.heap.size := ⟨_, rfl⟩
        rw [← hY] at yh42 HA42 ⊢
        clear hY
        have HTE : Hid (toE t = (ce, nilL)) := by unfold Hid toE; rw [← HCE.out, if_neg hce0]
        have p0 : u42.cell? ⟨P, 0, none⟩ = some (.string t.name) := ph42.out.cell 0
        have p1 : u42.cell? ⟨P, 1, none⟩ = some (.slice a t.args.length c) := ph42.out.cell 1
        have pl := ph42.out.lt
        have pf := ph42.out.frozen
        have y0 : u42.cell? ⟨Y, 0, none⟩ = some (.int .i64 0) := yh42.out.cell 0
        have y1 : u42.cell? ⟨Y, 1, none⟩ = some (.int .i64 0) := yh42.out.cell 1
        have y2 : u42.cell? ⟨Y, 2, none⟩ = some (.slice none 0 0) := yh42.out.cell 2
        have yl := yh42.out.lt
        have yf := yh42.out.frozen
        go_wp2_with fail
        refine (cTo_any t _ _ XR (by exact V3.out _ K42.out) (HT.out _ K42.out) (HS.out _ K42.out)).mono ?_
        rintro e u43 ⟨hbx, az, cz, rfl, hsz, hnz⟩
        have K43 := hide (K42.out.trans (hbx.mono K42.out.size))
        have ph43 := hide (ph42.out.below hbx ph42.out.lt)
        have yh43 := hide (yh42.out.below hbx yh42.out.lt)
        clear p0 p1 pl pf y0 y1 y2 yl yf
        rw [HTE.out] at hnz ⊢
        obtain ⟨_, rfl, rfl⟩ := hnz hce0
        clear hsz
        simp only [nilL, List.length_nil]
        have K44 : Hid (Below w.heap.size w (u43.alloc (.cells #[.int .i64 0, .int .i64 0, .slice none 0 0] 36))) := K43.out.alloc K43.out.size _
        have ph44 := hide (ph43.out.alloc (.cells #[.int .i64 0, .int .i64 0, .slice none 0 0] 36))
        have yh44 := hide (yh43.out.alloc (.cells #[.int .i64 0, .int .i64 0, .slice none 0 0] 36))
        have zh44 : Hid (Blk (u43.alloc (.cells #[.int .i64 0, .int .i64 0, .slice none 0 0] 36)) u43.heap.size #[.int .i64 0, .int .i64 0, .slice none 0 0] 36) := Blk.new u43 _ _
        have HA44 : Hid (w.heap.size ≤ u43.heap.size ∧ P < u43.heap.size ∧ u43.heap.size < (u43.alloc (.cells #[.int .i64 0, .int .i64 0, .slice none 0 0] 36)).heap.size) := ⟨K43.out.size, ph43.out.lt, by simp⟩
        go_upto_region 22 with fail
        generalize (u43.alloc (.cells #[.int .i64 0, .int .i64 0, .slice none 0 0] 36)) = u44 at *
        obtain ⟨ZZ, hZZ⟩ : ∃ ZZ, ZZ = u43.heap.size := ⟨_, rfl⟩
        rw [← hZZ] at zh44 HA44 ⊢
        clear hZZ
        have p0 : u44.cell? ⟨P, 0, none⟩ = some (.string t.name) := ph44.out.cell 0
        have p1 : u44.cell? ⟨P, 1, none⟩ = some (.slice a t.args.length c) := ph44.out.cell 1
        have pl := ph44.out.lt
        have pf := ph44.out.frozen
        have y0 : u44.cell? ⟨Y, 0, none⟩ = some (.int .i64 0) := yh44.out.cell 0
        have y1 : u44.cell? ⟨Y, 1, none⟩ = some (.int .i64 0) := yh44.out.cell 1
        have y2 : u44.cell? ⟨Y, 2, none⟩ = some (.slice none 0 0) := yh44.out.cell 2
        have yl := yh44.out.lt
        have yf := yh44.out.frozen
        have z0 : u44.cell? ⟨ZZ, 0, none⟩ = some (.int .i64 0) := zh44.out.cell 0
        have z1 : u44.cell? ⟨ZZ, 1, none⟩ = some (.int .i64 0) := zh44.out.cell 1
        have z2 : u44.cell? ⟨ZZ, 2, none⟩ = some (.slice none 0 0) := zh44.out.cell 2
        have zl := zh44.out.lt
        have zf := zh44.out.frozen
        go_wp2_with fail
        refine (lam2_err ce _ _ _ _ _ _ rfl _ hce0).mono ?_
        rintro e u45 ⟨rfl, hbx⟩
        have K45 := hide (K44.out.trans (hbx.mono K44.out.size))
        have ph45 := hide (ph44.out.below hbx ph44.out.lt)
        have yh45 := hide (yh44.out.below hbx yh44.out.lt)
        have zh45 := hide (zh44.out.below hbx zh44.out.lt)
        clear p0 p1 pl pf y0 y1 y2 yl yf z0 z1 z2 zl zf
        go_wp2_with fail
        go_ret
        exact ⟨rfl, K45.out⟩
    | true =>
      have HBC : Hid (brkE nm t = combE t) := brkE_ce hN hV
      by_cases hce0 : ce = 0
      rotate_left
      · have hce1 : (ce == 0) = false := by simpa using hce0
        have HBE : Hid (brkE nm t = ce) := by unfold Hid; rw [HBC.out, HCE.out]
        have HBN : Hid (brkE nm t ≠ 0) := by unfold Hid; rw [HBE.out]; exact hce0
        have her := hce0
        have K46 : Hid (Below w.heap.size w (u1.alloc (.cells #[.string ⟨#[]⟩, .slice none 0 0] 24))) := K1.out.alloc K1.out.size _
        have ph46 := hide (ph1.out.alloc (.cells #[.string ⟨#[]⟩, .slice none 0 0] 24))
        have oh46 : Hid (Blk (u1.alloc (.cells #[.string ⟨#[]⟩, .slice none 0 0] 24)) u1.heap.size #[.string ⟨#[]⟩, .slice none 0 0] 24) := Blk.new u1 _ _
        have HA46 : Hid (w.heap.size ≤ u1.heap.size ∧ P < u1.heap.size ∧ u1.heap.size < (u1.alloc (.cells #[.string ⟨#[]⟩, .slice none 0 0] 24)).heap.size) := ⟨K1.out.size, ph1.out.lt, by simp⟩
        go_upto_region 12 with fail
        generalize (u1.alloc (.cells #[.string ⟨#[]⟩, .slice none 0 0] 24)) = u46 at *
        obtain ⟨O, hO⟩ : ∃ O, O = u1.heap.size := ⟨_, rfl⟩
        rw [← hO] at oh46 HA46 ⊢
        clear hO
        have p0 : u46.cell? ⟨P, 0, none⟩ = some (.string t.name) := ph46.out.cell 0
        have p1 : u46.cell? ⟨P, 1, none⟩ = some (.slice a t.args.length c) := ph46.out.cell 1
        have pl := ph46.out.lt
        have pf := ph46.out.frozen
        have o0 : u46.cell? ⟨O, 0, none⟩ = some (.string ⟨#[]⟩) := oh46.out.cell 0
        have o1 : u46.cell? ⟨O, 1, none⟩ = some (.slice none 0 0) := oh46.out.cell 1
        have ol := oh46.out.lt
        have of := oh46.out.frozen
        go_wp2_with fail
        refine (bracketE_any nm t HBN.out _ _ XR (by exact V3.out _ K46.out)).mono ?_
        rintro e u47 ⟨rfl, hbx⟩
        have K47 := hide (K46.out.trans (hbx.mono K46.out.size))
        have ph47 := hide (ph46.out.below hbx ph46.out.lt)
        have oh47 := hide (oh46.out.below hbx oh46.out.lt)
        clear p0 p1 pl pf o0 o1 ol of
        rw [HBE.out]
        have K48 : Hid (Below w.heap.size w (u47.alloc (.cells #[.string ⟨#[]⟩, .slice none 0 0] 24))) := K47.out.alloc K47.out.size _
        have ph48 := hide (ph47.out.alloc (.cells #[.string ⟨#[]⟩, .slice none 0 0] 24))
        have oh48 := hide (oh47.out.alloc (.cells #[.string ⟨#[]⟩, .slice none 0 0] 24))
        have qh48 : Hid (Blk (u47.alloc (.cells #[.string ⟨#[]⟩, .slice none 0 0] 24)) u47.heap.size #[.string ⟨#[]⟩, .slice none 0 0] 24) := Blk.new u47 _ _
        have HA48 : Hid (w.heap.size ≤ u47.heap.size ∧ P < u47.heap.size ∧ u47.heap.size < (u47.alloc (.cells #[.string ⟨#[]⟩, .slice none 0 0] 24)).heap.size) := ⟨K47.out.size, ph47.out.lt, by simp⟩
        go_upto_region 13 with fail
        generalize (u47.alloc (.cells #[.string ⟨#[]⟩, .slice none 0 0] 24)) = u48 at *
        obtain ⟨Q, hQ⟩ : ∃ Q, Q = u47.heap.size := ⟨_, rfl⟩
        rw [← hQ] at qh48 HA48 ⊢
        clear hQ
        have p0 : u48.cell? ⟨P, 0, none⟩ = some (.string t.name) := ph48.out.cell 0
        have p1 : u48.cell? ⟨P, 1, none⟩ = some (.slice a t.args.length c) := ph48.out.cell 1
        have pl := ph48.out.lt
        have pf := ph48.out.frozen
        have o0 : u48.cell? ⟨O, 0, none⟩ = some (.string ⟨#[]⟩) := oh48.out.cell 0
        have o1 : u48.cell? ⟨O, 1, none⟩ = some (.slice none 0 0) := oh48.out.cell 1
        have ol := oh48.out.lt
        have of := oh48.out.frozen
        have q0 : u48.cell? ⟨Q, 0, none⟩ = some (.string ⟨#[]⟩) := qh48.out.cell 0
        have q1 : u48.cell? ⟨Q, 1, none⟩ = some (.slice none 0 0) := qh48.out.cell 1
        have ql := qh48.out.lt
        have qf := qh48.out.frozen
        go_wp2_with fail
        refine (ccheck_any t _ _ XR (by exact V3.out _ K48.out)).mono ?_
        rintro e u49 ⟨rfl, hbx⟩
        have K49 := hide (K48.out.trans (hbx.mono K48.out.size))
        have ph49 := hide (ph48.out.below hbx ph48.out.lt)
        have oh49 := hide (oh48.out.below hbx oh48.out.lt)
        have qh49 := hide (qh48.out.below hbx qh48.out.lt)
        clear p0 p1 pl pf o0 o1 ol of q0 q1 ql qf
        rw [← HCE.out]
        have p0 : u49.cell? ⟨P, 0, none⟩ = some (.string t.name) := ph49.out.cell 0
        have p1 : u49.cell? ⟨P, 1, none⟩ = some (.slice a t.args.length c) := ph49.out.cell 1
        have pl := ph49.out.lt
        have pf := ph49.out.frozen
        have o0 : u49.cell? ⟨O, 0, none⟩ = some (.string ⟨#[]⟩) := oh49.out.cell 0
        have o1 : u49.cell? ⟨O, 1, none⟩ = some (.slice none 0 0) := oh49.out.cell 1
        have ol := oh49.out.lt
        have of := oh49.out.frozen
        have q0 : u49.cell? ⟨Q, 0, none⟩ = some (.string ⟨#[]⟩) := qh49.out.cell 0
        have q1 : u49.cell? ⟨Q, 1, none⟩ = some (.slice none 0 0) := qh49.out.cell 1
        have ql := qh49.out.lt
        have qf := qh49.out.frozen
        go_wp2_with fail
        refine (term2_err ce _ _ _ _ _ rfl _ her).mono ?_
        rintro e u50 ⟨rfl, hbx⟩
        have K50 := hide (K49.out.trans (hbx.mono K49.out.size))
        have ph50 := hide (ph49.out.below hbx ph49.out.lt)
        have oh50 := hide (oh49.out.below hbx oh49.out.lt)
        have qh50 := hide (qh49.out.below hbx qh49.out.lt)
        clear p0 p1 pl pf o0 o1 ol of q0 q1 ql qf
        have K51 : Hid (Below w.heap.size w (u50.alloc (.cells #[.int .i64 0, .int .i64 0, .slice none 0 0] 36))) := K50.out.alloc K50.out.size _
        have ph51 := hide (ph50.out.alloc (.cells #[.int .i64 0, .int .i64 0, .slice none 0 0] 36))
        have yh51 : Hid (Blk (u50.alloc (.cells #[.int .i64 0, .int .i64 0, .slice none 0 0] 36)) u50.heap.size #[.int .i64 0, .int .i64 0, .slice none 0 0] 36) := Blk.new u50 _ _
        have HA51 : Hid (w.heap.size ≤ u50.heap.size ∧ P < u50.heap.size ∧ u50.heap.size < (u50.alloc (.cells #[.int .i64 0, .int .i64 0, .slice none 0 0] 36)).heap.size) := ⟨K50.out.size, ph50.out.lt, by simp⟩
        go_upto_region 21 with fail
        generalize (u50.alloc (.cells #[.int .i64 0, .int .i64 0, .slice none 0 0] 36)) = u51 at *
        obtain ⟨Y, hY⟩ : ∃ Y, Y = u50.heap.size := ⟨_, rfl⟩
        rw [← hY] at yh51 HA51 ⊢
        clear hY
        have HTE : Hid (toE t = (ce, nilL)) := by unfold Hid toE; rw [← HCE.out, if_neg hce0]
        have p0 : u51.cell? ⟨P, 0, none⟩ = some (.string t.name) := ph51.out.cell 0
        have p1 : u51.cell? ⟨P, 1, none⟩ = some (.slice a t.args.length c) := ph51.out.cell 1
        have pl := ph51.out.lt
        have pf := ph51.out.frozen
        have y0 : u51.cell? ⟨Y, 0, none⟩ = some (.int .i64 0) := yh51.out.cell 0
        have y1 : u51.cell? ⟨Y, 1, none⟩ = some (.int .i64 0) := yh51.out.cell 1
        have y2 : u51.cell? ⟨Y, 2, none⟩ = some (.slice none 0 0) := yh51.out.cell 2
        have yl := yh51.out.lt
        have yf := yh51.out.frozen
        go_wp2_with fail
        refine (cTo_any t _ _ XR (by exact V3.out _ K51.out) (HT.out _ K51.out) (HS.out _ K51.out)).mono ?_
        rintro e u52 ⟨hbx, az, cz, rfl, hsz, hnz⟩
        have K52 := hide (K51.out.trans (hbx.mono K51.out.size))
        have ph52 := hide (ph51.out.below hbx ph51.out.lt)
        have yh52 := hide (yh51.out.below hbx yh51.out.lt)
        clear p0 p1 pl pf y0 y1 y2 yl yf
        rw [HTE.out] at hnz ⊢
        obtain ⟨_, rfl, rfl⟩ := hnz hce0
        clear hsz
        simp only [nilL, List.length_nil]
        have K53 : Hid (Below w.heap.size w (u52.alloc (.cells #[.int .i64 0, .int .i64 0, .slice none 0 0] 36))) := K52.out.alloc K52.out.size _
        have ph53 := hide (ph52.out.alloc (.cells #[.int .i64 0, .int .i64 0, .slice none 0 0] 36))
        have yh53 := hide (yh52.out.alloc (.cells #[.int .i64 0, .int .i64 0, .slice none 0 0] 36))
        have zh53 : Hid (Blk (u52.alloc (.cells #[.int .i64 0, .int .i64 0, .slice none 0 0] 36)) u52.heap.size #[.int .i64 0, .int .i64 0, .slice none 0 0] 36) := Blk.new u52 _ _
        have HA53 : Hid (w.heap.size ≤ u52.heap.size ∧ P < u52.heap.size ∧ u52.heap.size < (u52.alloc (.cells #[.int .i64 0, .int .i64 0, .slice none 0 0] 36)).heap.size) := ⟨K52.out.size, ph52.out.lt, by simp⟩
        go_upto_region 22 with fail
        generalize (u52.alloc (.cells #[.int .i64 0, .int .i64 0, .slice none 0 0] 36)) = u53 at *
        obtain ⟨ZZ, hZZ⟩ : ∃ ZZ, ZZ = u52.heap.size := ⟨_, rfl⟩
        rw [← hZZ] at zh53 HA53 ⊢
        clear hZZ
        have p0 : u53.cell? ⟨P, 0, none⟩ = some (.string t.name) := ph53.out.cell 0
        have p1 : u53.cell? ⟨P, 1, none⟩ = some (.slice a t.args.length c) := ph53.out.cell 1
        have pl := ph53.out.lt
        have pf := ph53.out.frozen
        have y0 : u53.cell? ⟨Y, 0, none⟩ = some (.int .i64 0) := yh53.out.cell 0
        have y1 : u53.cell? ⟨Y, 1, none⟩ = some (.int .i64 0) := yh53.out.cell 1
        have y2 : u53.cell? ⟨Y, 2, none⟩ = some (.slice none 0 0) := yh53.out.cell 2
        have yl := yh53.out.lt
        have yf := yh53.out.frozen
        have z0 : u53.cell? ⟨ZZ, 0, none⟩ = some (.int .i64 0) := zh53.out.cell 0
        have z1 : u53.cell? ⟨ZZ, 1, none⟩ = some (.int .i64 0) := zh53.out.cell 1
        have z2 : u53.cell? ⟨ZZ, 2, none⟩ = some (.slice none 0 0) := zh53.out.cell 2
        have zl := zh53.out.lt
        have zf := zh53.out.frozen
        go_wp2_with fail
        refine (lam2_err ce _ _ _ _ _ _ rfl _ hce0).mono ?_
        rintro e u54 ⟨rfl, hbx⟩
        have K54 := hide (K53.out.trans (hbx.mono K53.out.size))
        have ph54 := hide (ph53.out.below hbx ph53.out.lt)
        have yh54 := hide (yh53.out.below hbx yh53.out.lt)
        have zh54 := hide (zh53.out.below hbx zh53.out.lt)
        clear p0 p1 pl pf y0 y1 y2 yl yf z0 z1 z2 zl zf
        go_wp2_with fail
        go_ret
        exact ⟨rfl, K54.out⟩
      have HC0 : Hid (combE t = 0) := by unfold Hid; rw [← HCE.out]; exact hce0
      have HN := hide hN
      have HV := hide hV
      have HVN : Hid (nm ≠ apB) := fun h => by rw [h] at hV; revert hV; decide
      rw [hce0]
      clear hce0 hN hV
      have K55 : Hid (Below w.heap.size w (u1.alloc (.cells #[.string ⟨#[]⟩, .slice none 0 0] 24))) := K1.out.alloc K1.out.size _
      have ph55 := hide (ph1.out.alloc (.cells #[.string ⟨#[]⟩, .slice none 0 0] 24))
      have oh55 : Hid (Blk (u1.alloc (.cells #[.string ⟨#[]⟩, .slice none 0 0] 24)) u1.heap.size #[.string ⟨#[]⟩, .slice none 0 0] 24) := Blk.new u1 _ _
      have HA55 : Hid (w.heap.size ≤ u1.heap.size ∧ P < u1.heap.size ∧ u1.heap.size < (u1.alloc (.cells #[.string ⟨#[]⟩, .slice none 0 0] 24)).heap.size) := ⟨K1.out.size, ph1.out.lt, by simp⟩
      go_upto_region 9 with fail
      generalize (u1.alloc (.cells #[.string ⟨#[]⟩, .slice none 0 0] 24)) = u55 at *
      obtain ⟨O, hO⟩ : ∃ O, O = u1.heap.size := ⟨_, rfl⟩
      rw [← hO] at oh55 HA55 ⊢
      clear hO
      have p0 : u55.cell? ⟨P, 0, none⟩ = some (.string t.name) := ph55.out.cell 0
      have p1 : u55.cell? ⟨P, 1, none⟩ = some (.slice a t.args.length c) := ph55.out.cell 1
      have pl := ph55.out.lt
      have pf := ph55.out.frozen
      have o0 : u55.cell? ⟨O, 0, none⟩ = some (.string ⟨#[]⟩) := oh55.out.cell 0
      have o1 : u55.cell? ⟨O, 1, none⟩ = some (.slice none 0 0) := oh55.out.cell 1
      have ol := oh55.out.lt
      have of := oh55.out.frozen
      go_wp2_with fail
      refine (bracketOf_any nm HVN.out (sizeL [t]) t _ _ XR ⟨Nat.le_refl _, by have := (OkC.of HC0.out).2; omega⟩ (OkC.of HC0.out).1.1 (by exact V3.out _ K55.out)).mono ?_
      rintro e u56 ⟨a7, c7, rfl, hs7, hbx⟩
      have K56 := hide (K55.out.trans (hbx.mono K55.out.size))
      have ph56 := hide (ph55.out.below hbx ph55.out.lt)
      have oh56 := hide (oh55.out.below hbx oh55.out.lt)
      clear p0 p1 pl pf o0 o1 ol of
      obtain ⟨z, hz⟩ : ∃ z, z = alw (brR nm (sizeL [t]) t) := ⟨_, rfl⟩
      rw [← hz] at hs7 ⊢
      have HZ := hide hz
      have HZS : Hid (sizeL [z] ≤ 2000) := by unfold Hid; rw [hz]; have h1 := alw_size (v := nm) (OkC.of HC0.out).1.1; have h2 := (OkC.of HC0.out).2; omega
      have S7 := hide hs7
      clear hs7 hz
      have p0 : u56.cell? ⟨P, 0, none⟩ = some (.string t.name) := ph56.out.cell 0
      have p1 : u56.cell? ⟨P, 1, none⟩ = some (.slice a t.args.length c) := ph56.out.cell 1
      have pl := ph56.out.lt
      have pf := ph56.out.frozen
      have o0 : u56.cell? ⟨O, 0, none⟩ = some (.string ⟨#[]⟩) := oh56.out.cell 0
      have o1 : u56.cell? ⟨O, 1, none⟩ = some (.slice none 0 0) := oh56.out.cell 1
      have ol := oh56.out.lt
      have of := oh56.out.frozen
      go_upto_region 10 with fail
      clear p0 p1 pl pf o0 o1 ol of
      have hPO : P ≠ O := by have := HA55.out; omega
      have HXO : ∀ b, XR b ∨ u55.heap.size ≤ b → b ≠ O := fun b hb => by have h1 := HA55.out; rcases hb with hb | hb; (have h2 := HXR.out b hb; omega); omega
      have oh57 : Hid (Blk ((u56.setCell ⟨O, 0, none⟩ (.string z.name)).setCell ⟨O, 1, none⟩ (.slice a7 z.args.length c7)) O #[.string z.name, .slice a7 z.args.length c7] 24) := (oh56.out.set 0 _).set 1 _
      have ph57 : Hid (Blk ((u56.setCell ⟨O, 0, none⟩ (.string z.name)).setCell ⟨O, 1, none⟩ (.slice a7 z.args.length c7)) P #[.string t.name, .slice a t.args.length c] 24) := (ph56.out.setOther 0 _ hPO).setOther 1 _ hPO
      have K57 : Hid (Below w.heap.size w ((u56.setCell ⟨O, 0, none⟩ (.string z.name)).setCell ⟨O, 1, none⟩ (.slice a7 z.args.length c7))) := (K56.out.setCell (by have := HA55.out; simp; omega) _).setCell (by have := HA55.out; simp; omega) _
      have zs57 : Hid (Sl ((u56.setCell ⟨O, 0, none⟩ (.string z.name)).setCell ⟨O, 1, none⟩ (.slice a7 z.args.length c7)) (fun b => XR b ∨ u55.heap.size ≤ b) a7 z.args) := S7.out.kept fun b hb => by rw [Below.heap_setCell _ _ _ _ (by simpa using HXO b hb), Below.heap_setCell _ _ _ _ (by simpa using HXO b hb)]
      generalize ((u56.setCell ⟨O, 0, none⟩ (.string z.name)).setCell ⟨O, 1, none⟩ (.slice a7 z.args.length c7)) = u57 at *
      clear hPO HXO
      have p0 : u57.cell? ⟨P, 0, none⟩ = some (.string t.name) := ph57.out.cell 0
      have p1 : u57.cell? ⟨P, 1, none⟩ = some (.slice a t.args.length c) := ph57.out.cell 1
      have pl := ph57.out.lt
      have pf := ph57.out.frozen
      have o0 : u57.cell? ⟨O, 0, none⟩ = some (.string z.name) := oh57.out.cell 0
      have o1 : u57.cell? ⟨O, 1, none⟩ = some (.slice a7 z.args.length c7) := oh57.out.cell 1
      have ol := oh57.out.lt
      have of := oh57.out.frozen
      go_wp2_with fail
      refine (size_any z _ 2000 _ (fun b => XR b ∨ u55.heap.size ≤ b) (by exact ⟨a7, c7, rfl, zs57.out⟩) (by omega) (by omega)).mono ?_
      rintro e u58 ⟨rfl, hbx⟩
      have K58 := hide (K57.out.trans (hbx.mono K57.out.size))
      have ph58 := hide (ph57.out.below hbx ph57.out.lt)
      have oh58 := hide (oh57.out.below hbx oh57.out.lt)
      have zss58 := hide (zs57.out.later hbx)
      clear p0 p1 pl pf o0 o1 ol of
      obtain ⟨q, hq⟩ : ∃ q : Int, q = min ((sizeL [z] : Nat) : Int) (2000 + 1) := ⟨_, rfl⟩
      have hg : ¬ 2000 < q := by have := HZS.out; omega
      rw [← hq]
      clear hq
      have p0 : u58.cell? ⟨P, 0, none⟩ = some (.string t.name) := ph58.out.cell 0
      have p1 : u58.cell? ⟨P, 1, none⟩ = some (.slice a t.args.length c) := ph58.out.cell 1
      have pl := ph58.out.lt
      have pf := ph58.out.frozen
      have o0 : u58.cell? ⟨O, 0, none⟩ = some (.string z.name) := oh58.out.cell 0
      have o1 : u58.cell? ⟨O, 1, none⟩ = some (.slice a7 z.args.length c7) := oh58.out.cell 1
      have ol := oh58.out.lt
      have of := oh58.out.frozen
      go_wp2_with fail
      refine (bracketN_any nm HN.out HV.out t (OkC.of HC0.out).1.1 HC0.out (OkC.of HC0.out).2 _ _ XR (by exact V3.out _ K58.out)).mono ?_
      rintro e u59 ⟨a9, c9, rfl, hs9, hbx⟩
      have K59 := hide (K58.out.trans (hbx.mono K58.out.size))
      have ph59 := hide (ph58.out.below hbx ph58.out.lt)
      have oh59 := hide (oh58.out.below hbx oh58.out.lt)
      have zss59 := hide (zss58.out.later hbx)
      clear p0 p1 pl pf o0 o1 ol of
      rw [← HZ.out] at hs9 ⊢
      have S9 := hide hs9
      clear hs9 hg
      have K60 : Hid (Below w.heap.size w (u59.alloc (.cells #[.string z.name, .slice a9 z.args.length c9] 24))) := K59.out.alloc K59.out.size _
      have ph60 := hide (ph59.out.alloc (.cells #[.string z.name, .slice a9 z.args.length c9] 24))
      have oh60 := hide (oh59.out.alloc (.cells #[.string z.name, .slice a9 z.args.length c9] 24))
      have zss60 := hide (zss59.out.later ((Below.refl _ _).alloc (Nat.le_refl _) (.cells #[.string z.name, .slice a9 z.args.length c9] 24)))
      have xss60 := hide (S9.out.later ((Below.refl _ _).alloc (Nat.le_refl _) (.cells #[.string z.name, .slice a9 z.args.length c9] 24)))
      have qh60 : Hid (Blk (u59.alloc (.cells #[.string z.name, .slice a9 z.args.length c9] 24)) u59.heap.size #[.string z.name, .slice a9 z.args.length c9] 24) := Blk.new u59 _ _
      have HA60 : Hid (w.heap.size ≤ u59.heap.size ∧ P < u59.heap.size ∧ u59.heap.size < (u59.alloc (.cells #[.string z.name, .slice a9 z.args.length c9] 24)).heap.size) := ⟨K59.out.size, ph59.out.lt, by simp⟩
      go_upto_region 13 with fail
      generalize (u59.alloc (.cells #[.string z.name, .slice a9 z.args.length c9] 24)) = u60 at *
      obtain ⟨Q, hQ⟩ : ∃ Q, Q = u59.heap.size := ⟨_, rfl⟩
      rw [← hQ] at qh60 HA60 ⊢
      clear hQ
      have p0 : u60.cell? ⟨P, 0, none⟩ = some (.string t.name) := ph60.out.cell 0
      have p1 : u60.cell? ⟨P, 1, none⟩ = some (.slice a t.args.length c) := ph60.out.cell 1
      have pl := ph60.out.lt
      have pf := ph60.out.frozen
      have o0 : u60.cell? ⟨O, 0, none⟩ = some (.string z.name) := oh60.out.cell 0
      have o1 : u60.cell? ⟨O, 1, none⟩ = some (.slice a7 z.args.length c7) := oh60.out.cell 1
      have ol := oh60.out.lt
      have of := oh60.out.frozen
      have q0 : u60.cell? ⟨Q, 0, none⟩ = some (.string z.name) := qh60.out.cell 0
      have q1 : u60.cell? ⟨Q, 1, none⟩ = some (.slice a9 z.args.length c9) := qh60.out.cell 1
      have ql := qh60.out.lt
      have qf := qh60.out.frozen
      go_wp2_with fail
      refine (ccheck_any t _ _ XR (by exact V3.out _ K60.out)).mono ?_
      rintro e u61 ⟨rfl, hbx⟩
      have K61 := hide (K60.out.trans (hbx.mono K60.out.size))
      have ph61 := hide (ph60.out.below hbx ph60.out.lt)
      have oh61 := hide (oh60.out.below hbx oh60.out.lt)
      have qh61 := hide (qh60.out.below hbx qh60.out.lt)
      have zss61 := hide (zss60.out.later hbx)
      have xss61 := hide (xss60.out.later hbx)
      clear p0 p1 pl pf o0 o1 ol of q0 q1 ql qf
      rw [HC0.out]
      have p0 : u61.cell? ⟨P, 0, none⟩ = some (.string t.name) := ph61.out.cell 0
      have p1 : u61.cell? ⟨P, 1, none⟩ = some (.slice a t.args.length c) := ph61.out.cell 1
      have pl := ph61.out.lt
      have pf := ph61.out.frozen
      have o0 : u61.cell? ⟨O, 0, none⟩ = some (.string z.name) := oh61.out.cell 0
      have o1 : u61.cell? ⟨O, 1, none⟩ = some (.slice a7 z.args.length c7) := oh61.out.cell 1
      have ol := oh61.out.lt
      have of := oh61.out.frozen
      have q0 : u61.cell? ⟨Q, 0, none⟩ = some (.string z.name) := qh61.out.cell 0
      have q1 : u61.cell? ⟨Q, 1, none⟩ = some (.slice a9 z.args.length c9) := qh61.out.cell 1
      have ql := qh61.out.lt
      have qf := qh61.out.frozen
      go_wp2_with fail
      refine (term2_ok z _ _ _ (fun b => XR b ∨ u58.heap.size ≤ b) (fun b => XR b ∨ u55.heap.size ≤ b) (by exact ⟨a9, c9, rfl, xss61.out⟩) (by exact ⟨a7, c7, rfl, zss61.out⟩)).mono ?_
      rintro e u62 ⟨rfl, hbx⟩
      have K62 := hide (K61.out.trans (hbx.mono K61.out.size))
      have ph62 := hide (ph61.out.below hbx ph61.out.lt)
      have oh62 := hide (oh61.out.below hbx oh61.out.lt)
      have qh62 := hide (qh61.out.below hbx qh61.out.lt)
      have zss62 := hide (zss61.out.later hbx)
      have xss62 := hide (xss61.out.later hbx)
      clear p0 p1 pl pf o0 o1 ol of q0 q1 ql qf
      have K63 : Hid (Below w.heap.size w (u62.alloc (.cells #[.int .i64 0, .int .i64 0, .slice none 0 0] 36))) := K62.out.alloc K62.out.size _
      have ph63 := hide (ph62.out.alloc (.cells #[.int .i64 0, .int .i64 0, .slice none 0 0] 36))
      have yh63 : Hid (Blk (u62.alloc (.cells #[.int .i64 0, .int .i64 0, .slice none 0 0] 36)) u62.heap.size #[.int .i64 0, .int .i64 0, .slice none 0 0] 36) := Blk.new u62 _ _
      have HA63 : Hid (w.heap.size ≤ u62.heap.size ∧ P < u62.heap.size ∧ u62.heap.size < (u62.alloc (.cells #[.int .i64 0, .int .i64 0, .slice none 0 0] 36)).heap.size) := ⟨K62.out.size, ph62.out.lt, by simp⟩
      go_upto_region 18 with fail
      generalize (u62.alloc (.cells #[.int .i64 0, .int .i64 0, .slice none 0 0] 36)) = u63 at *
      obtain ⟨Y, hY⟩ : ∃ Y, Y = u62.heap.size := ⟨_, rfl⟩
      rw [← hY] at yh63 HA63 ⊢
      clear hY
      have p0 : u63.cell? ⟨P, 0, none⟩ = some (.string t.name) := ph63.out.cell 0
      have p1 : u63.cell? ⟨P, 1, none⟩ = some (.slice a t.args.length c) := ph63.out.cell 1
      have pl := ph63.out.lt
      have pf := ph63.out.frozen
      have y0 : u63.cell? ⟨Y, 0, none⟩ = some (.int .i64 0) := yh63.out.cell 0
      have y1 : u63.cell? ⟨Y, 1, none⟩ = some (.int .i64 0) := yh63.out.cell 1
      have y2 : u63.cell? ⟨Y, 2, none⟩ = some (.slice none 0 0) := yh63.out.cell 2
      have yl := yh63.out.lt
      have yf := yh63.out.frozen
      go_wp2_with fail
      refine (lamOf_any (sizeL [t]) t _ _ XR (OkC.of HC0.out).1 (by exact V3.out _ K63.out) (Nat.le_refl _)).mono ?_
      rintro e u64 ⟨hbx, au, cu, rfl, hsu, hnu⟩
      have K64 := hide (K63.out.trans (hbx.mono K63.out.size))
      have ph64 := hide (ph63.out.below hbx ph63.out.lt)
      have yh64 := hide (yh63.out.below hbx yh63.out.lt)
      clear p0 p1 pl pf y0 y1 y2 yl yf
      obtain ⟨⟨er, u⟩, hu⟩ : ∃ r, r = toL (sizeL [t]) t := ⟨_, rfl⟩
      rw [← hu] at hsu ⊢
      have HU := hide hu.symm
      clear hu hnu
      simp only at hsu ⊢
      have SU := hide hsu
      clear hsu
      have p0 : u64.cell? ⟨P, 0, none⟩ = some (.string t.name) := ph64.out.cell 0
      have p1 : u64.cell? ⟨P, 1, none⟩ = some (.slice a t.args.length c) := ph64.out.cell 1
      have pl := ph64.out.lt
      have pf := ph64.out.frozen
      have y0 : u64.cell? ⟨Y, 0, none⟩ = some (.int .i64 0) := yh64.out.cell 0
      have y1 : u64.cell? ⟨Y, 1, none⟩ = some (.int .i64 0) := yh64.out.cell 1
      have y2 : u64.cell? ⟨Y, 2, none⟩ = some (.slice none 0 0) := yh64.out.cell 2
      have yl := yh64.out.lt
      have yf := yh64.out.frozen
      go_upto_region 19 with fail
      clear p0 p1 pl pf y0 y1 y2 yl yf
      have hPY : P ≠ Y := by have := HA63.out; omega
      have yh65 : Hid (Blk (((u64.setCell ⟨Y, 0, none⟩ (.int .i64 u.kind)).setCell ⟨Y, 1, none⟩ (.int .i64 u.idx)).setCell ⟨Y, 2, none⟩ (.slice au u.subs.length cu)) Y #[.int .i64 u.kind, .int .i64 u.idx, .slice au u.subs.length cu] 36) := ((yh64.out.set 0 _).set 1 _).set 2 _
      have ph65 : Hid (Blk (((u64.setCell ⟨Y, 0, none⟩ (.int .i64 u.kind)).setCell ⟨Y, 1, none⟩ (.int .i64 u.idx)).setCell ⟨Y, 2, none⟩ (.slice au u.subs.length cu)) P #[.string t.name, .slice a t.args.length c] 24) := ((ph64.out.setOther 0 _ hPY).setOther 1 _ hPY).setOther 2 _ hPY
      have K65 : Hid (Below w.heap.size w (((u64.setCell ⟨Y, 0, none⟩ (.int .i64 u.kind)).setCell ⟨Y, 1, none⟩ (.int .i64 u.idx)).setCell ⟨Y, 2, none⟩ (.slice au u.subs.length cu))) := set3_below K64.out HA63.out.1 _ _ _
      have us65 : Hid (SlM (((u64.setCell ⟨Y, 0, none⟩ (.int .i64 u.kind)).setCell ⟨Y, 1, none⟩ (.int .i64 u.idx)).setCell ⟨Y, 2, none⟩ (.slice au u.subs.length cu)) (fun b => u63.heap.size ≤ b) au u.subs) := SU.out.kept fun b hb => set3_other b (by have := HA63.out; omega)
      generalize (((u64.setCell ⟨Y, 0, none⟩ (.int .i64 u.kind)).setCell ⟨Y, 1, none⟩ (.int .i64 u.idx)).setCell ⟨Y, 2, none⟩ (.slice au u.subs.length cu)) = u65 at *
      clear hPY
      have HTE0 : Hid (toE t = if er = 0 then (if 2000 < sizeM [u] then (8, nilL) else (0, u)) else (er, nilL)) := by unfold Hid toE; rw [if_pos HC0.out, HU.out]
      by_cases he : er = 0
      rotate_left
      · have he' : (er == 0) = false := by simpa using he
        have HTE : Hid (toE t = (er, nilL)) := by unfold Hid; rw [HTE0.out, if_neg he]
        have p0 : u65.cell? ⟨P, 0, none⟩ = some (.string t.name) := ph65.out.cell 0
        have p1 : u65.cell? ⟨P, 1, none⟩ = some (.slice a t.args.length c) := ph65.out.cell 1
        have pl := ph65.out.lt
        have pf := ph65.out.frozen
        have y0 : u65.cell? ⟨Y, 0, none⟩ = some (.int .i64 u.kind) := yh65.out.cell 0
        have y1 : u65.cell? ⟨Y, 1, none⟩ = some (.int .i64 u.idx) := yh65.out.cell 1
        have y2 : u65.cell? ⟨Y, 2, none⟩ = some (.slice au u.subs.length cu) := yh65.out.cell 2
        have yl := yh65.out.lt
        have yf := yh65.out.frozen
        go_wp2_with fail
        refine (cTo_any t _ _ XR (by exact V3.out _ K65.out) (HT.out _ K65.out) (HS.out _ K65.out)).mono ?_
        rintro e u66 ⟨hbx, az, cz, rfl, hsz, hnz⟩
        have K66 := hide (K65.out.trans (hbx.mono K65.out.size))
        have ph66 := hide (ph65.out.below hbx ph65.out.lt)
        have yh66 := hide (yh65.out.below hbx yh65.out.lt)
        have uss66 := hide (us65.out.later hbx)
        clear p0 p1 pl pf y0 y1 y2 yl yf
        rw [HTE.out] at hnz ⊢
        obtain ⟨_, rfl, rfl⟩ := hnz he
        clear hsz
        simp only [nilL, List.length_nil]
        have K67 : Hid (Below w.heap.size w (u66.alloc (.cells #[.int .i64 0, .int .i64 0, .slice none 0 0] 36))) := K66.out.alloc K66.out.size _
        have ph67 := hide (ph66.out.alloc (.cells #[.int .i64 0, .int .i64 0, .slice none 0 0] 36))
        have yh67 := hide (yh66.out.alloc (.cells #[.int .i64 0, .int .i64 0, .slice none 0 0] 36))
        have uss67 := hide (uss66.out.later ((Below.refl _ _).alloc (Nat.le_refl _) (.cells #[.int .i64 0, .int .i64 0, .slice none 0 0] 36)))
        have zh67 : Hid (Blk (u66.alloc (.cells #[.int .i64 0, .int .i64 0, .slice none 0 0] 36)) u66.heap.size #[.int .i64 0, .int .i64 0, .slice none 0 0] 36) := Blk.new u66 _ _
        have HA67 : Hid (w.heap.size ≤ u66.heap.size ∧ P < u66.heap.size ∧ u66.heap.size < (u66.alloc (.cells #[.int .i64 0, .int .i64 0, .slice none 0 0] 36)).heap.size) := ⟨K66.out.size, ph66.out.lt, by simp⟩
        go_upto_region 22 with fail
        generalize (u66.alloc (.cells #[.int .i64 0, .int .i64 0, .slice none 0 0] 36)) = u67 at *
        obtain ⟨ZZ, hZZ⟩ : ∃ ZZ, ZZ = u66.heap.size := ⟨_, rfl⟩
        rw [← hZZ] at zh67 HA67 ⊢
        clear hZZ
        have p0 : u67.cell? ⟨P, 0, none⟩ = some (.string t.name) := ph67.out.cell 0
        have p1 : u67.cell? ⟨P, 1, none⟩ = some (.slice a t.args.length c) := ph67.out.cell 1
        have pl := ph67.out.lt
        have pf := ph67.out.frozen
        have y0 : u67.cell? ⟨Y, 0, none⟩ = some (.int .i64 u.kind) := yh67.out.cell 0
        have y1 : u67.cell? ⟨Y, 1, none⟩ = some (.int .i64 u.idx) := yh67.out.cell 1
        have y2 : u67.cell? ⟨Y, 2, none⟩ = some (.slice au u.subs.length cu) := yh67.out.cell 2
        have yl := yh67.out.lt
        have yf := yh67.out.frozen
        have z0 : u67.cell? ⟨ZZ, 0, none⟩ = some (.int .i64 0) := zh67.out.cell 0
        have z1 : u67.cell? ⟨ZZ, 1, none⟩ = some (.int .i64 0) := zh67.out.cell 1
        have z2 : u67.cell? ⟨ZZ, 2, none⟩ = some (.slice none 0 0) := zh67.out.cell 2
        have zl := zh67.out.lt
        have zf := zh67.out.frozen
        go_wp2_with fail
        refine (lam2_err er _ _ _ _ _ _ rfl _ he).mono ?_
        rintro e u68 ⟨rfl, hbx⟩
        have K68 := hide (K67.out.trans (hbx.mono K67.out.size))
        have ph68 := hide (ph67.out.below hbx ph67.out.lt)
        have yh68 := hide (yh67.out.below hbx yh67.out.lt)
        have zh68 := hide (zh67.out.below hbx zh67.out.lt)
        have uss68 := hide (uss67.out.later hbx)
        clear p0 p1 pl pf y0 y1 y2 yl yf z0 z1 z2 zl zf
        go_wp2_with fail
        go_ret
        exact ⟨rfl, K68.out⟩
      subst he
      have p0 : u65.cell? ⟨P, 0, none⟩ = some (.string t.name) := ph65.out.cell 0
      have p1 : u65.cell? ⟨P, 1, none⟩ = some (.slice a t.args.length c) := ph65.out.cell 1
      have pl := ph65.out.lt
      have pf := ph65.out.frozen
      have y0 : u65.cell? ⟨Y, 0, none⟩ = some (.int .i64 u.kind) := yh65.out.cell 0
      have y1 : u65.cell? ⟨Y, 1, none⟩ = some (.int .i64 u.idx) := yh65.out.cell 1
      have y2 : u65.cell? ⟨Y, 2, none⟩ = some (.slice au u.subs.length cu) := yh65.out.cell 2
      have yl := yh65.out.lt
      have yf := yh65.out.frozen
      go_wp2_with fail
      refine (lamSize_any u _ 2000 _ (fun b => u63.heap.size ≤ b) (by exact ⟨au, cu, rfl, us65.out⟩) (by omega) (by omega)).mono ?_
      rintro e u69 ⟨rfl, hbx⟩
      have K69 := hide (K65.out.trans (hbx.mono K65.out.size))
      have ph69 := hide (ph65.out.below hbx ph65.out.lt)
      have yh69 := hide (yh65.out.below hbx yh65.out.lt)
      have uss69 := hide (us65.out.later hbx)
      clear p0 p1 pl pf y0 y1 y2 yl yf
      obtain ⟨q, hq⟩ : ∃ q : Int, q = min ((sizeM [u] : Nat) : Int) (2000 + 1) := ⟨_, rfl⟩
      have HQ := hide hq
      rw [← hq]
      clear hq
      by_cases hg : 2000 < q
      · have HTE : Hid (toE t = (8, nilL)) := by unfold Hid; rw [HTE0.out, if_pos (by first | trivial | rfl), if_pos (by have := HQ.out; omega)]
        have h8 : (8 : Int) ≠ 0 := by decide
        have p0 : u69.cell? ⟨P, 0, none⟩ = some (.string t.name) := ph69.out.cell 0
        have p1 : u69.cell? ⟨P, 1, none⟩ = some (.slice a t.args.length c) := ph69.out.cell 1
        have pl := ph69.out.lt
        have pf := ph69.out.frozen
        have y0 : u69.cell? ⟨Y, 0, none⟩ = some (.int .i64 u.kind) := yh69.out.cell 0
        have y1 : u69.cell? ⟨Y, 1, none⟩ = some (.int .i64 u.idx) := yh69.out.cell 1
        have y2 : u69.cell? ⟨Y, 2, none⟩ = some (.slice au u.subs.length cu) := yh69.out.cell 2
        have yl := yh69.out.lt
        have yf := yh69.out.frozen
        go_wp2_with fail
        refine (cTo_any t _ _ XR (by exact V3.out _ K69.out) (HT.out _ K69.out) (HS.out _ K69.out)).mono ?_
        rintro e u70 ⟨hbx, az, cz, rfl, hsz, hnz⟩
        have K70 := hide (K69.out.trans (hbx.mono K69.out.size))
        have ph70 := hide (ph69.out.below hbx ph69.out.lt)
        have yh70 := hide (yh69.out.below hbx yh69.out.lt)
        have uss70 := hide (uss69.out.later hbx)
        clear p0 p1 pl pf y0 y1 y2 yl yf
        rw [HTE.out] at hnz ⊢
        obtain ⟨_, rfl, rfl⟩ := hnz h8
        clear hsz
        simp only [nilL, List.length_nil]
        have K71 : Hid (Below w.heap.size w (u70.alloc (.cells #[.int .i64 0, .int .i64 0, .slice none 0 0] 36))) := K70.out.alloc K70.out.size _
        have ph71 := hide (ph70.out.alloc (.cells #[.int .i64 0, .int .i64 0, .slice none 0 0] 36))
        have yh71 := hide (yh70.out.alloc (.cells #[.int .i64 0, .int .i64 0, .slice none 0 0] 36))
        have uss71 := hide (uss70.out.later ((Below.refl _ _).alloc (Nat.le_refl _) (.cells #[.int .i64 0, .int .i64 0, .slice none 0 0] 36)))
        have zh71 : Hid (Blk (u70.alloc (.cells #[.int .i64 0, .int .i64 0, .slice none 0 0] 36)) u70.heap.size #[.int .i64 0, .int .i64 0, .slice none 0 0] 36) := Blk.new u70 _ _
        have HA71 : Hid (w.heap.size ≤ u70.heap.size ∧ P < u70.heap.size ∧ u70.heap.size < (u70.alloc (.cells #[.int .i64 0, .int .i64 0, .slice none 0 0] 36)).heap.size) := ⟨K70.out.size, ph70.out.lt, by simp⟩
        go_upto_region 22 with fail
        generalize (u70.alloc (.cells #[.int .i64 0, .int .i64 0, .slice none 0 0] 36)) = u71 at *
        obtain ⟨ZZ, hZZ⟩ : ∃ ZZ, ZZ = u70.heap.size := ⟨_, rfl⟩
        rw [← hZZ] at zh71 HA71 ⊢
        clear hZZ
        have p0 : u71.cell? ⟨P, 0, none⟩ = some (.string t.name) := ph71.out.cell 0
        have p1 : u71.cell? ⟨P, 1, none⟩ = some (.slice a t.args.length c) := ph71.out.cell 1
        have pl := ph71.out.lt
        have pf := ph71.out.frozen
        have y0 : u71.cell? ⟨Y, 0, none⟩ = some (.int .i64 u.kind) := yh71.out.cell 0
        have y1 : u71.cell? ⟨Y, 1, none⟩ = some (.int .i64 u.idx) := yh71.out.cell 1
        have y2 : u71.cell? ⟨Y, 2, none⟩ = some (.slice au u.subs.length cu) := yh71.out.cell 2
        have yl := yh71.out.lt
        have yf := yh71.out.frozen
        have z0 : u71.cell? ⟨ZZ, 0, none⟩ = some (.int .i64 0) := zh71.out.cell 0
        have z1 : u71.cell? ⟨ZZ, 1, none⟩ = some (.int .i64 0) := zh71.out.cell 1
        have z2 : u71.cell? ⟨ZZ, 2, none⟩ = some (.slice none 0 0) := zh71.out.cell 2
        have zl := zh71.out.lt
        have zf := zh71.out.frozen
        go_wp2_with fail
        refine (lam2_err 8 _ _ _ _ _ _ rfl _ h8).mono ?_
        rintro e u72 ⟨rfl, hbx⟩
        have K72 := hide (K71.out.trans (hbx.mono K71.out.size))
        have ph72 := hide (ph71.out.below hbx ph71.out.lt)
        have yh72 := hide (yh71.out.below hbx yh71.out.lt)
        have zh72 := hide (zh71.out.below hbx zh71.out.lt)
        have uss72 := hide (uss71.out.later hbx)
        clear p0 p1 pl pf y0 y1 y2 yl yf z0 z1 z2 zl zf
        go_wp2_with fail
        go_ret
        exact ⟨rfl, K72.out⟩
      have HTE : Hid (toE t = (0, u)) := by unfold Hid; rw [HTE0.out, if_pos (by first | trivial | rfl), if_neg (by have := HQ.out; omega)]
      have p0 : u69.cell? ⟨P, 0, none⟩ = some (.string t.name) := ph69.out.cell 0
      have p1 : u69.cell? ⟨P, 1, none⟩ = some (.slice a t.args.length c) := ph69.out.cell 1
      have pl := ph69.out.lt
      have pf := ph69.out.frozen
      have y0 : u69.cell? ⟨Y, 0, none⟩ = some (.int .i64 u.kind) := yh69.out.cell 0
      have y1 : u69.cell? ⟨Y, 1, none⟩ = some (.int .i64 u.idx) := yh69.out.cell 1
      have y2 : u69.cell? ⟨Y, 2, none⟩ = some (.slice au u.subs.length cu) := yh69.out.cell 2
      have yl := yh69.out.lt
      have yf := yh69.out.frozen
      go_wp2_with fail
      refine (cTo_any t _ _ XR (by exact V3.out _ K69.out) (HT.out _ K69.out) (HS.out _ K69.out)).mono ?_
      rintro e u73 ⟨hbx, az, cz, rfl, hsz, hnz⟩
      have K73 := hide (K69.out.trans (hbx.mono K69.out.size))
      have ph73 := hide (ph69.out.below hbx ph69.out.lt)
      have yh73 := hide (yh69.out.below hbx yh69.out.lt)
      have uss73 := hide (uss69.out.later hbx)
      clear p0 p1 pl pf y0 y1 y2 yl yf
      rw [HTE.out] at hsz ⊢
      clear hnz
      simp only at hsz ⊢
      have SZ := hide hsz
      clear hsz
      have K74 : Hid (Below w.heap.size w (u73.alloc (.cells #[.int .i64 u.kind, .int .i64 u.idx, .slice az u.subs.length cz] 36))) := K73.out.alloc K73.out.size _
      have ph74 := hide (ph73.out.alloc (.cells #[.int .i64 u.kind, .int .i64 u.idx, .slice az u.subs.length cz] 36))
      have yh74 := hide (yh73.out.alloc (.cells #[.int .i64 u.kind, .int .i64 u.idx, .slice az u.subs.length cz] 36))
      have uss74 := hide (uss73.out.later ((Below.refl _ _).alloc (Nat.le_refl _) (.cells #[.int .i64 u.kind, .int .i64 u.idx, .slice az u.subs.length cz] 36)))
      have vss74 := hide (SZ.out.later ((Below.refl _ _).alloc (Nat.le_refl _) (.cells #[.int .i64 u.kind, .int .i64 u.idx, .slice az u.subs.length cz] 36)))
      have zh74 : Hid (Blk (u73.alloc (.cells #[.int .i64 u.kind, .int .i64 u.idx, .slice az u.subs.length cz] 36)) u73.heap.size #[.int .i64 u.kind, .int .i64 u.idx, .slice az u.subs.length cz] 36) := Blk.new u73 _ _
      have HA74 : Hid (w.heap.size ≤ u73.heap.size ∧ P < u73.heap.size ∧ u73.heap.size < (u73.alloc (.cells #[.int .i64 u.kind, .int .i64 u.idx, .slice az u.subs.length cz] 36)).heap.size) := ⟨K73.out.size, ph73.out.lt, by simp⟩
      go_upto_region 22 with fail
      generalize (u73.alloc (.cells #[.int .i64 u.kind, .int .i64 u.idx, .slice az u.subs.length cz] 36)) = u74 at *
      obtain ⟨ZZ, hZZ⟩ : ∃ ZZ, ZZ = u73.heap.size := ⟨_, rfl⟩
      rw [← hZZ] at zh74 HA74 ⊢
      clear hZZ
      have p0 : u74.cell? ⟨P, 0, none⟩ = some (.string t.name) := ph74.out.cell 0
      have p1 : u74.cell? ⟨P, 1, none⟩ = some (.slice a t.args.length c) := ph74.out.cell 1
      have pl := ph74.out.lt
      have pf := ph74.out.frozen
      have y0 : u74.cell? ⟨Y, 0, none⟩ = some (.int .i64 u.kind) := yh74.out.cell 0
      have y1 : u74.cell? ⟨Y, 1, none⟩ = some (.int .i64 u.idx) := yh74.out.cell 1
      have y2 : u74.cell? ⟨Y, 2, none⟩ = some (.slice au u.subs.length cu) := yh74.out.cell 2
      have yl := yh74.out.lt
      have yf := yh74.out.frozen
      have z0 : u74.cell? ⟨ZZ, 0, none⟩ = some (.int .i64 u.kind) := zh74.out.cell 0
      have z1 : u74.cell? ⟨ZZ, 1, none⟩ = some (.int .i64 u.idx) := zh74.out.cell 1
      have z2 : u74.cell? ⟨ZZ, 2, none⟩ = some (.slice az u.subs.length cz) := zh74.out.cell 2
      have zl := zh74.out.lt
      have zf := zh74.out.frozen
      go_wp2_with fail
      refine (lam2_ok u _ _ _ (fun b => u69.heap.size ≤ b) (fun b => u63.heap.size ≤ b) (by exact ⟨az, cz, rfl, vss74.out⟩) (by exact ⟨au, cu, rfl, uss74.out⟩)).mono ?_
      rintro e u75 ⟨rfl, hbx⟩
      have K75 := hide (K74.out.trans (hbx.mono K74.out.size))
      have ph75 := hide (ph74.out.below hbx ph74.out.lt)
      have yh75 := hide (yh74.out.below hbx yh74.out.lt)
      have zh75 := hide (zh74.out.below hbx zh74.out.lt)
      have uss75 := hide (uss74.out.later hbx)
      have vss75 := hide (vss74.out.later hbx)
      clear p0 p1 pl pf y0 y1 y2 yl yf z0 z1 z2 zl zf
      go_wp2_with fail
      go_ret
      exact ⟨rfl, K75.out⟩
end Go.Proofs.YtcdabjekppddjaaGreatDoor

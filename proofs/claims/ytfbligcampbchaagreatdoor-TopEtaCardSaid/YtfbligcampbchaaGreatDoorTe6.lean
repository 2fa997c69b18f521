/- Walks: the law TopEta. -/
import Derived.Test.YtfbligcampbchaaGreatDoorAp2
import Derived.Test.YtfbligcampbchaaGreatDoorTe5
import Derived.Test.YtfbligcampbchaaGreatDoorDv5
import Derived.Test.YtfbligcampbchaaGreatDoorLf1e
import Derived.Test.YtfbligcampbchaaGreatDoorL11
namespace Go.Proofs.YtfbligcampbchaaGreatDoor
open Go.RowKit
set_option linter.unusedSimpArgs false
set_option linter.unusedVariables false
set_option maxRecDepth 8000

/-- A lambda term in a box. -/
def Bx (w : World) (A : Nat) (t : Lm) (a : Option Addr) (c : Nat) : Prop := Blk w A #[.int .i64 t.kind, .int .i64 t.idx, .slice a t.subs.length c] 26 ∧ SlM w (fun _ => True) a t.subs
theorem Bx.later {w w' : World} {A : Nat} {t : Lm} {a : Option Addr} {c : Nat} (h : Bx w A t a c) (hb : Below w.heap.size w w') : Bx w' A t a c := ⟨h.1.below hb h.1.lt, h.2.later hb⟩
theorem Bx.alloc {w : World} {A : Nat} {t : Lm} {a : Option Addr} {c : Nat} (h : Bx w A t a c) (o : Obj) : Bx (w.alloc o) A t a c := h.later ((Below.refl _ _).alloc (Nat.le_refl _) o)
theorem Bx.new {w : World} {t : Lm} {a : Option Addr} {c : Nat} {X : Nat → Prop} (h : SlM w X a t.subs) : Bx (w.alloc (.cells #[.int .i64 t.kind, .int .i64 t.idx, .slice a t.subs.length c] 26)) w.heap.size t a c :=
  ⟨Blk.new w _ _, (h.mono fun _ _ _ => trivial).later ((Below.refl _ _).alloc (Nat.le_refl _) _)⟩
theorem Bx.cs {w : World} {A : Nat} {t : Lm} {a : Option Addr} {c : Nat} (h : Bx w A t a c) : w.cell? ⟨A, 0, none⟩ = some (.int .i64 t.kind) ∧ w.cell? ⟨A, 1, none⟩ = some (.int .i64 t.idx) ∧ w.cell? ⟨A, 2, none⟩ = some (.slice a t.subs.length c) := ⟨h.1.cell 0, h.1.cell 1, h.1.cell 2⟩
theorem Bx.mv {w : World} {A : Nat} {t : Lm} {a : Option Addr} {c : Nat} (h : Bx w A t a c) : MV w (fun _ => True) (.agg #[.int .i64 t.kind, .int .i64 t.idx, .slice a t.subs.length c]) t := ⟨a, c, rfl, h.2⟩

theorem rEtaO_any (t : Lm) (n : Nat) (he : lamE n 0 t = 0) (y : Lm) (hy : etaT t = y) (v : Value) (w : World) (X : Nat → Prop) (hv : MV w X v t) :
    Calls Tryz.prog 6 #[v, .int .i64 (n : Int)] w fun e w' => ∃ a c, e = .returned (.tuple #[.agg #[.int .i64 y.kind, .int .i64 y.idx, .slice a y.subs.length c], .int .i64 0]) ∧ SlM w' (fun _ => True) a y.subs ∧ Below w.heap.size w w' := by
  subst hy
  refine (rEta_any t n v w X hv).mono ?_
  rintro e w' ⟨hb, h⟩
  rcases h with ⟨_, a, c, rfl, hs⟩ | ⟨h, _⟩
  · exact ⟨a, c, rfl, hs.mono fun _ _ _ => trivial, hb⟩
  · exact absurd he h
theorem rStepsO_any (t : Lm) (n : Nat) (he : stE t n = 0) (v : Value) (w : World) (X : Nat → Prop) (hv : MV w X v t) :
    Calls Tryz.prog 7 #[v, .int .i64 (n : Int)] w fun e w' => ∃ a c, e = .returned (.tuple #[.slice a (stsT 2001 t).length c, .int .i64 0]) ∧ Below w.heap.size w w' := by
  refine (rSteps_any t n v w X hv).mono ?_
  rintro e w' ⟨hb, h⟩
  rcases h with ⟨_, a, c, rfl, hs⟩ | ⟨h, _⟩
  · exact ⟨a, c, rfl, hb⟩
  · exact absurd he h

set_option maxHeartbeats 4000000 in
theorem topEta_any (zs : List Int) (hr : ∀ z ∈ zs, Rng z) (y1 y2 : Int) (h1 : Rng y1) (h2 : Rng y2) (u : Value) (w : World) (X : Nat → Prop) (hu : PV w X u zs) (hT : Tb w.heap.size w) (hS : Tse w.heap.size w) :
    Calls Tryz.prog 3 #[u, .int .i64 y1, .int .i64 y2] w fun e w' => e = .returned (.bool true) ∧ Below w.heap.size w w' := by
  have HU := hide hu
  have HRG := hide hr
  have HT := hide hT
  have HSE := hide hS
  unfold Rng at h1 h2
  obtain ⟨ua, uc, rfl⟩ : ∃ ua uc, u = .slice ua zs.length uc := by
    obtain ⟨a, c, h, _⟩ := hu
    exact ⟨a, c, h⟩
  clear hu hr hT hS
  by_cases hl : 256 < zs.length
  · have hli : (256 : Int) < (zs.length : Int) := by omega
    go_enter Tryz.func3, Tryz.ntmps3
    go_wp2_with fail
    go_ret
    exact ⟨rfl, Below.refl _ _⟩
  · have hli : ¬ (256 : Int) < (zs.length : Int) := by omega
    go_enter Tryz.func3, Tryz.ntmps3
    go_wp2_with fail
    refine (pick_any y2 3 (by omega) (by omega) h2 _).mono ?_
    rintro e w1 ⟨n, rfl, hn, rfl⟩
    go_wp2_with fail
    refine (pick_any y1 30 (by omega) (by omega) h1 _).mono ?_
    rintro e w2 ⟨m1, rfl, hm1, rfl⟩
    have CL := hide (lamOfRawE_any zs _ HRG.out (by omega) m1 n (by omega) (by omega) w2 X HU.out)
    go_wp2_with fail
    refine CL.out.mono ?_
    rintro e w3 ⟨t, a, c, rfl, hs, hb, he, hsz⟩
    have hq : tpQ m1 ≤ 57 := by unfold tpQ; split <;> omega
    have HE := hide he
    have HZ : Hid (sizeM [t] ≤ 57) := Nat.le_trans hsz hq
    have HB := hide hb
    have T4 := hide (Bx.new (c := c) hs)
    have HB4 : Hid (Below w2.heap.size w2 (w3.alloc (.cells #[.int .i64 t.kind, .int .i64 t.idx, .slice a t.subs.length c] 26))) := hb.alloc hb.size _
    have HG := hide (te_eta he)
    clear hs hb he hq hsz CL
    obtain ⟨c0, c1, c2⟩ := T4.out.cs
    go_wp2_with fail
    generalize (w3.alloc (.cells #[.int .i64 t.kind, .int .i64 t.idx, .slice a t.subs.length c] 26)) = w4 at *
    refine (rEtaO_any t n (lamE_of (by omega) HE.out (by have := HZ.out; omega)) (etaT t) rfl _ _ _ (by exact T4.out.mv)).mono ?_
    rintro e w5 ⟨ax, cx, rfl, hs, hb⟩
    obtain ⟨x, hx⟩ : ∃ x, x = etaT t := ⟨_, rfl⟩
    have HX := hide hx
    rw [← hx] at hs ⊢
    clear hx
    have T5 := hide (T4.out.later hb)
    have HB5 := hide (HB4.out.trans (hb.mono HB4.out.size))
    have T6 := hide (T5.out.alloc (.cells #[.int .i64 x.kind, .int .i64 x.idx, .slice ax x.subs.length cx] 26))
    have X6 := hide (Bx.new (c := cx) hs)
    have HB6 : Hid (Below w2.heap.size w2 (w5.alloc (.cells #[.int .i64 x.kind, .int .i64 x.idx, .slice ax x.subs.length cx] 26))) := HB5.out.alloc HB5.out.size _
    clear hs hb c0 c1 c2 T4 HB4 T5 HB5
    obtain ⟨c0, c1, c2⟩ := X6.out.cs
    go_wp2_with fail
    generalize (w5.alloc (.cells #[.int .i64 x.kind, .int .i64 x.idx, .slice ax x.subs.length cx] 26)) = w6 at *
    refine (rEtaO_any x n (by rw [HX.out]; exact lamE_of (by omega) HG.out.1 (by have := HZ.out; have := HG.out.2.1; omega)) x (by rw [HX.out]; exact HG.out.2.2.1) _ _ _ (by exact X6.out.mv)).mono ?_
    rintro e w7 ⟨ay, cy, rfl, hs, hb⟩
    have T7 := hide (T6.out.later hb)
    have X7 := hide (X6.out.later hb)
    have HB7 := hide (HB6.out.trans (hb.mono HB6.out.size))
    have T8 := hide (T7.out.alloc (.cells #[.int .i64 x.kind, .int .i64 x.idx, .slice ay x.subs.length cy] 26))
    have X8 := hide (X7.out.alloc (.cells #[.int .i64 x.kind, .int .i64 x.idx, .slice ay x.subs.length cy] 26))
    have Y8 := hide (Bx.new (c := cy) hs)
    have HB8 : Hid (Below w2.heap.size w2 (w7.alloc (.cells #[.int .i64 x.kind, .int .i64 x.idx, .slice ay x.subs.length cy] 26))) := HB7.out.alloc HB7.out.size _
    clear hs hb c0 c1 c2 T6 X6 HB6 T7 X7 HB7
    obtain ⟨c0, c1, c2⟩ := T8.out.cs
    go_wp2_with fail
    generalize (w7.alloc (.cells #[.int .i64 x.kind, .int .i64 x.idx, .slice ay x.subs.length cy] 26)) = w8 at *
    refine (rStepsO_any t n (stE_of (by omega) HE.out (by have := HZ.out; omega)) _ _ _ (by exact T8.out.mv)).mono ?_
    rintro e w9 ⟨al, cl, rfl, hb⟩
    have T9 := hide (T8.out.later hb)
    have X9 := hide (X8.out.later hb)
    have Y9 := hide (Y8.out.later hb)
    have HB9 := hide (HB8.out.trans (hb.mono HB8.out.size))
    clear hb c0 c1 c2 T8 X8 Y8 HB8
    obtain ⟨c0, c1, c2⟩ := X9.out.cs
    have HN : Hid (stsT 2001 t = [] → stsT 2001 x = []) := fun h => by
      rw [HX.out]
      exact sts_none (HG.out.2.2.2 (sts_nil (by have := HZ.out; omega) h))
    obtain ⟨nl, hnl⟩ : ∃ k, k = (stsT 2001 t).length := ⟨_, rfl⟩
    have HNL := hide hnl
    rw [← hnl]
    clear hnl
    go_wp2_with fail
    refine (rStepsO_any x n (by rw [HX.out]; exact stE_of (by omega) HG.out.1 (by have := HZ.out; have := HG.out.2.1; omega)) _ _ _ (by exact X9.out.mv)).mono ?_
    rintro e w10 ⟨am, cm, rfl, hb⟩
    have T10 := hide (T9.out.later hb)
    have X10 := hide (X9.out.later hb)
    have Y10 := hide (Y9.out.later hb)
    have HB10 := hide (HB9.out.trans (hb.mono HB9.out.size))
    clear hb c0 c1 c2 T9 X9 Y9 HB9
    obtain ⟨ml, hml⟩ : ∃ k, k = (stsT 2001 x).length := ⟨_, rfl⟩
    have HML := hide hml
    rw [← hml]
    clear hml
    obtain ⟨c0, c1, c2⟩ := T10.out.cs
    go_wp2_with fail
    refine (higher_any 1 (by omega) (by omega) t _ 0 _ _ (by exact T10.out.mv) (by omega) (by have := HZ.out; omega) (bnd_of_err _ n 0 (by omega) (by have := HZ.out; omega) (by omega) HE.out)).mono ?_
    rintro e w11 ⟨ah, ch, rfl, hs, hb⟩
    have X11 := hide (X10.out.later hb)
    have Y11 := hide (Y10.out.later hb)
    have HB11 := hide (HB10.out.trans (hb.mono HB10.out.size))
    have S11 := hide (hs.mono (Y := fun _ => True) fun _ _ _ => trivial)
    clear hs hb c0 c1 c2 T10 X10 Y10 HB10
    go_wp2_with fail
    refine (varQ_any 0 _).mono ?_
    rintro e w12 ⟨rfl, hb⟩
    have X12 := hide (X11.out.later hb)
    have Y12 := hide (Y11.out.later hb)
    have HB12 := hide (HB11.out.trans (hb.mono HB11.out.size))
    have S12 := hide (S11.out.later hb)
    clear hb X11 Y11 HB11 S11
    go_wp2_with fail
    refine (appQ_any (higT 1 0 t) ⟨1, 0, []⟩ _ _ _ (fun _ => True) (by exact ⟨ah, ch, rfl, S12.out⟩) (by exact ⟨none, 0, rfl, ⟨by simp, Or.inl rfl⟩⟩)).mono ?_
    rintro e w13 ⟨ap, cp, rfl, hs, hb⟩
    have X13 := hide (X12.out.later hb)
    have Y13 := hide (Y12.out.later hb)
    have HB13 := hide (HB12.out.trans (hb.mono HB12.out.size))
    have S13 := hide (hs.mono (Y := fun _ => True) fun _ _ _ => trivial)
    clear hs hb X12 Y12 HB12 S12
    go_wp2_with fail
    refine (funQ_any ⟨3, 0, [higT 1 0 t, ⟨1, 0, []⟩]⟩ _ _ (fun _ => True) (by exact ⟨ap, cp, rfl, S13.out⟩)).mono ?_
    rintro e w14 ⟨aw, cw, rfl, hs, hb⟩
    have X14 := hide (X13.out.later hb)
    have Y14 := hide (Y13.out.later hb)
    have HB14 := hide (HB13.out.trans (hb.mono HB13.out.size))
    have S14 := hide (hs.mono (Y := fun _ => True) fun _ _ _ => trivial)
    clear hs hb X13 Y13 HB13 S13
    have HW := hide (te_wide (n := n) (t := t) (by omega) HE.out (by have := HZ.out; omega))
    go_wp2_with fail
    refine (rEtaO_any (wideT t) n HW.out.1 x (by rw [HX.out]; exact HW.out.2) _ _ (fun _ => True) (by exact ⟨aw, cw, rfl, S14.out⟩)).mono ?_
    rintro e w15 ⟨av, cv, rfl, hs, hb⟩
    have X15 := hide (X14.out.later hb)
    have Y15 := hide (Y14.out.later hb)
    have HB15 := hide (HB14.out.trans (hb.mono HB14.out.size))
    have X16 := hide (X15.out.alloc (.cells #[.int .i64 x.kind, .int .i64 x.idx, .slice av x.subs.length cv] 26))
    have Y16 := hide (Y15.out.alloc (.cells #[.int .i64 x.kind, .int .i64 x.idx, .slice av x.subs.length cv] 26))
    have V16 := hide (Bx.new (c := cv) hs)
    have HB16 : Hid (Below w2.heap.size w2 (w15.alloc (.cells #[.int .i64 x.kind, .int .i64 x.idx, .slice av x.subs.length cv] 26))) := HB15.out.alloc HB15.out.size _
    clear hs hb X14 Y14 HB14 S14 X15 Y15 HB15
    obtain ⟨c0, c1, c2⟩ := X16.out.cs
    obtain ⟨d0, d1, d2⟩ := Y16.out.cs
    go_wp2_with fail
    generalize (w15.alloc (.cells #[.int .i64 x.kind, .int .i64 x.idx, .slice av x.subs.length cv] 26)) = w16 at *
    refine (sameM_any x _ _ _ _ _ (by exact X16.out.mv) (by exact Y16.out.mv)).mono ?_
    rintro e w17 ⟨rfl, hb⟩
    have X17 := hide (X16.out.later hb)
    have V17 := hide (V16.out.later hb)
    have HB17 := hide (HB16.out.trans (hb.mono HB16.out.size))
    clear hb c0 c1 c2 d0 d1 d2 X16 Y16 V16 HB16
    obtain ⟨c0, c1, c2⟩ := X17.out.cs
    obtain ⟨d0, d1, d2⟩ := V17.out.cs
    go_wp2_with fail
    refine (sameM_any x _ _ _ _ _ (by exact V17.out.mv) (by exact X17.out.mv)).mono ?_
    rintro e w18 ⟨rfl, hb⟩
    have HB18 := hide (HB17.out.trans (hb.mono HB17.out.size))
    clear hb c0 c1 c2 d0 d1 d2 X17 V17 HB17
    have HNM : Hid (nl = 0 → ml = 0) := fun h => by
      have h1 := HNL.out
      rw [h] at h1
      rw [HML.out, HN.out (List.length_eq_zero_iff.1 h1.symm)]
      rfl
    clear HNL HML HN
    by_cases hn0 : nl = 0
    · have hm0 := HNM.out hn0
      subst hn0
      subst hm0
      go_wp2_with fail
      refine (applies_any _ (HT.out.raise HB18.out HB18.out.size) (HSE.out.raise HB18.out HB18.out.size)).mono ?_
      rintro e w19 ⟨rfl, hb⟩
      have HB19 := hide (HB18.out.trans (hb.mono HB18.out.size))
      clear hb
      go_wp2_with fail
      go_ret
      exact ⟨rfl, HB19.out⟩
    · have hn1 : ((nl : Int) == 0) = false := by simp; omega
      go_wp2_with fail
      refine (applies_any _ (HT.out.raise HB18.out HB18.out.size) (HSE.out.raise HB18.out HB18.out.size)).mono ?_
      rintro e w19 ⟨rfl, hb⟩
      have HB19 := hide (HB18.out.trans (hb.mono HB18.out.size))
      clear hb
      go_wp2_with fail
      go_ret
      exact ⟨rfl, HB19.out⟩
end Go.Proofs.YtfbligcampbchaaGreatDoor

/- Walks: the law TopChurch. -/
import Derived.Test.YtagidfoiemgfcaaGreatDoorCh2
namespace Go.Proofs.YtagidfoiemgfcaaGreatDoor
open Go.RowKit
set_option linter.unusedSimpArgs false
set_option linter.unusedVariables false
set_option maxRecDepth 8000

/-- What is gone through: terms that come of t. -/
def RgL (n : Nat) (t : Lm) (wS : World) (o : Value) (wd : World) : Prop := ∃ (l : List Lm) (a : Option Addr) (c : Nat), o = .slice a l.length c ∧ SlM wd (fun _ => True) a l ∧ (∀ s ∈ l, ChOk n t s) ∧ l.length ≤ 100000 ∧ Below wS.heap.size wS wd

set_option maxHeartbeats 8000000 in
theorem topChurch_any (zs : List Int) (hr : ∀ z ∈ zs, Rng z) (y1 y2 : Int) (h1 : Rng y1) (h2 : Rng y2) (u : Value) (w : World) (X : Nat → Prop) (hu : PV w X u zs) (hT : Tb w.heap.size w) (hS : Tse w.heap.size w) :
    Calls Tryz.prog 3 #[u, .int .i64 y1, .int .i64 y2] w fun e w' => e = .returned (.bool true) ∧ Below w.heap.size w w' := by
  have HU := hide hu
  have HRG := hide hr
  have HT := hide hT
  have HSE := hide hS
  unfold Rng at h1 h2
  obtain ⟨ua, uc, rfl⟩ : ∃ ua uc, u = .slice ua zs.length uc := by
    obtain ⟨a, c, h, _⟩ := hu
    exact ⟨a, c, h⟩
  clear hu hr hT hS
  by_cases hl : 256 < zs.length
  · have hli : (256 : Int) < (zs.length : Int) := by omega
    go_enter Tryz.func3, Tryz.ntmps3
    go_wp2_with fail
    go_ret
    exact ⟨rfl, Below.refl _ _⟩
  · have hli : ¬ (256 : Int) < (zs.length : Int) := by omega
    go_enter Tryz.func3, Tryz.ntmps3
    go_wp2_with fail
    refine (pick_any y2 3 (by omega) (by omega) h2 _).mono ?_
    rintro e w1 ⟨n, rfl, hn, rfl⟩
    go_wp2_with fail
    refine (pick_any y1 20 (by omega) (by omega) h1 _).mono ?_
    rintro e w2 ⟨m1, rfl, hm1, rfl⟩
    have CL := lamOfRawE_any zs _ HRG.out (by omega) (3 + m1) n (by omega) (by omega) w2 X HU.out
    have e3 : ((3 + m1 : Nat) : Int) = 3 + (m1 : Int) := by omega
    rw [e3] at CL
    have HCL := hide CL
    clear CL e3
    have hw3 : IntKind.i64.wrap (3 + (m1 : Int)) = 3 + (m1 : Int) := by rw [IntKind.wrap_i64]; omega
    go_wp2_with fail
    refine HCL.out.mono ?_
    rintro e w3 ⟨t, at9, ct, rfl, hs, hb, he, hsz⟩
    have hq : tpQ (3 + m1) ≤ 200 := by unfold tpQ; split <;> omega
    have HE := hide he
    have HZ : Hid (sizeM [t] ≤ 200) := Nat.le_trans hsz hq
    have T4 := hide (Bx.new (c := ct) hs)
    have HB4 : Hid (Below w2.heap.size w2 (w3.alloc (.cells #[.int .i64 t.kind, .int .i64 t.idx, .slice at9 t.subs.length ct] 26))) := hb.alloc hb.size _
    have HM := hide (ch_may (n := n) (by omega) he HZ.out)
    clear hs hb he hq hsz HCL hw3
    obtain ⟨c0, c1, c2⟩ := T4.out.cs
    go_wp2_with fail
    generalize (w3.alloc (.cells #[.int .i64 t.kind, .int .i64 t.idx, .slice at9 t.subs.length ct] 26)) = w4 at *
    have NC := norC_any t n 60 (by omega) HM.out _ w4 _ T4.out.mv
    rw [show ((60 : Nat) : Int) = 60 from rfl] at NC
    refine NC.mono ?_
    clear NC
    rintro e w5 ⟨a, aa, ca, k, rfl, hs, hb, hza⟩
    have HZA := hide hza
    have HCO := hide (ch_codes false 60 t)
    obtain ⟨z, hz⟩ : ∃ z, z = (endM false 60 t).1 := ⟨_, rfl⟩
    have HZE := hide hz
    rw [← hz] at HZA HCO ⊢
    clear hz hza
    have T5 := hide (T4.out.later hb)
    have HB5 := hide (HB4.out.trans (hb.mono HB4.out.size))
    have T6 := hide (T5.out.alloc (.cells #[.int .i64 a.kind, .int .i64 a.idx, .slice aa a.subs.length ca] 26))
    have A6 := hide (Bx.new (c := ca) hs)
    have HB6 : Hid (Below w2.heap.size w2 (w5.alloc (.cells #[.int .i64 a.kind, .int .i64 a.idx, .slice aa a.subs.length ca] 26))) := HB5.out.alloc HB5.out.size _
    clear hs hb c0 c1 c2 T4 HB4 T5 HB5
    obtain ⟨c0, c1, c2⟩ := T6.out.cs
    go_wp2_with fail
    generalize (w5.alloc (.cells #[.int .i64 a.kind, .int .i64 a.idx, .slice aa a.subs.length ca] 26)) = w6 at *
    have SC := strC_any t n 60 (by omega) HM.out _ w6 _ T6.out.mv
    rw [show ((60 : Nat) : Int) = 60 from rfl] at SC
    refine SC.mono ?_
    clear SC
    rintro e w7 ⟨b, ab, cb, kb, rfl, hs, hb, hzb⟩
    have HZB := hide hzb
    obtain ⟨zb, hz⟩ : ∃ zb, zb = (endM true 60 t).1 := ⟨_, rfl⟩
    have HZBE := hide hz
    rw [← hz] at HZB ⊢
    clear hz hzb
    have T7 := hide (T6.out.later hb)
    have A7 := hide (A6.out.later hb)
    have HB7 := hide (HB6.out.trans (hb.mono HB6.out.size))
    have T8 := hide (T7.out.alloc (.cells #[.int .i64 b.kind, .int .i64 b.idx, .slice ab b.subs.length cb] 26))
    have A8 := hide (A7.out.alloc (.cells #[.int .i64 b.kind, .int .i64 b.idx, .slice ab b.subs.length cb] 26))
    have B8 := hide (Bx.new (c := cb) hs)
    have HB8 : Hid (Below w2.heap.size w2 (w7.alloc (.cells #[.int .i64 b.kind, .int .i64 b.idx, .slice ab b.subs.length cb] 26))) := HB7.out.alloc HB7.out.size _
    clear hs hb c0 c1 c2 T6 A6 HB6 T7 A7 HB7
    have HSM : Hid (z = 0 → zb = 0 → b = a) := fun h0 h => by
      rw [(HZB.out h).1, (HZA.out h0).1]
      exact ch_same HE.out (by rw [← HZE.out]; exact h0) (by rw [← HZBE.out]; exact h)
    go_upto_region 7 with fail
    generalize (w7.alloc (.cells #[.int .i64 b.kind, .int .i64 b.idx, .slice ab b.subs.length cb] 26)) = w8 at *
    go_cut [62] (fun o wd => o = .bool false ∧ Below w8.heap.size w8 wd)
    case first =>
      go_wp2_with fail
      refine (applies_any _ (HT.out.raise HB8.out HB8.out.size) (HSE.out.raise HB8.out HB8.out.size)).mono ?_
      rintro e w9 ⟨rfl, hb⟩
      have A9 := hide (A8.out.later hb)
      have B9 := hide (B8.out.later hb)
      have HB9 := hide hb
      clear hb
      obtain ⟨c0, c1, c2⟩ := A9.out.cs
      obtain ⟨d0, d1, d2⟩ := B9.out.cs
      by_cases hz0 : z = 0
      · by_cases hzb0 : zb = 0
        · have hba := HSM.out hz0 hzb0
          clear HZE HZBE HZA HZB HCO HSM
          subst hz0
          subst hzb0
          subst hba
          go_wp2_with fail
          refine (sameM_any _ _ _ _ _ _ (by exact A9.out.mv) (by exact B9.out.mv)).mono ?_
          rintro e w10 ⟨rfl, hb⟩
          have HB10 := hide (HB9.out.trans (hb.mono HB9.out.size))
          clear hb
          go_wp2_with fail
          go_meet
          exact ⟨rfl, HB10.out⟩
        · have hzb1 : (zb == 0) = false := by simpa using hzb0
          clear HZE HZBE HZA HZB HCO HSM
          subst hz0
          go_wp2_with fail
          go_meet
          exact ⟨rfl, HB9.out⟩
      · have hz1 : (z == 0) = false := by simpa using hz0
        clear HZE HZBE HZA HZB HCO HSM
        go_wp2_with fail
        go_meet
        exact ⟨rfl, HB9.out⟩
    obtain ⟨rfl, hb⟩ := hcut
    have T9 := hide (T8.out.later hb)
    have A9 := hide (A8.out.later hb)
    have HB9 := hide (HB8.out.trans (hb.mono HB8.out.size))
    clear hb T8 A8 B8 HB8 HSM HZB HZBE
    obtain ⟨w9, rfl⟩ : ∃ w9, w9 = wc := ⟨_, rfl⟩
    by_cases hz0 : z = 0
    case neg =>
      have hz1 : (z == 0) = false := by simpa using hz0
      have hz89 : z = 8 ∨ z = 9 := by rcases HCO.out with h | h; exact absurd h hz0; exact h
      clear HCO HZE HZA
      rcases hz89 with rfl | rfl
      · go_wp2_with fail
        go_ret
        exact ⟨rfl, HB9.out⟩
      · go_wp2_with fail
        go_ret
        exact ⟨rfl, HB9.out⟩
    obtain ⟨hA, hK⟩ := HZA.out hz0
    have HAE := hide hA
    have HKE := hide hK
    have HZ0 : Hid ((endM false 60 t).1 = 0) := by rw [← HZE.out]; exact hz0
    clear hA hK HZA HCO HZE
    subst hz0
    obtain ⟨c0, c1, c2⟩ := T9.out.cs
    go_wp2_with fail
    refine (rStepsR_any t n _ w9 _ (by exact T9.out.mv)).mono ?_
    rintro e w10 ⟨hb10, hst⟩
    have HB10 := hide hb10
    have T10 := hide (T9.out.later hb10)
    clear hb10 c0 c1 c2
    obtain ⟨c0, c1, c2⟩ := T10.out.cs
    rcases hst with ⟨hst0, al, cl, rfl, hsl, N, xs, hN1, hN2, hrow⟩ | ⟨hst8, rfl⟩
    case inr =>
      have hs8 : stE t n = 8 := by
        rcases ch_stE (n := n) (by omega) HE.out HZ.out with h | h
        · exact absurd h hst8
        · exact h
      rw [hs8]
      clear hs8 hst8
      go_wp2_with fail
      refine (devC_any t n (by omega) HE.out HZ.out _ w10 _ (by exact T10.out.mv)).mono ?_
      rintro e w11 ⟨d, ad, cd, zd, rfl, hs, hb, hzd, hz08⟩
      have HB12 : Hid (Below w2.heap.size w2 (w11.alloc (.cells #[.int .i64 d.kind, .int .i64 d.idx, .slice ad d.subs.length cd] 26))) := by
        have h1 := (HB9.out.trans (HB10.out.mono HB9.out.size))
        have h2 := h1.trans (hb.mono h1.size)
        exact h2.alloc h2.size _
      clear hs hb hzd hz08
      go_wp2_with fail
      go_ret
      exact ⟨rfl, HB12.out⟩
    have HROW := hide hrow
    have HSL := hide hsl
    have HN := hide (And.intro hN1 hN2)
    have HST := hide (ch_steps HE.out)
    have hLK : Hid ((stsT 2001 t).length = 0 ↔ k = 0) := by
      unfold Hid
      rw [ch_len (by have := HZ.out; omega), ← ch_zero HE.out 60 HZ0.out, HKE.out]
      omega
    have hll : (stsT 2001 t).length ≤ 200 := by
      unfold stsT
      rw [List.length_map]
      exact Nat.le_trans (hnd_len 2001 t) HZ.out
    obtain ⟨L, hL⟩ : ∃ L, L = stsT 2001 t := ⟨_, rfl⟩
    rw [← hL] at HROW HSL HST hLK hll ⊢
    clear hrow hsl hN1 hN2 hst0 hL
    go_wp2_with fail
    refine (devC_any t n (by omega) HE.out HZ.out _ w10 _ (by exact T10.out.mv)).mono ?_
    rintro e w11 ⟨d, ad, cd, zd, rfl, hs, hb, hzd, hz08⟩
    have HD11 := hide hs
    have HB11 := hide hb
    have HZD := hide hzd
    have BA : Hid (Below w10.heap.size w10 (w11.alloc (.cells #[.int .i64 d.kind, .int .i64 d.idx, .slice ad d.subs.length cd] 26))) := hb.alloc hb.size _
    have D12 := hide (Bx.new (c := cd) hs)
    have HD12 := hide (hs.later ((Below.refl _ _).alloc (Nat.le_refl _) (.cells #[.int .i64 d.kind, .int .i64 d.idx, .slice ad d.subs.length cd] 26)))
    clear hs hb hzd c0 c1 c2
    go_upto_region 15 with fail
    generalize (w11.alloc (.cells #[.int .i64 d.kind, .int .i64 d.idx, .slice ad d.subs.length cd] 26)) = w12 at *
    go_cut [92] (fun o wd => o = .bool false ∧ wd = w12)
    case first =>
      by_cases hL0 : L.length = 0
      · have hk0 := hLK.out.1 hL0
        have hL1 : ((L.length : Int) == 0) = true := beq_iff_eq.2 (by omega)
        have hk1 : (k == 0) = true := beq_iff_eq.2 hk0
        clear hL0 hk0
        go_wp2_with fail
        go_meet
        exact ⟨rfl, rfl⟩
      · have hk0 : ¬ k = 0 := fun h => hL0 (hLK.out.2 h)
        have hL1 : ((L.length : Int) == 0) = false := beq_eq_false_iff_ne.2 (by omega)
        have hk1 : (k == 0) = false := beq_eq_false_iff_ne.2 hk0
        clear hL0 hk0
        go_wp2_with fail
        go_meet
        exact ⟨rfl, rfl⟩
    obtain ⟨rfl, rfl⟩ := hcut
    obtain ⟨w12, rfl⟩ : ∃ w12, w12 = wc := ⟨_, rfl⟩
    have HBW : Hid (Below w10.heap.size w10 w12) := BA.out
    go_upto_if 94 with fail
    go_cut [15] (fun o wd => RgL n t w9 o wd)
    case first =>
      rcases hz08 with rfl | rfl
      · obtain ⟨g, cap, w14, hrun, hsl14, hb14⟩ := app_oneC (cd := cd) HB10.out HN.out.1 HN.out.2 HROW.out HBW.out HD12.out (by omega)
        have HRUN := hide hrun
        have HSL14 := hide hsl14
        have HB14 := hide hb14
        clear hrun hsl14 hb14
        obtain ⟨c0, c1, c2⟩ := D12.out.cs
        have HLL : Hid (((L ++ [d]).length) = L.length + 1) := by simp [Hid]
        go_wp2_with (at_builtin; refine wpList_append_eq rfl _ _ _ _ rfl rfl rfl HRUN.out ?_)
        go_meet
        refine ⟨L ++ [d], _, _, by rw [HLL.out], HSL14.out, fun s hs => ?_, by rw [HLL.out]; omega, HB14.out⟩
        rcases List.mem_append.1 hs with h | h
        · exact HST.out s h
        · rw [List.mem_singleton] at h
          rw [h]
          exact HZD.out trivial
      · go_wp2_with fail
        go_meet
        exact ⟨L, al, cl, rfl, (HSL.out.later HBW.out).mono fun _ _ _ => trivial, HST.out, by omega, HB10.out.trans (HBW.out.mono HB10.out.size)⟩
    obtain ⟨l, a13, c13, rfl, hsl, hall, hlen, hb⟩ := hcut
    obtain ⟨w13, rfl⟩ : ∃ w13, w13 = wc := ⟨_, rfl⟩
    have HALL := hide hall
    have HSL13 := hide (hsl.mono (Y := fun b => b < w13.heap.size) fun b _ h2 => h2)
    have A13 := hide (A9.out.later hb)
    have HB13 := hide (HB9.out.trans (hb.mono HB9.out.size))
    clear hall hsl hb HSL HST HROW HN HBW HB10 HB11 BA D12 HD12 HD11 HZD T10 T9 A9 hLK hll hz08
    go_wp2_with fail
    go_loopw [17] (fun i wr => ∃ q : Nat, q ≤ l.length ∧ i = .int .i64 (q : Int) ∧ Below w13.heap.size w13 wr) (fun i wr => l.length - (intOf i).toNat)
    case atStart => exact ⟨0, Nat.zero_le _, rfl, Below.refl _ _⟩
    case round =>
      obtain ⟨q, hq, rfl, hbr⟩ := hrel
      have HBR := hide hbr
      have AR := hide (A13.out.later hbr)
      by_cases hlt : q < l.length
      · obtain ⟨s, hsE⟩ : ∃ s, s = l[q] := ⟨_, rfl⟩
        have HOK : Hid (ChOk n t s) := HALL.out s (by rw [hsE]; exact List.getElem_mem hlt)
        obtain ⟨B, o, a', c', rfl, d0, d0', d1, hx⟩ := HSL13.out.get hbr (fun b h _ => h) q hlt
        rw [← hsE] at d0 d0' d1 hx
        have HX := hide hx
        have HSV : Hid (∃ P, MV wr P (.agg #[.int .i64 s.kind, .int .i64 s.idx, .slice a' s.subs.length c']) s) := ⟨_, hx⟩
        have KS : Hid (∀ w', Below wr.heap.size wr w' → w'.cell? ⟨B, o + q * 3, none⟩ = some (.int .i64 s.kind) ∧ w'.cell? ⟨B, o + q * 3 + 1, none⟩ = some (.int .i64 s.idx) ∧ w'.cell? ⟨B, o + q * 3 + 2, none⟩ = some (.slice a' s.subs.length c')) := fun w' hb => ⟨cell_sameM (hb.block _ (cell_ltM d0)) d0, cell_sameM (hb.block _ (cell_ltM d0')) d0', cell_sameM (hb.block _ (cell_ltM d1)) d1⟩
        clear hx hsE hbr
        go_wp2_with fail
        refine (lamSize_any s _ 200 wr _ HX.out (by omega) (by omega)).mono ?_
        rintro e w14 ⟨rfl, hb14⟩
        have HBR14 := hide (HBR.out.trans (hb14.mono HBR.out.size))
        obtain ⟨f0, f0', f1⟩ := KS.out _ hb14
        have HV14 : Hid (MV w14 (fun _ => True) (.agg #[.int .i64 s.kind, .int .i64 s.idx, .slice a' s.subs.length c']) s) := by
          obtain ⟨x1, x2, x3, x4⟩ := HX.out
          exact ⟨x1, x2, x3, (x4.mono fun _ _ _ => trivial).later hb14⟩
        have AR14 := hide (AR.out.later hb14)
        clear hb14 d0 d0' d1 AR HX HSV KS
        by_cases hbig : 200 < sizeM [s]
        · have hmin : min ((sizeM [s] : Nat) : Int) (200 + 1) = 201 := by omega
          rw [hmin]
          clear hmin
          go_wp2_with fail
          go_roundw
          case rel => exact ⟨q + 1, by omega, by go_num, HBR14.out⟩
          case measure => simp [intOf]; omega
        · have hmin : min ((sizeM [s] : Nat) : Int) (200 + 1) = ((sizeM [s] : Nat) : Int) := by omega
          rw [hmin]
          clear hmin
          have hsz2 : ¬ (200 : Int) < ((sizeM [s] : Nat) : Int) := by omega
          have HMS := hide (ch_may (n := n) (t := s) (by omega) HOK.out.1 (by omega))
          go_wp2_with fail
          have NC := norC_any s n 400 (by omega) HMS.out _ w14 _ HV14.out
          rw [show ((400 : Nat) : Int) = 400 from rfl] at NC
          refine NC.mono ?_
          clear NC
          rintro e w15 ⟨x, ax, cx, kx, rfl, hs, hb, hzx⟩
          have HCX := hide (ch_codes false 400 s)
          have HXA : Hid ((endM false 400 s).1 = 0 → x = a) := fun h => by
            rw [(hzx h).1, HAE.out]
            exact ch_after HOK.out HZ0.out h
          obtain ⟨zx, hz⟩ : ∃ zx, zx = (endM false 400 s).1 := ⟨_, rfl⟩
          rw [← hz] at HXA HCX ⊢
          have X16 := hide (Bx.new (c := cx) hs)
          have A16 := hide ((AR14.out.later hb).alloc (.cells #[.int .i64 x.kind, .int .i64 x.idx, .slice ax x.subs.length cx] 26))
          have HBR16 : Hid (Below w13.heap.size w13 (w15.alloc (.cells #[.int .i64 x.kind, .int .i64 x.idx, .slice ax x.subs.length cx] 26))) := (HBR14.out.trans (hb.mono HBR14.out.size)).alloc (HBR14.out.trans (hb.mono HBR14.out.size)).size _
          clear hs hb hzx hz f0 f0' f1 AR14 HBR14 HV14 HMS
          obtain ⟨c0, c1, c2⟩ := X16.out.cs
          obtain ⟨e0, e1, e2⟩ := A16.out.cs
          by_cases hz0 : zx = 0
          · have hxa := HXA.out hz0
            clear HXA HCX
            subst hz0
            subst hxa
            go_wp2_with fail
            generalize (w15.alloc (.cells #[.int .i64 x.kind, .int .i64 x.idx, .slice ax x.subs.length cx] 26)) = w16 at *
            refine (sameM_any _ _ _ _ _ _ (by exact X16.out.mv) (by exact A16.out.mv)).mono ?_
            rintro e w17 ⟨rfl, hb⟩
            have HBR17 := hide (HBR16.out.trans (hb.mono HBR16.out.size))
            clear hb
            go_wp2_with fail
            go_roundw
            case rel => exact ⟨q + 1, by omega, by go_num, HBR17.out⟩
            case measure => simp [intOf]; omega
          · have hz89 : zx = 8 ∨ zx = 9 := by rcases HCX.out with h | h; exact absurd h hz0; exact h
            clear HXA HCX hz0
            rcases hz89 with rfl | rfl
            · go_wp2_with fail
              go_roundw
              case rel => exact ⟨q + 1, by omega, by go_num, HBR16.out⟩
              case measure => simp [intOf]; omega
            · go_wp2_with fail
              go_roundw
              case rel => exact ⟨q + 1, by omega, by go_num, HBR16.out⟩
              case measure => simp [intOf]; omega
      · obtain ⟨c0, c1, c2⟩ := AR.out.cs
        have hEA : Hid (errM n 0 [a] = 0) := by
          unfold Hid
          rw [HAE.out]
          exact ch_err HE.out 60
        have hNF : Hid (stepM [a] = false) := by
          unfold Hid
          rw [HAE.out]
          exact ch_nf HE.out 60 HZ0.out
        clear hbr
        go_wp2_with fail
        refine (rSteps_any a n _ wr _ (by exact AR.out.mv)).mono ?_
        rintro e w14 ⟨hb14, hst⟩
        have A14 := hide (AR.out.later hb14)
        have HB14 : Hid (Below w2.heap.size w2 w14) := by
          have h1 := HB13.out.trans (HBR.out.mono HB13.out.size)
          exact h1.trans (hb14.mono h1.size)
        clear hb14 c0 c1 c2
        obtain ⟨c0, c1, c2⟩ := A14.out.cs
        by_cases hbig : 200 < sizeM [a]
        · have hmin : min ((sizeM [a] : Nat) : Int) (200 + 1) = 201 := by omega
          rcases hst with ⟨_, am, cm, rfl, _⟩ | ⟨_, rfl⟩
          · generalize (stsT 2001 a).length = ml
            go_wp2_with fail
            refine (lamSize_any a _ 200 w14 _ (by exact A14.out.mv) (by omega) (by omega)).mono ?_
            rintro e w15 ⟨rfl, hb⟩
            have HB15 := hide (HB14.out.trans (hb.mono HB14.out.size))
            rw [hmin]
            clear hb hmin
            go_wp2_with fail
            go_ret
            exact ⟨rfl, HB15.out⟩
          · generalize stE a n = ze
            go_wp2_with fail
            refine (lamSize_any a _ 200 w14 _ (by exact A14.out.mv) (by omega) (by omega)).mono ?_
            rintro e w15 ⟨rfl, hb⟩
            have HB15 := hide (HB14.out.trans (hb.mono HB14.out.size))
            rw [hmin]
            clear hb hmin
            go_wp2_with fail
            go_ret
            exact ⟨rfl, HB15.out⟩
        · have hmin : min ((sizeM [a] : Nat) : Int) (200 + 1) = ((sizeM [a] : Nat) : Int) := by omega
          have hsz2 : ¬ (200 : Int) < ((sizeM [a] : Nat) : Int) := by omega
          have h00 := ch_stE0 (n := n) (t := a) (by omega) hEA.out (by omega) hNF.out
          rcases hst with ⟨_, am, cm, rfl, _⟩ | ⟨hne, _⟩
          case inr => exact absurd h00.1 hne
          rw [h00.2]
          clear h00
          go_wp2_with fail
          refine (lamSize_any a _ 200 w14 _ (by exact A14.out.mv) (by omega) (by omega)).mono ?_
          rintro e w15 ⟨rfl, hb⟩
          have HB15 := hide (HB14.out.trans (hb.mono HB14.out.size))
          rw [hmin]
          clear hb hmin
          go_wp2_with fail
          go_ret
          exact ⟨rfl, HB15.out⟩
end Go.Proofs.YtagidfoiemgfcaaGreatDoor

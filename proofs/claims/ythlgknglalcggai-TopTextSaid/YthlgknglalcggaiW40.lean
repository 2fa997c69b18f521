/- Walks: the law TopText. -/
import Derived.Test.YthlgknglalcggaiW30a
import Derived.Test.YthlgknglalcggaiW23
import Derived.Test.YthlgknglalcggaiW35
import Derived.Test.YthlgknglalcggaiW26
import Derived.Test.YthlgknglalcggaiW19
import Derived.Test.YthlgknglalcggaiW14
import Derived.Test.YthlgknglalcggaiW10
import Derived.Test.YthlgknglalcggaiRdt
import Derived.Test.YthlgknglalcggaiPap
namespace Go.Proofs.Ythlgknglalcggai
open Go.RowKit
set_option linter.unusedSimpArgs false
set_option linter.unusedVariables false
set_option maxRecDepth 8000

theorem may_of {t : Tm} (h1 : errL [t] = 0) (h2 : sizeL [t] ≤ 200) : mayE t = 0 := by unfold mayE; rw [if_neg (by omega), h1]
theorem rdAll_txt {t : Tm} (h1 : errL [t] = 0) (h2 : sizeL [t] ≤ 200) : (rdAll ⟨(txtL [t]).toArray⟩).err = 0 ∧ (rdAll ⟨(txtL [t]).toArray⟩).t = t := by
  have hl := txt_len [t] h1
  have hsz : (⟨(txtL [t]).toArray⟩ : ByteArray).size = (txtL [t]).length := by rw [size_list]
  unfold rdAll
  rw [if_neg (by omega), rd_whole t h1 h2]
  simp

theorem blk_box {w w' : World} {t : Tm} {a : Option Addr} {c T : Nat} (hb : Below (w.alloc (.cells #[.string t.name, .slice a t.args.length c] T)).heap.size (w.alloc (.cells #[.string t.name, .slice a t.args.length c] T)) w') : Blk w' w.heap.size #[.string t.name, .slice a t.args.length c] T := (Blk.new w _ _).below hb (by simp)
theorem sl_true {w : World} {X : Nat → Prop} {a : Option Addr} {l : List Tm} (h : Sl w X a l) : Sl w (fun _ => True) a l := h.mono fun _ _ _ => trivial

set_option maxHeartbeats 2000000 in
theorem topText_any (zs : List Int) (hr : ∀ z ∈ zs, Rng z) (y y2 : Int) (hy : Rng y) (hy2 : Rng y2) (u : Value) (w : World) (X : Nat → Prop) (hu : PV w X u zs) :
    Calls Try.prog 3 #[u, .int .i64 y, .int .i64 y2] w fun e w' => e = .returned (.bool true) ∧ Below w.heap.size w w' := by
  have HU := hide hu
  obtain ⟨a, c, rfl, hlc, hu2⟩ := hu
  clear hu2
  by_cases h256 : 256 < zs.length
  · go_enter Try.func3, Try.ntmps3
    go_wp2_with fail
    go_ret
    exact ⟨rfl, Below.refl _ _⟩
  · go_enter Try.func3, Try.ntmps3
    go_wp2_with fail
    refine (pick_any _ 30 (by decide) (by decide) hy _).mono ?_
    rintro e w1 ⟨k1, rfl, hk1, rfl⟩
    go_wp2_with fail
    refine (termOf_any 4 (by decide) (by decide) zs hr (by omega) k1 0 _ _ X HU.out (by omega) (by unfold top; split <;> omega)).mono ?_
    rintro e w2 ⟨t2, a2, c2, rfl, hs2, hz2, hb2, he2⟩
    have hm2 : mayE t2 = 0 := may_of he2 (by have : top k1 ≤ 60 := by { unfold top; split <;> omega }; omega)
    have hz2' : sizeL [t2] ≤ 60 := by have : top k1 ≤ 60 := by { unfold top; split <;> omega }; omega
    have B2 := hide hb2
    have S2 := hide (sl_true hs2)
    have HE2 := hide he2
    have HM2 := hide hm2
    clear hb2 hs2 he2 hm2 hz2
    go_wp2_with fail
    refine (termOf_any 4 (by decide) (by decide) zs hr (by omega) 6 90 _ _ X (by exact (HU.out.later B2.out).alloc _) (by omega) (by decide)).mono ?_
    rintro e w4 ⟨t4, a4, c4, rfl, hs4, hz4, hb4, he4⟩
    have hz4' : sizeL [t4] ≤ 60 := Nat.le_trans hz4 (by decide)
    have T4 := hide (blk_box hb4)
    have B4 := hide ((B2.out.alloc B2.out.size (.cells #[.string t2.name, .slice a2 t2.args.length c2] 25)).trans (hb4.mono (by have := B2.out.size; simp; omega)))
    have S24 := hide ((S2.out.later ((Below.refl w2.heap.size w2).alloc (Nat.le_refl _) (.cells #[.string t2.name, .slice a2 t2.args.length c2] 25))).later hb4)
    have S4 := hide (sl_true hs4)
    have HE4 := hide he4
    have hlt4 : w2.heap.size < w4.heap.size := T4.out.lt
    clear hb4 hs4 he4 hz4
    have c0 : ∀ o, (w4.alloc o).cell? ⟨w2.heap.size, 0, none⟩ = some (.string t2.name) := fun o => (T4.out.alloc o).cell 0
    have c1 : ∀ o, (w4.alloc o).cell? ⟨w2.heap.size, 1, none⟩ = some (.slice a2 t2.args.length c2) := fun o => (T4.out.alloc o).cell 1
    go_wp2_with fail
    refine (text_any t2 _ _ (fun _ => True) ⟨a2, c2, rfl, S24.out.later ((Below.refl w4.heap.size w4).alloc (Nat.le_refl _) _)⟩).mono ?_
    rintro e w5 ⟨rfl, hb5⟩
    rw [if_pos HM2.out, HM2.out]
    have T5 := hide ((T4.out.alloc _).below hb5 (by simp; omega))
    have X5 := hide (blk_box hb5)
    have B5 := hide ((B4.out.alloc B4.out.size (.cells #[.string t4.name, .slice a4 t4.args.length c4] 25)).trans (hb5.mono (by have := B4.out.size; simp; omega)))
    have S25 := hide ((S24.out.later ((Below.refl w4.heap.size w4).alloc (Nat.le_refl _) (.cells #[.string t4.name, .slice a4 t4.args.length c4] 25))).later hb5)
    have S45 := hide ((S4.out.later ((Below.refl w4.heap.size w4).alloc (Nat.le_refl _) (.cells #[.string t4.name, .slice a4 t4.args.length c4] 25))).later hb5)
    clear hb5 c0 c1
    have HRD := hide (rdAll_txt (t := t2) HE2.out (by omega))
    generalize (⟨(txtL [t2]).toArray⟩ : ByteArray) = tx at *
    go_wp2_with fail
    refine (parse_any tx _).mono ?_
    rintro e w6 ⟨v6, rfl, hy6, _, hb6⟩
    rw [HRD.out.1]
    have ht6 := hy6 HRD.out.1
    rw [HRD.out.2] at ht6
    obtain ⟨a6, c6, rfl, hs6⟩ := ht6
    have T6 := hide (T5.out.below hb6 T5.out.lt)
    have X6 := hide (X5.out.below hb6 X5.out.lt)
    have B6 := hide (B5.out.trans (hb6.mono B5.out.size))
    have S26 := hide (S25.out.later hb6)
    have S46 := hide (S45.out.later hb6)
    have S6 := hide (sl_true hs6)
    have hlt6 : w2.heap.size < w6.heap.size := T6.out.lt
    have hlt46 : w4.heap.size < w6.heap.size := X6.out.lt
    clear hb6 hs6 hy6
    have c0 : ∀ o, (w6.alloc o).cell? ⟨w2.heap.size, 0, none⟩ = some (.string t2.name) := fun o => (T6.out.alloc o).cell 0
    have c1 : ∀ o, (w6.alloc o).cell? ⟨w2.heap.size, 1, none⟩ = some (.slice a2 t2.args.length c2) := fun o => (T6.out.alloc o).cell 1
    go_wp2_with fail
    refine (places_any t2 _ _ (fun _ => True) ⟨a2, c2, rfl, S26.out.later ((Below.refl w6.heap.size w6).alloc (Nat.le_refl _) _)⟩).mono ?_
    rintro e w7 ⟨v7, rfl, hyes7, _, hb7⟩
    obtain ⟨xs7, hown7, hrow7⟩ := hyes7 HM2.out
    rw [HM2.out]
    obtain ⟨g7, cap7, rfl, hg7, hg7', hcel7⟩ := owned_val hown7 (by simp [plcT])
    have T7 := hide ((T6.out.alloc _).below hb7 (by simp; omega))
    have X7 := hide ((X6.out.alloc _).below hb7 (by simp; omega))
    have U7 := hide (blk_box hb7)
    have B7 := hide ((B6.out.alloc B6.out.size (.cells #[.string t2.name, .slice a6 t2.args.length c6] 25)).trans (hb7.mono (by have := B6.out.size; simp; omega)))
    have S27 := hide ((S26.out.later ((Below.refl w6.heap.size w6).alloc (Nat.le_refl _) (.cells #[.string t2.name, .slice a6 t2.args.length c6] 25))).later hb7)
    have S47 := hide ((S46.out.later ((Below.refl w6.heap.size w6).alloc (Nat.le_refl _) (.cells #[.string t2.name, .slice a6 t2.args.length c6] 25))).later hb7)
    have S67 := hide ((S6.out.later ((Below.refl w6.heap.size w6).alloc (Nat.le_refl _) (.cells #[.string t2.name, .slice a6 t2.args.length c6] 25))).later hb7)
    have HR7 := hide hrow7
    have HC7 := hide hcel7
    have hln : 0 < (plcT t2).length ∧ (plcT t2).length ≤ 60 := ⟨by simp [plcT], by rw [plcT_len]; exact hz2'⟩
    clear hb7 hyes7 hown7 hrow7 hcel7 c0 c1
    have HAT := hide (fun p hp => plc_at p t2 hp)
    generalize plcT t2 = ls at *
    have hl0 : ((ls.length : Int) == 0) = false := beq_eq_false_iff_ne.2 (by omega)
    have hlt7 : w2.heap.size < w7.heap.size := T7.out.lt
    have hlt47 : w4.heap.size < w7.heap.size := X7.out.lt
    have hlt67 : w6.heap.size < w7.heap.size := U7.out.lt
    have t0 : w7.cell? ⟨w2.heap.size, 0, none⟩ = some (.string t2.name) := T7.out.cell 0
    have t1 : w7.cell? ⟨w2.heap.size, 1, none⟩ = some (.slice a2 t2.args.length c2) := T7.out.cell 1
    have u0 : w7.cell? ⟨w6.heap.size, 0, none⟩ = some (.string t2.name) := U7.out.cell 0
    have u1 : w7.cell? ⟨w6.heap.size, 1, none⟩ = some (.slice a6 t2.args.length c6) := U7.out.cell 1
    go_wp2_with fail
    refine (same_any t2 _ _ _ (fun _ => True) (fun _ => True) ⟨a2, c2, rfl, S27.out⟩ ⟨a6, c6, rfl, S67.out⟩).mono ?_
    rintro e w8 ⟨rfl, hb8⟩
    have T8 := hide (T7.out.below hb8 hlt7)
    have X8 := hide (X7.out.below hb8 hlt47)
    have B8 := hide (B7.out.trans (hb8.mono B7.out.size))
    have S28 := hide (S27.out.later hb8)
    have S48 := hide (S47.out.later hb8)
    have HC8 : Hid (∀ j u, xs7[j]? = some u → w8.cell? ⟨g7, j, none⟩ = some u) := fun j u hj => by
      have h1 := HC7.out j u hj
      have h2 := hb8.block g7 hg7'
      simpa [World.cell?, h2] using h1
    have HR8 := hide (HR7.out.imp fun u z hp => hp.later hb8)
    have hg8 : g7 < w8.heap.size := by have := hb8.size; omega
    clear t0 t1 u0 u1 hb8
    go_wp2_with fail
    refine (pick_any y2 ls.length hln.1 (by omega) hy2 _).mono ?_
    rintro e w9 ⟨k9, rfl, hk9, rfl⟩
    obtain ⟨u9, hu9, hp9⟩ := HR8.out.get k9 hk9
    have e9 : w9.cell? ⟨g7, k9, none⟩ = some u9 := HC8.out k9 u9 hu9
    have hk92 : (k9 : Int) < (ls.length : Int) := by omega
    obtain ⟨y9, hy9⟩ := HAT.out ls[k9] (List.getElem_mem hk9)
    generalize ls[k9] = pz at *
    have HY9 := hide hy9
    have HP9 := hide (hp9.mono (Y := fun _ => True) fun _ _ _ => trivial)
    obtain ⟨pa, pc, rfl, _, _⟩ := hp9
    have hEY := atT_err pz t2 y9 HE2.out hy9
    have hZY := atT_size hy9
    have hEC := err_put t4 HE4.out pz t2 y9 HE2.out hy9
    have hZC := size_put t4 pz t2
    have hMY : mayE y9 = 0 := may_of hEY (by omega)
    have hM4 : mayE t4 = 0 := may_of HE4.out (by omega)
    have hMC : mayE (putT t4 pz t2) = 0 := may_of hEC (by omega)
    have EAT : Hid (atE t2 pz = 0) := by unfold Hid atE; rw [if_pos HM2.out, hy9]; rfl
    have EP1 : Hid (putE t2 pz y9 = 0) := by unfold Hid putE twoE; rw [if_pos HM2.out, hMY, if_pos rfl, hy9]; rfl
    have EP2 : Hid (putE t2 pz t4 = 0) := by unfold Hid putE twoE; rw [if_pos HM2.out, hM4, if_pos rfl, hy9]; rfl
    have EA2 : Hid (atE (putT t4 pz t2) pz = 0) := by unfold Hid atE; rw [if_pos hMC, at_put t4 pz t2 y9 hy9]; rfl
    have HMC := hide hMC
    clear hEY hZY hEC hZC hMY hM4 hMC hy9
    have t0 : w9.cell? ⟨w2.heap.size, 0, none⟩ = some (.string t2.name) := T8.out.cell 0
    have t1 : w9.cell? ⟨w2.heap.size, 1, none⟩ = some (.slice a2 t2.args.length c2) := T8.out.cell 1
    go_wp2_with fail
    refine (at_any t2 pz _ _ _ (fun _ => True) ⟨a2, c2, rfl, S28.out⟩ HP9.out).mono ?_
    rintro e w10 ⟨v10, rfl, hyes10, _, hb10⟩
    rw [EAT.out]
    obtain ⟨a10, c10, rfl, hs10⟩ := hyes10 y9 HM2.out HY9.out
    have T10 := hide (T8.out.below hb10 T8.out.lt)
    have X10 := hide (X8.out.below hb10 X8.out.lt)
    have B10 := hide (B8.out.trans (hb10.mono B8.out.size))
    have S2a := hide (S28.out.later hb10)
    have S4a := hide (S48.out.later hb10)
    have P10 := hide (HP9.out.later hb10)
    have S10 := hide (sl_true hs10)
    have hlta : w2.heap.size < w10.heap.size := T10.out.lt
    have hltb : w4.heap.size < w10.heap.size := X10.out.lt
    clear hb10 hyes10 hs10 t0 t1 e9
    have t0 : ∀ o, (w10.alloc o).cell? ⟨w2.heap.size, 0, none⟩ = some (.string t2.name) := fun o => (T10.out.alloc o).cell 0
    have t1 : ∀ o, (w10.alloc o).cell? ⟨w2.heap.size, 1, none⟩ = some (.slice a2 t2.args.length c2) := fun o => (T10.out.alloc o).cell 1
    go_wp2_with fail
    have A10 := hide ((Below.refl w10.heap.size w10).alloc (Nat.le_refl _) (.cells #[.string y9.name, .slice a10 y9.args.length c10] 25))
    refine (put_any t2 y9 pz _ _ _ _ (fun _ => True) ⟨a2, c2, rfl, S2a.out.later A10.out⟩ (P10.out.later A10.out) ⟨a10, c10, rfl, S10.out.later A10.out⟩).mono ?_
    rintro e w11 ⟨v11, rfl, hyes11, _, hb11⟩
    have htv11 := hyes11 EP1.out
    rw [EP1.out]
    rw [put_at pz t2 y9 HY9.out] at htv11
    obtain ⟨a11, c11, rfl, hs11⟩ := htv11
    have T11 := hide ((T10.out.alloc _).below hb11 (by simp; omega))
    have X11 := hide ((X10.out.alloc _).below hb11 (by simp; omega))
    have B11 := hide ((B10.out.alloc B10.out.size (.cells #[.string y9.name, .slice a10 y9.args.length c10] 25)).trans (hb11.mono (by have := B10.out.size; simp; omega)))
    have S2b := hide ((S2a.out.later A10.out).later hb11)
    have S4b := hide ((S4a.out.later A10.out).later hb11)
    have P11 := hide ((P10.out.later A10.out).later hb11)
    have S11 := hide (sl_true hs11)
    have hltc : w2.heap.size < w11.heap.size := T11.out.lt
    have hltd : w4.heap.size < w11.heap.size := X11.out.lt
    clear hb11 hyes11 hs11 t0 t1
    have t0 : ∀ o, (w11.alloc o).cell? ⟨w2.heap.size, 0, none⟩ = some (.string t2.name) := fun o => (T11.out.alloc o).cell 0
    have t1 : ∀ o, (w11.alloc o).cell? ⟨w2.heap.size, 1, none⟩ = some (.slice a2 t2.args.length c2) := fun o => (T11.out.alloc o).cell 1
    have x0 : ∀ o, (w11.alloc o).cell? ⟨w4.heap.size, 0, none⟩ = some (.string t4.name) := fun o => (X11.out.alloc o).cell 0
    have x1 : ∀ o, (w11.alloc o).cell? ⟨w4.heap.size, 1, none⟩ = some (.slice a4 t4.args.length c4) := fun o => (X11.out.alloc o).cell 1
    go_wp2_with fail
    have A11 := hide ((Below.refl w11.heap.size w11).alloc (Nat.le_refl _) (.cells #[.string t2.name, .slice a11 t2.args.length c11] 25))
    refine (put_any t2 t4 pz _ _ _ _ (fun _ => True) ⟨a2, c2, rfl, S2b.out.later A11.out⟩ (P11.out.later A11.out) ⟨a4, c4, rfl, S4b.out.later A11.out⟩).mono ?_
    rintro e w12 ⟨v12, rfl, hyes12, _, hb12⟩
    have htv12 := hyes12 EP2.out
    rw [EP2.out]
    have HAP := hide (at_put t4 pz t2 y9 HY9.out)
    generalize putT t4 pz t2 = tc at *
    obtain ⟨a12, c12, rfl, hs12⟩ := htv12
    have T12 := hide ((T11.out.alloc _).below hb12 (by simp; omega))
    have X12 := hide ((X11.out.alloc _).below hb12 (by simp; omega))
    have D12 := hide (blk_box hb12)
    have B12 := hide ((B11.out.alloc B11.out.size (.cells #[.string t2.name, .slice a11 t2.args.length c11] 25)).trans (hb12.mono (by have := B11.out.size; simp; omega)))
    have S2c := hide ((S2b.out.later A11.out).later hb12)
    have S4c := hide ((S4b.out.later A11.out).later hb12)
    have S11c := hide ((S11.out.later A11.out).later hb12)
    have P12 := hide ((P11.out.later A11.out).later hb12)
    have S12 := hide (sl_true hs12)
    have hlte : w2.heap.size < w12.heap.size := T12.out.lt
    have hltf : w4.heap.size < w12.heap.size := X12.out.lt
    have hltg : w11.heap.size < w12.heap.size := D12.out.lt
    clear hb12 hyes12 hs12 t0 t1 x0 x1
    go_wp2_with fail
    have A12 := hide ((Below.refl w12.heap.size w12).alloc (Nat.le_refl _) (.cells #[.string tc.name, .slice a12 tc.args.length c12] 25))
    refine (at_any tc pz _ _ _ (fun _ => True) ⟨a12, c12, rfl, S12.out.later A12.out⟩ (P12.out.later A12.out)).mono ?_
    rintro e w13 ⟨v13, rfl, hyes13, _, hb13⟩
    rw [EA2.out]
    obtain ⟨a13, c13, rfl, hs13⟩ := hyes13 t4 HMC.out HAP.out
    have T13 := hide ((T12.out.alloc _).below hb13 (by simp; omega))
    have X13 := hide ((X12.out.alloc _).below hb13 (by simp; omega))
    have D13 := hide ((D12.out.alloc _).below hb13 (by simp; omega))
    have B13 := hide ((B12.out.alloc B12.out.size (.cells #[.string tc.name, .slice a12 tc.args.length c12] 25)).trans (hb13.mono (by have := B12.out.size; simp; omega)))
    have S2d := hide ((S2c.out.later A12.out).later hb13)
    have S4d := hide ((S4c.out.later A12.out).later hb13)
    have S11d := hide ((S11c.out.later A12.out).later hb13)
    have S13 := hide (sl_true hs13)
    have hlth : w2.heap.size < w13.heap.size := T13.out.lt
    have hlti : w4.heap.size < w13.heap.size := X13.out.lt
    have hltj : w11.heap.size < w13.heap.size := D13.out.lt
    clear hb13 hyes13 hs13
    have t0 : ∀ o, (w13.alloc o).cell? ⟨w2.heap.size, 0, none⟩ = some (.string t2.name) := fun o => (T13.out.alloc o).cell 0
    have t1 : ∀ o, (w13.alloc o).cell? ⟨w2.heap.size, 1, none⟩ = some (.slice a2 t2.args.length c2) := fun o => (T13.out.alloc o).cell 1
    have d0 : ∀ o, (w13.alloc o).cell? ⟨w11.heap.size, 0, none⟩ = some (.string t2.name) := fun o => (D13.out.alloc o).cell 0
    have d1 : ∀ o, (w13.alloc o).cell? ⟨w11.heap.size, 1, none⟩ = some (.slice a11 t2.args.length c11) := fun o => (D13.out.alloc o).cell 1
    go_wp2_with fail
    have A13 := hide ((Below.refl w13.heap.size w13).alloc (Nat.le_refl _) (.cells #[.string t4.name, .slice a13 t4.args.length c13] 25))
    refine (same_any t2 _ _ _ (fun _ => True) (fun _ => True) ⟨a11, c11, rfl, S11d.out.later A13.out⟩ ⟨a2, c2, rfl, S2d.out.later A13.out⟩).mono ?_
    rintro e w14 ⟨rfl, hb14⟩
    have X14 := hide ((X13.out.alloc _).below hb14 (by simp; omega))
    have E14 := hide (blk_box hb14)
    have B14 := hide ((B13.out.alloc B13.out.size (.cells #[.string t4.name, .slice a13 t4.args.length c13] 25)).trans (hb14.mono (by have := B13.out.size; simp; omega)))
    have S4e := hide ((S4d.out.later A13.out).later hb14)
    have S13e := hide ((S13.out.later A13.out).later hb14)
    clear hb14 t0 t1 d0 d1
    have x0 : w14.cell? ⟨w4.heap.size, 0, none⟩ = some (.string t4.name) := X14.out.cell 0
    have x1 : w14.cell? ⟨w4.heap.size, 1, none⟩ = some (.slice a4 t4.args.length c4) := X14.out.cell 1
    have e0 : w14.cell? ⟨w13.heap.size, 0, none⟩ = some (.string t4.name) := E14.out.cell 0
    have e1 : w14.cell? ⟨w13.heap.size, 1, none⟩ = some (.slice a13 t4.args.length c13) := E14.out.cell 1
    go_wp2_with fail
    refine (same_any t4 _ _ _ (fun _ => True) (fun _ => True) ⟨a13, c13, rfl, S13e.out⟩ ⟨a4, c4, rfl, S4e.out⟩).mono ?_
    rintro e w15 ⟨rfl, hb15⟩
    go_wp2_with fail
    go_ret
    exact ⟨rfl, B14.out.trans (hb15.mono B14.out.size)⟩
#print axioms topText_any
end Go.Proofs.Ythlgknglalcggai

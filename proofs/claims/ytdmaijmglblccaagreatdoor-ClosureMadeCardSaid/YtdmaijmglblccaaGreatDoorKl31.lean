/- Walks: the document's ClosureOf. -/
import Derived.Test.YtdmaijmglblccaaGreatDoorKl30
namespace Go.Proofs.YtdmaijmglblccaaGreatDoor
open Go.RowKit
set_option linter.unusedSimpArgs false
set_option linter.unusedVariables false
set_option maxRecDepth 8000

set_option maxHeartbeats 20000000 in
theorem closureOf_any (ls : List Pr) (qs : List Tm) (u : Value) (am : Option Addr) (cm : Nat) (w : World) (X : Nat → Prop) (hu : QV w X u ls) (hq : Sl w X am qs) (he : errL (prT ls ++ qs) = 0) (hz : sizeL (prT ls ++ qs) ≤ 900) :
    Calls Tryz.prog 27 #[u, .slice am qs.length cm] w fun e w' => ClO ls qs w e w' := by
  obtain ⟨au, cu, rfl, hul, hu2⟩ := id hu
  have HU : Hid (QV w (fun b => b < w.heap.size) (.slice au ls.length cu) ls) := hu.mono fun b _ h => h
  have HQ : Hid (Sl w (fun b => b < w.heap.size) am qs) := hq.mono fun b _ h => h
  have HE := hide he
  have hpl := preL_length (prT ls ++ qs)
  have HZ : Hid ((preL (prT ls ++ qs)).length ≤ 900) := by unfold Hid; omega
  have HPE := hide (errL_inK he)
  have HPZ : Hid (∀ x ∈ preL (prT ls ++ qs), sizeL [x] ≤ 900) := fun x hx => by have := pre_sizeK _ hx; omega
  have hll : ls.length ≤ 900 := by
    have h1 := prT_len ls
    have h2 := sizeL_len (prT ls ++ qs)
    rw [List.length_append] at h2
    omega
  have hql : qs.length ≤ 900 := by
    have h2 := sizeL_len (prT ls ++ qs)
    rw [List.length_append] at h2
    omega
  have hmm := @run_makeMap Tryz.prog
  have hmf : ∀ (fn : Fn) (first cap : Array Value) (w : World), (Instr.makeFunc fn first cap).run Tryz.prog w = .ok (.func fn first cap) w := fun _ _ _ _ => rfl
  have B0 : Below w.heap.size w ((w.alloc (.cells #[.slice none 0 0] 23)).alloc (.cells #[.slice none 0 0] 31)) := ((Below.refl _ _).alloc (Nat.le_refl _) _).alloc (by simp) _
  have HB0 := hide B0
  have HA0 : Hid (AdI w.heap.size w.heap.size (w.heap.size + 1) [] [] (.slice none 0 0) (.slice none 0 0) ((w.alloc (.cells #[.slice none 0 0] 23)).alloc (.cells #[.slice none 0 0] 31))) := by
    refine AdI.start (Nat.le_refl _) (by omega) (by omega) ((Blk.new w _ _).alloc _) ?_
    have h := Blk.new (w.alloc (.cells #[.slice none 0 0] 23)) #[.slice none 0 0] 31
    rw [World.size_alloc] at h
    exact h
  clear hu hq hu2 B0 he hpl hz
  go_enter Tryz.func27, Tryz.ntmps27
  go_upto_region 3 with fail
  generalize ((w.alloc (.cells #[.slice none 0 0] 23)).alloc (.cells #[.slice none 0 0] 31)) = w1 at *
  obtain ⟨A, hA⟩ : ∃ A, A = w.heap.size := ⟨_, rfl⟩
  obtain ⟨T, hT⟩ : ∃ T, T = w.heap.size + 1 := ⟨_, rfl⟩
  have HAe := hide hA
  have HTe := hide hT
  rw [← hT] at HA0
  rw [← hT]
  obtain ⟨N, hN⟩ : ∃ N, N = w.heap.size := ⟨_, rfl⟩
  have HNe := hide hN
  have HA1 : Hid (AdI N A T [] ([].map txB) (.slice none 0 0) (.slice none 0 0) w1) := by unfold Hid; rw [hN, hA]; exact HA0.out
  have HBN : Hid (Below N w w1) := by unfold Hid; rw [hN]; exact HB0.out
  rw [← hA]
  clear hA hT hN HA0
  go_cut [8] (fun v wc => v = .func (.func 43) #[] #[.pointer (some ⟨T, 0, none⟩), .pointer (some ⟨A, 0, none⟩)] ∧ wc = w1)
  case first =>
    go_wp2_with fail
    go_meet
    exact ⟨rfl, rfl⟩
  obtain ⟨rfl, hwc⟩ := hcut
  rw [hwc]
  clear hwc wc hmf
  go_step
  go_step
  go_cut [] (fun wd => ∃ (L : List Tm) (ov ev : Value), AdI N A T L (L.map txB) ov ev wd ∧ AdP (preL (prT ls)) L ∧ Below N w wd)
  case first =>
    go_wp2_with fail
    go_loopw [9] (fun v wr => A1I N A T w (fun i => preL (prT (ls.take i))) ls.length v wr) (fun v wr => ls.length - (intOf v).toNat)
    case atStart => exact ⟨0, [], _, _, rfl, Nat.zero_le _, HA1.out, by simpa [prT, preL] using AdP.nil, HBN.out⟩
    case round =>
      obtain ⟨i, L, ov, ev, rfl, hi, had, hpp, hbr⟩ := hrel
      have HAD := hide had
      have HPP := hide hpp
      have HBR := hide hbr
      clear had hpp hbr
      obtain ⟨wa, hwa⟩ : ∃ x, x = wr := ⟨_, rfl⟩
      rw [← hwa] at HAD HBR ⊢
      clear hwa
      by_cases hli : i < ls.length
      · have hii : (i : Int) < (ls.length : Int) := by omega
        have HQV : Hid (QV wa (fun b => b < N) (.slice au ls.length cu) ls) := by
          have h := (HU.out.mono (Y := fun b => b < N) fun b hb _ => by rw [HNe.out]; exact hb)
          exact h.kept fun b hb => HBR.out.block b hb
        obtain ⟨b, o, a1, c1, a2, c2, rfl, d0, d1, d2, d3, s1, s2⟩ := HQV.out.get i hli
        have hbN : b < N := by
          have h := HU.out
          obtain ⟨b9, o9, _, _, _, _, e9, q0, _⟩ := h.get i hli
          cases e9
          rw [HNe.out]
          exact World.block_lt_of_cell? w _ q0
        have HBB : Hid (∀ W, Below N wa W → W.cell? ⟨b, o + i * 4, none⟩ = some (.string ls[i].l.name) ∧ W.cell? ⟨b, o + i * 4 + 1, none⟩ = some (.slice a1 ls[i].l.args.length c1) ∧ W.cell? ⟨b, o + i * 4 + 2, none⟩ = some (.string ls[i].r.name) ∧ W.cell? ⟨b, o + i * 4 + 3, none⟩ = some (.slice a2 ls[i].r.args.length c2)) := fun W hb =>
          ⟨(World.cell?_of_block (hb.block b hbN)).trans d0, (World.cell?_of_block (hb.block b hbN)).trans d1, (World.cell?_of_block (hb.block b hbN)).trans d2, (World.cell?_of_block (hb.block b hbN)).trans d3⟩
        have HM1 : Hid (ls[i].l ∈ prT ls ∧ ls[i].r ∈ prT ls) := prT_mem (List.getElem_mem hli)
        have HSZ : Hid (sizeL [ls[i].l] ≤ 900 ∧ sizeL [ls[i].r] ≤ 900 ∧ errL [ls[i].l] = 0 ∧ errL [ls[i].r] = 0) := by
          have h1 := mem_preK (l := prT ls ++ qs) (x := ls[i].l) (by simp [HM1.out.1])
          have h2 := mem_preK (l := prT ls ++ qs) (x := ls[i].r) (by simp [HM1.out.2])
          exact ⟨HPZ.out _ h1, HPZ.out _ h2, HPE.out _ h1, HPE.out _ h2⟩
        have HTK := hide (prT_takeK hli)
        have HSUB : Hid (∀ x ∈ preL (prT (ls.take (i + 1))), x ∈ preL (prT ls ++ qs)) := fun x hx => by
          rw [← List.take_append_drop (i + 1) ls, prT_app, preL_append, preL_append]
          simp [hx]
        have HLEN : Hid ((preL (prT (ls.take (i + 1)))).length ≤ 900) := by
          have h := HZ.out
          rw [← List.take_append_drop (i + 1) ls, prT_app, preL_append, preL_append] at h
          simp only [List.length_append] at h
          unfold Hid
          omega
        rw [HTK.out] at HSUB HLEN
        have HNA : Hid (N ≤ wa.heap.size) := by have := HBR.out.size; have := HNe.out; unfold Hid; omega
        have HAD1 := hide (add_any ls[i].l HSZ.out.2.2.1 (by have := HSZ.out.1; omega) (preL (prT (ls.take i))) L (by have := HLEN.out; simp only [List.length_append] at this; omega) (fun x hx => HPE.out x (HSUB.out x (by simp [hx]))) N A T ov ev wa HAD.out HNA.out HPP.out a1 c1 s1)
        have HS2 := hide s2
        generalize ls[i] = p at *
        clear s1 s2 hbN
        go_wp2_with fail
        refine HAD1.out.mono ?_
        rintro e w2 ⟨rfl, hb2, L2, ov2, ev2, had2, hpp2⟩
        have HA2 := hide had2
        have HP2 := hide hpp2
        have HB2 := hide hb2
        clear hb2 had2 hpp2 HAD1
        obtain ⟨x0, x1, x2, x3⟩ := HBB.out w2 HB2.out
        have HAD2 := hide (add_any p.r HSZ.out.2.2.2 (by have := HSZ.out.2.1; omega) (preL (prT (ls.take i)) ++ preL [p.l]) L2 (by have := HLEN.out; simp only [List.length_append] at this ⊢; omega) (fun x hx => HPE.out x (HSUB.out x (by rcases List.mem_append.1 hx with h | h <;> simp [h]))) N A T ov2 ev2 w2 HA2.out (Nat.le_trans HNA.out HB2.out.size) HP2.out a2 c2 (HS2.out.kept fun b hb => HB2.out.block b hb))
        clear d0 d1 d2 d3
        go_wp2_with fail
        refine HAD2.out.mono ?_
        rintro e w3 ⟨rfl, hb3, L3, ov3, ev3, had3, hpp3⟩
        have HA3 := hide had3
        have HP3 : Hid (AdP (preL (prT (ls.take (i + 1)))) L3) := by unfold Hid; rw [HTK.out]; exact hpp3
        have HB3 := hide ((HBR.out.trans HB2.out).trans hb3)
        clear hb3 had3 hpp3 HAD2 x0 x1 x2 x3
        go_wp2_with fail
        go_roundw
        case rel => exact ⟨i + 1, L3, ov3, ev3, by go_num, by omega, HA3.out, HP3.out, HB3.out⟩
        case measure => simp [intOf]; omega
      · have hii : ¬ (i : Int) < (ls.length : Int) := by omega
        have HP2 : Hid (AdP (preL (prT ls)) L) := by
          have h : AdP (preL (prT (ls.take i))) L := HPP.out
          rwa [List.take_of_length_le (by omega)] at h
        go_wp2_with fail
        go_meet
        exact ⟨L, ov, ev, HAD.out, HP2.out, HBR.out⟩
  obtain ⟨L1, ov1, ev1, had1, hpp1, hbr1⟩ := hcut
  obtain ⟨wm, hwm⟩ : ∃ x, x = wc := ⟨_, rfl⟩
  rw [← hwm] at had1 hbr1 ⊢
  clear hwm wc HA1 HBN HB0
  have HADm := hide had1
  have HPPm := hide hpp1
  have HBRm := hide hbr1
  clear had1 hpp1 hbr1
  go_step
  go_step
  go_cut [] (fun wd => ∃ (L : List Tm) (ov ev : Value), AdI N A T L (L.map txB) ov ev wd ∧ AdP (preL (prT ls ++ qs)) L ∧ Below N w wd)
  case first =>
    go_wp2_with fail
    go_loopw [10] (fun v wr => A1I N A T w (fun i => preL (prT ls) ++ preL (qs.take i)) qs.length v wr) (fun v wr => qs.length - (intOf v).toNat)
    case atStart => exact ⟨0, L1, ov1, ev1, rfl, Nat.zero_le _, HADm.out, by simpa [preL] using HPPm.out, HBRm.out⟩
    case round =>
      obtain ⟨k, L2, ov2, ev2, rfl, hk, had, hpp, hbr⟩ := hrel
      have HAK := hide had
      have HPK := hide hpp
      have HBK := hide hbr
      clear had hpp hbr
      obtain ⟨wb, hwb⟩ : ∃ x, x = wr := ⟨_, rfl⟩
      rw [← hwb] at HAK HBK ⊢
      clear hwb
      by_cases hlk : k < qs.length
      · have hki : (k : Int) < (qs.length : Int) := by omega
        have HQV : Hid (Sl wb (fun b => b < N) am qs) := by
          have h := (HQ.out.mono (Y := fun b => b < N) fun b hb _ => by rw [HNe.out]; exact hb)
          exact h.kept fun b hb => HBK.out.block b hb
        obtain ⟨b, o, rfl, hlies⟩ : ∃ b o, am = some ⟨b, o, none⟩ ∧ Lies wb (fun b => b < N) b o qs := by
          rcases HQV.out.2 with h | ⟨b, o, e, h⟩
          · rw [h] at hlk; exact absurd hlk (Nat.not_lt_zero _)
          · exact ⟨b, o, e, h⟩
        obtain ⟨hbN, d0, ⟨a1, c1, d1, s1⟩⟩ := lies_get _ _ _ hlies k hlk
        have HSZ : Hid (sizeL [qs[k]] ≤ 900 ∧ errL [qs[k]] = 0) := by
          have h1 := mem_preK (l := prT ls ++ qs) (x := qs[k]) (by simp)
          exact ⟨HPZ.out _ h1, HPE.out _ h1⟩
        have HTK := hide (preL_take qs k hlk)
        have HSUB : Hid (∀ x ∈ preL (qs.take (k + 1)), x ∈ preL (prT ls ++ qs)) := fun x hx => by
          rw [← List.take_append_drop (k + 1) qs, preL_append, preL_append]
          simp [hx]
        have HLEN : Hid ((preL (prT ls)).length + (preL (qs.take (k + 1))).length ≤ 900) := by
          have h := HZ.out
          rw [← List.take_append_drop (k + 1) qs, preL_append, preL_append] at h
          simp only [List.length_append] at h
          unfold Hid
          omega
        rw [HTK.out] at HSUB HLEN
        have HNA : Hid (N ≤ wb.heap.size) := by have := HBK.out.size; have := HNe.out; unfold Hid; omega
        have HAD1 := hide (add_any qs[k] HSZ.out.2 (by have := HSZ.out.1; omega) (preL (prT ls) ++ preL (qs.take k)) L2 (by have := HLEN.out; simp only [List.length_append] at this ⊢; omega) (fun x hx => by
          rcases List.mem_append.1 hx with h | h
          · exact HPE.out x (by rw [preL_append]; simp [h])
          · exact HPE.out x (HSUB.out x (by simp [h]))) N A T ov2 ev2 wb HAK.out HNA.out HPK.out a1 c1 s1)
        generalize qs[k] = y at *
        clear s1 hbN hlies
        go_wp2_with fail
        refine HAD1.out.mono ?_
        rintro e w2 ⟨rfl, hb2, L3, ov3, ev3, had2, hpp2⟩
        have HA2 := hide had2
        have HP2 : Hid (AdP (preL (prT ls) ++ preL (qs.take (k + 1))) L3) := by unfold Hid; rw [HTK.out, ← List.append_assoc]; exact hpp2
        have HB2 := hide (HBK.out.trans hb2)
        clear hb2 had2 hpp2 HAD1 d0 d1
        go_wp2_with fail
        go_roundw
        case rel => exact ⟨k + 1, L3, ov3, ev3, by go_num, by omega, HA2.out, HP2.out, HB2.out⟩
        case measure => simp [intOf]; omega
      · have hki : ¬ (k : Int) < (qs.length : Int) := by omega
        have HPQ : Hid (AdP (preL (prT ls ++ qs)) L2) := by
          have h : AdP (preL (prT ls) ++ preL (qs.take k)) L2 := HPK.out
          rw [List.take_of_length_le (by omega)] at h
          unfold Hid
          rw [preL_append]
          exact h
        go_wp2_with fail
        go_meet
        exact ⟨L2, ov2, ev2, HAK.out, HPQ.out, HBK.out⟩
  obtain ⟨L2, ov2, ev2, had2, hpp2, hbr2⟩ := hcut
  obtain ⟨wb, hwb⟩ : ∃ x, x = wc := ⟨_, rfl⟩
  rw [← hwb] at had2 hbr2 ⊢
  clear hwb wc HADm HPPm HBRm
  have HAK := hide had2
  have HPQ := hide hpp2
  have HBK := hide hbr2
  clear had2 hpp2 hbr2
  have HND : Hid (L2.Nodup) := HPQ.out.nd
  have HME : Hid (∀ x, x ∈ L2 ↔ x ∈ preL (prT ls ++ qs)) := HPQ.out.mem
  have HTN : Hid ((L2.map txB).Nodup) := HPQ.out.txnd HPE.out
  have HER : Hid (∀ x ∈ L2, errL [x] = 0) := fun x hx => HPE.out x ((HME.out x).1 hx)
  have HSZ : Hid (∀ x ∈ L2, sizeL [x] ≤ 1000) := fun x hx => by have := HPZ.out x ((HME.out x).1 hx); omega
  have HCL : Hid (∀ t ∈ L2, ∀ x ∈ t.args, x ∈ L2) := fun t ht x hx => (HME.out x).2 (pre_argsK _ ((HME.out t).1 ht) hx)
  obtain ⟨n, hn⟩ : ∃ n, n = L2.length := ⟨_, rfl⟩
  have hn9 : n ≤ 900 := by have h1 := HPQ.out.le; have h2 := HZ.out; omega
  have HN := hide hn
  obtain ⟨oa, oc, e1⟩ := HAK.out.ov_shape
  subst e1
  obtain ⟨ea, ec, e1⟩ := HAK.out.ev_shape
  subst e1
  have hml : (L2.map txB).length = n := by rw [List.length_map, hn]
  rw [hml] at HAK
  rw [← hn] at HAK
  have HML := hide hml
  clear hn hml
  have M0 := hide (MapAt.new wb)
  have B6 : Hid (Below wb.heap.size wb (wb.alloc (.map #[] 0))) := (Below.refl _ _).alloc (Nat.le_refl _) _
  go_step
  go_upto_region 14 with fail
  clear hmm
  generalize wb.alloc (.map #[] 0) = w5 at *
  obtain ⟨M, hM⟩ : ∃ M, M = wb.heap.size := ⟨_, rfl⟩
  rw [← hM] at M0 ⊢
  have HMe := hide hM
  clear hM
  have HA5 := hide (HAK.out.later B6.out)
  have a0 := HA5.out.ba.cell 0
  simp only [List.getElem?_toArray, List.getElem?_cons_zero] at a0
  have hmk := make_intsK n (by omega) w5
  have hK0 : KdA (w5.heap.size + 1) w5.heap.size n (List.replicate n 0) ((w5.alloc (.cells (Array.replicate n (Value.int .i64 0)) 3)).alloc (.cells #[.slice (some ⟨w5.heap.size, 0, none⟩) n n] 45)) := by
    refine ⟨?_, ?_, by simp, by omega⟩
    · have h := Blk.new (w5.alloc (.cells (Array.replicate n (Value.int .i64 0)) 3)) #[.slice (some ⟨w5.heap.size, 0, none⟩) n n] 45
      rw [World.size_alloc] at h
      exact h
    · rw [iL_rep]
      exact (Blk.new w5 _ _).alloc _
  have HK0 := hide hK0
  have B7 : Hid (Below w5.heap.size w5 ((w5.alloc (.cells (Array.replicate n (Value.int .i64 0)) 3)).alloc (.cells #[.slice (some ⟨w5.heap.size, 0, none⟩) n n] 45))) := ((Below.refl _ _).alloc (Nat.le_refl _) _).alloc (by simp) _
  clear hK0
  go_cut [12] (fun v wc => v = .pointer (some ⟨w5.heap.size + 1, 0, none⟩) ∧ wc = ((w5.alloc (.cells (Array.replicate n (Value.int .i64 0)) 3)).alloc (.cells #[.slice (some ⟨w5.heap.size, 0, none⟩) n n] 45)))
  case first =>
    go_wp2_with fail
    go_meet
    exact ⟨rfl, rfl⟩
  obtain ⟨rfl, hwc⟩ := hcut
  rw [hwc]
  clear hwc wc hmk a0
  generalize ((w5.alloc (.cells (Array.replicate n (Value.int .i64 0)) 3)).alloc (.cells #[.slice (some ⟨w5.heap.size, 0, none⟩) n n] 45)) = w6 at *
  obtain ⟨Gk, hG⟩ : ∃ G, G = w5.heap.size := ⟨_, rfl⟩
  obtain ⟨B, hB⟩ : ∃ B, B = w5.heap.size + 1 := ⟨_, rfl⟩
  have HGe := hide hG
  have HBe := hide hB
  rw [← hB] at HK0 ⊢
  rw [← hG] at HK0
  clear hG hB
  have HM5 : Hid (M < w5.heap.size) := M0.out.lt
  go_step
  go_step
  go_cut [] (fun wd => MapAt wd M (ixK (L2.map txB)) ∧ KdA B Gk n (List.range n) wd ∧ Below wb.heap.size wb wd)
  case first =>
    go_wp2_with fail
    go_loopw [13] (fun v wr => A3I L2 M B Gk n wb v wr) (fun v wr => n - (intOf v).toNat)
    case atStart => exact ⟨0, rfl, Nat.zero_le _, by simpa [ixK] using M0.out.below B7.out HM5.out, by simpa using HK0.out, B6.out.trans (B7.out.mono B6.out.size)⟩
    case round =>
      obtain ⟨i3, rfl, hi3, hmp, hkd, hbr⟩ := hrel
      have HMP := hide hmp
      have HKD := hide hkd
      have HBR3 := hide hbr
      clear hmp hkd hbr
      obtain ⟨wc, hwc⟩ : ∃ x, x = wr := ⟨_, rfl⟩
      rw [← hwc] at HMP HKD HBR3 ⊢
      clear hwc
      have HA6 := hide (HAK.out.later HBR3.out)
      have a0 := HA6.out.ba.cell 0
      have t0 := HA6.out.bt.cell 0
      have k0 := HKD.out.box
      simp only [List.getElem?_toArray, List.getElem?_cons_zero] at a0 t0
      by_cases hl3 : i3 < n
      · have hii3 : (i3 : Int) < (n : Int) := by omega
        have hiL : i3 < L2.length := by have := HN.out; omega
        have LVT : Hid (LV Value.string wc (fun b => N ≤ b) (.slice ea n ec) (L2.map txB)) := by
          have h := HA6.out.rt
          have h2 := LV.of_own h
          exact h2
        obtain ⟨b9, o9, rfl, t1⟩ : ∃ b9 o9, ea = some ⟨b9, o9, none⟩ ∧ wc.cell? ⟨b9, o9 + i3, none⟩ = some (.string (txB L2[i3])) := by
          obtain ⟨a9, c9, e9, _, h9⟩ := LVT.out
          cases e9
          rcases h9 with h9 | ⟨b9, o9, e, _, hc⟩
          · have := List.map_eq_nil_iff.1 h9
            rw [this] at hiL
            exact absurd hiL (Nat.not_lt_zero _)
          · have := hc i3 (by simpa using hiL)
            rw [List.getElem_map] at this
            exact ⟨b9, o9, e, this⟩
        have HNI : Hid (mapGet (ixK ((L2.take i3).map txB)) (txB L2[i3]) = none) := by
          refine ixK_none _ fun hm => ?_
          obtain ⟨x, hx, e⟩ := List.mem_map.1 hm
          obtain ⟨j, hj, ej⟩ := List.mem_take_iff_getElem.1 hx
          refine List.pairwise_iff_getElem.1 (List.nodup_iff_pairwise_ne.1 HTN.out) j i3 (by rw [List.length_map]; omega) (by rw [List.length_map]; omega) (by omega) ?_
          rw [List.getElem_map, List.getElem_map, ej]
          exact e
        obtain ⟨wE, hput, hM2, hz2, ho2, ht2, hu2, hkp⟩ := run_put (P := Tryz.prog) Tryz.underlying63 Tryz.underlying9 HMP.out (txB L2[i3]) (.int .i64 (i3 : Int)) HNI.out
        have HTK : Hid (ixK ((L2.take (i3 + 1)).map txB) = ixK ((L2.take i3).map txB) ++ [(txB L2[i3], .int .i64 (i3 : Int))]) := by
          unfold Hid
          rw [List.take_succ_eq_append_getElem hiL, List.map_append, List.map_singleton, ixK_snoc, List.length_map, List.length_take, Nat.min_eq_left (by omega)]
        have hxE : ExQ (fun b => b = M) wc wE := ⟨ho2, ht2, hu2, by omega, fun k _ hn => hkp k hn⟩
        have HMne : Hid (M ≠ Gk ∧ M ≠ B) := by have := HM5.out; have := HGe.out; have := HBe.out; unfold Hid; omega
        have HKE : Hid (KdA B Gk n (List.range i3 ++ List.replicate (n - i3) 0) wE) := ⟨HKD.out.bx.exq hxE (fun e => HMne.out.2 e.symm), HKD.out.rw_.exq hxE (fun e => HMne.out.1 e.symm), HKD.out.len, HKD.out.ne⟩
        have HKF : Hid (KdA B Gk n (List.range (i3 + 1) ++ List.replicate (n - (i3 + 1)) 0) (wE.setCell ⟨Gk, i3, none⟩ (.int .i64 (i3 : Int)))) := by
          have h := HKE.out.put i3 i3
          rwa [rng_set hl3] at h
        have HBE : Hid (Below wb.heap.size wb (wE.setCell ⟨Gk, i3, none⟩ (.int .i64 (i3 : Int)))) := by
          have h1 : Below wb.heap.size wc wE := hxE.below HBR3.out.size fun b e => by rw [e, HMe.out]; exact Nat.le_refl _
          exact (HBR3.out.trans h1).setCell (p := ⟨Gk, i3, none⟩) (by have := HGe.out; have := B6.out.size; show wb.heap.size ≤ Gk; omega) _
        have HMF : Hid (MapAt (wE.setCell ⟨Gk, i3, none⟩ (.int .i64 (i3 : Int))) M (ixK ((L2.take (i3 + 1)).map txB))) := by
          unfold Hid
          rw [HTK.out]
          exact hM2.kept (Below.heap_setCell _ _ _ _ (by simpa using HMne.out.1))
        have k1 := HKE.out.box
        have kc := HKE.out.cell hl3
        have kf := HKE.out.rw_.frozen i3
        have kl := HKE.out.rw_.lt
        generalize L2[i3] = y at *
        clear hM2 hz2 ho2 ht2 hu2 hkp hxE hiL
        go_wp2_with fail
        go_roundw
        case rel => exact ⟨i3 + 1, by go_num, by omega, HMF.out, HKF.out, HBE.out⟩
        case measure => simp [intOf]; omega
      · have hii3 : ¬ (i3 : Int) < (n : Int) := by omega
        have HM7 : Hid (MapAt wc M (ixK (L2.map txB))) := by
          have h := HMP.out
          rwa [List.take_of_length_le (by have := HN.out; omega)] at h
        have HK7 : Hid (KdA B Gk n (List.range n) wc) := by
          have h := HKD.out
          rw [show i3 = n by omega, Nat.sub_self, List.replicate_zero, List.append_nil] at h
          exact h
        go_wp2_with fail
        go_meet
        exact ⟨HM7.out, HK7.out, HBR3.out⟩
  obtain ⟨hm7, hk7, hbr7⟩ := hcut
  obtain ⟨wq, hwq⟩ : ∃ x, x = wc := ⟨_, rfl⟩
  rw [← hwq] at hm7 hk7 hbr7 ⊢
  clear hwq wc
  have HM7 := hide hm7
  have HK7 := hide hk7
  have HBR3 := hide hbr7
  clear hm7 hk7 hbr7
  have HMne9 : Hid (M ≠ Gk) := by have := HM5.out; have := HGe.out; unfold Hid; omega
  have HGl9 : Hid (wb.heap.size ≤ Gk) := by have := B6.out.size; have := HGe.out; unfold Hid; omega
  go_step
  exact closK1 ls qs L2 N A T B Gk M n oc ec cu oa ea au w wb wq HU.out HNe.out HBK.out HAK.out HN.out HM7.out HK7.out HBR3.out HND.out HME.out HTN.out HER.out HSZ.out HCL.out hn9 hll HMne9.out HGl9.out
end Go.Proofs.YtdmaijmglblccaaGreatDoor

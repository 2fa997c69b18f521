/- Walks: the law ClosureSays, its last part. -/
import Derived.Test.YtdmaijmglblccaaGreatDoorKl35
import Derived.BigQuiet
namespace Go.Proofs.YtdmaijmglblccaaGreatDoor
open Go.RowKit
set_option linter.unusedSimpArgs false
set_option linter.unusedVariables false
set_option maxRecDepth 8000

def F3I (n : Nat) (w9 : World) (iv : Value) (wr : World) : Prop := ∃ i : Nat, iv = .int .i64 (i : Int) ∧ i ≤ n ∧ Below w9.heap.size w9 wr
noncomputable def tailS2 : Code := seqFromK 20 ((Tryz.f3.body).getD .skip)
set_option maxHeartbeats 20000000 in
theorem closS2 {BT : Nat} (ls : List Pr) (a b : Tm) (ua aa ab : Option Addr) (uc ca cb Pa Pb : Nat) (ge fe : Int) (w w8 : World) (S8 : Hid (CsW ls a b ua aa ab uc ca cb Pa Pb w w8)) (HGE : Hid (ge = grdE ls)) (HFE : Hid (fe = fN ls a b 2)) (HSZ : Hid (grdE ls = 0 → sizeL (prT ls) ≤ 60)) (HT : Hid (Tb BT w)) (HBT : Hid (BT ≤ w.heap.size))
    {s1 s2 s3 s6 s9 s10 s11 s12 s14 s15 s16 s17 s18 s19 s20 s21 s22 s23 s24 s25 s26 s27 s28 s29 s30 s31 s32 s33 s34 s35 s36 s37 s38 s39 s40 s41 s42 s43 s44 s45 s46 s47 s48 s49 s50 s51 s52 s53 s54 s55 s56 s57 s58 s59 s60 s61 s62 s63 s64 s65 s66 s67 s68 s69 s70 s71 s72 s73 s74 s75 s76 s77 s78 s79 s80 s81 s82 s83 s84 s85 s86 s87 s88 s89 s90 s91 s92 s93 s94 s95 s96 s97 s98 s99 s100 s101 s102 s103 s104 s105 s106 s107 s108 s109 s110 s111 s112 s113 s114 s115 s116 s117 s118 s119 s120 s121 s122 s123 s124 s125 s126 s127 s128 s129 s130 s131 s132 s133 s134 s135 s136 s137 s138 s139 s140 s141 s142 s143 s144 s145 s146 s147 s148 s149 s150 s151 s152 s153 s154 s155 s156 s157 s158 s159 s160 s161 s162 s163 s164 s165 s166 s167 s168 : Value} :
    Code.wp Tryz.prog tailS2 (bodyPost Tryz.prog Tryz.f3 fun e w' => e = .returned (.bool true) ∧ Below w.heap.size w w') ⟨List.toArray (.slice ua ls.length uc :: s1 :: s2 :: s3 :: .pointer (some ⟨Pa, 0, none⟩) :: .pointer (some ⟨Pb, 0, none⟩) :: s6 :: .int .i64 ge :: .int .i64 fe :: s9 :: s10 :: s11 :: s12 :: .bool false :: s14 :: s15 :: s16 :: s17 :: s18 :: s19 :: s20 :: s21 :: s22 :: s23 :: s24 :: s25 :: s26 :: s27 :: s28 :: s29 :: s30 :: s31 :: s32 :: s33 :: s34 :: s35 :: s36 :: s37 :: s38 :: s39 :: s40 :: s41 :: s42 :: s43 :: s44 :: s45 :: s46 :: s47 :: s48 :: s49 :: s50 :: s51 :: s52 :: s53 :: s54 :: s55 :: s56 :: s57 :: s58 :: s59 :: s60 :: s61 :: s62 :: s63 :: s64 :: s65 :: s66 :: s67 :: s68 :: s69 :: s70 :: s71 :: s72 :: s73 :: s74 :: s75 :: s76 :: s77 :: s78 :: s79 :: s80 :: s81 :: s82 :: s83 :: s84 :: s85 :: s86 :: s87 :: s88 :: s89 :: s90 :: s91 :: s92 :: s93 :: s94 :: s95 :: s96 :: s97 :: s98 :: s99 :: s100 :: s101 :: s102 :: s103 :: s104 :: s105 :: s106 :: s107 :: s108 :: s109 :: s110 :: s111 :: s112 :: s113 :: s114 :: s115 :: s116 :: s117 :: s118 :: s119 :: s120 :: s121 :: s122 :: s123 :: s124 :: s125 :: s126 :: s127 :: s128 :: s129 :: s130 :: s131 :: s132 :: s133 :: s134 :: s135 :: s136 :: s137 :: s138 :: s139 :: s140 :: s141 :: s142 :: s143 :: s144 :: s145 :: s146 :: s147 :: s148 :: s149 :: s150 :: s151 :: s152 :: s153 :: s154 :: s155 :: s156 :: s157 :: s158 :: s159 :: s160 :: s161 :: s162 :: s163 :: s164 :: s165 :: s166 :: s167 :: s168 :: []), []⟩ w8 := by
  conv => arg 2; whnf
  have HFZ : Hid (fe = 0 → grdE ls = 0 ∧ cloE a = 0 ∧ cloE b = 0) := fun h => fN_zero (by rw [← HFE.out]; exact h)
  have HZA : Hid (fe = 0 → errL (prT ls ++ [a, b]) = 0 ∧ sizeL (prT ls ++ [a, b]) ≤ 900) := fun h => by
    obtain ⟨h1, h2, h3⟩ := HFZ.out h
    have h4 := HSZ.out h1
    have h5 := clo_size h2
    have h6 := clo_size h3
    refine ⟨prT_err2 h1 h2 h3, ?_⟩
    rw [← preL_length, preL_append, List.length_append, preL_length, preL_length]
    have h7 : sizeL [a, b] = sizeL [a] + sizeL [b] := by obtain ⟨s, l⟩ := a; obtain ⟨s2, l2⟩ := b; simp [sizeL]
    omega
  go_step
  go_step
  go_cut [14] (fun v wc => v = .slice none 0 0 ∧ wc = w8)
  case first =>
    go_wp2_with fail
    go_meet
    exact ⟨rfl, rfl⟩
  obtain ⟨rfl, hwc⟩ := hcut
  rw [hwc]
  clear hwc wc
  go_step
  go_step
  go_cut [14] (fun v wc => ∃ (a1 : Option Addr) (c1 : Nat) (ps : List (Value × List ByteArray)), v = .slice a1 ps.length c1 ∧ RrV wc a1 ps ∧ (ge = 0 → ClsR ls (· ∈ preL (prT ls)) (ps.map (·.2))) ∧ (ge ≠ 0 → ps = []) ∧ ps.length ≤ 1000 ∧ CsW ls a b ua aa ab uc ca cb Pa Pb w wc)
  case first =>
    by_cases hg : ge = 0
    · have HG : Hid (grdE ls = 0) := by unfold Hid; rw [← HGE.out]; exact hg
      subst hg
      have HCL := hide (classesOf_any ls _ w8 _ S8.out.qv (prT_err (pairsE_all (grd_pairs HG.out))) (by have := HSZ.out HG.out; omega))
      go_wp2_with fail
      refine HCL.out.mono ?_
      rintro e w9 ⟨hb9, a1, c1, ps, rfl, hrow, hlv, hcls, hpl9⟩
      have S9 := hide (S8.out.later hb9)
      have HR : Hid (RrV w9 a1 ps) := ⟨hrow, fun p hp => LW.of_lv (hlv p hp)⟩
      have HC := hide hcls
      clear hb9 hrow hlv hcls HCL
      go_wp2_with fail
      go_meet
      exact ⟨a1, c1, ps, rfl, HR.out, (fun _ => HC.out), (fun h => absurd rfl h), hpl9, S9.out⟩
    · have hgb : (ge == 0) = false := by simpa using hg
      have HG : Hid (ge ≠ 0) := hg
      clear hg
      go_wp2_with fail
      go_meet
      exact ⟨none, 0, [], rfl, RrV.nil _ _, (fun h => absurd h HG.out), (fun _ => rfl), Nat.zero_le _, S8.out⟩
  obtain ⟨a1, c1, ps1, rfl, hr1, hc1, hn1, hpl9, hs9⟩ := hcut
  obtain ⟨w9, hw9⟩ : ∃ x, x = wc := ⟨_, rfl⟩
  rw [← hw9] at hr1 hs9 ⊢
  clear hw9 wc
  have R1 := hide hr1
  have HC1 := hide hc1
  have HN1 := hide hn1
  have S9 := hide hs9
  clear hr1 hc1 hn1 hs9
  go_step
  go_step
  go_cut [13] (fun v wc => ∃ z : Bool, v = .bool z ∧ (fe = 0 → (z = true ↔ Cg ls (· ∈ preL (prT ls ++ [a, b])) a b)) ∧ (fe ≠ 0 → z = false) ∧ Below w9.heap.size w9 wc)
  case first =>
    by_cases hf : fe = 0
    · have HF := hide (HZA.out hf)
      subst hf
      obtain ⟨p0, p1, q0, q1⟩ := S9.out.cells
      have HSB := hide (sameBy_any ls a b _ aa ab ca cb w9 _ S9.out.qv S9.out.sa S9.out.sb HF.out.1 HF.out.2)
      go_wp2_with fail
      refine HSB.out.mono ?_
      rintro e wb ⟨hbb, z, rfl, hz⟩
      have HZ := hide hz
      have HBB := hide hbb
      clear hbb hz HSB p0 p1 q0 q1
      go_wp2_with fail
      go_meet
      exact ⟨z, rfl, (fun _ => HZ.out), (fun h => absurd rfl h), HBB.out⟩
    · have hfb : (fe == 0) = false := by simpa using hf
      have HF : Hid (fe ≠ 0) := hf
      clear hf
      go_wp2_with fail
      go_meet
      exact ⟨false, rfl, (fun h => absurd h HF.out), (fun _ => rfl), Below.refl _ _⟩
  obtain ⟨z1, rfl, hz1, hy1, hb10⟩ := hcut
  obtain ⟨w10, hw10⟩ : ∃ x, x = wc := ⟨_, rfl⟩
  rw [← hw10] at hb10 ⊢
  clear hw10 wc
  have HZ1 := hide hz1
  have HY1 := hide hy1
  have S10 := hide (S9.out.later hb10)
  have R10 := hide (R1.out.later hb10)
  clear hz1 hy1 hb10 S9 R1
  go_step
  obtain ⟨p0, p1, q0, q1⟩ := S10.out.cells
  have HKS := hide (kSame_any ls a b _ aa ab ca cb w10 _ S10.out.qv S10.out.sa S10.out.sb (HT.out.on (S10.out.bl.mono HBT.out)) (Nat.le_trans HBT.out S10.out.bl.size) (fun h1 h2 h3 => (HZA.out (by rw [HFE.out]; simp only [fN]; rw [if_pos h1, if_pos h2]; exact h3)).2))
  go_wp2_with fail
  refine HKS.out.mono ?_
  intro e w11 hk
  obtain ⟨hb11, z2, rfl, hz2, hy2⟩ := ksm_all hk
  have HZ2 := hide hz2
  have HY2 := hide hy2
  have S11 := hide (S10.out.later hb11)
  have R11 := hide (R10.out.later hb11)
  rw [← HFE.out] at HZ2 HY2
  rw [← HFE.out]
  clear hk hz2 hy2 hb11 S10 R10 p0 p1 q0 q1 HKS
  have HZZ : Hid (z2 = z1) := by
    unfold Hid
    by_cases h : fe = 0
    · rw [Bool.eq_iff_iff, HZ2.out h, HZ1.out h]
    · rw [HY2.out h, HY1.out h]
  have HKC := hide (kClasses_any srtN ls _ w11 _ S11.out.qv (HT.out.on (S11.out.bl.mono HBT.out)) (Nat.le_trans HBT.out S11.out.bl.size) (fun h => by have := HSZ.out h; omega))
  go_wp2_with fail
  refine HKC.out.mono ?_
  intro e w12 hk
  obtain ⟨hb12, a2, c2, ps2, rfl, hr2, hc2, hn2⟩ := clp_all hk
  have S12 := hide (S11.out.later hb12)
  have R12 := hide (R11.out.later hb12)
  have R2 := hide hr2
  rw [← HGE.out] at hc2 hn2
  rw [← HGE.out]
  have HEQ : Hid (ps2.map (·.2) = ps1.map (·.2)) := by
    unfold Hid
    by_cases h : ge = 0
    · have hg : grdE ls = 0 := by rw [← HGE.out]; exact h
      exact (hc2 h).uniq (fun t ht => pre_errK _ (prT_err (pairsE_all (grd_pairs hg))) ht) (HC1.out h)
    · rw [hn2 h, HN1.out h]
  have HLE : Hid (ps2.length = ps1.length) := by have h := congrArg List.length HEQ.out; rw [List.length_map, List.length_map] at h; exact h
  clear hk hb12 hr2 hc2 hn2 S11 R11 HKC
  go_wp2_with fail
  refine (kcheck_any ls _ w12 _ S12.out.qv).mono ?_
  rintro e w13 ⟨rfl, hb13⟩
  have S13 := hide (S12.out.later hb13)
  have R13 := hide (R12.out.later hb13)
  have R23 := hide (R2.out.later hb13)
  rw [← HGE.out]
  clear hb13 S12 R12 R2
  have hzz : z2 = z1 := HZZ.out
  subst hzz
  obtain ⟨m, hm⟩ : ∃ m, m = ps1.length := ⟨_, rfl⟩
  have HM := hide hm
  have HM2 : Hid (ps2.length = m) := by unfold Hid; rw [hm]; exact HLE.out
  have hm2 := HM2.out
  rw [← hm, hm2]
  rw [← hm] at hpl9
  clear hm hm2 HLE
  have hnf : (z2 != z2) = false := by cases z2 <;> rfl
  have hme : ((m : Int) != (m : Int)) = false := by simp
  have hge : (ge != ge) = false := by simp
  have hfe : (fe != fe) = false := by simp
  go_wp2_with fail
  clear hnf hme hge hfe
  go_loopw [19] (fun iv wr => F3I m w13 iv wr) (fun iv wr => m - (intOf iv).toNat)
  case atStart => exact ⟨0, rfl, Nat.zero_le _, Below.refl _ _⟩
  case round =>
    obtain ⟨i, rfl, hi, hbr⟩ := hrel
    have HBR := hide hbr
    clear hbr
    obtain ⟨wa, hwa⟩ : ∃ x, x = wr := ⟨_, rfl⟩
    rw [← hwa] at HBR ⊢
    clear hwa
    by_cases hli : i < m
    · have hii : (i : Int) < (m : Int) := by omega
      have hl1 : i < ps1.length := by have := HM.out; omega
      have hl2 : i < ps2.length := by have := HM2.out; omega
      have hE : ps2[i].2 = ps1[i].2 := by
        have h := HEQ.out
        have h1 : (ps2.map (·.2))[i]? = (ps1.map (·.2))[i]? := by rw [h]
        rw [List.getElem?_map, List.getElem?_map, List.getElem?_eq_getElem hl1, List.getElem?_eq_getElem hl2] at h1
        simpa using h1
      obtain ⟨g1, e1, d1⟩ := R13.out.1.resolve_left (fun h => by rw [h] at hl1; exact absurd hl1 (Nat.not_lt_zero _))
      obtain ⟨g2, e2, d2⟩ := R23.out.1.resolve_left (fun h => by rw [h] at hl2; exact absurd hl2 (Nat.not_lt_zero _))
      have dd1 := d1 i hl1
      have dd2 := d2 i hl2
      have hlw1 := R13.out.2 _ (List.getElem_mem hl1)
      have hlw2 := R23.out.2 _ (List.getElem_mem hl2)
      rw [hE] at hlw2
      generalize ps1[i].2 = tx at *
      have HL1 := hide hlw1
      have HL2 := hide hlw2
      obtain ⟨x1, y1, ev1, hlt1, -⟩ := hlw1
      obtain ⟨x2, y2, ev2, -, -⟩ := hlw2
      rw [ev1] at HL1 dd1
      rw [ev2] at HL2 dd2
      subst e1
      subst e2
      have hg1 : g1 < w13.heap.size := World.block_lt_of_cell? w13 _ dd1
      have hg2 : g2 < w13.heap.size := World.block_lt_of_cell? w13 _ dd2
      have HST : Hid (∀ W, Below w13.heap.size w13 W → (fun w' : World => w'.cell? ⟨g2, i, none⟩ = some (.slice x2 tx.length y2) ∧ w'.cell? ⟨g1, i, none⟩ = some (.slice x1 tx.length y1)) W) := fun W hb => ⟨(hb.cell (p := ⟨g2, i, none⟩) hg2).trans dd2, (hb.cell (p := ⟨g1, i, none⟩) hg1).trans dd1⟩
      clear ev1 ev2 d1 d2 dd1 dd2 hg1 hg2 hl1 hl2 hE hlt1
      go_upto_region 32 with fail
      have HBD : Hid (Below w13.heap.size w13 wa.drew) := HBR.out.drew
      refine wp_region_held_drew (S := fun W => (fun w' : World => w'.cell? ⟨g2, i, none⟩ = some (.slice x2 tx.length y2) ∧ w'.cell? ⟨g1, i, none⟩ = some (.slice x1 tx.length y1)) W) (by kernel_rfl) (HST.out _ HBD.out) (fun hHeld => ?_)
      generalize wa.drew = wb at *
      refine wpAnyH_take (i := 0) (v := ?_) rfl (by kernel_rfl) (by kernel_rfl) (by kernel_rfl) (fun _ _ _ h => h) (Or.inl ⟨by rfl, ?_⟩) (by assumption) ?_
      rotate_left
      · intro w' hSw
        go_simp <;> with_reducible rfl
      try simp only [Act.put, List.setIfInBounds_toArray, List.set_cons_zero, List.set_cons_succ, List.getElem_toArray, List.getElem_cons_succ, List.getElem_cons_zero]
      refine wpAnyH_take (i := 1) (v := ?_) rfl (by kernel_rfl) (by kernel_rfl) (by kernel_rfl) (fun _ _ _ h => h) (Or.inl ⟨by rfl, ?_⟩) (by assumption) ?_
      rotate_left
      · intro w' hSw
        go_simp <;> with_reducible rfl
      try simp only [Act.put, List.setIfInBounds_toArray, List.set_cons_zero, List.set_cons_succ, List.getElem_toArray, List.getElem_cons_succ, List.getElem_cons_zero]
      refine wpAnyH_take (i := 2) (v := ?_) rfl (by kernel_rfl) (by kernel_rfl) (by kernel_rfl) (fun _ _ _ h => h) (Or.inl ⟨by rfl, ?_⟩) (by assumption) ?_
      rotate_left
      · intro w' hSw
        obtain ⟨z0, z1⟩ := hSw
        go_simp <;> with_reducible rfl
      try simp only [Act.put, List.setIfInBounds_toArray, List.set_cons_zero, List.set_cons_succ, List.getElem_toArray, List.getElem_cons_succ, List.getElem_cons_zero]
      refine wpAnyH_take (i := 3) (v := ?_) rfl (by kernel_rfl) (by kernel_rfl) (by kernel_rfl) (fun _ _ _ h => h) (Or.inl ⟨by rfl, ?_⟩) (by assumption) ?_
      rotate_left
      · intro w' hSw
        obtain ⟨z0, z1⟩ := hSw
        go_simp <;> with_reducible rfl
      try simp only [Act.put, List.setIfInBounds_toArray, List.set_cons_zero, List.set_cons_succ, List.getElem_toArray, List.getElem_cons_succ, List.getElem_cons_zero]
      refine wpAnyH_take (i := 4) (v := ?_) rfl (by kernel_rfl) (by kernel_rfl) (by kernel_rfl) (fun _ _ _ h => h) (Or.inl ⟨by rfl, ?_⟩) (by assumption) ?_
      rotate_left
      · intro w' hSw
        go_simp <;> with_reducible rfl
      try simp only [Act.put, List.setIfInBounds_toArray, List.set_cons_zero, List.set_cons_succ, List.getElem_toArray, List.getElem_cons_succ, List.getElem_cons_zero]
      refine wpAnyH_take (i := 5) (v := ?_) rfl (by kernel_rfl) (by kernel_rfl) (by kernel_rfl) (fun _ _ _ h => h) (Or.inl ⟨by rfl, ?_⟩) (by assumption) ?_
      rotate_left
      · intro w' hSw
        go_simp <;> with_reducible rfl
      try simp only [Act.put, List.setIfInBounds_toArray, List.set_cons_zero, List.set_cons_succ, List.getElem_toArray, List.getElem_cons_succ, List.getElem_cons_zero]
      refine wpAnyH_take (i := 6) (v := ?_) rfl (by kernel_rfl) (by kernel_rfl) (by kernel_rfl) (fun _ _ _ h => h) (Or.inl ⟨by rfl, ?_⟩) (by assumption) ?_
      rotate_left
      · intro w' hSw
        obtain ⟨z0, z1⟩ := hSw
        go_simp <;> with_reducible rfl
      try simp only [Act.put, List.setIfInBounds_toArray, List.set_cons_zero, List.set_cons_succ, List.getElem_toArray, List.getElem_cons_succ, List.getElem_cons_zero]
      refine wpAnyH_take (i := 7) (v := ?_) rfl (by kernel_rfl) (by kernel_rfl) (by kernel_rfl) (fun _ _ _ h => h) (Or.inl ⟨by rfl, ?_⟩) (by assumption) ?_
      rotate_left
      · intro w' hSw
        obtain ⟨z0, z1⟩ := hSw
        go_simp <;> with_reducible rfl
      try simp only [Act.put, List.setIfInBounds_toArray, List.set_cons_zero, List.set_cons_succ, List.getElem_toArray, List.getElem_cons_succ, List.getElem_cons_zero]
      refine wpAnyH_ready (rs := [8]) (by kernel_rfl) (by simp) ?_
      refine AllReadyH.cons rfl (fun K hK => ?_) AllReadyH.nil
      go_simp
      go_at_call 18
      refine (sameNamesW_any tx _ _ wb (HL2.out.later HBD.out) (HL1.out.later HBD.out)).mono ?_
      rintro e wc ⟨rfl, hbC⟩
      have HBC := hide (HBD.out.trans (hbC.mono HBD.out.size))
      clear hbC
      go_simp
      refine hK.out _ _ (by exact (HST.out _ HBC.out)) (fun hHeld => ?_)
      clear hK K
      try simp only [Act.put, List.setIfInBounds_toArray, List.set_cons_zero, List.set_cons_succ, List.getElem_toArray, List.getElem_cons_succ, List.getElem_cons_zero]
      refine wpAnyH_take (i := 9) (v := ?_) rfl (by kernel_rfl) (by kernel_rfl) (by kernel_rfl) (fun _ _ _ h => h) (Or.inl ⟨by rfl, ?_⟩) (by assumption) ?_
      rotate_left
      · intro w' hSw
        go_simp <;> with_reducible rfl
      try simp only [Act.put, List.setIfInBounds_toArray, List.set_cons_zero, List.set_cons_succ, List.getElem_toArray, List.getElem_cons_succ, List.getElem_cons_zero]
      refine wpAnyH_done (by kernel_rfl) ?_ _
      clear hHeld
      go_wp2_with fail
      go_roundw
      case rel => exact ⟨i + 1, by go_num, by omega, HBC.out⟩
      case measure => simp [intOf]; omega
    · have hii : ¬ (i : Int) < (m : Int) := by omega
      go_wp2_with fail
      go_ret
      exact ⟨rfl, S13.out.bl.trans (HBR.out.mono S13.out.bl.size)⟩
end Go.Proofs.YtdmaijmglblccaaGreatDoor

/- Walks: the law TopClasses, its last part. -/
import Derived.Test.YtdmaijmglblccaaGreatDoorKm2
import Derived.Test.YtdmaijmglblccaaGreatDoorKl35
import Derived.Test.YtdmaijmglblccaaGreatDoorW35
import Derived.Test.YtdmaijmglblccaaGreatDoorZTopClassesOwn
namespace Go.Proofs.YtdmaijmglblccaaGreatDoor
open Go.RowKit
set_option linter.unusedSimpArgs false
set_option linter.unusedVariables false
set_option maxRecDepth 8000

theorem mem_preKm : ∀ {l : List Tm} {x : Tm}, x ∈ l → x ∈ preL l
  | ⟨s, a⟩ :: r, x, h => by
    rw [show preL ((⟨s, a⟩ : Tm) :: r) = ⟨s, a⟩ :: (preL a ++ preL r) by simp [preL]]
    rcases List.mem_cons.1 h with e | e
    · rw [e]; simp
    · have := mem_preKm e; simp [this]
theorem nodup_leK {α : Type} : ∀ {l k : List α}, l.Nodup → (∀ x ∈ l, x ∈ k) → l.length ≤ k.length
  | [], k, _, _ => by simp
  | a :: l, k, hn, h => by
    classical
    rw [List.nodup_cons] at hn
    have ha : a ∈ k := h a (by simp)
    have h1 : ∀ x ∈ l, x ∈ k.erase a := fun x hx => (List.mem_erase_of_ne (fun e => hn.1 (by rw [← e]; exact hx))).2 (h x (by simp [hx]))
    have h2 := nodup_leK hn.2 h1
    have h3 := List.length_erase_of_mem ha
    have h4 : 0 < k.length := List.length_pos_of_mem ha
    simp only [List.length_cons]
    omega
theorem flat_geK {α : Type} : ∀ (l : List (List α)), (∀ r ∈ l, r ≠ []) → l.length ≤ l.flatten.length
  | [], _ => by simp
  | a :: l, h => by
    have h1 := flat_geK l fun r hr => h r (by simp [hr])
    have h2 : 0 < a.length := List.length_pos_iff.2 (h a (by simp))
    simp only [List.length_cons, List.flatten_cons, List.length_append]
    omega
theorem rdAll_txK {t : Tm} (h1 : errL [t] = 0) (h2 : sizeL [t] ≤ 200) : (rdAll (txB t)).err = 0 ∧ (rdAll (txB t)).t = t := by
  have hl := txt_len [t] h1
  have hsz : (⟨(txtL [t]).toArray⟩ : ByteArray).size = (txtL [t]).length := by rw [size_list]
  unfold txB rdAll
  rw [if_neg (by omega), rd_whole t h1 h2]
  simp
/-- What Parse tells of a written term. -/
theorem parseK_any {t : Tm} (h1 : errL [t] = 0) (h2 : sizeL [t] ≤ 200) (w : World) : Calls Tryz.prog 21 #[.string (txB t)] w fun e w' => (∃ a c, e = .returned (.tuple #[.agg #[.string t.name, .slice a t.args.length c], .int .i64 0]) ∧ Sl w' (fun b => w.heap.size ≤ b) a t.args) ∧ Below w.heap.size w w' := by
  obtain ⟨h3, h4⟩ := rdAll_txK h1 h2
  refine (parse_any (txB t) w).mono ?_
  rintro e w' ⟨v, rfl, hv, -, hb⟩
  obtain ⟨a, c, e2, hs⟩ := hv h3
  rw [h4] at e2 hs
  subst e2
  rw [h3]
  exact ⟨⟨a, c, rfl, hs⟩, hb⟩
theorem fN_sm {ls : List Pr} {a b : Tm} (h : SmP 14 ls) (ha : a ∈ preL (prT ls)) (hb : b ∈ preL (prT ls)) : fN ls a b 2 = 0 := by
  simp only [fN]
  rw [if_pos (sm_grd h (by omega)), if_pos (sm_clo h (by omega) ha)]
  exact sm_clo h (by omega) hb
def TwI (rows : List (List ByteArray)) (m : Nat) (w2 : World) (av iv : Value) (wr : World) : Prop :=
  ∃ i : Nat, iv = .int .i64 (i : Int) ∧ i ≤ m ∧ wr.ownsRow w2.heap.size 9 1 av (rows.take i).flatten.length ((rows.take i).flatten.map Value.string) ∧ (rows.take i).flatten.length ≤ i * 100 ∧ Below w2.heap.size w2 wr
def T3I (m : Nat) (w6 : World) (kv : Value) (wr : World) : Prop := ∃ k : Nat, kv = .int .i64 (k : Int) ∧ k ≤ m ∧ Below w6.heap.size w6 wr
theorem txk_may {t : Tm} (h1 : errL [t] = 0) (h2 : sizeL [t] ≤ 14) : (txtL [t]).length ≤ 1000000 := by
  have := txt_len [t] h1
  omega
noncomputable def tailTc : Code := seqFromK 12 ((Tryz.f5.body).getD .skip)
set_option maxHeartbeats 20000000 in
theorem topCl2 {BT : Nat} (ls : List Pr) (ua : Option Addr) (uc : Nat) (w w1 : World) (HQ : Hid (QV w1 (fun _ => True) (.slice ua ls.length uc) ls)) (HBL : Hid (Below w.heap.size w w1)) (HSM : Hid (SmP 14 ls)) (HL1 : Hid (1 ≤ ls.length ∧ ls.length ≤ 3)) (HT : Hid (Tb BT w)) (HBT : Hid (BT ≤ w.heap.size))
    {s0 s1 s2 s3 s4 s5 s8 s9 s10 s11 s12 s13 s14 s15 s16 s17 s18 s19 s20 s21 s22 s23 s24 s25 s26 s27 s28 s29 s30 s31 s32 s33 s34 s35 s36 s37 s38 s39 s40 s41 s42 s43 s44 s45 s46 s47 s48 s49 s50 s51 s52 s53 s54 s55 s56 s57 s58 s59 s60 s61 s62 s63 s64 s65 s66 s67 s68 s69 s70 s71 s72 s73 s74 s75 s76 s77 s78 s79 s80 s81 s82 s83 s84 s85 s86 s87 s88 s89 s90 s91 s92 s93 s94 s95 s96 s97 s98 s99 s100 s101 s102 s103 s104 s105 s106 s107 s108 s109 s110 s111 s112 s113 s114 s115 s116 s117 s118 s119 s120 s121 s122 s123 s124 s125 s126 s127 s128 s129 s130 s131 s132 s133 s134 s135 s136 s137 s138 s139 s140 s141 s142 s143 s144 s145 s146 s147 s148 s149 s150 s151 s152 s153 s154 s155 s156 s157 s158 s159 s160 s161 s162 s163 s164 s165 s166 s167 s168 s169 s170 s171 s172 s173 s174 s175 s176 s177 s178 s179 s180 s181 s182 s183 s184 : Value} :
    Code.wp Tryz.prog tailTc (bodyPost Tryz.prog Tryz.f5 fun e w' => e = .returned (.bool true) ∧ Below w.heap.size w w') ⟨List.toArray (s0 :: s1 :: s2 :: s3 :: s4 :: s5 :: .bool false :: .slice ua ls.length uc :: s8 :: s9 :: s10 :: s11 :: s12 :: s13 :: s14 :: s15 :: s16 :: s17 :: s18 :: s19 :: s20 :: s21 :: s22 :: s23 :: s24 :: s25 :: s26 :: s27 :: s28 :: s29 :: s30 :: s31 :: s32 :: s33 :: s34 :: s35 :: s36 :: s37 :: s38 :: s39 :: s40 :: s41 :: s42 :: s43 :: s44 :: s45 :: s46 :: s47 :: s48 :: s49 :: s50 :: s51 :: s52 :: s53 :: s54 :: s55 :: s56 :: s57 :: s58 :: s59 :: s60 :: s61 :: s62 :: s63 :: s64 :: s65 :: s66 :: s67 :: s68 :: s69 :: s70 :: s71 :: s72 :: s73 :: s74 :: s75 :: s76 :: s77 :: s78 :: s79 :: s80 :: s81 :: s82 :: s83 :: s84 :: s85 :: s86 :: s87 :: s88 :: s89 :: s90 :: s91 :: s92 :: s93 :: s94 :: s95 :: s96 :: s97 :: s98 :: s99 :: s100 :: s101 :: s102 :: s103 :: s104 :: s105 :: s106 :: s107 :: s108 :: s109 :: s110 :: s111 :: s112 :: s113 :: s114 :: s115 :: s116 :: s117 :: s118 :: s119 :: s120 :: s121 :: s122 :: s123 :: s124 :: s125 :: s126 :: s127 :: s128 :: s129 :: s130 :: s131 :: s132 :: s133 :: s134 :: s135 :: s136 :: s137 :: s138 :: s139 :: s140 :: s141 :: s142 :: s143 :: s144 :: s145 :: s146 :: s147 :: s148 :: s149 :: s150 :: s151 :: s152 :: s153 :: s154 :: s155 :: s156 :: s157 :: s158 :: s159 :: s160 :: s161 :: s162 :: s163 :: s164 :: s165 :: s166 :: s167 :: s168 :: s169 :: s170 :: s171 :: s172 :: s173 :: s174 :: s175 :: s176 :: s177 :: s178 :: s179 :: s180 :: s181 :: s182 :: s183 :: s184 :: []), []⟩ w1 := by
  conv => arg 2; whnf
  have HG0 : Hid (grdE ls = 0) := sm_grd HSM.out (by omega)
  have HZ9 : Hid (sizeL (prT ls) ≤ 900) := by
    have h1 := sm_size HSM.out
    have h2 := Nat.mul_le_mul_right (2 * 14) HL1.out.2
    unfold Hid
    omega
  have hl3 := HL1.out.2
  have HKC := hide (kClasses_any srtN ls _ w1 _ HQ.out (HT.out.on (HBL.out.mono HBT.out)) (Nat.le_trans HBT.out HBL.out.size) (fun h => HZ9.out))
  go_step
  go_step
  go_cut [13, 14] (fun v e wc => e = .int .i64 0 ∧ ∃ (a : Option Addr) (c : Nat) (ps : List (Value × List ByteArray)), v = .slice a ps.length c ∧ RrV wc a ps ∧ ClsR ls (· ∈ preL (prT ls)) (ps.map (·.2)) ∧ Below w1.heap.size w1 wc)
  case first =>
    go_wp2_with fail
    refine HKC.out.mono ?_
    intro e w2 hk
    obtain ⟨hb2, a, c, ps, rfl, hr, hc, -⟩ := clp_all hk
    rw [HG0.out]
    have HR := hide hr
    have HC := hide (hc HG0.out)
    have HB2 := hide hb2
    clear hk hr hc hb2 HKC
    go_wp2_with fail
    go_meet
    exact ⟨rfl, a, c, ps, rfl, HR.out, HC.out, HB2.out⟩
  obtain ⟨rfl, la, lc, ps, rfl, hr2, hc2, hb2⟩ := hcut
  obtain ⟨w2, hw2⟩ : ∃ x, x = wc := ⟨_, rfl⟩
  rw [← hw2] at hr2 hb2 ⊢
  clear hw2 wc HKC
  have HR := hide hr2
  have HC := hide hc2
  have HB2 := hide (HBL.out.trans (hb2.mono HBL.out.size))
  have HQ2 := hide (HQ.out.later hb2)
  clear hr2 hc2 hb2 HQ HBL
  have HIN : Hid (∀ x, x ∈ preL (prT ls) → sizeL [x] ≤ 14 ∧ errL [x] = 0 ∧ cloE x = 0) := fun x hx => by
    obtain ⟨h1, h2, _⟩ := sm_in HSM.out hx
    exact ⟨h1, h2, sm_clo HSM.out (by omega) hx⟩
  have HER : Hid (∀ t, t ∈ preL (prT ls) → errL [t] = 0) := fun t ht => (HIN.out t ht).2.1
  have hps : ps ≠ [] := fun e => by
    subst e
    have hp : 0 < ls.length := by have := HL1.out.1; omega
    have h1 := prT_mem (List.getElem_mem hp)
    obtain ⟨r, hr, _⟩ := HC.out.all _ (mem_preKm h1.1)
    simp at hr
  obtain ⟨m, hm⟩ : ∃ m, m = ps.length := ⟨_, rfl⟩
  have HM := hide hm
  have hm0 : 0 < m := by rw [hm]; exact List.length_pos_iff.2 hps
  obtain ⟨rows, hrows⟩ : ∃ rows, rows = ps.map (·.2) := ⟨_, rfl⟩
  have HRW := hide hrows
  rw [← hrows] at HC
  have HRL : Hid (rows.length = m) := by unfold Hid; rw [hrows, List.length_map, hm]
  have HRE : Hid (∀ (i : Nat) (h1 : i < ps.length) (h2 : i < rows.length), ps[i].2 = rows[i]) := fun i h1 h2 => by subst hrows; rw [List.getElem_map]
  have HRN : Hid (∀ r ∈ rows, r ≠ [] ∧ r.length ≤ 100) := fun r hr => by
    refine ⟨HC.out.ne r hr, ?_⟩
    have hnd := asc_nodup (HC.out.row r hr).1
    have hsub : ∀ s ∈ r, s ∈ (preL (prT ls)).map txB := fun s hs => by
      obtain ⟨u, hu, e⟩ := HC.out.cover hr hs
      exact List.mem_map.2 ⟨u, hu, e.symm⟩
    have h1 := nodup_leK hnd hsub
    rw [List.length_map, preL_length] at h1
    have h2 := sm_size HSM.out
    have h3 := Nat.mul_le_mul_right (2 * 14) HL1.out.2
    omega
  have hm9 : m ≤ 100 := by
    have h1 := HC.out.nodup HER.out
    have hsub : ∀ s ∈ rows.flatten, s ∈ (preL (prT ls)).map txB := fun s hs => by
      obtain ⟨r, hr, hs⟩ := List.mem_flatten.1 hs
      obtain ⟨u, hu, e⟩ := HC.out.cover hr hs
      exact List.mem_map.2 ⟨u, hu, e.symm⟩
    have h2 := nodup_leK h1 hsub
    rw [List.length_map, preL_length] at h2
    have h3 := sm_size HSM.out
    have h4 := Nat.mul_le_mul_right (2 * 14) HL1.out.2
    have h5 := flat_geK rows fun r hr => (HRN.out r hr).1
    rw [HRL.out] at h5
    omega
  rw [← hm]
  clear hm hrows hps
  have hmz : ((m : Int) == 0) = false := by simp; omega
  obtain ⟨g, eg, hrc⟩ := HR.out.1.resolve_left (fun h => by have h1 := HM.out; rw [h] at h1; simp at h1; omega)
  subst eg
  have HRC := hide hrc
  clear hrc
  go_step
  go_upto_region 15 with fail
  go_cut [15] (fun v wc => v = .slice none 0 0 ∧ wc = w2)
  case first =>
    go_wp2_with fail
    go_meet
    exact ⟨rfl, rfl⟩
  obtain ⟨rfl, hwc⟩ := hcut
  rw [hwc]
  clear hwc wc hmz
  go_step
  go_step
  have HRX : Hid (∀ i (hi : i < m), ∃ (r : List ByteArray) (h9 : i < rows.length) (b o c : Nat), r = rows[i] ∧ r ∈ rows ∧ ∀ W, Below w2.heap.size w2 W → W.cell? ⟨g, i, none⟩ = some (.slice (some ⟨b, o, none⟩) r.length c) ∧ ∀ j (h : j < r.length), W.cell? ⟨b, o + j, none⟩ = some (.string r[j])) := fun i hi => by
    have h1 : i < ps.length := by have := HM.out; omega
    have h2 : i < rows.length := by have := HRL.out; omega
    obtain ⟨a9, c9, e9, _, h9⟩ := HR.out.2 _ (List.getElem_mem h1)
    have hc := HRC.out i h1
    have hE := HRE.out i h1 h2
    rw [hE] at e9 h9
    obtain ⟨b, o, ea, hcc⟩ := h9.resolve_left (fun h => (HRN.out _ (List.getElem_mem h2)).1 h)
    subst ea
    rw [e9] at hc
    refine ⟨rows[i], h2, b, o, c9, rfl, List.getElem_mem h2, fun W hb => ⟨(hb.cell (p := ⟨g, i, none⟩) (World.block_lt_of_cell? w2 _ hc)).trans hc, fun j hj => (hb.cell (p := ⟨b, o + j, none⟩) (World.block_lt_of_cell? w2 _ (hcc j hj))).trans (hcc j hj)⟩⟩
  go_cut [15] (fun v wd => wd.ownsRow w2.heap.size 9 1 v rows.flatten.length (rows.flatten.map Value.string) ∧ rows.flatten.length ≤ 10000 ∧ Below w2.heap.size w2 wd)
  case first =>
    go_wp2_with fail
    go_loopw [15, 16] (fun av iv wr => TwI rows m w2 av iv wr) (fun av iv wr => m - (intOf iv).toNat)
    case atStart => exact ⟨0, rfl, Nat.zero_le _, by simpa using World.ownsRow_nil _ _ _ _, by simp, Below.refl _ _⟩
    case round =>
      obtain ⟨i, rfl, hi, hown, hfl, hbr⟩ := hrel
      have HOW := hide hown
      have HBR := hide hbr
      obtain ⟨aa9, ac9, ea9⟩ := own_shapeH hown
      subst ea9
      clear hown hbr
      obtain ⟨wa, hwa⟩ : ∃ x, x = wr := ⟨_, rfl⟩
      rw [← hwa] at HOW HBR ⊢
      clear hwa
      obtain ⟨A, hA⟩ : ∃ A, A = (rows.take i).flatten := ⟨_, rfl⟩
      have HA := hide hA
      rw [← hA] at HOW hfl ⊢
      clear hA
      have HA9 : Hid (A.length ≤ 10000) := by have := Nat.mul_le_mul_right 100 hi; unfold Hid; omega
      by_cases hli : i < m
      · have hii : (i : Int) < (m : Int) := by omega
        obtain ⟨r, hr9, b1, o1, c1, hre, hrm, hcx⟩ := HRX.out i hli
        have HCX := hide hcx
        have HRR := hide hre
        have HRM := hide hrm
        have hrn := HRN.out r hrm
        have hr0 : 0 < r.length := List.length_pos_iff.2 hrn.1
        have hrz : ((r.length : Int) == 0) = false := by rw [beq_eq_false_iff_ne]; omega
        have hr1 : (0 : Int) < (r.length : Int) := by omega
        obtain ⟨ta, hta, eta⟩ := HC.out.cover hrm (List.getElem_mem hr0)
        have HTA := hide hta
        obtain ⟨k0, k1⟩ := hcx wa HBR.out
        have k2 := k1 0 hr0
        have k3 : wa.cell? ⟨b1, o1, none⟩ = some (.string (txB ta)) := by rw [← eta]; exact k2
        rw [eta] at k2
        have HE0 : Hid (txB ta ∈ rows[i]) := by unfold Hid; rw [← hre, ← eta]; exact List.getElem_mem hr0
        have HPA := hide (parseK_any (HIN.out ta hta).2.1 (by have := (HIN.out ta hta).1; omega) wa)
        clear hcx hre hrm k1 eta hta
        go_wp2_with fail
        refine HPA.out.mono ?_
        rintro e w5 ⟨⟨aa, ca, rfl, hsa⟩, hb5⟩
        have B5 : Below w5.heap.size w5 (w5.alloc (.cells #[.string ta.name, .slice aa ta.args.length ca] 25)) := (Below.refl _ _).alloc (Nat.le_refl _) _
        have HA5 := hide (Blk.new w5 #[.string ta.name, .slice aa ta.args.length ca] 25)
        have HSA : Hid (Sl (w5.alloc (.cells #[.string ta.name, .slice aa ta.args.length ca] 25)) (fun _ => True) aa ta.args) := (hsa.later B5).mono fun _ _ _ => trivial
        have HB5 : Hid (Below wa.heap.size wa (w5.alloc (.cells #[.string ta.name, .slice aa ta.args.length ca] 25))) := hb5.trans (B5.mono hb5.size)
        clear hsa hb5 B5 HPA k0 k2 k3
        go_upto_region 22 with fail
        generalize w5.alloc (.cells #[.string ta.name, .slice aa ta.args.length ca] 25) = w6 at *
        obtain ⟨Pa, hPa⟩ : ∃ P, P = w5.heap.size := ⟨_, rfl⟩
        rw [← hPa] at HA5 ⊢
        clear hPa
        have HB26 : Hid (Below w2.heap.size w2 w6) := HBR.out.trans (HB5.out.mono HBR.out.size)
        have hez : ((0 : Int) != 0) = false := by decide
        go_wp2_with fail
        go_loopw [19] (fun kv wr => T3I m w6 kv wr) (fun kv wr => m - (intOf kv).toNat)
        case atStart => exact ⟨0, rfl, Nat.zero_le _, Below.refl _ _⟩
        case round =>
          obtain ⟨k, rfl, hk, hbk⟩ := hrel
          have HBK := hide hbk
          clear hbk
          obtain ⟨wb, hwb⟩ : ∃ x, x = wr := ⟨_, rfl⟩
          rw [← hwb] at HBK ⊢
          clear hwb
          have HB2b : Hid (Below w2.heap.size w2 wb) := HB26.out.trans (HBK.out.mono HB26.out.size)
          by_cases hlk : k < m
          · have hki : (k : Int) < (m : Int) := by omega
            obtain ⟨q, hq9, b2, o2, c2, hqe, hqm, hqx⟩ := HRX.out k hlk
            have hqn := HRN.out q hqm
            obtain ⟨t, ht⟩ : ∃ t, q.length = t + 1 := ⟨q.length - 1, by have := List.length_pos_iff.2 hqn.1; omega⟩
            have htl : t < q.length := by omega
            obtain ⟨tb, htb, etb⟩ := HC.out.cover hqm (List.getElem_mem htl)
            have HTB := hide htb
            have HE1 : Hid (txB tb ∈ rows[k]) := by unfold Hid; rw [← hqe, ← etb]; exact List.getElem_mem htl
            have HQX : Hid (∀ W, Below w2.heap.size w2 W → W.cell? ⟨g, k, none⟩ = some (.slice (some ⟨b2, o2, none⟩) (t + 1) c2) ∧ W.cell? ⟨b2, o2 + t, none⟩ = some (.string (txB tb))) := fun W hb => by
              obtain ⟨h1, h2⟩ := hqx W hb
              rw [ht] at h1
              refine ⟨h1, ?_⟩
              rw [← etb]
              exact h2 t htl
            have ht9 : t ≤ 100 := by omega
            have HPB : Hid (∀ W, Calls Tryz.prog 21 #[.string (txB tb)] W fun e w' => (∃ a c, e = .returned (.tuple #[.agg #[.string tb.name, .slice a tb.args.length c], .int .i64 0]) ∧ Sl w' (fun b => W.heap.size ≤ b) a tb.args) ∧ Below W.heap.size W w') := fun W => parseK_any (HIN.out tb htb).2.1 (by have := (HIN.out tb htb).1; omega) W
            clear hqx hqe hqm htb etb hqn
            go_upto_region 27 with fail
            go_cut [20, 21] (fun v e wc => e = .int .i64 0 ∧ ∃ (P : Nat) (ab : Option Addr) (cb : Nat), v = .pointer (some ⟨P, 0, none⟩) ∧ Blk wc P #[.string tb.name, .slice ab tb.args.length cb] 25 ∧ Sl wc (fun _ => True) ab tb.args ∧ Below wb.heap.size wb wc)
            case first =>
              have HBd : Hid (Below wb.heap.size wb wb.drew) := (Below.refl _ _).drew
              have HST : Hid (∀ W, Below wb.heap.size wb W → (fun w' : World => w'.cell? ⟨g, k, none⟩ = some (.slice (some ⟨b2, o2, none⟩) (t + 1) c2) ∧ w'.cell? ⟨b2, o2 + t, none⟩ = some (.string (txB tb))) W) := fun W hb => HQX.out W (HB2b.out.trans (hb.mono HB2b.out.size))
              have HWT : Hid (IntKind.i64.wrap ((t : Int) + 1 - 1) = (t : Int)) := by unfold Hid; rw [IntKind.wrap_i64] <;> omega
              have HWU : Hid (IntKind.i64.wrap (t : Int) = (t : Int)) := by unfold Hid; rw [IntKind.wrap_i64] <;> omega
              have htt : (t : Int) < (t : Int) + 1 := by omega
              have ht0 : (0 : Int) ≤ (t : Int) := by omega
              refine wp_region_held_drew (S := fun W => (fun w' : World => w'.cell? ⟨g, k, none⟩ = some (.slice (some ⟨b2, o2, none⟩) (t + 1) c2) ∧ w'.cell? ⟨b2, o2 + t, none⟩ = some (.string (txB tb))) W) (by kernel_rfl) (HST.out _ HBd.out) (fun hHeld => ?_)
              generalize wb.drew = wd at *
              refine wpAnyH_take (i := 0) (v := ?_) rfl (by kernel_rfl) (by kernel_rfl) (by kernel_rfl) (fun _ _ _ h => h) (Or.inl ⟨by rfl, ?_⟩) (by assumption) ?_
              rotate_left
              · intro w' hSw
                go_simp <;> with_reducible rfl
              try simp only [Act.put, List.setIfInBounds_toArray, List.set_cons_zero, List.set_cons_succ, List.getElem_toArray, List.getElem_cons_succ, List.getElem_cons_zero]
              refine wpAnyH_take (i := 1) (v := ?_) rfl (by kernel_rfl) (by kernel_rfl) (by kernel_rfl) (fun _ _ _ h => h) (Or.inl ⟨by rfl, ?_⟩) (by assumption) ?_
              rotate_left
              · intro w' hSw
                go_simp <;> with_reducible rfl
              try simp only [Act.put, List.setIfInBounds_toArray, List.set_cons_zero, List.set_cons_succ, List.getElem_toArray, List.getElem_cons_succ, List.getElem_cons_zero]
              refine wpAnyH_take (i := 2) (v := ?_) rfl (by kernel_rfl) (by kernel_rfl) (by kernel_rfl) (fun _ _ _ h => h) (Or.inl ⟨by rfl, ?_⟩) (by assumption) ?_
              rotate_left
              · intro w' hSw
                go_simp <;> with_reducible rfl
              try simp only [Act.put, List.setIfInBounds_toArray, List.set_cons_zero, List.set_cons_succ, List.getElem_toArray, List.getElem_cons_succ, List.getElem_cons_zero]
              refine wpAnyH_take (i := 3) (v := ?_) rfl (by kernel_rfl) (by kernel_rfl) (by kernel_rfl) (fun _ _ _ h => h) (Or.inl ⟨by rfl, ?_⟩) (by assumption) ?_
              rotate_left
              · intro w' hSw
                obtain ⟨z0, z1⟩ := hSw
                go_simp <;> with_reducible rfl
              try simp only [Act.put, List.setIfInBounds_toArray, List.set_cons_zero, List.set_cons_succ, List.getElem_toArray, List.getElem_cons_succ, List.getElem_cons_zero]
              refine wpAnyH_take (i := 4) (v := ?_) rfl (by kernel_rfl) (by kernel_rfl) (by kernel_rfl) (fun _ _ _ h => h) (Or.inl ⟨by rfl, ?_⟩) (by assumption) ?_
              rotate_left
              · intro w' hSw
                go_simp <;> with_reducible rfl
              try simp only [Act.put, List.setIfInBounds_toArray, List.set_cons_zero, List.set_cons_succ, List.getElem_toArray, List.getElem_cons_succ, List.getElem_cons_zero]
              refine wpAnyH_take (i := 5) (v := ?_) rfl (by kernel_rfl) (by kernel_rfl) (by kernel_rfl) (fun _ _ _ h => h) (Or.inl ⟨by rfl, ?_⟩) (by assumption) ?_
              rotate_left
              · intro w' hSw
                go_simp <;> with_reducible rfl
              try simp only [Act.put, List.setIfInBounds_toArray, List.set_cons_zero, List.set_cons_succ, List.getElem_toArray, List.getElem_cons_succ, List.getElem_cons_zero]
              refine wpAnyH_take (i := 6) (v := ?_) rfl (by kernel_rfl) (by kernel_rfl) (by kernel_rfl) (fun _ _ _ h => h) (Or.inl ⟨by rfl, ?_⟩) (by assumption) ?_
              rotate_left
              · intro w' hSw
                go_simp <;> with_reducible rfl
              try simp only [Act.put, List.setIfInBounds_toArray, List.set_cons_zero, List.set_cons_succ, List.getElem_toArray, List.getElem_cons_succ, List.getElem_cons_zero]
              refine wpAnyH_take (i := 7) (v := ?_) rfl (by kernel_rfl) (by kernel_rfl) (by kernel_rfl) (fun _ _ _ h => h) (Or.inl ⟨by rfl, ?_⟩) (by assumption) ?_
              rotate_left
              · intro w' hSw
                obtain ⟨z0, z1⟩ := hSw
                go_simp <;> with_reducible rfl
              try simp only [Act.put, List.setIfInBounds_toArray, List.set_cons_zero, List.set_cons_succ, List.getElem_toArray, List.getElem_cons_succ, List.getElem_cons_zero]
              refine wpAnyH_take (i := 8) (v := ?_) rfl (by kernel_rfl) (by kernel_rfl) (by kernel_rfl) (fun _ _ _ h => h) (Or.inl ⟨by rfl, ?_⟩) (by assumption) ?_
              rotate_left
              · intro w' hSw
                go_simp <;> with_reducible rfl
              try simp only [Act.put, List.setIfInBounds_toArray, List.set_cons_zero, List.set_cons_succ, List.getElem_toArray, List.getElem_cons_succ, List.getElem_cons_zero]
              refine wpAnyH_take (i := 9) (v := ?_) rfl (by kernel_rfl) (by kernel_rfl) (by kernel_rfl) (fun _ _ _ h => h) (Or.inl ⟨by rfl, ?_⟩) (by assumption) ?_
              rotate_left
              · intro w' hSw
                have hw1 := HWT.out
                have hw2 := HWU.out
                go_simp <;> with_reducible rfl
              try simp only [Act.put, List.setIfInBounds_toArray, List.set_cons_zero, List.set_cons_succ, List.getElem_toArray, List.getElem_cons_succ, List.getElem_cons_zero]
              refine wpAnyH_take (i := 10) (v := ?_) rfl (by kernel_rfl) (by kernel_rfl) (by kernel_rfl) (fun _ _ _ h => h) (Or.inl ⟨by rfl, ?_⟩) (by assumption) ?_
              rotate_left
              · intro w' hSw
                go_simp <;> with_reducible rfl
              try simp only [Act.put, List.setIfInBounds_toArray, List.set_cons_zero, List.set_cons_succ, List.getElem_toArray, List.getElem_cons_succ, List.getElem_cons_zero]
              refine wpAnyH_take (i := 11) (v := ?_) rfl (by kernel_rfl) (by kernel_rfl) (by kernel_rfl) (fun _ _ _ h => h) (Or.inl ⟨by rfl, ?_⟩) (by assumption) ?_
              rotate_left
              · intro w' hSw
                obtain ⟨z0, z1⟩ := hSw
                go_simp <;> with_reducible rfl
              try simp only [Act.put, List.setIfInBounds_toArray, List.set_cons_zero, List.set_cons_succ, List.getElem_toArray, List.getElem_cons_succ, List.getElem_cons_zero]
              refine wpAnyH_ready (rs := [12, 16]) (by kernel_rfl) (by simp) ?_
              refine AllReadyH.cons rfl (fun K hK => ?_) (AllReadyH.cons rfl (fun K hK => ?_) AllReadyH.nil)
              · go_simp
                go_at_call 21
                refine (HPB.out wd).mono ?_
                rintro e wC ⟨⟨ab, cb, rfl, hsb⟩, hbC⟩
                have HBC := hide (HBd.out.trans (hbC.mono HBd.out.size))
                have HSBr := hide hsb
                clear hsb
                go_simp
                refine hK.out _ _ (by exact (HST.out _ HBC.out)) (fun hHeld => ?_)
                clear hK K
                try simp only [Act.put, List.setIfInBounds_toArray, List.set_cons_zero, List.set_cons_succ, List.getElem_toArray, List.getElem_cons_succ, List.getElem_cons_zero]
                clear hbC
                refine wpAnyH_take (i := 13) (v := ?_) rfl (by kernel_rfl) (by kernel_rfl) (by kernel_rfl) (fun _ _ _ h => h) (Or.inl ⟨by rfl, ?_⟩) (by assumption) ?_
                rotate_left
                · intro w' hSw
                  go_simp <;> with_reducible rfl
                try simp only [Act.put, List.setIfInBounds_toArray, List.set_cons_zero, List.set_cons_succ, List.getElem_toArray, List.getElem_cons_succ, List.getElem_cons_zero]
                refine wpAnyH_take (i := 14) (v := ?_) rfl (by kernel_rfl) (by kernel_rfl) (by kernel_rfl) (fun _ _ _ h => h) (Or.inl ⟨by rfl, ?_⟩) (by assumption) ?_
                rotate_left
                · intro w' hSw
                  go_simp <;> with_reducible rfl
                try simp only [Act.put, List.setIfInBounds_toArray, List.set_cons_zero, List.set_cons_succ, List.getElem_toArray, List.getElem_cons_succ, List.getElem_cons_zero]
                refine wpAnyH_take (i := 15) (v := ?_) rfl (by kernel_rfl) (by kernel_rfl) (by kernel_rfl) (fun _ _ _ h => h) (Or.inl ⟨by rfl, ?_⟩) (by assumption) ?_
                rotate_left
                · intro w' hSw
                  go_simp <;> with_reducible rfl
                try simp only [Act.put, List.setIfInBounds_toArray, List.set_cons_zero, List.set_cons_succ, List.getElem_toArray, List.getElem_cons_succ, List.getElem_cons_zero]
                have HN : Hid (Blk (wC.alloc (.cells #[.string ⟨#[]⟩, .slice none 0 0] 25)) wC.heap.size #[.string ⟨#[]⟩, .slice none 0 0] 25) := Blk.new wC _ _
                have HB1 : Hid (Below wb.heap.size wb (wC.alloc (.cells #[.string ⟨#[]⟩, .slice none 0 0] 25))) := HBC.out.alloc HBC.out.size _
                have HB2x : Hid (Below wb.heap.size wb (wC.alloc (.cells #[.string tb.name, .slice ab tb.args.length cb] 25))) := HBC.out.alloc HBC.out.size _
                have HPX : Hid (Blk (wC.alloc (.cells #[.string tb.name, .slice ab tb.args.length cb] 25)) wC.heap.size #[.string tb.name, .slice ab tb.args.length cb] 25) := Blk.new wC _ _
                have HSX : Hid (Sl (wC.alloc (.cells #[.string tb.name, .slice ab tb.args.length cb] 25)) (fun _ => True) ab tb.args) := (HSBr.out.later ((Below.refl wC.heap.size wC).alloc (Nat.le_refl _) _)).mono fun _ _ _ => trivial
                have n0 := HN.out.cell 0
                have n1 := HN.out.cell 1
                have nf := HN.out.frozen
                have nl := HN.out.lt
                refine wpAnyH_ready (rs := [16]) (by kernel_rfl) (by simp) ?_
                refine AllReadyH.cons rfl (fun K hK => ?_) AllReadyH.nil
                go_simp
                refine hK.out _ _ (by exact (HST.out _ HB1.out)) (fun hHeld => ?_)
                clear hK K
                try simp only [Act.put, List.setIfInBounds_toArray, List.set_cons_zero, List.set_cons_succ, List.getElem_toArray, List.getElem_cons_succ, List.getElem_cons_zero]
                refine wpAnyH_ready (rs := [17]) (by kernel_rfl) (by simp) ?_
                refine AllReadyH.cons rfl (fun K hK => ?_) AllReadyH.nil
                go_simp
                refine hK.out _ _ (by exact (HST.out _ HB2x.out)) (fun hHeld => ?_)
                clear hK K
                try simp only [Act.put, List.setIfInBounds_toArray, List.set_cons_zero, List.set_cons_succ, List.getElem_toArray, List.getElem_cons_succ, List.getElem_cons_zero]
                refine wpAnyH_take (i := 18) (v := ?_) rfl (by kernel_rfl) (by kernel_rfl) (by kernel_rfl) (fun _ _ _ h => h) (Or.inl ⟨by rfl, ?_⟩) (by assumption) ?_
                rotate_left
                · intro w' hSw
                  go_simp <;> with_reducible rfl
                try simp only [Act.put, List.setIfInBounds_toArray, List.set_cons_zero, List.set_cons_succ, List.getElem_toArray, List.getElem_cons_succ, List.getElem_cons_zero]
                refine wpAnyH_done (by kernel_rfl) ?_ _
                clear hHeld n0 n1 nf nl
                go_wp2_with fail
                go_meet
                exact ⟨rfl, _, ab, cb, rfl, HPX.out, HSX.out, HB2x.out⟩
              · have HB1 : Hid (Below wb.heap.size wb (wd.alloc (.cells #[.string ⟨#[]⟩, .slice none 0 0] 25))) := HBd.out.alloc HBd.out.size _
                have HN0 : Hid (Blk (wd.alloc (.cells #[.string ⟨#[]⟩, .slice none 0 0] 25)) wd.heap.size #[.string ⟨#[]⟩, .slice none 0 0] 25) := Blk.new wd _ _
                go_simp
                refine hK.out _ _ (by exact (HST.out _ HB1.out)) (fun hHeld => ?_)
                clear hK K
                try simp only [Act.put, List.setIfInBounds_toArray, List.set_cons_zero, List.set_cons_succ, List.getElem_toArray, List.getElem_cons_succ, List.getElem_cons_zero]
                generalize hwd1 : wd.alloc (.cells #[.string ⟨#[]⟩, .slice none 0 0] 25) = wd1 at *
                clear hwd1
                have hPl : wb.heap.size ≤ wd.heap.size := HBd.out.size
                refine wpAnyH_ready (rs := [12]) (by kernel_rfl) (by simp) ?_
                refine AllReadyH.cons rfl (fun K hK => ?_) AllReadyH.nil
                go_simp
                go_at_call 21
                refine (HPB.out wd1).mono ?_
                rintro e wC ⟨⟨ab, cb, rfl, hsb⟩, hbC⟩
                have HBC := hide (HB1.out.trans (hbC.mono HB1.out.size))
                have HSBr := hide hsb
                clear hsb
                go_simp
                refine hK.out _ _ (by exact (HST.out _ HBC.out)) (fun hHeld => ?_)
                clear hK K
                try simp only [Act.put, List.setIfInBounds_toArray, List.set_cons_zero, List.set_cons_succ, List.getElem_toArray, List.getElem_cons_succ, List.getElem_cons_zero]
                have HN : Hid (Blk wC wd.heap.size #[.string ⟨#[]⟩, .slice none 0 0] 25) := HN0.out.below hbC HN0.out.lt
                clear hbC
                refine wpAnyH_take (i := 13) (v := ?_) rfl (by kernel_rfl) (by kernel_rfl) (by kernel_rfl) (fun _ _ _ h => h) (Or.inl ⟨by rfl, ?_⟩) (by assumption) ?_
                rotate_left
                · intro w' hSw
                  go_simp <;> with_reducible rfl
                try simp only [Act.put, List.setIfInBounds_toArray, List.set_cons_zero, List.set_cons_succ, List.getElem_toArray, List.getElem_cons_succ, List.getElem_cons_zero]
                refine wpAnyH_take (i := 14) (v := ?_) rfl (by kernel_rfl) (by kernel_rfl) (by kernel_rfl) (fun _ _ _ h => h) (Or.inl ⟨by rfl, ?_⟩) (by assumption) ?_
                rotate_left
                · intro w' hSw
                  go_simp <;> with_reducible rfl
                try simp only [Act.put, List.setIfInBounds_toArray, List.set_cons_zero, List.set_cons_succ, List.getElem_toArray, List.getElem_cons_succ, List.getElem_cons_zero]
                refine wpAnyH_take (i := 15) (v := ?_) rfl (by kernel_rfl) (by kernel_rfl) (by kernel_rfl) (fun _ _ _ h => h) (Or.inl ⟨by rfl, ?_⟩) (by assumption) ?_
                rotate_left
                · intro w' hSw
                  go_simp <;> with_reducible rfl
                try simp only [Act.put, List.setIfInBounds_toArray, List.set_cons_zero, List.set_cons_succ, List.getElem_toArray, List.getElem_cons_succ, List.getElem_cons_zero]
                have HB2x : Hid (Below wb.heap.size wb ((wC.setCell ⟨wd.heap.size, 0, none⟩ (.string tb.name)).setCell ⟨wd.heap.size, 1, none⟩ (.slice ab tb.args.length cb))) := (HBC.out.setCell (p := ⟨wd.heap.size, 0, none⟩) hPl _).setCell (p := ⟨wd.heap.size, 1, none⟩) hPl _
                have HPX : Hid (Blk ((wC.setCell ⟨wd.heap.size, 0, none⟩ (.string tb.name)).setCell ⟨wd.heap.size, 1, none⟩ (.slice ab tb.args.length cb)) wd.heap.size #[.string tb.name, .slice ab tb.args.length cb] 25) := by
                  unfold Hid
                  have h := (HN.out.set 0 (.string tb.name)).set 1 (.slice ab tb.args.length cb)
                  simpa using h
                have HSX : Hid (Sl ((wC.setCell ⟨wd.heap.size, 0, none⟩ (.string tb.name)).setCell ⟨wd.heap.size, 1, none⟩ (.slice ab tb.args.length cb)) (fun _ => True) ab tb.args) := (HSBr.out.kept fun b hb => by rw [Below.heap_setCell _ _ _ _ (by have := HN0.out.lt; simp; omega), Below.heap_setCell _ _ _ _ (by have := HN0.out.lt; simp; omega)]).mono fun _ _ _ => trivial
                have n0 := HN.out.cell 0
                have n1 := HN.out.cell 1
                have nf := HN.out.frozen
                have nl := HN.out.lt
                refine wpAnyH_ready (rs := [17]) (by kernel_rfl) (by simp) ?_
                refine AllReadyH.cons rfl (fun K hK => ?_) AllReadyH.nil
                go_simp
                refine hK.out _ _ (by exact (HST.out _ HB2x.out)) (fun hHeld => ?_)
                clear hK K
                try simp only [Act.put, List.setIfInBounds_toArray, List.set_cons_zero, List.set_cons_succ, List.getElem_toArray, List.getElem_cons_succ, List.getElem_cons_zero]
                refine wpAnyH_take (i := 18) (v := ?_) rfl (by kernel_rfl) (by kernel_rfl) (by kernel_rfl) (fun _ _ _ h => h) (Or.inl ⟨by rfl, ?_⟩) (by assumption) ?_
                rotate_left
                · intro w' hSw
                  go_simp <;> with_reducible rfl
                try simp only [Act.put, List.setIfInBounds_toArray, List.set_cons_zero, List.set_cons_succ, List.getElem_toArray, List.getElem_cons_succ, List.getElem_cons_zero]
                refine wpAnyH_done (by kernel_rfl) ?_ _
                clear hHeld n0 n1 nf nl
                go_wp2_with fail
                go_meet
                exact ⟨rfl, _, ab, cb, rfl, HPX.out, HSX.out, HB2x.out⟩
            obtain ⟨rfl, Pb, ab, cb, rfl, hpb, hsb, hbc⟩ := hcut
            obtain ⟨we, hwe⟩ : ∃ x, x = wc := ⟨_, rfl⟩
            rw [← hwe] at hpb hsb hbc ⊢
            clear hwe wc
            have HPBk := hide hpb
            have HSB := hide hsb
            have HBE := hide (HBK.out.trans (hbc.mono HBK.out.size))
            clear hpb hsb hbc
            have HB2e : Hid (Below w2.heap.size w2 we) := HB26.out.trans (HBE.out.mono HB26.out.size)
            have HWe : Hid (Below w.heap.size w we) := HB2.out.trans (HB2e.out.mono HB2.out.size)
            have hPA := HA5.out.below HBE.out HA5.out.lt
            have p0 := hPA.cell 0
            have p1 := hPA.cell 1
            have q0 := HPBk.out.cell 0
            have q1 := HPBk.out.cell 1
            simp only [List.getElem?_toArray, List.getElem?_cons_zero, List.getElem?_cons_succ] at p0 p1 q0 q1
            clear hPA
            have HKS := hide (kSame_any ls ta tb _ aa ab ca cb we (fun _ => True) (HQ2.out.later HB2e.out) (HSA.out.later HBE.out) HSB.out (HT.out.on (HWe.out.mono HBT.out)) (Nat.le_trans HBT.out HWe.out.size) (fun _ _ _ => by
              rw [← preL_length, preL_append, List.length_append, preL_length, preL_length]
              have h7 : sizeL [ta, tb] = sizeL [ta] + sizeL [tb] := by obtain ⟨s, l⟩ := ta; obtain ⟨s2, l2⟩ := tb; simp [sizeL]
              have h8 := (HIN.out ta HTA.out).1
              have h9 := (HIN.out tb HTB.out).1
              have h10 := sm_size HSM.out
              have h11 := Nat.mul_le_mul_right (2 * 14) HL1.out.2
              omega))
            go_step
            go_wp2_with fail
            refine HKS.out.mono ?_
            intro e wf hk9
            obtain ⟨hbf, z, rfl, hz, -⟩ := ksm_all hk9
            have hfn := fN_sm HSM.out HTA.out HTB.out
            rw [hfn] at hz ⊢
            have HZ : Hid (z = ((i : Int) == (k : Int))) := by
              unfold Hid
              rw [Bool.eq_iff_iff, hz rfl, beq_iff_eq, Cg.iff (sm_two HTA.out HTB.out), HC.out.same HER.out hr9 hq9 HTA.out HTB.out HE0.out HE1.out]
              omega
            have HBF := hide (HBE.out.trans (hbf.mono HBE.out.size))
            have hzz := HZ.out
            subst hzz
            have hnq : ((((i : Int) == (k : Int))) != ((i : Int) == (k : Int))) = false := by cases ((i : Int) == (k : Int)) <;> rfl
            clear hk9 hbf hz hfn HKS p0 p1 q0 q1 HZ
            go_wp2_with fail
            go_roundw
            case rel => exact ⟨k + 1, by go_num, by omega, HBF.out⟩
            case measure => simp [intOf]; omega
          · have hki : ¬ (k : Int) < (m : Int) := by omega
            obtain ⟨k0, k1⟩ := HCX.out wb HB2b.out
            obtain ⟨g9, cap9, w9, hr9', ho9, hb9⟩ := app_rowK (ownsRow_at HOW.out fun g hg => (HB5.out.trans (HBK.out.mono HB5.out.size)).block g (HOW.out.lt g hg).2) HB2b.out.size (by have := HA9.out; omega) hrn.1 (by omega) k1 (c := c1)
            have HR9 := hide hr9'
            have HTK : Hid ((rows.take (i + 1)).flatten = A ++ r) := by
              unfold Hid
              rw [HA.out, List.take_succ_eq_append_getElem hr9, List.flatten_append, List.flatten_singleton, HRR.out]
            have HO9 : Hid (w9.ownsRow w2.heap.size 9 1 (.slice (some ⟨g9, 0, none⟩) (A.length + r.length) cap9) (rows.take (i + 1)).flatten.length ((rows.take (i + 1)).flatten.map Value.string)) := by unfold Hid; rw [HTK.out]; exact ho9
            have HL9 : Hid ((rows.take (i + 1)).flatten.length ≤ (i + 1) * 100) := by unfold Hid; rw [HTK.out, List.length_append]; have := hrn.2; omega
            have HB9 : Hid (Below w2.heap.size w2 w9) := HB2b.out.trans hb9
            clear hr9' ho9 hb9 k1
            go_wp2_with (at_builtin; refine wpList_append_eq rfl _ _ _ _ rfl rfl rfl HR9.out ?_)
            go_roundw
            case rel => exact ⟨i + 1, by go_num, by omega, HO9.out, HL9.out, HB9.out⟩
            case measure => simp [intOf]; omega
      · have hii : ¬ (i : Int) < (m : Int) := by omega
        have HAE : Hid (A = rows.flatten) := by unfold Hid; rw [HA.out, List.take_of_length_le (by have := HRL.out; omega)]
        have HOE : Hid (wa.ownsRow w2.heap.size 9 1 (.slice aa9 A.length ac9) rows.flatten.length (rows.flatten.map Value.string)) := by unfold Hid; rw [← HAE.out]; exact HOW.out
        have HLE : Hid (rows.flatten.length ≤ 10000) := by unfold Hid; rw [← HAE.out]; have := Nat.mul_le_mul_right 100 hi; omega
        go_wp2_with fail
        go_meet
        exact ⟨HOE.out, HLE.out, HBR.out⟩
  obtain ⟨hown, hfl, hb10⟩ := hcut
  obtain ⟨w10, hw10⟩ : ∃ x, x = wc := ⟨_, rfl⟩
  rw [← hw10] at hown hb10 ⊢
  clear hw10 wc
  have HOW := hide hown
  have HB10 := hide hb10
  obtain ⟨aa9, ac9, ea9⟩ := own_shapeH hown
  subst ea9
  clear hown hb10
  have HND : Hid (rows.flatten.Nodup) := HC.out.nodup HER.out
  have HAL : Hid (∀ t, t ∈ preL (prT ls) → inB (txB t) rows.flatten = true) := fun t ht => by
    obtain ⟨r, hr, h1⟩ := HC.out.all t ht
    exact inB_mem8.2 (List.mem_flatten.2 ⟨r, hr, h1⟩)
  obtain ⟨A, hA⟩ : ∃ A, A = rows.flatten := ⟨_, rfl⟩
  rw [← hA] at HOW hfl HND HAL ⊢
  clear hA
  have HLV : Hid (LV Value.string w10 (fun _ => True) (.slice aa9 A.length ac9) A) := (LV.of_own HOW.out).mono fun _ _ _ => trivial
  go_step
  go_step
  go_cut [] (fun wd => Below w10.heap.size w10 wd)
  case first =>
    go_wp2_with fail
    go_loopw [24] (fun iv wr => T3I A.length w10 iv wr) (fun iv wr => A.length - (intOf iv).toNat)
    case atStart => exact ⟨0, rfl, Nat.zero_le _, Below.refl _ _⟩
    case round =>
      obtain ⟨i, rfl, hi, hbr⟩ := hrel
      have HBR := hide hbr
      clear hbr
      obtain ⟨wa, hwa⟩ : ∃ x, x = wr := ⟨_, rfl⟩
      rw [← hwa] at HBR ⊢
      clear hwa
      by_cases hli : i < A.length
      · have hii : (i : Int) < (A.length : Int) := by omega
        obtain ⟨a8, c8, e8, ⟨hmx, hcp⟩, h8⟩ := HLV.out
        cases e8
        obtain ⟨b8, o8, eb8, -, hcc⟩ := h8.resolve_left (fun h => by rw [h] at hli; exact absurd hli (Nat.not_lt_zero _))
        subst eb8
        have d0 := hcc i hli
        have hbl := World.block_lt_of_cell? w10 _ d0
        have HST : Hid (∀ W, Below w10.heap.size w10 W → W.cell? ⟨b8, o8 + i, none⟩ = some (.string A[i])) := fun W hb => (hb.cell (p := ⟨b8, o8 + i, none⟩) hbl).trans d0
        have HLT : Hid (∀ W, Below w10.heap.size w10 W → LV Value.string W (fun _ => True) (.slice (some ⟨b8, o8, none⟩) i ac9) (A.take i)) := fun W hb => by
          refine ⟨some ⟨b8, o8, none⟩, ac9, by rw [List.length_take, Nat.min_eq_left (by omega)], ⟨by rw [List.length_take]; omega, by rw [List.length_take]; omega⟩, Or.inr ⟨b8, o8, rfl, trivial, fun j hj => ?_⟩⟩
          have hj2 : j < i := by simp at hj; omega
          rw [List.getElem_take]
          exact (hb.cell (p := ⟨b8, o8 + j, none⟩) (World.block_lt_of_cell? w10 _ (hcc j (by omega)))).trans (hcc j (by omega))
        have HNI : Hid (inB A[i] (A.take i) = false) := by
          unfold Hid
          rw [Bool.eq_false_iff]
          intro h
          obtain ⟨j, hj, ej⟩ := List.mem_take_iff_getElem.1 (inB_mem8.1 h)
          exact List.pairwise_iff_getElem.1 (List.nodup_iff_pairwise_ne.1 HND.out) j i (by omega) hli (by omega) ej
        have hic : (i : Int) ≤ (ac9 : Int) := by omega
        have hi0 : (0 : Int) ≤ (i : Int) := by omega
        generalize A[i] = s at *
        clear hcc d0 hbl h8
        go_upto_region 35 with fail
        have HBd : Hid (Below w10.heap.size w10 wa.drew) := HBR.out.drew
        refine wp_region_held_drew (S := fun W : World => W.cell? ⟨b8, o8 + i, none⟩ = some (.string s)) (by kernel_rfl) (HST.out _ HBd.out) (fun hHeld => ?_)
        generalize wa.drew = wb at *
        refine wpAnyH_take (i := 0) (v := ?_) rfl (by kernel_rfl) (by kernel_rfl) (by kernel_rfl) (fun _ _ _ h => h) (Or.inl ⟨by rfl, ?_⟩) (by assumption) ?_
        rotate_left
        · intro w' hSw
          go_simp <;> with_reducible rfl
        try simp only [Act.put, List.setIfInBounds_toArray, List.set_cons_zero, List.set_cons_succ, List.getElem_toArray, List.getElem_cons_succ, List.getElem_cons_zero]
        refine wpAnyH_take (i := 1) (v := ?_) rfl (by kernel_rfl) (by kernel_rfl) (by kernel_rfl) (fun _ _ _ h => h) (Or.inl ⟨by rfl, ?_⟩) (by assumption) ?_
        rotate_left
        · intro w' hSw
          go_simp <;> with_reducible rfl
        try simp only [Act.put, List.setIfInBounds_toArray, List.set_cons_zero, List.set_cons_succ, List.getElem_toArray, List.getElem_cons_succ, List.getElem_cons_zero]
        refine wpAnyH_take (i := 2) (v := ?_) rfl (by kernel_rfl) (by kernel_rfl) (by kernel_rfl) (fun _ _ _ h => h) (Or.inl ⟨by rfl, ?_⟩) (by assumption) ?_
        rotate_left
        · intro w' hSw
          go_simp <;> with_reducible rfl
        try simp only [Act.put, List.setIfInBounds_toArray, List.set_cons_zero, List.set_cons_succ, List.getElem_toArray, List.getElem_cons_succ, List.getElem_cons_zero]
        refine wpAnyH_take (i := 3) (v := ?_) rfl (by kernel_rfl) (by kernel_rfl) (by kernel_rfl) (fun _ _ _ h => h) (Or.inl ⟨by rfl, ?_⟩) (by assumption) ?_
        rotate_left
        · intro w' hSw
          have z0 : w'.cell? ⟨b8, o8 + i, none⟩ = some (.string s) := hSw
          go_simp <;> with_reducible rfl
        try simp only [Act.put, List.setIfInBounds_toArray, List.set_cons_zero, List.set_cons_succ, List.getElem_toArray, List.getElem_cons_succ, List.getElem_cons_zero]
        refine wpAnyH_take (i := 4) (v := ?_) rfl (by kernel_rfl) (by kernel_rfl) (by kernel_rfl) (fun _ _ _ h => h) (Or.inl ⟨by rfl, ?_⟩) (by assumption) ?_
        rotate_left
        · intro w' hSw
          go_simp <;> with_reducible rfl
        try simp only [Act.put, List.setIfInBounds_toArray, List.set_cons_zero, List.set_cons_succ, List.getElem_toArray, List.getElem_cons_succ, List.getElem_cons_zero]
        refine wpAnyH_take (i := 5) (v := ?_) rfl (by kernel_rfl) (by kernel_rfl) (by kernel_rfl) (fun _ _ _ h => h) (Or.inl ⟨by rfl, ?_⟩) (by assumption) ?_
        rotate_left
        · intro w' hSw
          go_simp <;> with_reducible rfl
        try simp only [Act.put, List.setIfInBounds_toArray, List.set_cons_zero, List.set_cons_succ, List.getElem_toArray, List.getElem_cons_succ, List.getElem_cons_zero]
        refine wpAnyH_take (i := 6) (v := ?_) rfl (by kernel_rfl) (by kernel_rfl) (by kernel_rfl) (fun _ _ _ h => h) (Or.inl ⟨by rfl, ?_⟩) (by assumption) ?_
        rotate_left
        · intro w' hSw
          go_simp <;> with_reducible rfl
        try simp only [Act.put, List.setIfInBounds_toArray, List.set_cons_zero, List.set_cons_succ, List.getElem_toArray, List.getElem_cons_succ, List.getElem_cons_zero]
        refine wpAnyH_ready (rs := [7]) (by kernel_rfl) (by simp) ?_
        refine AllReadyH.cons rfl (fun K hK => ?_) AllReadyH.nil
        go_simp
        go_at_call 22
        refine (in_any s (A.take i) _ wb _ (HLT.out _ HBd.out)).mono ?_
        rintro e w9 ⟨rfl, hw9⟩
        rw [hw9, HNI.out]
        clear hw9 w9
        go_simp
        refine hK.out _ _ (by exact (HST.out _ HBd.out)) (fun hHeld => ?_)
        clear hK K
        try simp only [Act.put, List.setIfInBounds_toArray, List.set_cons_zero, List.set_cons_succ, List.getElem_toArray, List.getElem_cons_succ, List.getElem_cons_zero]
        refine wpAnyH_done (by kernel_rfl) ?_ _
        clear hHeld
        go_wp2_with fail
        go_roundw
        case rel => exact ⟨i + 1, by go_num, by omega, HBd.out⟩
        case measure => simp [intOf]; omega
      · have hii : ¬ (i : Int) < (A.length : Int) := by omega
        go_wp2_with fail
        go_meet
        exact HBR.out
  have HB11 := hide hcut
  obtain ⟨w11, hw11⟩ : ∃ x, x = wc := ⟨_, rfl⟩
  rw [← hw11] at HB11 ⊢
  clear hw11 hcut wc
  have HL11 := hide (HLV.out.later HB11.out)
  have HB211 : Hid (Below w2.heap.size w2 w11) := HB10.out.trans (HB11.out.mono HB10.out.size)
  have HQ11 := hide (HQ2.out.later HB211.out)
  go_step
  go_wp2_with fail
  go_loopw [25] (fun iv wr => T3I ls.length w11 iv wr) (fun iv wr => ls.length - (intOf iv).toNat)
  case atStart => exact ⟨0, rfl, Nat.zero_le _, Below.refl _ _⟩
  case round =>
    obtain ⟨i, rfl, hi, hbr⟩ := hrel
    have HBR := hide hbr
    clear hbr
    obtain ⟨wa, hwa⟩ : ∃ x, x = wr := ⟨_, rfl⟩
    rw [← hwa] at HBR ⊢
    clear hwa
    by_cases hli : i < ls.length
    · have hii : (i : Int) < (ls.length : Int) := by omega
      obtain ⟨b, o, a1, c1, a2, c2, eb, d0, d1, d2, d3, s1, s2⟩ := (HQ11.out.later HBR.out).get i hli
      subst eb
      have h9 := prT_mem (List.getElem_mem hli)
      have HI1 := hide (HAL.out _ (mem_preKm h9.1))
      have HI2 := hide (HAL.out _ (mem_preKm h9.2))
      have HZ1 := hide (HIN.out _ (mem_preKm h9.1))
      have HZ2 := hide (HIN.out _ (mem_preKm h9.2))
      generalize ls[i] = p at *
      have HS1 := hide s1
      have HS2 := hide s2
      clear s1 s2 h9
      go_wp2_with fail
      refine (show_any p.l _ wa _ ⟨a1, c1, rfl, HS1.out⟩ (txk_may HZ1.out.2.1 HZ1.out.1)).mono ?_
      rintro e wb ⟨rfl, hbb⟩
      rw [show (⟨(txtL [p.l]).toArray⟩ : ByteArray) = txB p.l from rfl]
      have HBB := hide hbb
      have HBW := hide (HBR.out.trans (hbb.mono HBR.out.size))
      have hbl : b < wa.heap.size := World.block_lt_of_cell? wa _ d0
      have e0 := (hbb.cell (p := ⟨b, o + i * 4, none⟩) hbl).trans d0
      have e1 := (hbb.cell (p := ⟨b, o + i * 4 + 1, none⟩) hbl).trans d1
      have e2 := (hbb.cell (p := ⟨b, o + i * 4 + 2, none⟩) hbl).trans d2
      have e3 := (hbb.cell (p := ⟨b, o + i * 4 + 3, none⟩) hbl).trans d3
      clear hbb d0 d1 d2 d3 hbl
      have HI := hide (in_any (txB p.l) A _ wb _ (HL11.out.later HBW.out))
      rw [HI1.out] at HI
      go_wp2_with fail
      refine HI.out.mono ?_
      rintro e w9 ⟨rfl, hw9⟩
      rw [hw9]
      clear hw9 w9 HI
      go_wp2_with fail
      refine (show_any p.r _ wb _ ⟨a2, c2, rfl, HS2.out.later HBB.out⟩ (txk_may HZ2.out.2.1 HZ2.out.1)).mono ?_
      rintro e wc ⟨rfl, hbc⟩
      rw [show (⟨(txtL [p.r]).toArray⟩ : ByteArray) = txB p.r from rfl]
      have HBC := hide (HBW.out.trans (hbc.mono HBW.out.size))
      clear hbc e0 e1 e2 e3
      have HI := hide (in_any (txB p.r) A _ wc _ (HL11.out.later HBC.out))
      rw [HI2.out] at HI
      go_wp2_with fail
      refine HI.out.mono ?_
      rintro e w9 ⟨rfl, hw9⟩
      rw [hw9]
      clear hw9 w9 HI
      go_wp2_with fail
      go_roundw
      case rel => exact ⟨i + 1, by go_num, by omega, HBC.out⟩
      case measure => simp [intOf]; omega
    · have hii : ¬ (i : Int) < (ls.length : Int) := by omega
      have HWE : Hid (Below w.heap.size w wa) := HB2.out.trans ((HB211.out.trans (HBR.out.mono HB211.out.size)).mono HB2.out.size)
      go_wp2_with fail
      go_ret
      exact ⟨rfl, HWE.out⟩
end Go.Proofs.YtdmaijmglblccaaGreatDoor

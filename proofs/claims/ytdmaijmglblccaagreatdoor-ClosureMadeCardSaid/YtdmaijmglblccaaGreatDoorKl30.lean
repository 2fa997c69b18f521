/- Walks: the equations are told (ClosureOf). -/
import Derived.Test.YtdmaijmglblccaaGreatDoorKl29
namespace Go.Proofs.YtdmaijmglblccaaGreatDoor
open Go.RowKit
set_option linter.unusedSimpArgs false
set_option linter.unusedVariables false
set_option maxRecDepth 8000

theorem mem_preK : ∀ {l : List Tm} {x : Tm}, x ∈ l → x ∈ preL l
  | ⟨s, a⟩ :: r, x, h => by
    rw [show preL ((⟨s, a⟩ : Tm) :: r) = ⟨s, a⟩ :: (preL a ++ preL r) by simp [preL]]
    rcases List.mem_cons.1 h with e | e
    · rw [e]; simp
    · have := mem_preK e; simp [this]
theorem pre_argsK (l : List Tm) : ∀ {t x : Tm}, t ∈ preL l → x ∈ t.args → x ∈ preL l := by
  induction l using Tm.indL with
  | h0 => intro t x h; simp [preL] at h
  | h s a r iha ihr =>
    intro t x h hx
    have e : preL ((⟨s, a⟩ : Tm) :: r) = ⟨s, a⟩ :: (preL a ++ preL r) := by simp [preL]
    rw [e] at h ⊢
    rcases List.mem_cons.1 h with rfl | h
    · have := mem_preK hx; simp [this]
    · rcases List.mem_append.1 h with h | h
      · have := iha h hx; simp [this]
      · have := ihr h hx; simp [this]
theorem prT_takeK {ls : List Pr} {i : Nat} (h : i < ls.length) : preL (prT (ls.take (i + 1))) = preL (prT (ls.take i)) ++ preL [ls[i].l] ++ preL [ls[i].r] := by
  rw [List.take_succ_eq_append_getElem h, prT_app, preL_append]
  have : prT [ls[i]] = [ls[i].l] ++ [ls[i].r] := by simp [prT]
  rw [this, preL_append, List.append_assoc]
theorem errL_inK {l : List Tm} (h : errL l = 0) : ∀ x ∈ preL l, errL [x] = 0 := fun x hx => pre_errK l h hx
/-- Some terms are taken in. -/
def A1I (N A T : Nat) (w : World) (ys : Nat → List Tm) (n : Nat) (v : Value) (wr : World) : Prop :=
  ∃ (i : Nat) (L : List Tm) (ov ev : Value), v = .int .i64 (i : Int) ∧ i ≤ n ∧ AdI N A T L (L.map txB) ov ev wr ∧ AdP (ys i) L ∧ Below N w wr
/-- Numbers are given. -/
def A3I (L : List Tm) (M B G n : Nat) (w5 : World) (v : Value) (wr : World) : Prop :=
  ∃ i : Nat, v = .int .i64 (i : Int) ∧ i ≤ n ∧ MapAt wr M (ixK ((L.take i).map txB)) ∧ KdA B G n (List.range i ++ List.replicate (n - i) 0) wr ∧ Below w5.heap.size w5 wr
/-- The equations are told. -/
def A4I (ls : List Pr) (L : List Tm) (B G n : Nat) (w7 : World) (v : Value) (wr : World) : Prop :=
  ∃ (i : Nat) (K : List Nat), v = .int .i64 (i : Int) ∧ i ≤ ls.length ∧ KdA B G n K wr ∧ KdI ls L K ∧ GvK (ls.take i) L K ∧ ExQ (fun b => b = G) w7 wr
theorem rng_set {n i : Nat} (h : i < n) : (List.range i ++ List.replicate (n - i) 0).set i i = List.range (i + 1) ++ List.replicate (n - (i + 1)) 0 := by
  rw [List.set_append_right _ _ (by simp), List.length_range, Nat.sub_self, List.range_succ, List.append_assoc]
  congr 1
  rw [show n - i = (n - (i + 1)) + 1 by omega, List.replicate_succ, List.set_cons_zero]
  rfl
theorem iL_rep (n : Nat) : (iL (List.replicate n 0)).toArray = Array.replicate n (Value.int .i64 0) := by
  apply Array.ext'
  simp [iL]
noncomputable def tailK1 : Code := seqFromK 20 ((Tryz.f27.body).getD .skip)
set_option maxHeartbeats 20000000 in
theorem closK1 (ls : List Pr) (qs L2 : List Tm) (N A T B Gk M n oc ec cu : Nat) (oa ea au : Option Addr) (w wb wq : World) (hU : QV w (fun b => b < w.heap.size) (.slice au ls.length cu) ls) (hNe : N = w.heap.size) (hBK : Below N w wb) (hAK : AdI N A T L2 (L2.map txB) (.slice oa n oc) (.slice ea n ec) wb) (hN : n = L2.length) (hM7 : MapAt wq M (ixK (L2.map txB))) (hK7 : KdA B Gk n (List.range n) wq) (hBR : Below wb.heap.size wb wq) (hND : L2.Nodup) (hME : ∀ x, x ∈ L2 ↔ x ∈ preL (prT ls ++ qs)) (hTN : (L2.map txB).Nodup) (hER : ∀ x ∈ L2, errL [x] = 0) (hSZ : ∀ x ∈ L2, sizeL [x] ≤ 1000) (hCL : ∀ t ∈ L2, ∀ x ∈ t.args, x ∈ L2) (hn9 : n ≤ 900) (hll : ls.length ≤ 900) (hMne : M ≠ Gk) (hGl : wb.heap.size ≤ Gk)
    {s1 s2 s3 s4 s5 s8 s9 s10 s13 s14 s15 s16 s17 s18 s19 s20 s21 s22 s23 s24 s25 s26 s27 s28 s29 s30 s31 s32 s33 s34 s35 s36 s37 s38 s39 s40 s41 s42 s43 s44 s45 s46 s47 s48 s49 s50 s51 s52 s53 s54 s55 s56 s57 s58 s59 s60 s61 s62 s63 s64 s65 s66 s67 s68 s69 s70 s71 s72 s73 s74 s75 s76 s77 s78 s79 s80 s81 s82 s83 s84 s85 s86 s87 s88 s89 s90 s91 s92 s93 s94 s95 s96 s97 s98 s99 s100 s101 s102 s103 s104 s105 s106 s107 s108 s109 s110 s111 s112 s113 s114 s115 s116 s117 s118 s119 s120 s121 s122 s123 s124 s125 s126 s127 s128 s129 s130 s131 s132 s133 s134 s135 s136 s137 s138 s139 s140 s141 s142 s143 s144 s145 s146 s147 s148 s149 s150 s151 s152 s153 s154 s155 s156 s157 s158 s159 s160 s161 s162 s163 s164 s165 s166 s167 s168 s169 s170 s171 s172 s173 s174 s175 s176 s177 s178 s179 s180 s181 s182 s183 s184 s185 s186 s187 s188 s189 s190 s191 s192 s193 s194 s195 s196 s197 s198 s199 s200 s201 s202 s203 s204 s205 s206 s207 s208 s209 s210 s211 s212 s213 s214 s215 s216 s217 s218 s219 s220 s221 s222 s223 s224 s225 s226 s227 s228 s229 : Value} :
    Code.wp Tryz.prog tailK1 (bodyPost Tryz.prog Tryz.f27 fun e w' => ClO ls qs w e w') ⟨List.toArray (.slice au ls.length cu :: s1 :: s2 :: s3 :: s4 :: s5 :: .pointer (some ⟨A, 0, none⟩) :: .pointer (some ⟨T, 0, none⟩) :: s8 :: s9 :: s10 :: .map (some M) :: .pointer (some ⟨B, 0, none⟩) :: s13 :: s14 :: s15 :: s16 :: s17 :: s18 :: s19 :: s20 :: s21 :: s22 :: s23 :: s24 :: s25 :: s26 :: s27 :: s28 :: s29 :: s30 :: s31 :: s32 :: s33 :: s34 :: s35 :: s36 :: s37 :: s38 :: s39 :: s40 :: s41 :: s42 :: s43 :: s44 :: s45 :: s46 :: s47 :: s48 :: s49 :: s50 :: s51 :: s52 :: s53 :: s54 :: s55 :: s56 :: s57 :: s58 :: s59 :: s60 :: s61 :: s62 :: s63 :: s64 :: s65 :: s66 :: s67 :: s68 :: s69 :: s70 :: s71 :: s72 :: s73 :: s74 :: s75 :: s76 :: s77 :: s78 :: s79 :: s80 :: s81 :: s82 :: s83 :: s84 :: s85 :: s86 :: s87 :: s88 :: s89 :: s90 :: s91 :: s92 :: s93 :: s94 :: s95 :: s96 :: s97 :: s98 :: s99 :: s100 :: s101 :: s102 :: s103 :: s104 :: s105 :: s106 :: s107 :: s108 :: s109 :: s110 :: s111 :: s112 :: s113 :: s114 :: s115 :: s116 :: s117 :: s118 :: s119 :: s120 :: s121 :: s122 :: s123 :: s124 :: s125 :: s126 :: s127 :: s128 :: s129 :: s130 :: s131 :: s132 :: s133 :: s134 :: s135 :: s136 :: s137 :: s138 :: s139 :: s140 :: s141 :: s142 :: s143 :: s144 :: s145 :: s146 :: s147 :: s148 :: s149 :: s150 :: s151 :: s152 :: s153 :: s154 :: s155 :: s156 :: s157 :: s158 :: s159 :: s160 :: s161 :: s162 :: s163 :: s164 :: s165 :: s166 :: s167 :: s168 :: s169 :: s170 :: s171 :: s172 :: s173 :: s174 :: s175 :: s176 :: s177 :: s178 :: s179 :: s180 :: s181 :: s182 :: s183 :: s184 :: s185 :: s186 :: s187 :: s188 :: s189 :: s190 :: s191 :: s192 :: s193 :: s194 :: s195 :: s196 :: s197 :: s198 :: s199 :: s200 :: s201 :: s202 :: s203 :: s204 :: s205 :: s206 :: s207 :: s208 :: s209 :: s210 :: s211 :: s212 :: s213 :: s214 :: s215 :: s216 :: s217 :: s218 :: s219 :: s220 :: s221 :: s222 :: s223 :: s224 :: s225 :: s226 :: s227 :: s228 :: s229 :: []), []⟩ wq := by
  conv => arg 2; whnf
  have HU := hide hU
  have HNe := hide hNe
  have HBK := hide hBK
  have HAK := hide hAK
  have HN := hide hN
  have HM7 := hide hM7
  have HK7 := hide hK7
  have HBR3 := hide hBR
  have HND := hide hND
  have HME := hide hME
  have HTN := hide hTN
  have HER := hide hER
  have HSZ := hide hSZ
  have HCL := hide hCL
  have HMne := hide hMne
  have HGl := hide hGl
  clear hU hNe hBK hAK hN hM7 hK7 hBR hND hME hTN hER hSZ hCL hMne hGl
  have HI7 : Hid (KdI ls L2 (List.range n)) := by unfold Hid; rw [HN.out]; exact KdI.start ls L2
  have hmf : ∀ (fn : Fn) (first cap : Array Value) (w : World), (Instr.makeFunc fn first cap).run Tryz.prog w = .ok (.func fn first cap) w := fun _ _ _ _ => rfl
  go_step
  go_step
  go_cut [14] (fun v wc => v = .func (.func 44) #[] #[.pointer (some ⟨B, 0, none⟩)] ∧ wc = wq)
  case first =>
    go_wp2_with fail
    go_meet
    exact ⟨rfl, rfl⟩
  obtain ⟨rfl, hwc⟩ := hcut
  rw [hwc]
  clear hwc wc hmf
  go_step
  go_step
  have HNG : Hid (N ≤ Gk) := by have := HBK.out.size; have := HNe.out; have := HGl.out; unfold Hid; omega
  go_cut [] (fun wd => ∃ K, KdA B Gk n K wd ∧ KdI ls L2 K ∧ GvK ls L2 K ∧ ExQ (fun b => b = Gk) wq wd)
  case first =>
    go_wp2_with fail
    go_loopw [15] (fun v wr => A4I ls L2 B Gk n wq v wr) (fun v wr => ls.length - (intOf v).toNat)
    case atStart => exact ⟨0, _, rfl, Nat.zero_le _, HK7.out, HI7.out, (fun p hp => by simp at hp), ExQ.refl _ _⟩
    case round =>
      obtain ⟨i4, K4, rfl, hi4, hk4, hi4', hg4, hx4⟩ := hrel
      have HK4 := hide hk4
      have HI4 := hide hi4'
      have HG4 := hide hg4
      have HX4 := hide hx4
      clear hk4 hi4' hg4 hx4
      obtain ⟨wd0, hwd⟩ : ∃ x, x = wr := ⟨_, rfl⟩
      rw [← hwd] at HK4 HX4 ⊢
      clear hwd
      have HBC : Hid (Below N w wd0) := ((HBK.out.trans (HBR3.out.mono (by have := HBK.out.size; have := HNe.out; omega)))).trans (HX4.out.below (by have := HBK.out.size; have := HNe.out; have := HBR3.out.size; omega) fun b e => by rw [e]; exact HNG.out)
      by_cases hl4 : i4 < ls.length
      · have hii4 : (i4 : Int) < (ls.length : Int) := by omega
        have HQV : Hid (QV wd0 (fun b => b < N) (.slice au ls.length cu) ls) := by
          have h := (HU.out.mono (Y := fun b => b < N) fun b hb _ => by rw [HNe.out]; exact hb)
          exact h.kept fun b hb => HBC.out.block b hb
        obtain ⟨b, o, a1, c1, a2, c2, rfl, d0, d1, d2, d3, s1, s2⟩ := HQV.out.get i4 hl4
        have hbN : b < N := by
          have h := HU.out
          obtain ⟨b9, o9, _, _, _, _, e9, q0, _⟩ := h.get i4 hl4
          cases e9
          rw [HNe.out]
          exact World.block_lt_of_cell? w _ q0
        have HS1 := hide s1
        have HS2 := hide s2
        have HM1 : Hid (ls[i4].l ∈ L2 ∧ ls[i4].r ∈ L2) := by
          have h := prT_mem (List.getElem_mem hl4)
          exact ⟨(HME.out _).2 (mem_preK (by simp [h.1])), (HME.out _).2 (mem_preK (by simp [h.2]))⟩
        have HEZ : Hid (errL [ls[i4].l] = 0 ∧ errL [ls[i4].r] = 0 ∧ sizeL [ls[i4].l] ≤ 1000 ∧ sizeL [ls[i4].r] ≤ 1000) := ⟨HER.out _ HM1.out.1, HER.out _ HM1.out.2, HSZ.out _ HM1.out.1, HSZ.out _ HM1.out.2⟩
        have HIN : Hid (ls[i4] ∈ ls) := List.getElem_mem hl4
        have HTK : Hid (ls.take (i4 + 1) = ls.take i4 ++ [ls[i4]]) := List.take_succ_eq_append_getElem hl4
        generalize ls[i4] = p at *
        have HMd : Hid (MapAt wd0 M (ixK (L2.map txB))) := HM7.out.kept (HX4.out.block M HM7.out.lt HMne.out)
        have hbl : b < wd0.heap.size := World.block_lt_of_cell? wd0 _ d0
        have hbG : b ≠ Gk := by have := HNG.out; omega
        have HST : Hid (∀ W, ExQ (fun b => b = Gk) wd0 W → (fun w' : World => w'.cell? ⟨b, o + i4 * 4, none⟩ = some (.string p.l.name) ∧ w'.cell? ⟨b, o + i4 * 4 + 1, none⟩ = some (.slice a1 p.l.args.length c1) ∧ w'.cell? ⟨b, o + i4 * 4 + 2, none⟩ = some (.string p.r.name) ∧ w'.cell? ⟨b, o + i4 * 4 + 3, none⟩ = some (.slice a2 p.r.args.length c2) ∧ MapAt w' M (ixK (L2.map txB))) W) := fun W hx => ⟨(World.cell?_of_block (hx.block b hbl hbG)).trans d0, (World.cell?_of_block (hx.block b hbl hbG)).trans d1, (World.cell?_of_block (hx.block b hbl hbG)).trans d2, (World.cell?_of_block (hx.block b hbl hbG)).trans d3, HMd.out.kept (hx.block M HMd.out.lt HMne.out)⟩
        have HX0 : Hid (ExQ (fun b => b = Gk) wd0 wd0.drew) := (ExQ.refl _ _).drew
        have HB0d : Hid (Below wd0.heap.size wd0 wd0.drew) := (Below.refl _ _).drew
        clear s1 s2 hbN
        have hp1 := plK_lt HM1.out.1
        have hp2 := plK_lt HM1.out.2
        rw [← HN.out] at hp1 hp2
        have HP1 := hide hp1
        have HP2 := hide hp2
        clear hp1 hp2
        go_upto_region 24 with fail
        refine wp_region_held_drew (S := fun W => (fun w' : World => w'.cell? ⟨b, o + i4 * 4, none⟩ = some (.string p.l.name) ∧ w'.cell? ⟨b, o + i4 * 4 + 1, none⟩ = some (.slice a1 p.l.args.length c1) ∧ w'.cell? ⟨b, o + i4 * 4 + 2, none⟩ = some (.string p.r.name) ∧ w'.cell? ⟨b, o + i4 * 4 + 3, none⟩ = some (.slice a2 p.r.args.length c2) ∧ MapAt w' M (ixK (L2.map txB))) W) (by kernel_rfl) (HST.out _ HX0.out) (fun hHeld => ?_)
        generalize wd0.drew = we at *
        refine wpAnyH_take (i := 0) (v := ?_) rfl (by kernel_rfl) (by kernel_rfl) (by kernel_rfl) (fun _ _ _ h => h) (Or.inl ⟨by rfl, ?_⟩) (by assumption) ?_
        rotate_left
        · intro w' hSw
          go_simp <;> with_reducible rfl
        try simp only [Act.put, List.setIfInBounds_toArray, List.set_cons_zero, List.set_cons_succ, List.getElem_toArray, List.getElem_cons_succ, List.getElem_cons_zero]
        refine wpAnyH_take (i := 1) (v := ?_) rfl (by kernel_rfl) (by kernel_rfl) (by kernel_rfl) (fun _ _ _ h => h) (Or.inl ⟨by rfl, ?_⟩) (by assumption) ?_
        rotate_left
        · intro w' hSw
          go_simp <;> with_reducible rfl
        try simp only [Act.put, List.setIfInBounds_toArray, List.set_cons_zero, List.set_cons_succ, List.getElem_toArray, List.getElem_cons_succ, List.getElem_cons_zero]
        refine wpAnyH_take (i := 2) (v := ?_) rfl (by kernel_rfl) (by kernel_rfl) (by kernel_rfl) (fun _ _ _ h => h) (Or.inl ⟨by rfl, ?_⟩) (by assumption) ?_
        rotate_left
        · intro w' hSw
          go_simp <;> with_reducible rfl
        try simp only [Act.put, List.setIfInBounds_toArray, List.set_cons_zero, List.set_cons_succ, List.getElem_toArray, List.getElem_cons_succ, List.getElem_cons_zero]
        refine wpAnyH_take (i := 3) (v := ?_) rfl (by kernel_rfl) (by kernel_rfl) (by kernel_rfl) (fun _ _ _ h => h) (Or.inl ⟨by rfl, ?_⟩) (by assumption) ?_
        rotate_left
        · intro w' hSw
          go_simp <;> with_reducible rfl
        try simp only [Act.put, List.setIfInBounds_toArray, List.set_cons_zero, List.set_cons_succ, List.getElem_toArray, List.getElem_cons_succ, List.getElem_cons_zero]
        refine wpAnyH_take (i := 4) (v := ?_) rfl (by kernel_rfl) (by kernel_rfl) (by kernel_rfl) (fun _ _ _ h => h) (Or.inl ⟨by rfl, ?_⟩) (by assumption) ?_
        rotate_left
        · intro w' hSw
          obtain ⟨z0, z1, z2, z3, -⟩ := hSw
          go_simp <;> with_reducible rfl
        try simp only [Act.put, List.setIfInBounds_toArray, List.set_cons_zero, List.set_cons_succ, List.getElem_toArray, List.getElem_cons_succ, List.getElem_cons_zero]
        refine wpAnyH_take (i := 5) (v := ?_) rfl (by kernel_rfl) (by kernel_rfl) (by kernel_rfl) (fun _ _ _ h => h) (Or.inl ⟨by rfl, ?_⟩) (by assumption) ?_
        rotate_left
        · intro w' hSw
          obtain ⟨z0, z1, z2, z3, -⟩ := hSw
          go_simp <;> with_reducible rfl
        try simp only [Act.put, List.setIfInBounds_toArray, List.set_cons_zero, List.set_cons_succ, List.getElem_toArray, List.getElem_cons_succ, List.getElem_cons_zero]
        refine wpAnyH_take (i := 6) (v := ?_) rfl (by kernel_rfl) (by kernel_rfl) (by kernel_rfl) (fun _ _ _ h => h) (Or.inl ⟨by rfl, ?_⟩) (by assumption) ?_
        rotate_left
        · intro w' hSw
          obtain ⟨z0, z1, z2, z3, -⟩ := hSw
          go_simp <;> with_reducible rfl
        try simp only [Act.put, List.setIfInBounds_toArray, List.set_cons_zero, List.set_cons_succ, List.getElem_toArray, List.getElem_cons_succ, List.getElem_cons_zero]
        refine wpAnyH_take (i := 9) (v := ?_) rfl (by kernel_rfl) (by kernel_rfl) (by kernel_rfl) (fun _ _ _ h => h) (Or.inl ⟨by rfl, ?_⟩) (by assumption) ?_
        rotate_left
        · intro w' hSw
          go_simp <;> with_reducible rfl
        try simp only [Act.put, List.setIfInBounds_toArray, List.set_cons_zero, List.set_cons_succ, List.getElem_toArray, List.getElem_cons_succ, List.getElem_cons_zero]
        refine wpAnyH_take (i := 10) (v := ?_) rfl (by kernel_rfl) (by kernel_rfl) (by kernel_rfl) (fun _ _ _ h => h) (Or.inl ⟨by rfl, ?_⟩) (by assumption) ?_
        rotate_left
        · intro w' hSw
          go_simp <;> with_reducible rfl
        try simp only [Act.put, List.setIfInBounds_toArray, List.set_cons_zero, List.set_cons_succ, List.getElem_toArray, List.getElem_cons_succ, List.getElem_cons_zero]
        refine wpAnyH_take (i := 11) (v := ?_) rfl (by kernel_rfl) (by kernel_rfl) (by kernel_rfl) (fun _ _ _ h => h) (Or.inl ⟨by rfl, ?_⟩) (by assumption) ?_
        rotate_left
        · intro w' hSw
          go_simp <;> with_reducible rfl
        try simp only [Act.put, List.setIfInBounds_toArray, List.set_cons_zero, List.set_cons_succ, List.getElem_toArray, List.getElem_cons_succ, List.getElem_cons_zero]
        refine wpAnyH_take (i := 12) (v := ?_) rfl (by kernel_rfl) (by kernel_rfl) (by kernel_rfl) (fun _ _ _ h => h) (Or.inl ⟨by rfl, ?_⟩) (by assumption) ?_
        rotate_left
        · intro w' hSw
          obtain ⟨z0, z1, z2, z3, -⟩ := hSw
          go_simp <;> with_reducible rfl
        try simp only [Act.put, List.setIfInBounds_toArray, List.set_cons_zero, List.set_cons_succ, List.getElem_toArray, List.getElem_cons_succ, List.getElem_cons_zero]
        refine wpAnyH_take (i := 13) (v := ?_) rfl (by kernel_rfl) (by kernel_rfl) (by kernel_rfl) (fun _ _ _ h => h) (Or.inl ⟨by rfl, ?_⟩) (by assumption) ?_
        rotate_left
        · intro w' hSw
          obtain ⟨z0, z1, z2, z3, -⟩ := hSw
          go_simp <;> with_reducible rfl
        try simp only [Act.put, List.setIfInBounds_toArray, List.set_cons_zero, List.set_cons_succ, List.getElem_toArray, List.getElem_cons_succ, List.getElem_cons_zero]
        refine wpAnyH_take (i := 14) (v := ?_) rfl (by kernel_rfl) (by kernel_rfl) (by kernel_rfl) (fun _ _ _ h => h) (Or.inl ⟨by rfl, ?_⟩) (by assumption) ?_
        rotate_left
        · intro w' hSw
          obtain ⟨z0, z1, z2, z3, -⟩ := hSw
          go_simp <;> with_reducible rfl
        try simp only [Act.put, List.setIfInBounds_toArray, List.set_cons_zero, List.set_cons_succ, List.getElem_toArray, List.getElem_cons_succ, List.getElem_cons_zero]
        refine wpAnyH_ready (rs := [7]) (by kernel_rfl) (by simp) ?_
        refine AllReadyH.cons rfl (fun K hK => ?_) AllReadyH.nil
        go_simp
        go_at_call 23
        refine (show_any p.l _ _ _ ⟨a1, c1, rfl, HS1.out.later HB0d.out⟩ (txt_mayK HEZ.out.1 HEZ.out.2.2.1)).mono ?_
        rintro e wf ⟨rfl, hbC⟩
        rw [show (⟨(txtL [p.l]).toArray⟩ : ByteArray) = txB p.l from rfl]
        have HB1d := hide (HB0d.out.trans (hbC.mono HB0d.out.size))
        have HX1 : Hid (ExQ (fun b => b = Gk) wd0 wf) := HX0.out.transN (ExQ.ofBelow (Q := fun _ => False) hbC) (fun i h => absurd h id)
        clear hbC
        go_simp
        refine hK.out _ _ (by exact (HST.out _ HX1.out)) (fun hHeld => ?_)
        clear hK K
        try simp only [Act.put, List.setIfInBounds_toArray, List.set_cons_zero, List.set_cons_succ, List.getElem_toArray, List.getElem_cons_succ, List.getElem_cons_zero]
        refine wpAnyH_take (i := 8) (v := ?_) rfl (by kernel_rfl) (by kernel_rfl) (by kernel_rfl) (fun _ _ _ h => h) (Or.inl ⟨by rfl, ?_⟩) (by assumption) ?_
        rotate_left
        · intro w' hSw
          have hlk9 := look_plK (L := L2) hSw.2.2.2.2 HTN.out HM1.out.1
          go_simp <;> with_reducible rfl
        try simp only [Act.put, List.setIfInBounds_toArray, List.set_cons_zero, List.set_cons_succ, List.getElem_toArray, List.getElem_cons_succ, List.getElem_cons_zero]
        refine wpAnyH_ready (rs := [15]) (by kernel_rfl) (by simp) ?_
        refine AllReadyH.cons rfl (fun K hK => ?_) AllReadyH.nil
        go_simp
        go_at_call 23
        refine (show_any p.r _ _ _ ⟨a2, c2, rfl, HS2.out.later HB1d.out⟩ (txt_mayK HEZ.out.2.1 HEZ.out.2.2.2)).mono ?_
        rintro e wg ⟨rfl, hbC⟩
        rw [show (⟨(txtL [p.r]).toArray⟩ : ByteArray) = txB p.r from rfl]
        have HB2d := hide (HB1d.out.trans (hbC.mono HB1d.out.size))
        have HX2 : Hid (ExQ (fun b => b = Gk) wd0 wg) := HX1.out.transN (ExQ.ofBelow (Q := fun _ => False) hbC) (fun i h => absurd h id)
        clear hbC
        go_simp
        refine hK.out _ _ (by exact (HST.out _ HX2.out)) (fun hHeld => ?_)
        clear hK K
        try simp only [Act.put, List.setIfInBounds_toArray, List.set_cons_zero, List.set_cons_succ, List.getElem_toArray, List.getElem_cons_succ, List.getElem_cons_zero]
        refine wpAnyH_take (i := 16) (v := ?_) rfl (by kernel_rfl) (by kernel_rfl) (by kernel_rfl) (fun _ _ _ h => h) (Or.inl ⟨by rfl, ?_⟩) (by assumption) ?_
        rotate_left
        · intro w' hSw
          have hlk9 := look_plK (L := L2) hSw.2.2.2.2 HTN.out HM1.out.2
          go_simp <;> with_reducible rfl
        try simp only [Act.put, List.setIfInBounds_toArray, List.set_cons_zero, List.set_cons_succ, List.getElem_toArray, List.getElem_cons_succ, List.getElem_cons_zero]
        have HKg := hide (HK4.out.later HB2d.out)
        refine wpAnyH_ready (rs := [17]) (by kernel_rfl) (by simp) ?_
        refine AllReadyH.cons rfl (fun K hK => ?_) AllReadyH.nil
        go_simp
        go_at_call 44
        refine (joinK_any HKg.out HP1.out HP2.out (by omega)).mono ?_
        rintro e wh ⟨rfl, hkq, hxq⟩
        have HKQ := hide hkq
        have HXQ : Hid (ExQ (fun b => b = Gk) wd0 wh) := HX2.out.trans hxq
        clear hkq hxq
        go_simp
        refine hK.out _ _ (by exact (HST.out _ HXQ.out)) (fun hHeld => ?_)
        clear hK K
        try simp only [Act.put, List.setIfInBounds_toArray, List.set_cons_zero, List.set_cons_succ, List.getElem_toArray, List.getElem_cons_succ, List.getElem_cons_zero]
        refine wpAnyH_done (by kernel_rfl) ?_ _
        clear hHeld d0 d1 d2 d3
        have hpe1 : gd L2 noK (plK L2 p.l) = p.l := plK_at HM1.out.1 HER.out
        have hpe2 : gd L2 noK (plK L2 p.r) = p.r := plK_at HM1.out.2 HER.out
        have HIJ : Hid (KdI ls L2 (joK K4 (plK L2 p.l) (plK L2 p.r))) := HI4.out.join (plK_lt HM1.out.1) (plK_lt HM1.out.2) (by rw [hpe1, hpe2]; exact .eq HIN.out)
        have HGJ : Hid (GvK (ls.take (i4 + 1)) L2 (joK K4 (plK L2 p.l) (plK L2 p.r))) := by
          unfold Hid
          rw [HTK.out]
          intro q hq
          rcases List.mem_append.1 hq with hq | hq
          · exact HG4.out.join HI4.out.len _ _ q hq
          · simp at hq
            subst hq
            exact ⟨_, _, plK_lt HM1.out.1, plK_lt HM1.out.2, hpe1, hpe2, joK_join (by rw [HI4.out.len]; exact plK_lt HM1.out.1) (by rw [HI4.out.len]; exact plK_lt HM1.out.2)⟩
        have HXE : Hid (ExQ (fun b => b = Gk) wq wh) := HX4.out.trans HXQ.out
        clear hpe1 hpe2
        go_wp2_with fail
        go_roundw
        case rel => exact ⟨i4 + 1, _, by go_num, by omega, HKQ.out, HIJ.out, HGJ.out, HXE.out⟩
        case measure => simp [intOf]; omega
      · have hii4 : ¬ (i4 : Int) < (ls.length : Int) := by omega
        have HGE : Hid (GvK ls L2 K4) := by
          have h := HG4.out
          rwa [List.take_of_length_le (by omega)] at h
        go_wp2_with fail
        go_meet
        exact ⟨K4, HK4.out, HI4.out, HGE.out, HX4.out⟩
  obtain ⟨K4, hk4, hi4, hg4, hx4⟩ := hcut
  obtain ⟨wd0, hwd⟩ : ∃ x, x = wc := ⟨_, rfl⟩
  rw [← hwd] at hk4 hx4 ⊢
  clear hwd wc
  have HK4 := hide hk4
  have HI4 := hide hi4
  have HGE := hide hg4
  have HX4 := hide hx4
  clear hk4 hi4 hg4 hx4
  have HBC : Hid (Below N w wd0) := ((HBK.out.trans (HBR3.out.mono (by have := HBK.out.size; have := HNe.out; omega)))).trans (HX4.out.below (by have := HBK.out.size; have := HNe.out; have := HBR3.out.size; omega) fun b e => by rw [e]; exact HNG.out)
  have HAE : Hid (AdI N A T L2 (L2.map txB) (.slice oa n oc) (.slice ea n ec) wd0) := by
    have hb : Below wb.heap.size wb wd0 := HBR3.out.trans (HX4.out.below HBR3.out.size fun b e => by rw [e]; exact HGl.out)
    exact HAK.out.later hb
  have HME9 : Hid (MapAt wd0 M (ixK (L2.map txB))) := HM7.out.kept (HX4.out.block M HM7.out.lt HMne.out)
  have HAG : Hid (A ≠ Gk) := by have := HAK.out.ba.lt; have := HGl.out; unfold Hid; omega
  have HOG : Hid (∀ b, some b = (Value.slice oa n oc).ownBlock → b ≠ Gk) := fun b hb e => by
    obtain ⟨xs, hR⟩ := HAK.out.ra
    have := (hR.own.lt b hb.symm).2
    have := HGl.out
    omega
  go_step
  exact closK2 ls qs L2 K4 N A T B Gk M n oc oa _ w wd0 HAE.out HN.out.symm HME9.out HK4.out HAG.out HOG.out HK4.out.rw_.lt HI4.out HGE.out HND.out HME.out HCL.out HER.out HSZ.out (by have h := HBC.out; rw [HNe.out] at h; exact h) (by have := HNG.out; have := HNe.out; omega) HNe.out (by omega)
end Go.Proofs.YtdmaijmglblccaaGreatDoor

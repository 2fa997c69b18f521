/- Walks: a term gets its number (closure's classes.number). -/
import Derived.Test.YtdmaijmglblccaaGreatDoorZBTopClassesOwn
import Derived.Deep.RegionHeld3
import Derived.Deep.DeepCutAuto
namespace Go.Proofs.YtdmaijmglblccaaGreatDoor
open Go.RowKit
set_option linter.unusedSimpArgs false
set_option linter.unusedVariables false
set_option maxRecDepth 8000

/-- What numbering a term leaves. -/
def NuP (N B r : Nat) (X : Nat → Prop) (k : Kl) (t : Tm) (o : Nat → Oid) (w : World) (e : Ending) (w' : World) : Prop :=
  ∃ k' m' o' i, e = .returned (.int .i64 ((i : Nat) : Int)) ∧ NumR k t k' i ∧ KlAt N B r X w' o' k' m' ∧ Exo o w o' w'
/-- While its parts are numbered. -/
def NuI (N B r : Nat) (X : Nat → Prop) (k : Kl) (l : List Tm) (o1 : Nat → Oid) (w1 : World) (v i : Value) (wr : World) : Prop :=
  ∃ (j : Nat) (bs : List Nat) (kj : Kl) (mj : Km) (oj : Nat → Oid), j ≤ l.length ∧ i = .int .i64 (j : Int) ∧ NumJ k (l.take j) kj bs ∧ KlAt N B r X wr oj kj mj ∧ Exo o1 w1 oj wr ∧ Rwo wr N oj eX 3 1 v (iL bs).length (iL bs) ∧ bs.length = j ∧ ∀ b, v.ownBlock = some b → w1.heap.size ≤ b
/-- While the parts are noted. -/
def NuN (N B r : Nat) (X : Nat → Prop) (k0 : Kl) (m0 : Km) (bs : List Nat) (n : Nat) (o1 : Nat → Oid) (w1 : World) (i : Value) (wr : World) : Prop :=
  ∃ (q : Nat) (oq : Nat → Oid) (va : List Value), q ≤ bs.length ∧ i = .int .i64 (q : Int) ∧ KlAt N B r X wr oq (k0.notes (bs.take q) n) { m0 with va := va } ∧ Exo o1 w1 oq wr
theorem size_parts (s : ByteArray) (l : List Tm) : sizeL [(⟨s, l⟩ : Tm)] = 1 + sizeL l := by simp [sizeL]
theorem size_takeK (l : List Tm) (j : Nat) : sizeL (l.take j) ≤ sizeL l := by
  conv => rhs; rw [← List.take_append_drop j l, sizeL_append]
  omega
theorem len_sizeK : ∀ l : List Tm, l.length ≤ sizeL l
  | [] => by simp [sizeL]
  | ⟨s, a⟩ :: r => by
    have := len_sizeK r
    simp only [List.length_cons, sizeL]
    omega
theorem err_memK {l : List Tm} (h : errL l = 0) {t : Tm} (ht : t ∈ l) : errL [t] = 0 := by
  induction l with
  | nil => cases ht
  | cons u r ih =>
    have h1 : errL [u] = 0 ∧ errL r = 0 := by
      rw [errL_cons] at h
      split at h
      · rename_i g; exact ⟨g, h⟩
      · rename_i g; exact absurd h g
    rcases List.mem_cons.1 ht with e | e
    · rw [e]; exact h1.1
    · exact ih h1.2 e
theorem name_sizeK {s : ByteArray} (h : nameB s = true) : s.size ≤ 8 := by
  unfold nameB at h
  simp only [Bool.and_eq_true, decide_eq_true_eq] at h
  exact h.1.1.2
theorem exo_push {I : Oid → Prop} {o1 o o' : Nat → Oid} {w1 w w' : World} {lv : Value} (E : Exo o1 w1 o w) (f : Fr I o w o' w') (hp : ∀ b, b < w.heap.size → o b = eX → lv.ownBlock ≠ some b → w'.heap[b]? = w.heap[b]? ∧ o' b = eX) (how : ∀ b, lv.ownBlock = some b → w1.heap.size ≤ b) : Exo o1 w1 o' w' :=
  ⟨f.os.trans E.1, f.tape.trans E.2.1, f.output.trans E.2.2.1, Nat.le_trans E.2.2.2.1 f.size, fun b hb he => by
    obtain ⟨e1, e2⟩ := E.2.2.2.2 b hb he
    obtain ⟨e3, e4⟩ := hp b (Nat.lt_of_lt_of_le hb E.2.2.2.1) e2 fun e => by have := how b e; omega
    exact ⟨e3.trans e1, e4⟩⟩
theorem lit_row {w : World} {N : Nat} {o : Nat → Oid} (hN : N ≤ w.heap.size) (n : Nat) : Rwo (w.alloc (.cells #[iV n] 3)) N (upN o w.heap.size) eX 3 1 (.slice (some ⟨w.heap.size, 0, none⟩) 1 1) (iL [n]).length (iL [n]) :=
  ⟨World.ownsRow_lit w #[iV n] 1 hN (by unfold maxLen; omega) rfl, fun b hb => by
    have e : w.heap.size = b := by simpa [Value.ownBlock] using hb
    exact upN_ge (by omega)⟩
theorem map_look {w : World} {r : Nat} {l : List (ByteArray × Nat)} (h : MapAt w r (sgV l)) (s : ByteArray) : (Instr.lookup 63 (.map (some r)) (.string s) true).run Tryz.prog w = .ok (.tuple #[((sgG l s).map iV).getD (.int .i64 0), .bool (sgG l s).isSome]) w := by
  rw [run_look (P := Tryz.prog) Tryz.underlying63 Tryz.underlying9 (Tryz.zeroValue3 w) h, sgG_get]
  cases sgG l s <;> rfl
set_option maxHeartbeats 8000000 in
theorem number_any {BT N B r : Nat} {X : Nat → Prop} (t : Tm) : ∀ {w : World} {o : Nat → Oid} {k : Kl} {m : Km} (a : Option Addr) (c : Nat), KlAt N B r X w o k m → NumI k AllU → TbO BT o w → errL [t] = 0 → sizeL [t] ≤ 900 → k.ts.length + sizeL [t] ≤ 80000 → sumN k.ab + sizeL [t] ≤ 800000 → Sl w X a t.args →
    Calls Tryz.prog 46 #[.pointer (some ⟨B, 0, none⟩), .agg #[.string t.name, .slice a t.args.length c]] w (NuP N B r X k t o w) := by
  induction t using Tm.ind with
  | h s l ih =>
    intro w o k m a c hk hn ht he hz hz1 hz2 hs
    rw [size_parts] at hz hz1 hz2
    have hel : errL l = 0 := errL_parts0 he
    have hs8 := name_sizeK (errL_name0 he)
    obtain ⟨K1, E1⟩ := hk.upn ((Below.refl _ _).alloc (Nat.le_refl _) (.cells #[.string s, .slice a l.length c] 25))
    have P1 := Blk.new w #[.string s, .slice a l.length c] 25
    have S1 := (hs.exo hk.hX E1)
    have X1 := exo_X hk.hX E1
    have T1 := ht.exo E1
    have oP : upN o w.heap.size w.heap.size = eX := upN_ge (Nat.le_refl _)
    have IH := hide ih
    have HE := hide he
    have HEL := hide hel
    have HN := hide hn
    have HXO := hide X1
    have hll := len_sizeK l
    clear ih hk ht hs hn
    go_enter Tryz.func46, Tryz.ntmps46
    go_upto_region 2 with fail
    have HE1 := hide E1
    have HXN := hide (show ∀ b, X b → b < (w.alloc (.cells #[.string s, .slice a l.length c] 25)).heap.size from fun b hb => (X1 b hb).1)
    generalize upN o w.heap.size = o1 at *
    generalize w.heap.size = P at *
    generalize (w.alloc (.cells #[.string s, .slice a l.length c] 25)) = w1 at *
    have HP1 := hide P1
    have HS1 := hide S1
    have HT1 := hide T1
    have HOP := hide oP
    have p1 : w1.cell? ⟨P, 1, none⟩ = some (.slice a l.length c) := P1.cell 1
    have START : Hid (NuI N B r X k l o1 w1 (.slice none 0 0) (.int .i64 0) w1) := ⟨0, [], k, m, o1, Nat.zero_le _, rfl, NumJ.start HN.out, K1, Exo.refl _ _, Rwo.nil _ _ _ _ _ _, rfl, by simp [Value.ownBlock]⟩
    clear K1 E1 P1 S1 X1 T1 oP hel he
    go_wp2_with fail
    clear p1
    go_loopw [5, 17] (fun v i wr => NuI N B r X k l o1 w1 v i wr) (fun v i wr => l.length - (intOf i).toNat)
    case atStart => exact START.out
    case round =>
      obtain ⟨j, bs, kj, mj, oj, hj, rfl, hJ, hK, hX, hR, hbl, how⟩ := hrel
      obtain ⟨va, vc, rfl⟩ := hR.shape
      by_cases hjl : j < l.length
      · have hji : (j : Int) < (l.length : Int) := by omega
        obtain ⟨ab_, ao, aj, cj, hae, d0, d1, htv⟩ := (HS1.out.exo HXO.out hX).get (Below.refl _ _) (fun _ _ h => h) j hjl
        obtain ⟨aj2, cj2, etv, hsj⟩ := htv
        obtain ⟨rfl, rfl⟩ : aj = aj2 ∧ cj = cj2 := by simp at etv; exact etv
        clear etv
        subst hae
        obtain ⟨Ka, Ea⟩ := hK.upn ((Below.refl _ _).alloc (Nat.le_refl _) (.cells #[.string l[j].name, .slice aj l[j].args.length cj] 25))
        have Pa := Blk.new wr #[.string l[j].name, .slice aj l[j].args.length cj] 25
        have Sa := hsj.exo (exo_X HXO.out hX) Ea
        have Xa := hX.trans Ea
        have Ra := hR.exo Ea
        have hlj := hJ.len
        have hsj2 := hJ.sum
        have htk := size_takeK l (j + 1)
        rw [List.take_succ_eq_append_getElem hjl, sizeL_append] at htk
        have hm := List.getElem_mem hjl
        have IHc := hide (IH.out l[j] hm aj cj Ka hJ.ok (HT1.out.exo Xa) (err_memK HEL.out hm) (by omega) (by omega) (by omega) Sa)
        have HXa := hide Xa
        have HRa := hide Ra
        have HJ := hide hJ
        have HOW := hide how
        have q0 := Pa.cell 0
        have q1 := Pa.cell 1
        have hltj : Hid (bs.length ≤ 900 ∧ sizeL (l.take j) ≤ 900) := ⟨by omega, by omega⟩
        clear hJ hK hX hR hbl how hsj Sa Xa Ra Ka Ea hlj hsj2 htk hm
        go_upto_region 5 with fail
        clear d0 d1
        generalize (wr.alloc (.cells #[.string l[j].name, .slice aj l[j].args.length cj] 25)) = wa at *
        generalize upN oj wr.heap.size = oa at *
        generalize wr.heap.size = Q at *
        go_wp2_with fail
        refine IHc.out.mono ?_
        rintro e w2 ⟨k2, m2, o2, i2, rfl, hNR, K2, E2⟩
        have X2 := HXa.out.trans E2
        have R2 := HRa.out.exo E2
        obtain ⟨g, cap, w3, o3, hr3, R3, K3, hat3, hw3, hb3, ho3⟩ := app_loc K2 Tryz.underlying45 Tryz.infoInt rfl (by decide) R2 (fun b hb hx => by have h1 := HOW.out b hb; have h2 := HXN.out b hx; omega) (by rw [iL_len]; have := hltj.out.1; omega) (iV i2) rfl
        have X3 : Exo o1 w1 o3 w3 := ⟨hw3.1.trans X2.1, hw3.2.1.trans X2.2.1, hw3.2.2.1.trans X2.2.2.1, Nat.le_trans X2.2.2.2.1 hw3.2.2.2, fun b hb he => by
          obtain ⟨e1, e2⟩ := X2.2.2.2.2 b hb he
          have hb2 := Nat.lt_of_lt_of_le hb X2.2.2.2.1
          exact ⟨(hb3 b hb2 fun e => by have := HOW.out b e; omega).trans e1, (ho3 b hb2).trans e2⟩⟩
        have e9 : iL bs ++ [iV i2] = iL (bs ++ [i2]) := by simp [iL]
        rw [e9] at R3
        have HR3 := hide hr3
        have NXT : Hid (NuI N B r X k l o1 w1 (.slice (some ⟨g, 0, none⟩) ((iL bs).length + 1) cap) (.int .i64 ((j + 1 : Nat) : Int)) w3) := ⟨j + 1, bs ++ [i2], k2, m2, o3, hjl, rfl, by rw [List.take_succ_eq_append_getElem hjl]; exact HJ.out.next hNR, K3, X3, R3, by have := HJ.out.eq; have h5 := congrArg List.length this; simp at h5 ⊢; omega, fun b hb => by
          have e : g = b := by simpa [Value.ownBlock] using hb
          subst e
          rcases hat3 with e | e
          · exact HOW.out g e
          · have := X2.2.2.2.1; omega⟩
        clear hr3 R3 K3 hat3 hw3 hb3 ho3 X3 e9 X2 R2 hNR K2 E2 IHc
        have hl9 : (iL bs).length ≤ 900 := by rw [iL_len]; exact hltj.out.1
        go_wp2_with (at_builtin; refine wpList_append_eq rfl _ _ _ _ rfl rfl rfl HR3.out ?_)
        go_roundw
        case rel => exact NXT.out
        case measure => simp [intOf]; omega
      · have hji : ¬ (j : Int) < (l.length : Int) := by omega
        have etk : l.take j = l := List.take_of_length_le (by omega)
        rw [etk] at hJ
        have hS := num_S hJ.ok hJ.lt
        have hC := num_C hJ.ok (by have := hJ.len; omega)
        have T2 := HT1.out.exo hX
        have HSG := hide (sign_any hK T2.1 T2.2.1 hR (fun b hb => by rw [hJ.ok.lc]; exact hJ.lt b hb) hC s (by omega) (by omega))
        rw [hS] at HSG
        have PP := HP1.out.exo hX HOP.out
        have p0 := PP.cell 0
        have HJ := hide hJ
        have HK := hide hK
        have HX := hide hX
        have HR := hide hR
        have HOW := hide how
        have hlen : Hid (kj.ts.length ≤ 79999 ∧ sumN kj.ab + bs.length ≤ 800000 ∧ bs.length ≤ 900) := ⟨by have := hJ.len; omega, by have := hJ.sum; have e9 : l.length = j := (by omega); omega, by omega⟩
        clear hJ hK hX hR how T2 hS hC PP
        go_wp2_with fail
        clear p0
        refine HSG.out.mono ?_
        rintro e w2 ⟨rfl, hb2⟩
        have K2 := HK.out.later hb2
        have X2 := HX.out.trans (Exo.below hb2 fun _ _ => rfl)
        have R2 := HR.out.later hb2
        have P2 := HP1.out.exo X2 HOP.out
        have b5 : w2.cell? ⟨B, 5, none⟩ = some (.map (some r)) := by rw [K2.box.cell]; simp
        have hlk := map_look K2.map (sgn s bs)
        clear HSG HK HX HR
        cases hsg : sgG kj.sg (sgn s bs) with
        | some i =>
          rw [hsg] at hlk
          simp only [Option.map_some, Option.getD_some, Option.isSome_some] at hlk
          have HF := hide (numR_found (t := ⟨s, l⟩) HJ.out HE.out hsg)
          have HK2 := hide K2
          have HX2 := hide X2
          clear K2 X2 R2 P2 hsg hb2
          go_wp2_with fail
          go_ret
          exact ⟨kj, mj, oj, i, rfl, HF.out, HK2.out, HE1.out.trans HX2.out⟩
        | none =>
          rw [hsg] at hlk
          simp only [Option.map_none, Option.getD_none, Option.isSome_none] at hlk
          have HF := hide (numR_new (t := ⟨s, l⟩) HJ.out HE.out hsg)
          have HSGN := hide hsg
          have hcz : mj.cs.length = kj.ts.length := by rw [← K2.ts]; simp
          obtain ⟨a0, c0, hv0⟩ := K2.r0.shape
          rw [hcz] at hv0
          have b0 : w2.cell? ⟨B, 0, none⟩ = some (.slice a0 kj.ts.length c0) := by rw [K2.box.cell]; simp [hv0]
          have HV0 := hide hv0
          have HK2 := hide K2
          have HX2 := hide X2
          have HR2 := hide R2
          have HP2 := hide P2
          clear K2 X2 R2 P2 hsg hb2 hcz hv0
          go_upto_region 12 with fail
          clear b5 hlk b0
          go_cut [] (fun wc => ∃ v0' cs' oc, KlAt N B r X wc oc { kj with ts := kj.ts ++ [⟨s, l⟩] } { mj with v0 := v0', cs := cs' } ∧ Exo oj w2 oc wc)
          case first =>
            have kd : Below w2.heap.size w2 w2.drew := (Below.refl _ _).drew
            have KD := HK2.out.later kd
            have XD := HX2.out.trans (Exo.below kd fun _ _ => rfl)
            have SD := HS1.out.exo HXO.out XD
            have PD : Hid (Blk w2.drew P #[.string s, .slice a l.length c] 25) := HP2.out
            have HFD : Hid (Exo oj w2 oj w2.drew) := Exo.below kd fun _ _ => rfl
            refine wp_region_held_drew (S := fun w' => Blk w' P #[.string s, .slice a l.length c] 25) (by kernel_rfl) PD.out (fun hHeld => ?_)
            generalize w2.drew = wd at *
            obtain ⟨g, cap, w3, o3, hr, hgB, hB3, ⟨gc0, gc1, gcf⟩, KF, FF⟩ := KD.push_ts (by have := hlen.out; omega) ⟨s, l⟩ a c SD
            have d0 : wd.cell? ⟨B, 0, none⟩ = some (.slice a0 kj.ts.length c0) := by rw [KD.box.cell]; simp [HV0.out]
            rw [HV0.out] at hr
            have HR3 := hide hr
            have HB3 := hide hB3
            have HGB := hide hgB
            have HG := hide (And.intro gc0 (And.intro gc1 gcf))
            have HKF := hide KF
            have HXF : Hid (Exo oj w2 o3 _) := HFD.out.trans (FF.exo (by simp))
            have hPB : Hid (P ≠ B) := fun e => by
              have h1 := (XD.2.2.2.2 P HP1.out.lt HOP.out).2
              rw [e, KD.oB] at h1
              cases h1
            have hPg : Hid (P ≠ g) := fun e => by
              have h1 := (HX2.out.2.2.2.2 P HP1.out.lt HOP.out).2
              have h2 := (HXF.out.2.2.2.2 P HP2.out.lt h1).2
              have h3 := HKF.out.r0.2 g rfl
              rw [← e, h2] at h3
              cases h3
            have PA : Hid (Blk (wd.alloc (.cells #[.string ⟨#[]⟩, .slice none 0 0] 25)) P #[.string s, .slice a l.length c] 25) := PD.out.alloc _
            have P3 : Hid (Blk w3 P #[.string s, .slice a l.length c] 25) := by
              have h1 := (HX2.out.2.2.2.2 P HP1.out.lt HOP.out).2
              have h2 := (HXF.out.2.2.2.2 P HP2.out.lt h1).1
              rw [Below.heap_setCell _ _ _ _ (by simpa using hPB.out), Below.heap_setCell _ _ _ _ (by simpa using hPg.out), Below.heap_setCell _ _ _ _ (by simpa using hPg.out)] at h2
              exact h2.trans HP2.out
            clear kd KD XD SD hr hgB hB3 gc0 gc1 gcf KF FF HFD HK2 HX2 HR2
            refine wpAnyH_take (i := 0) (v := ?_) rfl (by kernel_rfl) (by kernel_rfl) (by kernel_rfl) (fun _ _ _ h => h) (Or.inl ⟨by rfl, ?_⟩) (by assumption) ?_
            rotate_left
            · intro w' hSw
              go_simp <;> with_reducible rfl
            try simp only [Act.put, List.setIfInBounds_toArray, List.set_cons_zero, List.set_cons_succ, List.getElem_toArray, List.getElem_cons_succ, List.getElem_cons_zero]
            refine wpAnyH_take (i := 1) (v := ?_) rfl (by kernel_rfl) (by kernel_rfl) (by kernel_rfl) (fun _ _ _ h => h) (Or.inl ⟨by rfl, ?_⟩) (by assumption) ?_
            rotate_left
            · intro w' hSw
              go_simp <;> with_reducible rfl
            try simp only [Act.put, List.setIfInBounds_toArray, List.set_cons_zero, List.set_cons_succ, List.getElem_toArray, List.getElem_cons_succ, List.getElem_cons_zero]
            refine wpAnyH_take (i := 2) (v := ?_) rfl (by kernel_rfl) (by kernel_rfl) (by kernel_rfl) (fun _ _ _ h => h) (Or.inl ⟨by rfl, ?_⟩) (by assumption) ?_
            rotate_left
            · intro w' hSw
              go_simp <;> with_reducible rfl
            try simp only [Act.put, List.setIfInBounds_toArray, List.set_cons_zero, List.set_cons_succ, List.getElem_toArray, List.getElem_cons_succ, List.getElem_cons_zero]
            refine wpAnyH_take (i := 4) (v := ?_) rfl (by kernel_rfl) (by kernel_rfl) (by kernel_rfl) (fun _ _ _ h => h) (Or.inl ⟨by rfl, ?_⟩) (by assumption) ?_
            rotate_left
            · intro w' hSw
              have x0 : w'.cell? ⟨P, 0, none⟩ = some (.string s) := Blk.cell hSw 0
              have x1 : w'.cell? ⟨P, 1, none⟩ = some (.slice a l.length c) := Blk.cell hSw 1
              go_simp <;> with_reducible rfl
            try simp only [Act.put, List.setIfInBounds_toArray, List.set_cons_zero, List.set_cons_succ, List.getElem_toArray, List.getElem_cons_succ, List.getElem_cons_zero]
            refine wpAnyH_ready (rs := [3, 6]) (by kernel_rfl) (by simp) ?_
            refine AllReadyH.cons rfl (fun K hK => ?_) (AllReadyH.cons rfl (fun K hK => ?_) AllReadyH.nil)
            · go_simp
              refine hK.out _ _ (by exact PD.out) (fun hHeld => ?_)
              clear hK K
              try simp only [Act.put, List.setIfInBounds_toArray, List.set_cons_zero, List.set_cons_succ, List.getElem_toArray, List.getElem_cons_succ, List.getElem_cons_zero]
              refine wpAnyH_take (i := 5) (v := ?_) rfl (by kernel_rfl) (by kernel_rfl) (by kernel_rfl) (fun _ _ _ h => h) (Or.inl ⟨by rfl, ?_⟩) (by assumption) ?_
              rotate_left
              · intro w' hSw
                go_simp <;> with_reducible rfl
              try simp only [Act.put, List.setIfInBounds_toArray, List.set_cons_zero, List.set_cons_succ, List.getElem_toArray, List.getElem_cons_succ, List.getElem_cons_zero]
              refine wpAnyH_ready (rs := [6]) (by kernel_rfl) (by simp) ?_
              refine AllReadyH.cons rfl (fun K hK => ?_) AllReadyH.nil
              go_simp
              refine hK.out _ _ (by exact PA.out) (fun hHeld => ?_)
              clear hK K
              try simp only [Act.put, List.setIfInBounds_toArray, List.set_cons_zero, List.set_cons_succ, List.getElem_toArray, List.getElem_cons_succ, List.getElem_cons_zero]
              refine wpAnyH_ready (rs := [7]) (by kernel_rfl) (by simp) ?_
              refine AllReadyH.cons rfl (fun K hK => ?_) AllReadyH.nil
              refine step_append_eqK rfl _ _ _ _ rfl rfl rfl HR3.out ?_
              refine hK.out _ _ (by exact P3.out) (fun hHeld => ?_)
              clear hK K
              try simp only [Act.put, List.setIfInBounds_toArray, List.set_cons_zero, List.set_cons_succ, List.getElem_toArray, List.getElem_cons_succ, List.getElem_cons_zero]
              refine wpAnyH_take (i := 8) (v := ?_) rfl (by kernel_rfl) (by kernel_rfl) (by kernel_rfl) (fun _ _ _ h => h) (Or.inl ⟨by rfl, ?_⟩) (by assumption) ?_
              rotate_left
              · intro w' hSw
                go_simp
                rw [if_pos (show (kj.ts.length : Int) < (kj.ts.length : Int) + 1 by omega)]
              try simp only [Act.put, List.setIfInBounds_toArray, List.set_cons_zero, List.set_cons_succ, List.getElem_toArray, List.getElem_cons_succ, List.getElem_cons_zero]
              refine wpAnyH_take (i := 10) (v := ?_) rfl (by kernel_rfl) (by kernel_rfl) (by kernel_rfl) (fun _ _ _ h => h) (Or.inl ⟨by rfl, ?_⟩) (by assumption) ?_
              rotate_left
              · intro w' hSw
                go_simp <;> with_reducible rfl
              try simp only [Act.put, List.setIfInBounds_toArray, List.set_cons_zero, List.set_cons_succ, List.getElem_toArray, List.getElem_cons_succ, List.getElem_cons_zero]
              refine wpAnyH_take (i := 11) (v := ?_) rfl (by kernel_rfl) (by kernel_rfl) (by kernel_rfl) (fun _ _ _ h => h) (Or.inl ⟨by rfl, ?_⟩) (by assumption) ?_
              rotate_left
              · intro w' hSw
                go_simp <;> with_reducible rfl
              try simp only [Act.put, List.setIfInBounds_toArray, List.set_cons_zero, List.set_cons_succ, List.getElem_toArray, List.getElem_cons_succ, List.getElem_cons_zero]
              have g0 := HG.out.1
              have g1 := HG.out.2.1
              have gf := HG.out.2.2
              refine wpAnyH_ready (rs := [9, 12]) (by kernel_rfl) (by simp) ?_
              refine AllReadyH.cons rfl (fun K hK => ?_) (AllReadyH.cons rfl (fun K hK => ?_) AllReadyH.nil)
              · go_simp
                refine hK.out _ _ (by exact (P3.out.setOther (b' := g) (kj.ts.length * 2) (.string s) hPg.out).setOther (b' := g) (kj.ts.length * 2 + 1) (.slice a l.length c) hPg.out) (fun hHeld => ?_)
                clear hK K
                try simp only [Act.put, List.setIfInBounds_toArray, List.set_cons_zero, List.set_cons_succ, List.getElem_toArray, List.getElem_cons_succ, List.getElem_cons_zero]
                clear g0 g1 gf
                have e0 : ((w3.setCell ⟨g, kj.ts.length * 2, none⟩ (.string s)).setCell ⟨g, kj.ts.length * 2 + 1, none⟩ (.slice a l.length c)).cell? ⟨B, 0, none⟩ = some (.slice a0 kj.ts.length c0) := by rw [((HB3.out.setOther (b' := g) _ _ (fun e => HGB.out e.symm)).setOther (b' := g) _ _ (fun e => HGB.out e.symm)).cell]; simp [HV0.out]
                have ef : ((w3.setCell ⟨g, kj.ts.length * 2, none⟩ (.string s)).setCell ⟨g, kj.ts.length * 2 + 1, none⟩ (.slice a l.length c)).frozen? ⟨B, 0, none⟩ = false := ((HB3.out.setOther (b' := g) _ _ (fun e => HGB.out e.symm)).setOther (b' := g) _ _ (fun e => HGB.out e.symm)).frozen 0
                refine wpAnyH_ready (rs := [12]) (by kernel_rfl) (by simp) ?_
                refine AllReadyH.cons rfl (fun K hK => ?_) AllReadyH.nil
                go_simp
                refine hK.out _ _ (by exact ((P3.out.setOther (b' := g) (kj.ts.length * 2) (.string s) hPg.out).setOther (b' := g) (kj.ts.length * 2 + 1) (.slice a l.length c) hPg.out).setOther (b' := B) 0 (.slice (some ⟨g, 0, none⟩) (kj.ts.length + 1) cap) hPB.out) (fun hHeld => ?_)
                clear hK K
                try simp only [Act.put, List.setIfInBounds_toArray, List.set_cons_zero, List.set_cons_succ, List.getElem_toArray, List.getElem_cons_succ, List.getElem_cons_zero]
                refine wpAnyH_done (by kernel_rfl) ?_ _
                clear hHeld
                go_wp2_with fail
                go_meet
                exact ⟨_, _, o3, HKF.out, HXF.out⟩
              · clear g0 g1 gf
                have g0 := HG.out.1
                have g1 := HG.out.2.1
                have gf := HG.out.2.2
                have e0 : w3.cell? ⟨B, 0, none⟩ = some (.slice a0 kj.ts.length c0) := by rw [HB3.out.cell]; simp [HV0.out]
                have ef := HB3.out.frozen 0
                go_simp
                refine hK.out _ _ (by exact P3.out.setOther (b' := B) 0 (.slice (some ⟨g, 0, none⟩) (kj.ts.length + 1) cap) hPB.out) (fun hHeld => ?_)
                clear hK K
                try simp only [Act.put, List.setIfInBounds_toArray, List.set_cons_zero, List.set_cons_succ, List.getElem_toArray, List.getElem_cons_succ, List.getElem_cons_zero]
                clear g0 g1 gf e0 ef
                have g0 : (w3.setCell ⟨B, 0, none⟩ (.slice (some ⟨g, 0, none⟩) (kj.ts.length + 1) cap)).cell? ⟨g, kj.ts.length * 2, none⟩ = some (.string ⟨#[]⟩) := (World.cell?_of_block (Below.heap_setCell _ _ _ _ (by simpa using HGB.out))).trans HG.out.1
                have g1 : (w3.setCell ⟨B, 0, none⟩ (.slice (some ⟨g, 0, none⟩) (kj.ts.length + 1) cap)).cell? ⟨g, kj.ts.length * 2 + 1, none⟩ = some (.slice none 0 0) := (World.cell?_of_block (Below.heap_setCell _ _ _ _ (by simpa using HGB.out))).trans HG.out.2.1
                have gf : ∀ i, (w3.setCell ⟨B, 0, none⟩ (.slice (some ⟨g, 0, none⟩) (kj.ts.length + 1) cap)).frozen? ⟨g, i, none⟩ = false := fun i => (World.frozen?_of_block (Below.heap_setCell _ _ _ _ (by simpa using HGB.out))).trans (HG.out.2.2 i)
                refine wpAnyH_ready (rs := [9]) (by kernel_rfl) (by simp) ?_
                refine AllReadyH.cons rfl (fun K hK => ?_) AllReadyH.nil
                go_simp
                refine hK.out _ _ (by exact ((P3.out.setOther (b' := B) 0 (.slice (some ⟨g, 0, none⟩) (kj.ts.length + 1) cap) hPB.out).setOther (b' := g) (kj.ts.length * 2) (.string s) hPg.out).setOther (b' := g) (kj.ts.length * 2 + 1) (.slice a l.length c) hPg.out) (fun hHeld => ?_)
                clear hK K
                try simp only [Act.put, List.setIfInBounds_toArray, List.set_cons_zero, List.set_cons_succ, List.getElem_toArray, List.getElem_cons_succ, List.getElem_cons_zero]
                clear g0 g1 gf
                refine wpAnyH_done (by kernel_rfl) ?_ _
                clear hHeld
                go_wp2_with fail
                go_meet
                refine ⟨.slice (some ⟨g, 0, none⟩) (kj.ts.length + 1) cap, mj.cs ++ [(⟨s, l⟩, a, c)], o3, ?_, ?_⟩
                · rw [setCell_comm _ ⟨B, 0, none⟩ ⟨g, kj.ts.length * 2, none⟩ _ _ (fun e => HGB.out e.symm), setCell_comm _ ⟨B, 0, none⟩ ⟨g, kj.ts.length * 2 + 1, none⟩ _ _ (fun e => HGB.out e.symm)]; exact HKF.out
                · rw [setCell_comm _ ⟨B, 0, none⟩ ⟨g, kj.ts.length * 2, none⟩ _ _ (fun e => HGB.out e.symm), setCell_comm _ ⟨B, 0, none⟩ ⟨g, kj.ts.length * 2 + 1, none⟩ _ _ (fun e => HGB.out e.symm)]; exact HXF.out
            · go_simp
              refine hK.out _ _ (by exact PA.out) (fun hHeld => ?_)
              clear hK K
              try simp only [Act.put, List.setIfInBounds_toArray, List.set_cons_zero, List.set_cons_succ, List.getElem_toArray, List.getElem_cons_succ, List.getElem_cons_zero]
              have d1 : (wd.alloc (.cells #[.string ⟨#[]⟩, .slice none 0 0] 25)).cell? ⟨B, 0, none⟩ = some (.slice a0 kj.ts.length c0) := (World.cell?_of_block (Below.heap_alloc wd _ B (World.block_lt_of_cell? wd _ d0))).trans d0
              refine wpAnyH_ready (rs := [3]) (by kernel_rfl) (by simp) ?_
              refine AllReadyH.cons rfl (fun K hK => ?_) AllReadyH.nil
              go_simp
              refine hK.out _ _ (by exact PA.out) (fun hHeld => ?_)
              clear hK K
              try simp only [Act.put, List.setIfInBounds_toArray, List.set_cons_zero, List.set_cons_succ, List.getElem_toArray, List.getElem_cons_succ, List.getElem_cons_zero]
              refine wpAnyH_take (i := 5) (v := ?_) rfl (by kernel_rfl) (by kernel_rfl) (by kernel_rfl) (fun _ _ _ h => h) (Or.inl ⟨by rfl, ?_⟩) (by assumption) ?_
              rotate_left
              · intro w' hSw
                go_simp <;> with_reducible rfl
              try simp only [Act.put, List.setIfInBounds_toArray, List.set_cons_zero, List.set_cons_succ, List.getElem_toArray, List.getElem_cons_succ, List.getElem_cons_zero]
              clear d1
              refine wpAnyH_ready (rs := [7]) (by kernel_rfl) (by simp) ?_
              refine AllReadyH.cons rfl (fun K hK => ?_) AllReadyH.nil
              refine step_append_eqK rfl _ _ _ _ rfl rfl rfl HR3.out ?_
              refine hK.out _ _ (by exact P3.out) (fun hHeld => ?_)
              clear hK K
              try simp only [Act.put, List.setIfInBounds_toArray, List.set_cons_zero, List.set_cons_succ, List.getElem_toArray, List.getElem_cons_succ, List.getElem_cons_zero]
              refine wpAnyH_take (i := 8) (v := ?_) rfl (by kernel_rfl) (by kernel_rfl) (by kernel_rfl) (fun _ _ _ h => h) (Or.inl ⟨by rfl, ?_⟩) (by assumption) ?_
              rotate_left
              · intro w' hSw
                go_simp
                rw [if_pos (show (kj.ts.length : Int) < (kj.ts.length : Int) + 1 by omega)]
              try simp only [Act.put, List.setIfInBounds_toArray, List.set_cons_zero, List.set_cons_succ, List.getElem_toArray, List.getElem_cons_succ, List.getElem_cons_zero]
              refine wpAnyH_take (i := 10) (v := ?_) rfl (by kernel_rfl) (by kernel_rfl) (by kernel_rfl) (fun _ _ _ h => h) (Or.inl ⟨by rfl, ?_⟩) (by assumption) ?_
              rotate_left
              · intro w' hSw
                go_simp <;> with_reducible rfl
              try simp only [Act.put, List.setIfInBounds_toArray, List.set_cons_zero, List.set_cons_succ, List.getElem_toArray, List.getElem_cons_succ, List.getElem_cons_zero]
              refine wpAnyH_take (i := 11) (v := ?_) rfl (by kernel_rfl) (by kernel_rfl) (by kernel_rfl) (fun _ _ _ h => h) (Or.inl ⟨by rfl, ?_⟩) (by assumption) ?_
              rotate_left
              · intro w' hSw
                go_simp <;> with_reducible rfl
              try simp only [Act.put, List.setIfInBounds_toArray, List.set_cons_zero, List.set_cons_succ, List.getElem_toArray, List.getElem_cons_succ, List.getElem_cons_zero]
              have g0 := HG.out.1
              have g1 := HG.out.2.1
              have gf := HG.out.2.2
              refine wpAnyH_ready (rs := [9, 12]) (by kernel_rfl) (by simp) ?_
              refine AllReadyH.cons rfl (fun K hK => ?_) (AllReadyH.cons rfl (fun K hK => ?_) AllReadyH.nil)
              · go_simp
                refine hK.out _ _ (by exact (P3.out.setOther (b' := g) (kj.ts.length * 2) (.string s) hPg.out).setOther (b' := g) (kj.ts.length * 2 + 1) (.slice a l.length c) hPg.out) (fun hHeld => ?_)
                clear hK K
                try simp only [Act.put, List.setIfInBounds_toArray, List.set_cons_zero, List.set_cons_succ, List.getElem_toArray, List.getElem_cons_succ, List.getElem_cons_zero]
                clear g0 g1 gf
                have e0 : ((w3.setCell ⟨g, kj.ts.length * 2, none⟩ (.string s)).setCell ⟨g, kj.ts.length * 2 + 1, none⟩ (.slice a l.length c)).cell? ⟨B, 0, none⟩ = some (.slice a0 kj.ts.length c0) := by rw [((HB3.out.setOther (b' := g) _ _ (fun e => HGB.out e.symm)).setOther (b' := g) _ _ (fun e => HGB.out e.symm)).cell]; simp [HV0.out]
                have ef : ((w3.setCell ⟨g, kj.ts.length * 2, none⟩ (.string s)).setCell ⟨g, kj.ts.length * 2 + 1, none⟩ (.slice a l.length c)).frozen? ⟨B, 0, none⟩ = false := ((HB3.out.setOther (b' := g) _ _ (fun e => HGB.out e.symm)).setOther (b' := g) _ _ (fun e => HGB.out e.symm)).frozen 0
                refine wpAnyH_ready (rs := [12]) (by kernel_rfl) (by simp) ?_
                refine AllReadyH.cons rfl (fun K hK => ?_) AllReadyH.nil
                go_simp
                refine hK.out _ _ (by exact ((P3.out.setOther (b' := g) (kj.ts.length * 2) (.string s) hPg.out).setOther (b' := g) (kj.ts.length * 2 + 1) (.slice a l.length c) hPg.out).setOther (b' := B) 0 (.slice (some ⟨g, 0, none⟩) (kj.ts.length + 1) cap) hPB.out) (fun hHeld => ?_)
                clear hK K
                try simp only [Act.put, List.setIfInBounds_toArray, List.set_cons_zero, List.set_cons_succ, List.getElem_toArray, List.getElem_cons_succ, List.getElem_cons_zero]
                refine wpAnyH_done (by kernel_rfl) ?_ _
                clear hHeld
                go_wp2_with fail
                go_meet
                exact ⟨_, _, o3, HKF.out, HXF.out⟩
              · clear g0 g1 gf
                have g0 := HG.out.1
                have g1 := HG.out.2.1
                have gf := HG.out.2.2
                have e0 : w3.cell? ⟨B, 0, none⟩ = some (.slice a0 kj.ts.length c0) := by rw [HB3.out.cell]; simp [HV0.out]
                have ef := HB3.out.frozen 0
                go_simp
                refine hK.out _ _ (by exact P3.out.setOther (b' := B) 0 (.slice (some ⟨g, 0, none⟩) (kj.ts.length + 1) cap) hPB.out) (fun hHeld => ?_)
                clear hK K
                try simp only [Act.put, List.setIfInBounds_toArray, List.set_cons_zero, List.set_cons_succ, List.getElem_toArray, List.getElem_cons_succ, List.getElem_cons_zero]
                clear g0 g1 gf e0 ef
                have g0 : (w3.setCell ⟨B, 0, none⟩ (.slice (some ⟨g, 0, none⟩) (kj.ts.length + 1) cap)).cell? ⟨g, kj.ts.length * 2, none⟩ = some (.string ⟨#[]⟩) := (World.cell?_of_block (Below.heap_setCell _ _ _ _ (by simpa using HGB.out))).trans HG.out.1
                have g1 : (w3.setCell ⟨B, 0, none⟩ (.slice (some ⟨g, 0, none⟩) (kj.ts.length + 1) cap)).cell? ⟨g, kj.ts.length * 2 + 1, none⟩ = some (.slice none 0 0) := (World.cell?_of_block (Below.heap_setCell _ _ _ _ (by simpa using HGB.out))).trans HG.out.2.1
                have gf : ∀ i, (w3.setCell ⟨B, 0, none⟩ (.slice (some ⟨g, 0, none⟩) (kj.ts.length + 1) cap)).frozen? ⟨g, i, none⟩ = false := fun i => (World.frozen?_of_block (Below.heap_setCell _ _ _ _ (by simpa using HGB.out))).trans (HG.out.2.2 i)
                refine wpAnyH_ready (rs := [9]) (by kernel_rfl) (by simp) ?_
                refine AllReadyH.cons rfl (fun K hK => ?_) AllReadyH.nil
                go_simp
                refine hK.out _ _ (by exact ((P3.out.setOther (b' := B) 0 (.slice (some ⟨g, 0, none⟩) (kj.ts.length + 1) cap) hPB.out).setOther (b' := g) (kj.ts.length * 2) (.string s) hPg.out).setOther (b' := g) (kj.ts.length * 2 + 1) (.slice a l.length c) hPg.out) (fun hHeld => ?_)
                clear hK K
                try simp only [Act.put, List.setIfInBounds_toArray, List.set_cons_zero, List.set_cons_succ, List.getElem_toArray, List.getElem_cons_succ, List.getElem_cons_zero]
                clear g0 g1 gf
                refine wpAnyH_done (by kernel_rfl) ?_ _
                clear hHeld
                go_wp2_with fail
                go_meet
                refine ⟨.slice (some ⟨g, 0, none⟩) (kj.ts.length + 1) cap, mj.cs ++ [(⟨s, l⟩, a, c)], o3, ?_, ?_⟩
                · rw [setCell_comm _ ⟨B, 0, none⟩ ⟨g, kj.ts.length * 2, none⟩ _ _ (fun e => HGB.out e.symm), setCell_comm _ ⟨B, 0, none⟩ ⟨g, kj.ts.length * 2 + 1, none⟩ _ _ (fun e => HGB.out e.symm)]; exact HKF.out
                · rw [setCell_comm _ ⟨B, 0, none⟩ ⟨g, kj.ts.length * 2, none⟩ _ _ (fun e => HGB.out e.symm), setCell_comm _ ⟨B, 0, none⟩ ⟨g, kj.ts.length * 2 + 1, none⟩ _ _ (fun e => HGB.out e.symm)]; exact HXF.out
          case rest =>
            obtain ⟨v0', cs', oc, KC, EC⟩ := hcut
            have XC := HX2.out.trans EC
            have RC := HR2.out.exo EC
            have HOWX : Hid (∀ b, (Value.slice va (iL bs).length vc).ownBlock = some b → ¬ X b) := fun b hb hx => by have h1 := HOW.out b hb; have h2 := HXN.out b hx; omega
            clear EC HR2 HK2 HX2 HP2 HV0
            have hJl := HJ.out.ok
            have HVB : Hid (mj.vb.length = kj.ts.length) := KC.l1.trans hJl.lb
            obtain ⟨g, cap, w3, o3, hr3, hb3, K3, F3, N3⟩ := KC.push_bl (by show kj.bl.length ≤ 1000000; rw [hJl.lb]; have := hlen.out; omega) (.slice va (iL bs).length vc) bs RC HOWX.out rfl
            have X3 := exo_push XC F3 N3 HOW.out
            have HR3 := hide hr3
            have b1 : wc.cell? ⟨B, 1, none⟩ = some mj.v1 := by rw [KC.box.cell]; simp
            have c1 := hb3.cell 1
            have cf := hb3.frozen 1
            simp at c1
            clear hr3 hb3 F3 N3 KC XC RC
            go_upto_region 14 with (at_builtin; refine wpList_append_eq rfl _ _ _ _ rfl rfl rfl HR3.out ?_)
            clear b1 c1 cf HR3
            have HK3 := hide K3
            have HX3 := hide X3
            clear K3 X3
            generalize (w3.setCell ⟨B, 1, none⟩ _) = w13 at *
            obtain ⟨g4, cap4, w4, o4, hr4, hb4, K4, F4⟩ := HK3.out.push_cl (by show kj.cl.length ≤ 1000000; rw [hJl.lc]; have := hlen.out; omega) kj.ts.length
            have X4 := HX3.out.trans (F4.exo (by simp))
            have HR4 := hide hr4
            have b1 : w13.cell? ⟨B, 2, none⟩ = some mj.v2 := by rw [HK3.out.box.cell]; simp
            have c1 := hb4.cell 2
            have cf := hb4.frozen 2
            simp at c1
            clear hr4 hb4 F4 HK3 HX3
            go_upto_region 15 with (at_builtin; refine wpList_append_eq rfl _ _ _ _ rfl rfl rfl HR4.out ?_)
            clear b1 c1 cf HR4
            have HK4 := hide K4
            have HX4 := hide X4
            clear K4 X4
            generalize (w4.setCell ⟨B, 2, none⟩ _) = w14 at *
            obtain ⟨KA, EA⟩ := HK4.out.upn ((Below.refl _ _).alloc (Nat.le_refl _) (.cells #[iV kj.ts.length] 3))
            have RA := lit_row (o := o4) HK4.out.nN kj.ts.length
            have hzA := HX4.out.2.2.2.1
            obtain ⟨g5, cap5, w5, o5, hr5, hb5, K5, F5, N5⟩ := KA.push_mb (by show kj.mb.length ≤ 1000000; rw [hJl.lm]; have := hlen.out; omega) (.slice (some ⟨w14.heap.size, 0, none⟩) 1 1) [kj.ts.length] RA (fun b hb hx => by
              have e : w14.heap.size = b := by simpa [Value.ownBlock] using hb
              have h2 := HXN.out b hx
              omega) rfl
            have X5 := exo_push (HX4.out.trans EA) F5 N5 (fun b hb => by
              have e : w14.heap.size = b := by simpa [Value.ownBlock] using hb
              omega)
            rw [World.size_alloc] at hr5
            have HR5 := hide hr5
            have b1 : w14.cell? ⟨B, 3, none⟩ = some mj.v3 := by rw [HK4.out.box.cell]; simp
            have c1 := hb5.cell 3
            have cf := hb5.frozen 3
            simp at c1
            clear hr5 hb5 F5 N5 HK4 HX4 KA EA RA hzA
            go_upto_region 16 with (at_builtin; refine wpList_append_eq rfl _ _ _ _ rfl rfl rfl HR5.out ?_)
            clear b1 c1 cf HR5
            have HK5 := hide K5
            have HX5 := hide X5
            clear K5 X5
            generalize (w5.setCell ⟨B, 3, none⟩ _) = w15 at *
            obtain ⟨g6, cap6, w6, o6, hr6, hb6, K6, F6, N6⟩ := HK5.out.push_ab (by show kj.ab.length ≤ 1000000; rw [hJl.la]; have := hlen.out; omega) (.slice none 0 0) [] (Rwo.nil _ _ _ _ _ _) (by simp [Value.ownBlock]) rfl
            have X6 := exo_push HX5.out F6 N6 (by simp [Value.ownBlock])
            have HR6 := hide hr6
            have b1 : w15.cell? ⟨B, 4, none⟩ = some mj.v4 := by rw [HK5.out.box.cell]; simp
            have c1 := hb6.cell 4
            have cf := hb6.frozen 4
            simp at c1
            clear hr6 hb6 F6 N6 HK5 HX5
            go_upto_region 17 with (at_builtin; refine wpList_append_eq rfl _ _ _ _ rfl rfl rfl HR6.out ?_)
            clear b1 c1 cf HR6
            have HK6 := hide K6
            have HX6 := hide X6
            clear K6 X6
            generalize (w6.setCell ⟨B, 4, none⟩ _) = w16 at *
            obtain ⟨w17, hm, K7, F7⟩ := HK6.out.push_sg (sgn s bs) kj.ts.length HSGN.out
            have HX7 := hide (HX6.out.trans (F7.exo (by simp)))
            have b5 : w16.cell? ⟨B, 5, none⟩ = some (.map (some r)) := by rw [HK6.out.box.cell]; simp
            obtain ⟨M, hMv, KM⟩ : ∃ M : Km, M.vb = mj.vb ++ [.slice va (iL bs).length vc] ∧ KlAt N B r X w17 o6 (kj.more ⟨s, l⟩ bs) M := ⟨_, rfl, K7⟩
            have HKM := hide KM
            have HMV := hide hMv
            clear K7 F7 HK6 HX6 KM hMv
            go_upto_region 18 with fail
            clear b5 hm
            obtain ⟨n, hn⟩ : ∃ n, n = kj.ts.length := ⟨_, rfl⟩
            rw [← hn] at HF ⊢
            have HNN := hide hn
            have HNO : Hid (NumI (kj.more ⟨s, l⟩ bs) (fun m _ => m < kj.ts.length) ∧ (kj.more ⟨s, l⟩ bs).T kj.ts.length = ⟨s, l⟩ ∧ (kj.more ⟨s, l⟩ bs).B kj.ts.length = bs) := num_more hJl HE.out HJ.out.lt HJ.out.eq.symm HSGN.out
            have hlv : Hid (gd M.vb nV n = .slice va (iL bs).length vc) := by unfold Hid; rw [HMV.out]; exact gd_end2 (by rw [HVB.out, hn])
            clear hn hJl
            have hil : (iL bs).length ≤ 900 := by rw [iL_len]; exact hlen.out.2.2
            go_wp2_with fail
            go_loopw [108] (fun i wr => NuN N B r X (kj.more ⟨s, l⟩ bs) M bs n o1 w1 i wr) (fun i wr => bs.length - (intOf i).toNat)
            case atStart => exact ⟨0, o6, M.va, Nat.zero_le _, rfl, HKM.out, HX7.out⟩
            case round =>
              obtain ⟨q, oq, vaq, hq, rfl, KQ, XQ⟩ := hrel
              obtain ⟨e1, e2, e3, e4, e5, e6⟩ := notes_same n (bs.take q) (kj.more ⟨s, l⟩ bs)
              by_cases hql : q < bs.length
              · have hqi : (q : Int) < ((iL bs).length : Int) := by rw [iL_len]; omega
                have hB : ((kj.more ⟨s, l⟩ bs).notes (bs.take q) n).B n = bs := by
                  have h9 := HNO.out.2.2
                  rw [← HNN.out] at h9
                  unfold Kl.B at h9 ⊢
                  rw [e2]
                  exact h9
                have row := KQ.i1 n (by rw [e2]; have h9 := HNO.out.1.lb; have h8 : (kj.more ⟨s, l⟩ bs).ts.length = kj.ts.length + 1 := (by simp [Kl.more]); have := HNN.out; omega)
                rw [hB] at row
                have row2 : Rwo wr N oq (8, n) 3 1 (.slice va (iL bs).length vc) (iL bs).length (iL bs) := by rw [← hlv.out]; exact row
                obtain ⟨gq, uq, hva, huq, hcq, -, -, -, -⟩ := row2.at (i := q) (by rw [iL_len]; exact hql)
                have huq2 := iL_at huq
                rw [gd_get hql] at huq2
                subst huq2
                subst hva
                have hbq := HJ.out.lt bs[q] (List.getElem_mem hql)
                have hab : bs[q] < ((kj.more ⟨s, l⟩ bs).notes (bs.take q) n).ab.length := by rw [e6, HNO.out.1.la]; have h8 : (kj.more ⟨s, l⟩ bs).ts.length = kj.ts.length + 1 := (by simp [Kl.more]); omega
                have hsum : ((((kj.more ⟨s, l⟩ bs).notes (bs.take q) n).A bs[q])).length ≤ 900000 := by
                  have h1 := sumN_at hab
                  have h2 := (num_notes (n := n) (bs.take q) HNO.out.1 (fun b hb => by have := HJ.out.lt b (List.mem_of_mem_take hb); simp [Kl.more]; omega) (by rw [HNN.out]; simp [Kl.more])).2
                  have h3 : sumN (kj.more ⟨s, l⟩ bs).ab = sumN kj.ab := by show sumN (kj.ab ++ [[]]) = _; rw [sumN_app]; simp [sumN]
                  rw [List.length_take] at h2
                  have := hlen.out
                  show (gd _ [] _).length ≤ _
                  omega
                have HNA := hide (note_any (n := n) KQ hab hsum)
                have hsn : Hid (((kj.more ⟨s, l⟩ bs).notes (bs.take q) n).note bs[q] n = (kj.more ⟨s, l⟩ bs).notes (bs.take (q + 1)) n) := by unfold Hid; rw [List.take_succ_eq_append_getElem hql, notes_snoc]
                have HXQ := hide XQ
                clear e1 e2 e3 e4 e5 e6 hB row row2 huq hbq hab hsum KQ XQ
                go_wp2_with fail
                refine HNA.out.mono ?_
                rintro e w9 ⟨rfl, o9, va9, K9, X9⟩
                have HK9 := hide K9
                rw [hsn.out] at HK9
                have HX9 := hide (HXQ.out.trans X9)
                clear K9 X9
                go_wp2_with fail
                go_roundw
                case rel => exact ⟨q + 1, o9, va9, hql, by go_num, HK9.out, HX9.out⟩
                case measure => simp [intOf]; omega
              · have hqi : ¬ (q : Int) < ((iL bs).length : Int) := by rw [iL_len]; omega
                have hqe : Hid (bs.take q = bs) := List.take_of_length_le (by omega)
                have HKQ := hide KQ
                rw [hqe.out] at HKQ
                have HXQ := hide XQ
                clear e1 e2 e3 e4 e5 e6 KQ XQ
                go_wp2_with fail
                go_ret
                exact ⟨_, _, oq, n, rfl, HF.out, HKQ.out, HE1.out.trans HXQ.out⟩
end Go.Proofs.YtdmaijmglblccaaGreatDoor

import Derived.Test.YtdebiiodhkcnkaaGreatIx12
import Derived.Lib.SliceRun
namespace Go.Proofs.YtdebiiodhkcnkaaGreat
open Go.RowKit
set_option linter.unusedSimpArgs false
set_option linter.unusedVariables false
set_option maxRecDepth 8000
theorem nuV_get {l : List Nat} {i : Nat} (h : i < l.length) : (nuV l)[i]? = some (.int .i64 (l[i] : Int)) := by simp [nuV, h]
theorem nuV_set (l : List Nat) (i n : Nat) : (nuV l).set i (.int .i64 (n : Int)) = nuV (l.set i n) := by simp [nuV, List.map_set]
def CloC (ns : List Nat) (met : Nat → Bool) (lb : Array Value) (v : Value) (wS : World) : Prop :=
 ∀ n ∈ ns, ∀ w', ExQ (fun b => v.ownBlock = some b) wS w' → Calls Tryz.prog 47 (#[.int .i64 (n : Int)] ++ lb) w' fun e w'' => CloP (met n) w' e w''
def IfP (ns : List Nat) (met : Nat → Bool) (w : World) (e : Ending) (w' : World) : Prop :=
 Below w.heap.size w w' ∧ ((e = .returned (.int .i64 (-1)) ∧ ∀ n ∈ ns, met n = true) ∨ ∃ i, ∃ h : i < ns.length, e = .returned (.int .i64 (i : Int)) ∧ (∀ n ∈ ns.take i, met n = true) ∧ met ns[i] = false)
def IfI (ns : List Nat) (met : Nat → Bool) (w : World) (i : Value) (wr : World) : Prop := ∃ k : Nat, k ≤ ns.length ∧ i = .int .i64 (k : Int) ∧ (∀ n ∈ ns.take k, met n = true) ∧ Below w.heap.size w wr
set_option maxHeartbeats 2000000 in
theorem indexF_any {ns : List Nat} {met : Nat → Bool} {p4 p3 p5 : Value} {v : Value} {wS : World} {N0 : Nat} (hC : CloC ns met #[p4, p3, p5] v wS) (w : World) (hE : ExQ (fun b => v.ownBlock = some b) wS w) (hrow : w.ownsRow N0 3 1 v ns.length (nuV ns)) (hl : ns.length ≤ 1000000) :
  Calls Tryz.prog 69 #[v, .func (.func 47) #[] #[p4, p3, p5]] w fun e w' => IfP ns met w e w' := by
 have HC := hide hC
 have HE := hide hE
 have HR := hide hrow
 obtain ⟨a, c, rfl⟩ := own_sliceI hrow
 clear hC hE hrow
 go_enter Tryz.func69, Tryz.ntmps69
 go_wp2_with fail
 go_loopw [8] (fun i wr => IfI ns met w i wr) (fun i wr => ns.length - (intOf i).toNat)
 case atStart => exact ⟨0, Nat.zero_le _, rfl, by simp, Below.refl _ _⟩
 case round =>
  obtain ⟨k, hk, rfl, hm, hb⟩ := hrel
  have HM := hide hm
  have HB := hide hb
  clear hm hb
  by_cases hlt : k < ns.length
  ·have hki : (k : Int) < (ns.length : Int) := by omega
   obtain ⟨g, cap, hv, hgN, hgl⟩ := HR.out.form (by omega)
   simp only [Value.slice.injEq, true_and] at hv
   obtain ⟨rfl, rfl⟩ := hv
   have d0 : wr.cell? ⟨g, k, none⟩ = some (.int .i64 (ns[k] : Int)) := by
    rw [HB.out.cell (p := ⟨g, k, none⟩) hgl, HR.out.cellAt k (by omega)]
    exact nuV_get hlt
   have CL := hide (HC.out ns[k] (List.getElem_mem hlt) wr (HE.out.transN (ExQ.ofBelow (Q := fun _ => False) HB.out) fun _ h _ => h.elim))
   have HTK : Hid (ns.take (k + 1) = ns.take k ++ [ns[k]]) := List.take_succ_eq_append_getElem hlt
   go_wp2_with fail
   refine CL.out.mono ?_
   rintro e w2 ⟨rfl, hb2⟩
   have HB2 := hide (HB.out.trans (hb2.mono HB.out.size))
   clear hb2 d0 CL
   cases hmk : met ns[k] with
   | true =>
    have HMK := hide hmk
    clear hmk
    go_wp2_with fail
    go_roundw
    case rel =>
     refine ⟨k + 1, hlt, by go_num, fun n hn => ?_, HB2.out⟩
     rw [HTK.out] at hn
     rcases List.mem_append.1 hn with hn | hn
     ·exact HM.out n hn
     ·rw [show n = ns[k] by simpa using hn]; exact HMK.out
    case measure => simp [intOf]; omega
   | false =>
    have HMK := hide hmk
    clear hmk
    go_wp2_with fail
    go_ret
    exact ⟨HB2.out, Or.inr ⟨k, hlt, rfl, HM.out, HMK.out⟩⟩
  ·have hki : ¬ (k : Int) < (ns.length : Int) := by omega
   have htk : ns.take k = ns := List.take_of_length_le (by omega)
   rw [htk] at HM
   clear htk
   go_wp2_with fail
   go_ret
   exact ⟨HB.out, Or.inl ⟨rfl, HM.out⟩⟩
theorem setCells_ex (w : World) (g : Nat) : ∀ (o : Nat) (vs : List Value), ExQ (fun b => b = g) w (w.setCells g o vs) := by
 intro o vs
 induction vs generalizing o w with
 | nil => exact ExQ.refl _ _
 | cons v r ih => exact ((ExQ.refl (fun b => b = g) w).set (B := g) rfl o v).trans (ih (w.setCell ⟨g, o, none⟩ v) (o + 1))
def DlP (ns : List Nat) (met : Nat → Bool) (v : Value) (w : World) (e : Ending) (w' : World) : Prop :=
 ∃ a c, e = .returned (.slice a (ns.filter met).length c) ∧ ExQ (fun b => v.ownBlock = some b) w w' ∧ (ns.filter met = [] ∨ ∃ g, a = some ⟨g, 0, none⟩ ∧ v.ownBlock = some g ∧ (ns.filter met).length ≤ c ∧ ∀ j (h : j < (ns.filter met).length), w'.cell? ⟨g, j, none⟩ = some (.int .i64 ((ns.filter met)[j] : Int)) ∧ w'.frozen? ⟨g, j, none⟩ = false)
def DlI (ns : List Nat) (met : Nat → Bool) (N0 : Nat) (g cap : Nat) (w : World) (i j : Value) (wr : World) : Prop :=
 ∃ (ii jj : Nat) (cur : List Nat), jj ≤ ns.length ∧ ii < jj ∧ i = .int .i64 (ii : Int) ∧ j = .int .i64 (jj : Int) ∧ cur.length = ns.length ∧ cur.take ii = (ns.take jj).filter met ∧ cur.drop jj = ns.drop jj ∧ ii = ((ns.take jj).filter met).length ∧
  wr.ownsRow N0 3 1 (.slice (some ⟨g, 0, none⟩) ns.length cap) ns.length (nuV cur) ∧ ExQ (fun b => some g = some b) w wr
set_option maxHeartbeats 4000000 in
theorem deleteF_any {ns : List Nat} {met : Nat → Bool} {p4 p3 p5 : Value} {v : Value} {wS : World} {N0 : Nat} (hC : CloC ns met #[p4, p3, p5] v wS) (w : World) (hE : ExQ (fun b => v.ownBlock = some b) wS w) (hrow : w.ownsRow N0 3 1 v ns.length (nuV ns)) (hl : ns.length ≤ 1000000) :
  Calls Tryz.prog 46 #[v, .func (.func 47) #[] #[p4, p3, p5]] w fun e w' => DlP ns met v w e w' := by
 have CI := hide (indexF_any hC w hE hrow hl)
 have HC := hide hC
 have HE := hide hE
 have HR := hide hrow
 obtain ⟨a, c, rfl⟩ := own_sliceI hrow
 clear hC hE hrow
 go_enter Tryz.func46, Tryz.ntmps46
 go_wp2_with fail
 refine CI.out.mono ?_
 rintro e w1 ⟨hb1, ⟨rfl, hall⟩ | ⟨i0, hi0, rfl, hpre, hi0m⟩⟩
 ·have HFI : Hid (DlP ns met (.slice a ns.length c) w (.returned (.slice a ns.length c)) w1) := by
   have hf : ns.filter met = ns := List.filter_eq_self.2 hall
   unfold Hid DlP
   rw [hf]
   refine ⟨a, c, rfl, ExQ.ofBelow hb1, ?_⟩
   by_cases h0 : ns = []
   ·exact Or.inl h0
   ·have hpos : 0 < ns.length := List.length_pos_iff.2 h0
    have HR1 : w1.ownsRow N0 3 1 (.slice a ns.length c) ns.length (nuV ns) := ownsRow_at HR.out fun b hb => hb1.block b (HR.out.lt b hb).2
    rcases HR1.2 with ⟨h, h2⟩ | ⟨g, cap, cur, h, _, _, hnc, _⟩
    ·omega
    ·simp only [Value.slice.injEq, true_and] at h
     obtain ⟨rfl, rfl⟩ := h
     refine Or.inr ⟨g, rfl, rfl, hnc, fun j hj => ⟨?_, HR1.frozenAt j⟩⟩
     rw [HR1.cellAt j (by omega)]; exact nuV_get hj
  clear hb1 hall
  go_wp2_with fail
  go_ret
  exact HFI.out
 ·obtain ⟨g, cap, hv, hgN, hgl⟩ := HR.out.form (by omega)
  simp only [Value.slice.injEq, true_and] at hv
  obtain ⟨rfl, rfl⟩ := hv
  have HR1 : Hid (w1.ownsRow N0 3 1 (.slice (some ⟨g, 0, none⟩) ns.length c) ns.length (nuV ns)) := ownsRow_at HR.out fun b hb => hb1.block b (HR.out.lt b hb).2
  have HB1 := hide hb1
  have HPR := hide hpre
  have HIM := hide hi0m
  have hne : ¬ ((i0 : Int) = -1) := by omega
  have hneb : ((i0 : Int) == -1) = false := by simp
  have HST : Hid (DlI ns met N0 g c w (.int .i64 (i0 : Int)) (.int .i64 ((i0 + 1 : Nat) : Int)) w1) := by
   have hf0 : (ns.take i0).filter met = ns.take i0 := List.filter_eq_self.2 HPR.out
   have hf1 : (ns.take (i0 + 1)).filter met = ns.take i0 := by
    rw [List.take_succ_eq_append_getElem hi0, List.filter_append, hf0]
    simp [HIM.out]
   exact ⟨i0, i0 + 1, ns, hi0, Nat.lt_succ_self _, rfl, rfl, rfl, by rw [hf1], rfl, by rw [hf1, List.length_take]; omega, HR1.out, ExQ.ofBelow HB1.out⟩
  have hi1 : ((i0 + 1 : Nat) : Int) = (i0 : Int) + 1 := by omega
  rw [hi1] at HST
  clear hb1 hpre hi0m CI hi1
  go_wp2_with fail
  go_loopw [5, 6] (fun i j wr => DlI ns met N0 g c w i j wr) (fun i j wr => ns.length - (intOf j).toNat)
  case atStart => exact HST.out
  case round =>
   clear HST HR1 HB1 HPR HIM hne hneb
   obtain ⟨ii, jj, cur, hjj, hij, rfl, rfl, hcl, htk, hdp, hii, ho, hex⟩ := hrel
   have HO := hide ho
   have HX := hide hex
   have HCL := hide hcl
   have HTK := hide htk
   have HDP := hide hdp
   have HII := hide hii
   have hgl2 := (ho.lt g rfl).2
   clear ho hex hcl htk hdp hii
   by_cases hlt : jj < ns.length
   ·have hki : (jj : Int) < (ns.length : Int) := by omega
    have hiil : (ii : Int) < (ns.length : Int) := by omega
    have HCJ : Hid (cur[jj]? = some ns[jj]) := by
     have h1 := congrArg (fun l => l[0]?) HDP.out
     simp only [List.getElem?_drop, Nat.add_zero] at h1
     unfold Hid
     rw [h1, List.getElem?_eq_getElem hlt]
    have d0 : wr.cell? ⟨g, jj, none⟩ = some (.int .i64 (ns[jj] : Int)) := by
     rw [HO.out.cellAt jj (by omega)]
     have h1 := HCJ.out
     simp [nuV, h1]
    have CL := hide (HC.out ns[jj] (List.getElem_mem hlt) wr (HE.out.trans HX.out))
    have HT1 : Hid (ns.take (jj + 1) = ns.take jj ++ [ns[jj]]) := List.take_succ_eq_append_getElem hlt
    go_wp2_with fail
    refine CL.out.mono ?_
    rintro e w2 ⟨rfl, hb2⟩
    have HO2 : Hid (w2.ownsRow N0 3 1 (.slice (some ⟨g, 0, none⟩) ns.length c) ns.length (nuV cur)) := ownsRow_at HO.out fun b hb => hb2.block b (HO.out.lt b hb).2
    have HX2 : Hid (ExQ (fun b => some g = some b) w w2) := HX.out.transN (ExQ.ofBelow (Q := fun _ => False) hb2) fun _ h _ => h.elim
    clear hb2 d0 CL HO HX
    cases hmk : met ns[jj] with
    | true =>
     have HMK := hide hmk
     clear hmk
     obtain ⟨q, hq⟩ : ∃ q, (nuV cur)[ii]? = some q := ⟨(nuV cur)[ii]'(by rw [nuV_length, HCL.out]; omega), List.getElem?_eq_getElem _⟩
     have c2 : w2.cell? ⟨g, ii, none⟩ = some q := by rw [HO2.out.cellAt ii (by omega)]; exact hq
     have f2 := HO2.out.frozenAt ii
     have l2 := (HO2.out.lt g rfl).2
     have HST2 := hide (HO2.out.stored ii (.int .i64 (ns[jj] : Int)))
     clear hq
     go_wp2_with fail
     go_roundw
     case rel =>
      have h1 := HST2.out.1
      rw [nuV_set] at h1
      have hil : ii < cur.length := by rw [HCL.out]; omega
      refine ⟨ii + 1, jj + 1, cur.set ii ns[jj], hlt, by omega, by go_num, by go_num, by rw [List.length_set]; exact HCL.out, ?_, ?_, ?_, h1, HX2.out.set (B := g) rfl _ _⟩
      ·rw [List.take_succ_eq_append_getElem (by rw [List.length_set]; exact hil), List.getElem_set_self, List.take_set_of_le (Nat.le_refl _), HTK.out, HT1.out, List.filter_append]
       simp [HMK.out]
      ·rw [List.drop_set_of_lt (by omega), ← List.drop_drop, HDP.out, List.drop_drop]
      ·rw [HT1.out, List.filter_append, List.length_append, ← HII.out]; simp [HMK.out]
     case measure => simp [intOf]; omega
    | false =>
     have HMK := hide hmk
     clear hmk
     go_wp2_with fail
     go_roundw
     case rel =>
      refine ⟨ii, jj + 1, cur, hlt, by omega, rfl, by go_num, HCL.out, ?_, ?_, ?_, HO2.out, HX2.out⟩
      ·rw [HTK.out, HT1.out, List.filter_append]; simp [HMK.out]
      ·rw [← List.drop_drop, HDP.out, List.drop_drop]
      ·rw [HT1.out, List.filter_append, List.length_append, ← HII.out]; simp [HMK.out]
     case measure => simp [intOf]; omega
   ·have hki : ¬ (jj : Int) < (ns.length : Int) := by omega
    have hjl : jj = ns.length := by omega
    have hil : ii < ns.length := by omega
    have hcap : ns.length ≤ c := by
     rcases HO.out.2 with ⟨h, _⟩ | ⟨g', cap', cur', h, _, _, hnc, _⟩
     ·cases h
     ·simp only [Value.slice.injEq, true_and] at h; omega
    have hic : ¬ c = ii := by omega
    have hic2 : ¬ ii = c := by omega
    have hsome : ∀ j, j < ns.length → ∃ q, wr.cell? ⟨g, j, none⟩ = some q := fun j hj => by
     rw [HO.out.cellAt j (by omega)]
     exact ⟨(nuV cur)[j]'(by rw [nuV_length, HCL.out]; omega), List.getElem?_eq_getElem _⟩
    have hclr : (Builtin.clear_ #[22] 0 #[.slice (some ⟨g, ii, none⟩) (ns.length - ii) (c - ii)]).run Tryz.prog wr = .ok (.tuple #[]) (wr.setCells g ii (List.replicate (ns.length - ii) (.int .i64 0))) :=
     Lib.run_clear_slice wr _ _ 0 _ Tryz.underlying22 (fun w => by kernel_rfl) rfl rfl g ii _ _ (by omega) (fun j hj => by obtain ⟨q, hq⟩ := hsome (ii + j) (by omega); rw [hq]; rfl) (fun j hj => HO.out.frozenAt _)
    have HFI : Hid (DlP ns met (.slice (some ⟨g, 0, none⟩) ns.length c) w (.returned (.slice (some ⟨g, 0, none⟩) ii c)) (wr.setCells g ii (List.replicate (ns.length - ii) (.int .i64 0)))) := by
     have htl : ns.take jj = ns := List.take_of_length_le (by omega)
     have h1 := HTK.out
     have h2 := HII.out
     rw [htl] at h1 h2
     refine ⟨some ⟨g, 0, none⟩, c, by rw [← h2], HX.out.transN (setCells_ex wr g ii _) fun i hi _ => by rw [hi], ?_⟩
     by_cases h0 : ns.filter met = []
     ·exact Or.inl h0
     ·refine Or.inr ⟨g, rfl, rfl, by omega, fun j hj => ⟨?_, ?_⟩⟩
      ·rw [World.cell?_setCells_out _ _ _ _ _ (fun _ _ => Or.inl (by show j < ii; omega)), HO.out.cellAt j (by omega)]
       have h3 : (cur.take ii)[j]? = some (ns.filter met)[j] := by rw [h1]; exact List.getElem?_eq_getElem hj
       rw [List.getElem?_take_of_lt (by omega)] at h3
       simp [nuV, h3]
      ·rw [World.frozen?_setCells]; exact HO.out.frozenAt j
    clear hsome hjl
    go_wp2_with fail
    go_ret
    exact HFI.out
end Go.Proofs.YtdebiiodhkcnkaaGreat

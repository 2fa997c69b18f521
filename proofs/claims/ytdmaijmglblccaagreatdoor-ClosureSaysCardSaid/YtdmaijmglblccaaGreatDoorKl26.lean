/- Walks: the terms within one are taken in (ClosureOf's add). -/
import Derived.Test.YtdmaijmglblccaaGreatDoorKl25
import Derived.Test.YtdmaijmglblccaaGreatDoorW21
import Derived.Test.YtdmaijmglblccaaGreatDoorRc3
namespace Go.Proofs.YtdmaijmglblccaaGreatDoor
open Go.RowKit
set_option linter.unusedSimpArgs false
set_option linter.unusedVariables false
set_option maxRecDepth 8000

theorem chk_new {N A T : Nat} {L : List Tm} {tx : List ByteArray} {ov ev : Value} {w : World} (h : AdI N A T L tx ov ev w) {b : Nat} (hb : w.heap.size ≤ b) : ¬ ChK A T ov ev b := by
  obtain ⟨xs, hR⟩ := h.ra
  rintro (e | e | e | e)
  · have := (hR.own.lt b e.symm).2; omega
  · have := (h.rt.lt b e.symm).2; omega
  · have := h.ba.lt; omega
  · have := h.bt.lt; omega
theorem chk_old {N A T : Nat} {L : List Tm} {tx : List ByteArray} {ov ev : Value} {w : World} (h : AdI N A T L tx ov ev w) {b : Nat} (hb : ChK A T ov ev b) : N ≤ b := by
  obtain ⟨xs, hR⟩ := h.ra
  rcases hb with e | e | e | e
  · exact (hR.own.lt b e.symm).1
  · exact (h.rt.lt b e.symm).1
  · rw [e]; exact h.hA
  · rw [e]; exact h.hT
theorem AdI.ov_shape {N A T : Nat} {L : List Tm} {tx : List ByteArray} {ov ev : Value} {w : World} (h : AdI N A T L tx ov ev w) : ∃ a c, ov = .slice a L.length c := by
  obtain ⟨xs, hR⟩ := h.ra
  exact own_shapeH hR.own
theorem AdI.ev_shape {N A T : Nat} {L : List Tm} {tx : List ByteArray} {ov ev : Value} {w : World} (h : AdI N A T L tx ov ev w) : ∃ a c, ev = .slice a tx.length c := own_shapeH h.rt
/-- What one step may change, told of the start. -/
theorem chk_step {A T S : Nat} {ov0 ev0 ov ev : Value} {b : Nat} (h1 : Fsh S ov0 ov) (h2 : Fsh S ev0 ev) (hb : ChK A T ov ev b) (hS : b < S) : ChK A T ov0 ev0 b := by
  rcases hb with e | e | e | e
  · rcases h1 with h | ⟨g, h, hg⟩
    · exact Or.inl (by rw [← h]; exact e)
    · rw [h] at e; cases e; omega
  · rcases h2 with h | ⟨g, h, hg⟩
    · exact Or.inr (Or.inl (by rw [← h]; exact e))
    · rw [h] at e; cases e; omega
  · exact Or.inr (Or.inr (Or.inl e))
  · exact Or.inr (Or.inr (Or.inr e))
theorem txt_mayK {t : Tm} (h : errL [t] = 0) (hz : sizeL [t] ≤ 1000) : (txtL [t]).length ≤ 1000000 := by
  have := txt_len [t] h
  omega
/-- So many are taken in. -/
def AdJ (ys kn : List Tm) (N A T S : Nat) (ov0 ev0 : Value) (w1 : World) (o : Value) (wr : World) : Prop :=
  ∃ (i : Nat) (L : List Tm) (ov ev : Value), o = .int .i64 (i : Int) ∧ i ≤ kn.length ∧ AdI N A T L (L.map txB) ov ev wr ∧ AdP (ys ++ kn.take i) L ∧ Fsh S ov0 ov ∧ Fsh S ev0 ev ∧ ExQ (ChK A T ov0 ev0) w1 wr
/-- What comes out. -/
def AdQ (N A T : Nat) (ys kn : List Tm) (w : World) (e : Ending) (w' : World) : Prop :=
  e = .returned (.tuple #[]) ∧ Below N w w' ∧ ∃ L ov ev, AdI N A T L (L.map txB) ov ev w' ∧ AdP (ys ++ kn) L
set_option maxHeartbeats 4000000 in
theorem add_any (t : Tm) (he : errL [t] = 0) (hsz : sizeL [t] ≤ 1000) (ys L0 : List Tm) (hys : ys.length ≤ 10000) (hye : ∀ x ∈ ys, errL [x] = 0) (N A T : Nat) (ov0 ev0 : Value) (w : World) (h : AdI N A T L0 (L0.map txB) ov0 ev0 w) (hN : N ≤ w.heap.size) (hp : AdP ys L0) (aa : Option Addr) (ca : Nat) (ht : Sl w (fun b => b < N) aa t.args) :
    Calls Tryz.prog 43 #[.agg #[.string t.name, .slice aa t.args.length ca], .pointer (some ⟨T, 0, none⟩), .pointer (some ⟨A, 0, none⟩)] w (AdQ N A T ys (preL [t]) w) := by
  have HKE : Hid (∀ x ∈ preL [t], errL [x] = 0 ∧ sizeL [x] ≤ 1000) := fun x hx => ⟨pre_errK [t] he hx, by have := pre_sizeK [t] hx; omega⟩
  have HYE := hide hye
  have HP0 := hide hp
  have hkl : (preL [t]).length = sizeL [t] := preL_length [t]
  have HCN := hide (fun b (hb : w.heap.size ≤ b) => chk_new h hb)
  have HCO := hide (fun b (hb : ChK A T ov0 ev0 b) => chk_old h hb)
  have hbA : Below w.heap.size w (w.alloc (.cells #[.string t.name, .slice aa t.args.length ca] 25)) := (Below.refl _ _).alloc (Nat.le_refl _) _
  have HPB : Hid (Blk (w.alloc (.cells #[.string t.name, .slice aa t.args.length ca] 25)) w.heap.size #[.string t.name, .slice aa t.args.length ca] 25) := Blk.new _ _ _
  have HA0 := hide (h.later hbA)
  have HBA := hide hbA
  have HHN := hide hN
  have HKN : Hid (∀ w', Below w.heap.size w w' → Calls Tryz.prog 11 #[.agg #[.string t.name, .slice aa t.args.length ca]] w' fun e w2 => ∃ v' xs, e = .returned v' ∧ w2.ownsRow w'.heap.size 25 2 v' (sizeL [t]) xs ∧ RowT w' (fun b => b < N) (preL [t]) xs ∧ Below w'.heap.size w' w2) := fun w' hb => knots_any t _ w' _ ⟨aa, ca, rfl, ht.later hb⟩ (by omega)
  clear ht h hN hp hye hbA
  go_enter Tryz.func43, Tryz.ntmps43
  go_upto_region 1 with fail
  generalize w.alloc (.cells #[.string t.name, .slice aa t.args.length ca] 25) = w0 at *
  have p0 := HPB.out.cell 0
  have p1 := HPB.out.cell 1
  simp only [List.getElem?_toArray, List.getElem?_cons_zero, List.getElem?_cons_succ] at p0 p1
  go_wp2_with fail
  refine (HKN.out _ HBA.out).mono ?_
  rintro e w1 ⟨v', xs, rfl, hown, hrow, hb1⟩
  rw [← hkl] at hown
  have HA1 := hide (HA0.out.later hb1)
  have hB01 := HBA.out.trans (hb1.mono HBA.out.size)
  have HBN : Hid (Below N w w1) := hB01.mono HHN.out
  have hpos : 0 < (preL [t]).length := by obtain ⟨s, l⟩ := t; simp [preL]
  obtain ⟨q, cap, rfl, hq1, hq2, hcl⟩ := owned_val hown hpos
  have HG : Hid (¬ ChK A T ov0 ev0 q) := HCN.out q (by have := HBA.out.size; omega)
  have HGL : Hid (q < w1.heap.size) := hq2
  obtain ⟨kn, hkn⟩ : ∃ kn, kn = preL [t] := ⟨_, rfl⟩
  rw [← hkn] at HKE hown hrow hkl ⊢
  have HC : Hid (∀ (i : Nat) (hi : i < kn.length), ∃ ax cx, w1.cell? ⟨q, i * 2, none⟩ = some (.string kn[i].name) ∧ w1.cell? ⟨q, i * 2 + 1, none⟩ = some (.slice ax kn[i].args.length cx) ∧ Sl w1 (fun b => b < N) ax kn[i].args) := fun i hi => by
    obtain ⟨x0, ax, cx, x1, hs⟩ := hrow.get i hi
    exact ⟨ax, cx, hcl _ _ x0, hcl _ _ x1, hs.later hb1⟩
  have hK1 : kn.length ≤ 1000 := by omega
  have HSZ : Hid (N ≤ w1.heap.size) := Nat.le_trans HHN.out hB01.size
  have HKQ := hide hkn
  clear hown hrow hcl hq1 hq2 hpos hb1 hB01 HKN HA0 hkl hsz hkn p0 p1 HPB HBA
  go_wp2_with fail
  go_loopw [5] (fun o wr => AdJ ys kn N A T w1.heap.size ov0 ev0 w1 o wr) (fun o wr => kn.length - (intOf o).toNat)
  case atStart => exact ⟨0, L0, ov0, ev0, rfl, Nat.zero_le _, HA1.out, by simpa using HP0.out, Or.inl rfl, Or.inl rfl, ExQ.refl _ _⟩
  case round =>
    obtain ⟨i, L, ov, ev, rfl, hi, had, hpp, hf1, hf2, hex⟩ := hrel
    have HAD := hide had
    have HPP := hide hpp
    have HF1 := hide hf1
    have HF2 := hide hf2
    have HEX := hide hex
    have HNB : Hid (Below N w1 wr) := hex.below HSZ.out fun b hb => HCO.out b hb
    clear had hpp hf1 hf2 hex
    by_cases hlt : i < kn.length
    · have hlt2 : (i : Int) < (kn.length : Int) := by omega
      obtain ⟨ax, cx, e0, e1, hsx⟩ := HC.out i hlt
      have HQW : Hid (wr.heap[q]? = w1.heap[q]?) := HEX.out.block q HGL.out HG.out
      have d0 : wr.cell? ⟨q, i * 2, none⟩ = some (.string kn[i].name) := (World.cell?_of_block HQW.out).trans e0
      have d1 : wr.cell? ⟨q, i * 2 + 1, none⟩ = some (.slice ax kn[i].args.length cx) := (World.cell?_of_block HQW.out).trans e1
      have HSX : Hid (Sl wr (fun b => b < N) ax kn[i].args) := hsx.kept fun b hb => HNB.out.block b hb
      have HXE := hide (HKE.out _ (List.getElem_mem hlt))
      have HTK : Hid (ys ++ kn.take (i + 1) = ys ++ kn.take i ++ [kn[i]]) := by unfold Hid; rw [List.take_succ_eq_append_getElem hlt, List.append_assoc]
      have HYA : Hid (∀ x ∈ ys ++ kn.take i, errL [x] = 0) := fun x hx => by
        rcases List.mem_append.1 hx with hx | hx
        · exact HYE.out x hx
        · exact (HKE.out x (List.mem_of_mem_take hx)).1
      have HLL : Hid (L.length ≤ 100000) := by
        have := HPP.out.le
        simp at this
        unfold Hid
        omega
      generalize kn[i] = x at *
      clear e0 e1 hsx
      go_wp2_with fail
      refine (show_any x _ _ _ ⟨ax, cx, rfl, HSX.out⟩ (txt_mayK HXE.out.1 HXE.out.2)).mono ?_
      rintro e w3 ⟨rfl, hb3⟩
      rw [show (⟨(txtL [x]).toArray⟩ : ByteArray) = txB x from rfl]
      have HA3 := hide (HAD.out.later hb3)
      have HE3 : Hid (ExQ (ChK A T ov0 ev0) w1 w3) := HEX.out.transN (ExQ.ofBelow (Q := fun _ => False) hb3) (fun i h => absurd h id)
      have HS3 := hide (HSX.out.later hb3)
      have HQ3 : Hid (w3.heap[q]? = w1.heap[q]?) := HE3.out.block q HGL.out HG.out
      have g0 : w3.cell? ⟨q, i * 2, none⟩ = some (.string x.name) := (World.cell?_of_block (HQ3.out.trans HQW.out.symm)).trans d0
      have g1 : w3.cell? ⟨q, i * 2 + 1, none⟩ = some (.slice ax x.args.length cx) := (World.cell?_of_block (HQ3.out.trans HQW.out.symm)).trans d1
      have HSW : Hid (N ≤ w3.heap.size ∧ w1.heap.size ≤ w3.heap.size) := ⟨Nat.le_trans HSZ.out HE3.out.size, HE3.out.size⟩
      clear hb3 d0 d1 HSX HAD HEX HQW
      obtain ⟨ea, ec, e2⟩ := HA3.out.ev_shape
      subst e2
      obtain ⟨oa, oc, e2⟩ := HA3.out.ov_shape
      subst e2
      obtain ⟨n, hn⟩ : ∃ n, n = L.length := ⟨_, rfl⟩
      have HN := hide hn
      have htl : (L.map txB).length = n := by rw [List.length_map, hn]
      have HTL := hide htl
      rw [htl] at HA3 HF2
      rw [← hn] at HA3 HF1 HLL
      clear hn htl
      have t0 := HA3.out.bt.cell 0
      simp only [List.getElem?_toArray, List.getElem?_cons_zero] at t0
      have LVT : Hid (LV Value.string w3 (fun b => N ≤ b) (.slice ea n ec) (L.map txB)) := by
        have := HA3.out.rt
        exact LV.of_own this
      have HIN := hide (in_any (txB x) (L.map txB) _ w3 _ LVT.out)
      by_cases hin : inB (txB x) (L.map txB) = true
      · have HPN : Hid (AdP (ys ++ kn.take (i + 1)) L) := by unfold Hid; rw [HTK.out]; exact HPP.out.old HYA.out HXE.out.1 hin
        rw [hin] at HIN
        clear hin g0 g1
        go_wp2_with fail
        refine HIN.out.mono ?_
        rintro e w4 ⟨rfl, hw4⟩
        obtain rfl := hw4.symm
        clear hw4 t0
        go_wp2_with fail
        go_roundw
        case rel => exact ⟨i + 1, L, _, _, by go_num, by omega, by rw [HTL.out, ← HN.out] at *; exact HA3.out, HPN.out, HF1.out, HF2.out, HE3.out⟩
        case measure => simp [intOf]; omega
      · have hin0 : inB (txB x) (L.map txB) = false := by simpa using hin
        have HPN : Hid (AdP (ys ++ kn.take (i + 1)) (L ++ [x])) := by unfold Hid; rw [HTK.out]; exact HPP.out.new hin0
        rw [hin0] at HIN
        clear hin hin0
        go_wp2_with fail
        refine HIN.out.mono ?_
        rintro e w4 ⟨rfl, hw4⟩
        obtain rfl := hw4.symm
        clear hw4
        obtain ⟨g5, cap5, w5, hr5, hT5, hA5, hx5, ha5⟩ := HA3.out.pushS HSW.out.1 (by have := HLL.out; rw [HTL.out]; exact this) (txB x)
        rw [HTL.out] at hr5 hA5 hx5
        have HR5 := hide hr5
        have HA5 := hide hA5
        have u0 := hT5.cell 0
        have uf := hT5.frozen 0
        have ul := hT5.lt
        have HE5 : Hid (ExQ (ChK A T ov0 ev0) w1 (w5.setCell ⟨T, 0, none⟩ (.slice (some ⟨g5, 0, none⟩) (n + 1) cap5))) := HE3.out.transN hx5 fun b hb hlt => chk_step HF1.out HF2.out hb hlt
        have HF5 : Hid (Fsh w1.heap.size ev0 (.slice (some ⟨g5, 0, none⟩) (n + 1) cap5)) := HF2.out.next (w := w3) HSW.out.2 ha5
        have HS5 : Hid (Sl (w5.setCell ⟨T, 0, none⟩ (.slice (some ⟨g5, 0, none⟩) (n + 1) cap5)) (fun b => b < N) ax x.args) := HS3.out.kept fun b hb => (hx5.below HSW.out.1 fun b hb => chk_old HA3.out hb).block b hb
        have HW5 : Hid (N ≤ (w5.setCell ⟨T, 0, none⟩ (.slice (some ⟨g5, 0, none⟩) (n + 1) cap5)).heap.size ∧ w1.heap.size ≤ (w5.setCell ⟨T, 0, none⟩ (.slice (some ⟨g5, 0, none⟩) (n + 1) cap5)).heap.size) := ⟨Nat.le_trans HSZ.out HE5.out.size, HE5.out.size⟩
        have HQ5 : Hid ((w5.setCell ⟨T, 0, none⟩ (.slice (some ⟨g5, 0, none⟩) (n + 1) cap5)).heap[q]? = w3.heap[q]?) := (HE5.out.block q HGL.out HG.out).trans HQ3.out.symm
        have HG5 : Hid (some q ≠ (Value.slice oa n oc).ownBlock ∧ q ≠ A) := by
          refine ⟨fun e => HG.out ?_, fun e => HG.out (Or.inr (Or.inr (Or.inl e)))⟩
          exact chk_step HF1.out HF2.out (Or.inl e) HGL.out
        clear hr5 hT5 hA5 hx5 ha5
        go_upto_region 8 with (at_builtin; refine wpList_append_eq rfl _ _ _ _ rfl rfl rfl HR5.out ?_)
        clear u0 uf ul t0 HR5
        generalize w5.setCell ⟨T, 0, none⟩ (.slice (some ⟨g5, 0, none⟩) (n + 1) cap5) = w6 at *
        have HAW : Hid (AdI N A T L (L.map txB ++ [txB x]) (.slice oa n oc) (.slice (some ⟨g5, 0, none⟩) (n + 1) cap5) w6.drew) := HA5.out.later (Below.refl _ _).drew
        have HED : Hid (ExQ (ChK A T ov0 ev0) w1 w6.drew) := HE5.out.drew
        have HQD : Hid (w6.drew.heap[q]? = w3.heap[q]?) := HQ5.out
        have HSD : Hid (Sl w6.drew (fun b => b < N) ax x.args) := HS5.out.later (Below.refl _ _).drew
        have HWD : Hid (N ≤ w6.drew.heap.size ∧ w1.heap.size ≤ w6.drew.heap.size) := HW5.out
        have HSH : Hid (∀ W : World, W.heap[q]? = w3.heap[q]? → (fun w' => w'.cell? ⟨q, i * 2, none⟩ = some (.string x.name) ∧ w'.cell? ⟨q, i * 2 + 1, none⟩ = some (.slice ax x.args.length cx)) W) := fun W h => ⟨(World.cell?_of_block h).trans g0, (World.cell?_of_block h).trans g1⟩
        clear HA5 HE5 HQ5 HS5 HW5
        refine wp_region_held_drew (S := (fun w' => w'.cell? ⟨q, i * 2, none⟩ = some (.string x.name) ∧ w'.cell? ⟨q, i * 2 + 1, none⟩ = some (.slice ax x.args.length cx))) (by kernel_rfl) (HSH.out _ HQD.out) (fun hHeld => ?_)
        clear g0 g1
        generalize w6.drew = wd at *
        obtain ⟨g, cap, w7, hr7, hA7, hgA, hat, hgl, hfr, k0, k1, hx7, hAF, hxF⟩ := HAW.out.pushZ (y := x) (c := cx) HWD.out.1 (by have := HLL.out; rw [← HN.out]; exact this) HSD.out
        rw [← HN.out] at hr7 hAF hxF k0 k1
        have HR7 := hide hr7
        have HA7 := hide hA7
        have HAF := hide hAF
        have l0 := HAW.out.ba.cell 0
        have l1 := (HAW.out.ba.alloc (.cells #[.string ⟨#[]⟩, .slice none 0 0] 25)).cell 0
        have l2 := hA7.cell 0
        have lf := hA7.frozen 0
        have ll := hA7.lt
        simp only [List.getElem?_toArray, List.getElem?_cons_zero] at l0 l1 l2
        have hgA2 : A ≠ g := fun e => hgA e.symm
        have HGQ : Hid (q ≠ g) := fun e => by
          rcases hat with e2 | e2
          · exact HG5.out.1 (by rw [e2, e])
          · have := HGL.out; have := HWD.out.2; omega
        have HXF : Hid (ExQ (ChK A T ov0 ev0) w1 (((w7.setCell ⟨A, 0, none⟩ (.slice (some ⟨g, 0, none⟩) (n + 1) cap)).setCell ⟨g, n * 2, none⟩ (.string x.name)).setCell ⟨g, n * 2 + 1, none⟩ (.slice ax x.args.length cx))) := HED.out.transN hxF fun b hb hlt => chk_step HF1.out HF5.out hb hlt
        have HFF : Hid (Fsh w1.heap.size ov0 (.slice (some ⟨g, 0, none⟩) (n + 1) cap)) := HF1.out.next (w := wd) HWD.out.2 hat
        have Q7 : Hid (w7.heap[q]? = w3.heap[q]?) := (hx7.block q (Nat.lt_of_lt_of_le HGL.out HWD.out.2) HG5.out.1).trans HQD.out
        have KD : Hid ((fun w' => w'.cell? ⟨q, i * 2, none⟩ = some (.string x.name) ∧ w'.cell? ⟨q, i * 2 + 1, none⟩ = some (.slice ax x.args.length cx)) wd) := HSH.out _ HQD.out
        have KA : Hid ((fun w' => w'.cell? ⟨q, i * 2, none⟩ = some (.string x.name) ∧ w'.cell? ⟨q, i * 2 + 1, none⟩ = some (.slice ax x.args.length cx)) (wd.alloc (.cells #[.string ⟨#[]⟩, .slice none 0 0] 25))) := HSH.out _ ((Below.heap_alloc wd _ q (Nat.lt_of_lt_of_le HGL.out HWD.out.2)).trans HQD.out)
        have K7 : Hid ((fun w' => w'.cell? ⟨q, i * 2, none⟩ = some (.string x.name) ∧ w'.cell? ⟨q, i * 2 + 1, none⟩ = some (.slice ax x.args.length cx)) w7) := HSH.out _ Q7.out
        have K8 : Hid ((fun w' => w'.cell? ⟨q, i * 2, none⟩ = some (.string x.name) ∧ w'.cell? ⟨q, i * 2 + 1, none⟩ = some (.slice ax x.args.length cx)) ((w7.setCell ⟨g, n * 2, none⟩ (.string x.name)).setCell ⟨g, n * 2 + 1, none⟩ (.slice ax x.args.length cx))) := HSH.out _ (by rw [Below.heap_setCell _ _ _ _ (by simpa using HGQ.out), Below.heap_setCell _ _ _ _ (by simpa using HGQ.out)]; exact Q7.out)
        have K9 : Hid ((fun w' => w'.cell? ⟨q, i * 2, none⟩ = some (.string x.name) ∧ w'.cell? ⟨q, i * 2 + 1, none⟩ = some (.slice ax x.args.length cx)) (w7.setCell ⟨A, 0, none⟩ (.slice (some ⟨g, 0, none⟩) (n + 1) cap))) := HSH.out _ (by rw [Below.heap_setCell _ _ _ _ (by simpa using HG5.out.2)]; exact Q7.out)
        have K10 : Hid ((fun w' => w'.cell? ⟨q, i * 2, none⟩ = some (.string x.name) ∧ w'.cell? ⟨q, i * 2 + 1, none⟩ = some (.slice ax x.args.length cx)) (((w7.setCell ⟨g, n * 2, none⟩ (.string x.name)).setCell ⟨g, n * 2 + 1, none⟩ (.slice ax x.args.length cx)).setCell ⟨A, 0, none⟩ (.slice (some ⟨g, 0, none⟩) (n + 1) cap))) := HSH.out _ (by rw [Below.heap_setCell _ _ _ _ (by simpa using HG5.out.2), Below.heap_setCell _ _ _ _ (by simpa using HGQ.out), Below.heap_setCell _ _ _ _ (by simpa using HGQ.out)]; exact Q7.out)
        have K11 : Hid ((fun w' => w'.cell? ⟨q, i * 2, none⟩ = some (.string x.name) ∧ w'.cell? ⟨q, i * 2 + 1, none⟩ = some (.slice ax x.args.length cx)) (((w7.setCell ⟨A, 0, none⟩ (.slice (some ⟨g, 0, none⟩) (n + 1) cap)).setCell ⟨g, n * 2, none⟩ (.string x.name)).setCell ⟨g, n * 2 + 1, none⟩ (.slice ax x.args.length cx))) := HSH.out _ (by rw [Below.heap_setCell _ _ _ _ (by simpa using HGQ.out), Below.heap_setCell _ _ _ _ (by simpa using HGQ.out), Below.heap_setCell _ _ _ _ (by simpa using HG5.out.2)]; exact Q7.out)
        have HCM : Hid ((((w7.setCell ⟨g, n * 2, none⟩ (.string x.name)).setCell ⟨g, n * 2 + 1, none⟩ (.slice ax x.args.length cx)).setCell ⟨A, 0, none⟩ (.slice (some ⟨g, 0, none⟩) (n + 1) cap)) = (((w7.setCell ⟨A, 0, none⟩ (.slice (some ⟨g, 0, none⟩) (n + 1) cap)).setCell ⟨g, n * 2, none⟩ (.string x.name)).setCell ⟨g, n * 2 + 1, none⟩ (.slice ax x.args.length cx))) := by
          unfold Hid
          rw [setCell_commK _ (a := ⟨g, n * 2 + 1, none⟩) (b := ⟨A, 0, none⟩) hgA, setCell_commK _ (a := ⟨g, n * 2, none⟩) (b := ⟨A, 0, none⟩) hgA]
        have hn0 : (n : Int) < (n : Int) + 1 := by omega
        have hn1 : (0 : Int) ≤ (n : Int) := by omega
        clear hr7 hA7 hAF hx7 hxF hat
        refine wpAnyH_take (i := 1) (v := ?_) rfl (by kernel_rfl) (by kernel_rfl) (by kernel_rfl) (fun _ _ _ h => h) (Or.inl ⟨by rfl, ?_⟩) (by assumption) ?_
        rotate_left
        · intro w' hSw
          go_simp <;> with_reducible rfl
        try simp only [Act.put, List.setIfInBounds_toArray, List.set_cons_zero, List.set_cons_succ, List.getElem_toArray, List.getElem_cons_succ, List.getElem_cons_zero]
        refine wpAnyH_take (i := 2) (v := ?_) rfl (by kernel_rfl) (by kernel_rfl) (by kernel_rfl) (fun _ _ _ h => h) (Or.inl ⟨by rfl, ?_⟩) (by assumption) ?_
        rotate_left
        · intro w' hSw
          go_simp <;> with_reducible rfl
        try simp only [Act.put, List.setIfInBounds_toArray, List.set_cons_zero, List.set_cons_succ, List.getElem_toArray, List.getElem_cons_succ, List.getElem_cons_zero]
        refine wpAnyH_take (i := 3) (v := ?_) rfl (by kernel_rfl) (by kernel_rfl) (by kernel_rfl) (fun _ _ _ h => h) (Or.inl ⟨by rfl, ?_⟩) (by assumption) ?_
        rotate_left
        · intro w' hSw
          go_simp <;> with_reducible rfl
        try simp only [Act.put, List.setIfInBounds_toArray, List.set_cons_zero, List.set_cons_succ, List.getElem_toArray, List.getElem_cons_succ, List.getElem_cons_zero]
        refine wpAnyH_take (i := 4) (v := ?_) rfl (by kernel_rfl) (by kernel_rfl) (by kernel_rfl) (fun _ _ _ h => h) (Or.inl ⟨by rfl, ?_⟩) (by assumption) ?_
        rotate_left
        · intro w' hSw
          have f0 := hSw.1
          have f1 := hSw.2
          go_simp <;> with_reducible rfl
        try simp only [Act.put, List.setIfInBounds_toArray, List.set_cons_zero, List.set_cons_succ, List.getElem_toArray, List.getElem_cons_succ, List.getElem_cons_zero]
        have HAE : Hid (AdI N A T (L ++ [x]) ((L ++ [x]).map txB) (.slice (some ⟨g, 0, none⟩) (n + 1) cap) (.slice (some ⟨g5, 0, none⟩) (n + 1) cap5) (((w7.setCell ⟨A, 0, none⟩ (.slice (some ⟨g, 0, none⟩) (n + 1) cap)).setCell ⟨g, n * 2, none⟩ (.string x.name)).setCell ⟨g, n * 2 + 1, none⟩ (.slice ax x.args.length cx))) := by unfold Hid; rw [List.map_append]; exact HAF.out
        refine wpAnyH_ready (rs := [0, 6]) (by kernel_rfl) (by simp) ?_
        refine AllReadyH.cons rfl (fun K hK => ?_) (AllReadyH.cons rfl (fun K hK => ?_) AllReadyH.nil)
        · go_simp
          refine hK.out _ _ (by exact KD.out) (fun hHeld => ?_)
          clear hK K
          try simp only [Act.put, List.setIfInBounds_toArray, List.set_cons_zero, List.set_cons_succ, List.getElem_toArray, List.getElem_cons_succ, List.getElem_cons_zero]
          refine wpAnyH_take (i := 5) (v := ?_) rfl (by kernel_rfl) (by kernel_rfl) (by kernel_rfl) (fun _ _ _ h => h) (Or.inl ⟨by rfl, ?_⟩) (by assumption) ?_
          rotate_left
          · intro w' hSw
            go_simp <;> with_reducible rfl
          try simp only [Act.put, List.setIfInBounds_toArray, List.set_cons_zero, List.set_cons_succ, List.getElem_toArray, List.getElem_cons_succ, List.getElem_cons_zero]
          refine wpAnyH_ready (rs := [6]) (by kernel_rfl) (by simp) ?_
          refine AllReadyH.cons rfl (fun K hK => ?_) AllReadyH.nil
          go_simp
          refine hK.out _ _ (by exact KA.out) (fun hHeld => ?_)
          clear hK K
          try simp only [Act.put, List.setIfInBounds_toArray, List.set_cons_zero, List.set_cons_succ, List.getElem_toArray, List.getElem_cons_succ, List.getElem_cons_zero]
          refine wpAnyH_ready (rs := [7]) (by kernel_rfl) (by simp) ?_
          refine AllReadyH.cons rfl (fun K hK => ?_) AllReadyH.nil
          refine step_append_eqK rfl _ _ _ _ rfl rfl rfl HR7.out ?_
          refine hK.out _ _ (by exact K7.out) (fun hHeld => ?_)
          clear hK K
          try simp only [Act.put, List.setIfInBounds_toArray, List.set_cons_zero, List.set_cons_succ, List.getElem_toArray, List.getElem_cons_succ, List.getElem_cons_zero]
          refine wpAnyH_take (i := 8) (v := ?_) rfl (by kernel_rfl) (by kernel_rfl) (by kernel_rfl) (fun _ _ _ h => h) (Or.inl ⟨by rfl, ?_⟩) (by assumption) ?_
          rotate_left
          · intro w' hSw
            go_simp <;> with_reducible rfl
          try simp only [Act.put, List.setIfInBounds_toArray, List.set_cons_zero, List.set_cons_succ, List.getElem_toArray, List.getElem_cons_succ, List.getElem_cons_zero]
          refine wpAnyH_ready (rs := [9, 10]) (by kernel_rfl) (by simp) ?_
          refine AllReadyH.cons rfl (fun K hK => ?_) (AllReadyH.cons rfl (fun K hK => ?_) AllReadyH.nil)
          · go_simp
            refine hK.out _ _ (by exact K8.out) (fun hHeld => ?_)
            clear hK K
            try simp only [Act.put, List.setIfInBounds_toArray, List.set_cons_zero, List.set_cons_succ, List.getElem_toArray, List.getElem_cons_succ, List.getElem_cons_zero]
            refine wpAnyH_ready (rs := [10]) (by kernel_rfl) (by simp) ?_
            refine AllReadyH.cons rfl (fun K hK => ?_) AllReadyH.nil
            go_simp
            refine hK.out _ _ (by exact K10.out) (fun hHeld => ?_)
            clear hK K
            try simp only [Act.put, List.setIfInBounds_toArray, List.set_cons_zero, List.set_cons_succ, List.getElem_toArray, List.getElem_cons_succ, List.getElem_cons_zero]
            refine wpAnyH_done (by kernel_rfl) ?_ _
            rw [HCM.out]
            clear hHeld l0 l1 l2 lf ll k0 k1 hfr hgl hgA hgA2
            generalize (((w7.setCell ⟨A, 0, none⟩ (.slice (some ⟨g, 0, none⟩) (n + 1) cap)).setCell ⟨g, n * 2, none⟩ (.string x.name)).setCell ⟨g, n * 2 + 1, none⟩ (.slice ax x.args.length cx)) = w8 at *
            go_wp2_with fail
            go_roundw
            case rel => exact ⟨i + 1, L ++ [x], _, _, by go_num, by omega, HAE.out, HPN.out, HFF.out, HF5.out, HXF.out⟩
            case measure => simp [intOf]; omega
          · go_simp
            refine hK.out _ _ (by exact K9.out) (fun hHeld => ?_)
            clear hK K
            try simp only [Act.put, List.setIfInBounds_toArray, List.set_cons_zero, List.set_cons_succ, List.getElem_toArray, List.getElem_cons_succ, List.getElem_cons_zero]
            refine wpAnyH_ready (rs := [9]) (by kernel_rfl) (by simp) ?_
            refine AllReadyH.cons rfl (fun K hK => ?_) AllReadyH.nil
            go_simp
            refine hK.out _ _ (by exact K11.out) (fun hHeld => ?_)
            clear hK K
            try simp only [Act.put, List.setIfInBounds_toArray, List.set_cons_zero, List.set_cons_succ, List.getElem_toArray, List.getElem_cons_succ, List.getElem_cons_zero]
            refine wpAnyH_done (by kernel_rfl) ?_ _
            clear hHeld l0 l1 l2 lf ll k0 k1 hfr hgl hgA hgA2
            generalize (((w7.setCell ⟨A, 0, none⟩ (.slice (some ⟨g, 0, none⟩) (n + 1) cap)).setCell ⟨g, n * 2, none⟩ (.string x.name)).setCell ⟨g, n * 2 + 1, none⟩ (.slice ax x.args.length cx)) = w8 at *
            go_wp2_with fail
            go_roundw
            case rel => exact ⟨i + 1, L ++ [x], _, _, by go_num, by omega, HAE.out, HPN.out, HFF.out, HF5.out, HXF.out⟩
            case measure => simp [intOf]; omega
        · go_simp
          refine hK.out _ _ (by exact KA.out) (fun hHeld => ?_)
          clear hK K
          try simp only [Act.put, List.setIfInBounds_toArray, List.set_cons_zero, List.set_cons_succ, List.getElem_toArray, List.getElem_cons_succ, List.getElem_cons_zero]
          refine wpAnyH_ready (rs := [0]) (by kernel_rfl) (by simp) ?_
          refine AllReadyH.cons rfl (fun K hK => ?_) AllReadyH.nil
          go_simp
          refine hK.out _ _ (by exact KA.out) (fun hHeld => ?_)
          clear hK K
          try simp only [Act.put, List.setIfInBounds_toArray, List.set_cons_zero, List.set_cons_succ, List.getElem_toArray, List.getElem_cons_succ, List.getElem_cons_zero]
          refine wpAnyH_take (i := 5) (v := ?_) rfl (by kernel_rfl) (by kernel_rfl) (by kernel_rfl) (fun _ _ _ h => h) (Or.inl ⟨by rfl, ?_⟩) (by assumption) ?_
          rotate_left
          · intro w' hSw
            go_simp <;> with_reducible rfl
          try simp only [Act.put, List.setIfInBounds_toArray, List.set_cons_zero, List.set_cons_succ, List.getElem_toArray, List.getElem_cons_succ, List.getElem_cons_zero]
          refine wpAnyH_ready (rs := [7]) (by kernel_rfl) (by simp) ?_
          refine AllReadyH.cons rfl (fun K hK => ?_) AllReadyH.nil
          refine step_append_eqK rfl _ _ _ _ rfl rfl rfl HR7.out ?_
          refine hK.out _ _ (by exact K7.out) (fun hHeld => ?_)
          clear hK K
          try simp only [Act.put, List.setIfInBounds_toArray, List.set_cons_zero, List.set_cons_succ, List.getElem_toArray, List.getElem_cons_succ, List.getElem_cons_zero]
          refine wpAnyH_take (i := 8) (v := ?_) rfl (by kernel_rfl) (by kernel_rfl) (by kernel_rfl) (fun _ _ _ h => h) (Or.inl ⟨by rfl, ?_⟩) (by assumption) ?_
          rotate_left
          · intro w' hSw
            go_simp <;> with_reducible rfl
          try simp only [Act.put, List.setIfInBounds_toArray, List.set_cons_zero, List.set_cons_succ, List.getElem_toArray, List.getElem_cons_succ, List.getElem_cons_zero]
          refine wpAnyH_ready (rs := [9, 10]) (by kernel_rfl) (by simp) ?_
          refine AllReadyH.cons rfl (fun K hK => ?_) (AllReadyH.cons rfl (fun K hK => ?_) AllReadyH.nil)
          · go_simp
            refine hK.out _ _ (by exact K8.out) (fun hHeld => ?_)
            clear hK K
            try simp only [Act.put, List.setIfInBounds_toArray, List.set_cons_zero, List.set_cons_succ, List.getElem_toArray, List.getElem_cons_succ, List.getElem_cons_zero]
            refine wpAnyH_ready (rs := [10]) (by kernel_rfl) (by simp) ?_
            refine AllReadyH.cons rfl (fun K hK => ?_) AllReadyH.nil
            go_simp
            refine hK.out _ _ (by exact K10.out) (fun hHeld => ?_)
            clear hK K
            try simp only [Act.put, List.setIfInBounds_toArray, List.set_cons_zero, List.set_cons_succ, List.getElem_toArray, List.getElem_cons_succ, List.getElem_cons_zero]
            refine wpAnyH_done (by kernel_rfl) ?_ _
            rw [HCM.out]
            clear hHeld l0 l1 l2 lf ll k0 k1 hfr hgl hgA hgA2
            generalize (((w7.setCell ⟨A, 0, none⟩ (.slice (some ⟨g, 0, none⟩) (n + 1) cap)).setCell ⟨g, n * 2, none⟩ (.string x.name)).setCell ⟨g, n * 2 + 1, none⟩ (.slice ax x.args.length cx)) = w8 at *
            go_wp2_with fail
            go_roundw
            case rel => exact ⟨i + 1, L ++ [x], _, _, by go_num, by omega, HAE.out, HPN.out, HFF.out, HF5.out, HXF.out⟩
            case measure => simp [intOf]; omega
          · go_simp
            refine hK.out _ _ (by exact K9.out) (fun hHeld => ?_)
            clear hK K
            try simp only [Act.put, List.setIfInBounds_toArray, List.set_cons_zero, List.set_cons_succ, List.getElem_toArray, List.getElem_cons_succ, List.getElem_cons_zero]
            refine wpAnyH_ready (rs := [9]) (by kernel_rfl) (by simp) ?_
            refine AllReadyH.cons rfl (fun K hK => ?_) AllReadyH.nil
            go_simp
            refine hK.out _ _ (by exact K11.out) (fun hHeld => ?_)
            clear hK K
            try simp only [Act.put, List.setIfInBounds_toArray, List.set_cons_zero, List.set_cons_succ, List.getElem_toArray, List.getElem_cons_succ, List.getElem_cons_zero]
            refine wpAnyH_done (by kernel_rfl) ?_ _
            clear hHeld l0 l1 l2 lf ll k0 k1 hfr hgl hgA hgA2
            generalize (((w7.setCell ⟨A, 0, none⟩ (.slice (some ⟨g, 0, none⟩) (n + 1) cap)).setCell ⟨g, n * 2, none⟩ (.string x.name)).setCell ⟨g, n * 2 + 1, none⟩ (.slice ax x.args.length cx)) = w8 at *
            go_wp2_with fail
            go_roundw
            case rel => exact ⟨i + 1, L ++ [x], _, _, by go_num, by omega, HAE.out, HPN.out, HFF.out, HF5.out, HXF.out⟩
            case measure => simp [intOf]; omega
    · have HPE : Hid (AdP (ys ++ kn) L) := by
        have := HPP.out
        rwa [List.take_of_length_le (by omega)] at this
      go_wp2_with fail
      go_end0
      exact ⟨rfl, HBN.out.trans HNB.out, L, ov, ev, HAD.out, by have := HPE.out; rwa [HKQ.out] at this⟩
end Go.Proofs.YtdmaijmglblccaaGreatDoor

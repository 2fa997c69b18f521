import Derived.Test.YtmkendjmfdaedaaGreatZRewriteMadeOwn
import Derived.Test.YtmkendjmfdaedaaGreatW181
import Derived.Test.YtmkendjmfdaedaaGreatW185
import Derived.Test.YtmkendjmfdaedaaGreatEn3
import Derived.Deep.RegionHeld3
namespace Go.Proofs.YtmkendjmfdaedaaGreat
open Go.RowKit Go.Shelf
set_option linter.unusedSimpArgs false
set_option linter.unusedVariables false
set_option maxRecDepth 8000
def OtInv (rs : List Pr) (m : Nat) (t : Tm) (w : World) (fv i : Value) (wr : World) : Prop :=
 ∃ (j : Nat) (tc : Tm) (a : Option Addr) (c : Nat) (fs : List Int), j ≤ m ∧ i = .int .i64 (j : Int) ∧ endP rs false m t = shiftN j (endP rs false (m - j) tc) ∧ sizeL [tc] ≤ 2000 ∧ (atT tc fs).isSome = true ∧ leftOk rs fs tc ∧ Blk wr w.heap.size #[.string tc.name, .slice a tc.args.length c] 27 ∧ Sl wr (fun b => b ≠ w.heap.size ∧ b ≠ w.heap.size + 1) a tc.args ∧ PV wr (fun b => b ≠ w.heap.size ∧ b ≠ w.heap.size + 1) fv fs ∧ Blk wr (w.heap.size + 1) #[.string ⟨#[]⟩, .slice none 0 0] 27 ∧ Below w.heap.size w wr ∧ w.heap.size + 2 ≤ wr.heap.size
set_option maxHeartbeats 8000000 in
theorem sOuter_any (rs : List Pr) (hr : ∀ p ∈ rs, ruleE p = 0) (t : Tm) (m : Nat) (u : Value) (a0 : Option Addr) (c0 : Nat) (w : World) (X0 : Nat → Prop) (hu0 : QV w X0 u rs) (hs0 : Sl w X0 a0 t.args) (hz : sizeL [t] ≤ 2000) (hm : m ≤ 400) :
  Calls Tryz.prog 50 #[u, .agg #[.string t.name, .slice a0 t.args.length c0], .int .i64 (m : Int)] w fun e w' => EdPost (endP rs false m t) w e w' := by
 obtain ⟨X, hXw, hu, hs⟩ : ∃ X : Nat → Prop, (∀ b, X b → b < w.heap.size) ∧ QV w X u rs ∧ Sl w X a0 t.args := ⟨fun b => X0 b ∧ b < w.heap.size, fun _ h => h.2, hu0.mono fun b h1 h2 => ⟨h1, h2⟩, hs0.mono fun b h1 h2 => ⟨h1, h2⟩⟩
 have HXW := hide hXw
 have HU := hide hu
 have HS := hide hs
 have HR := hide hr
 obtain ⟨ua, uc, rfl, _, _⟩ := hu
 clear hXw hs hu0 hs0 hr
 have HW : Hid (∃ W, W = (w.alloc (.cells #[.string t.name, .slice a0 t.args.length c0] 27)).alloc (.cells #[.string ⟨#[]⟩, .slice none 0 0] 27) ∧ Below w.heap.size w W ∧ W.heap.size = w.heap.size + 2 ∧ Blk W w.heap.size #[.string t.name, .slice a0 t.args.length c0] 27 ∧ Blk W (w.heap.size + 1) #[.string ⟨#[]⟩, .slice none 0 0] 27) := by
  obtain ⟨h1, h2, h3⟩ := allocs_facts [(.cells #[.string t.name, .slice a0 t.args.length c0] 27 : Obj), (.cells #[.string ⟨#[]⟩, .slice none 0 0] 27 : Obj)] w
  exact ⟨_, rfl, h1, h2, h3 0 _ rfl, h3 1 _ rfl⟩
 go_enter Tryz.func50, Tryz.ntmps50
 go_wp2_with fail
 obtain ⟨w0, hw0, hb0, hz0, ht0, hr0⟩ := HW.out
 rw [← hw0]
 have HB0 := hide hb0
 have HT0 := hide ht0
 have HR0 := hide hr0
 have HZ0 := hide hz0
 clear hw0 HW hb0 hz0 ht0 hr0
 go_loopw [9, 10] (fun fv i wr => OtInv rs m t w fv i wr) (fun fv i wr => m - (intOf i).toNat)
 case atStart =>
  exact ⟨0, t, a0, c0, [], Nat.zero_le _, rfl, by rw [Nat.sub_zero]; exact (shiftN_zero (endP_form _ _ _ _)).symm, hz, rfl, trivial, HT0.out, (HS.out.later HB0.out).mono fun b hb _ => by have := HXW.out b hb; omega, ⟨none, 0, rfl, by simp, Or.inl rfl⟩, HR0.out, HB0.out, by have := HZ0.out; omega⟩
 case round =>
  obtain ⟨j, tc, a, c, fs, hj, rfl, heq, hzc, hat, hlo, hT, hsl, hpv, hRB, hbw, hzr⟩ := hrel
  have HEN := hide heq
  have HZC := hide hzc
  have HAT := hide hat
  have HLO := hide hlo
  have HTB := hide hT
  have HSL := hide hsl
  have HPV := hide hpv
  have HRB := hide hRB
  have HBW := hide hbw
  obtain ⟨fa, fc, rfl, hfl, _⟩ := hpv
  clear heq hlo hsl hRB hat
  have t0 := hT.c0
  have t1 := hT.c1
  clear hT hbw
  have HAF := hide (allocs_facts [(.cells #[.string tc.name, .slice a tc.args.length c] 27 : Obj), (.cells #[.slice fa fs.length fc] 22 : Obj), (.cells #[.slice ua rs.length uc] 23 : Obj), (.cells #[.func (.func 86) #[] #[.pointer (some ⟨wr.heap.size, 0, none⟩), .pointer (some ⟨wr.heap.size + 1, 0, none⟩)]] 98 : Obj)] wr)
  go_wp2_with (first | (go_at_call 63; refine (downF_any _ _ _ _ _ _ _ _).mono ?_; rintro e w' ⟨rfl, rfl⟩) | (go_at_call 62; refine (chancesF_any _ _ _ _ _ _ _).mono ?_; rintro e w' ⟨rfl, rfl⟩))
  have HW4 : Hid (∃ W, W = ((((wr.alloc (.cells #[.string tc.name, .slice a tc.args.length c] 27)).alloc (.cells #[.slice fa fs.length fc] 22)).alloc (.cells #[.slice ua rs.length uc] 23)).alloc (.cells #[.func (.func 86) #[] #[.pointer (some ⟨wr.heap.size, 0, none⟩), .pointer (some ⟨wr.heap.size + 1, 0, none⟩)]] 98)) ∧ Below wr.heap.size wr W ∧ W.heap.size = wr.heap.size + 4 ∧ Blk W wr.heap.size #[.string tc.name, .slice a tc.args.length c] 27 ∧ Blk W (wr.heap.size + 1) #[.slice fa fs.length fc] 22 ∧ Blk W (wr.heap.size + 1 + 1) #[.slice ua rs.length uc] 23 ∧ Blk W (wr.heap.size + 1 + 1 + 1) #[.func (.func 86) #[] #[.pointer (some ⟨wr.heap.size, 0, none⟩), .pointer (some ⟨wr.heap.size + 1, 0, none⟩)]] 98) := ⟨_, rfl, HAF.out.1, HAF.out.2.1, HAF.out.2.2 0 _ rfl, HAF.out.2.2 1 _ rfl, HAF.out.2.2 2 _ rfl, HAF.out.2.2 3 _ rfl⟩
  obtain ⟨w4, hw4, hb4, hz4, hT4, hF4, hR4, hP4⟩ := HW4.out
  rw [← hw4]
  have HB4 := hide hb4
  clear hw4 HW4 HAF t0 t1
  refine (firstC_any rs tc fs (wr.heap.size + 1 + 1 + 1) (wr.heap.size + 1 + 1) wr.heap.size (wr.heap.size + 1) (.slice ua rs.length uc) a c (.slice fa fs.length fc) w4 (fun b => (b ≠ w.heap.size ∧ b ≠ w.heap.size + 1) ∧ b < wr.heap.size) (fun b => b = w.heap.size ∨ b = w.heap.size + 1) hP4 hR4 (((HU.out.later HBW.out).mono fun b hb _ => by have := HXW.out b hb; exact ⟨⟨by omega, by omega⟩, by omega⟩).later hb4) hT4 ((HSL.out.mono fun b hb hl => ⟨hb, hl⟩).later hb4) hF4 ((HPV.out.mono fun b hb hl => ⟨hb, hl⟩).later hb4) HAT.out (fun b hb => ⟨by omega, fun h => by rcases h with h | h; exact hb.1.1 h; exact hb.1.2 h⟩) (fun b hb => by omega) (by have := HZC.out; omega)).mono ?_
  rintro e w5 ⟨hb5, hc5⟩
  have B5 := hide (HB4.out.trans (hb5.mono (by omega)))
  have hz5 : wr.heap.size ≤ w5.heap.size := B5.out.size
  have TB5 := hide (HTB.out.below B5.out HTB.out.lt)
  have RB5 := hide (HRB.out.below B5.out HRB.out.lt)
  have SL5 := hide (HSL.out.later B5.out)
  have BW5 := hide (HBW.out.trans (B5.out.mono HBW.out.size))
  clear hb4 hz4 hT4 hF4 hR4 hP4 hb5 HB4 HTB HRB HSL HPV HBW
  rcases hc5 with ⟨hn, rfl⟩ | ⟨y, cs, Z, hpf, rfl, hl, hZ⟩
  ·have HEP : Hid (endP rs false m t = (0, tc, j)) := by
    unfold Hid
    rw [HEN.out, endP_none (first_none HLO.out hn)]
    simp [shiftN]
   have HBA : Hid (∀ o, Below w5.heap.size w5 (w5.alloc o)) := fun o => (Below.refl _ _).alloc (Nat.le_refl _) o
   have t0 : ∀ o, (w5.alloc o).cell? ⟨w.heap.size, 0, none⟩ = some (.string tc.name) := fun o => (TB5.out.alloc o).cell 0
   have t1 : ∀ o, (w5.alloc o).cell? ⟨w.heap.size, 1, none⟩ = some (.slice a tc.args.length c) := fun o => (TB5.out.alloc o).cell 1
   clear hn
   go_wp2_with fail
   refine (copyOf_any tc _ _ _ ⟨a, c, rfl, SL5.out.later (HBA.out _)⟩ (by have := HZC.out; omega)).mono ?_
   rintro e w6 ⟨v6, rfl, ⟨a6, c6, rfl, hs6⟩, hb6⟩
   have HS6 := hide hs6
   have B6 := hide ((HBA.out _).trans (hb6.mono (by simp)))
   have hz6 : w5.heap.size + 1 ≤ w6.heap.size := by have := hb6.size; simp at this; omega
   have RB6 := hide (RB5.out.below B6.out RB5.out.lt)
   have BW6 := hide (BW5.out.trans (B6.out.mono BW5.out.size))
   clear hs6 hb6 t0 t1
   have r0 := RB6.out.c0
   have r1 := RB6.out.c1
   have rf := RB6.out.frozen
   go_wp2_with fail
   refine bodyPost_ret (v := .tuple #[.agg #[.string tc.name, .slice a6 tc.args.length c6], .int .i64 (j : Int), .int .i64 0]) (by simp [results, Tryz.results50, go_sem, World.cell?_setCell_same, World.cell?_setCell_other, r0, r1]) rfl ?_
   refine ⟨(BW6.out.setCell (by simp) _).setCell (by simp) _, tc, a6, c6, j, 0, rfl, HEP.out, (HS6.out.kept fun b hb => ?_).mono fun b hb _ => by simp at hb; have := BW5.out.size; omega⟩
   simp at hb
   rw [Below.heap_setCell _ _ _ _ (by simp; omega), Below.heap_setCell _ _ _ _ (by simp; omega)]
  ·obtain ⟨pa, pc, xa, xc, ra, rc, q, Lm, e1, hpu, hxs, hra, hq, hen⟩ := hl
   simp at e1
   subst e1
   obtain ⟨hnp, hatc, hnt⟩ := first_next HR.out HLO.out hpf
   have HNP := hide hnp
   have HATC := hide hatc
   have HNT := hide hnt
   have hZ2 : ∀ b, Z b → b ≠ w.heap.size ∧ b ≠ w.heap.size + 1 := fun b hb => ⟨fun h => (hZ b hb).2 (Or.inl h), fun h => (hZ b hb).2 (Or.inr h)⟩
   have HZ2 := hide hZ2
   have HPU := hide hpu
   have HXS := hide hxs
   have HRA := hide hra
   have HEV := hide hen
   clear hpf hZ hpu hxs hra hq hen hnp hatc hnt hZ2
   by_cases hjm : j = m
   ·have hji : (j : Int) = (m : Int) := by omega
    have HEP : Hid (endP rs false m t = (9, ⟨⟨#[]⟩, []⟩, 0)) := by
     unfold Hid
     rw [HEN.out, hjm, Nat.sub_self, endP_zero HNT.out]
     exact shiftN_err _ _ (by decide)
    clear hjm
    have r0 := RB5.out.c0
    have r1 := RB5.out.c1
    have rf := RB5.out.frozen
    have rl := RB5.out.lt
    go_wp2_with fail
    have KF : Blk (((w5.setCell ⟨w.heap.size + 1, 0, none⟩ (.string ⟨#[]⟩)).setCell ⟨w.heap.size + 1, 1, none⟩ (.slice none 0 0)).alloc (.cells #[.slice pa y.1.1.length pc, .string y.1.2.name, .slice xa y.1.2.args.length xc, .string y.2.1.r.name, .slice ra y.2.1.r.args.length rc, .map (some q)] 104)) (w.heap.size + 1) #[.string ⟨#[]⟩, .slice none 0 0] 27 := ((RB5.out.set 0 _).set 1 _).alloc _
    have BF : Hid (Below w.heap.size w (((w5.setCell ⟨w.heap.size + 1, 0, none⟩ (.string ⟨#[]⟩)).setCell ⟨w.heap.size + 1, 1, none⟩ (.slice none 0 0)).alloc (.cells #[.slice pa y.1.1.length pc, .string y.1.2.name, .slice xa y.1.2.args.length xc, .string y.2.1.r.name, .slice ra y.2.1.r.args.length rc, .map (some q)] 104))) := ((BW5.out.setCell (by simp) _).setCell (by simp) _).alloc (by have := BW5.out.size; simp [World.setCell]; omega) _
    generalize (((w5.setCell ⟨w.heap.size + 1, 0, none⟩ (.string ⟨#[]⟩)).setCell ⟨w.heap.size + 1, 1, none⟩ (.slice none 0 0)).alloc (.cells #[.slice pa y.1.1.length pc, .string y.1.2.name, .slice xa y.1.2.args.length xc, .string y.2.1.r.name, .slice ra y.2.1.r.args.length rc, .map (some q)] 104)) = wf at *
    have f0 := KF.c0
    have f1 := KF.c1
    refine bodyPost_ret (v := .tuple #[.agg #[.string ⟨#[]⟩, .slice none 0 0], .int .i64 0, .int .i64 9]) (by simp [results, Tryz.results50, go_sem, f0, f1]) rfl ?_
    exact ⟨BF.out, ⟨⟨#[]⟩, []⟩, none, 0, 0, 9, rfl, HEP.out, ⟨by simp, Or.inl rfl⟩⟩
   ·have hji : ¬ ((j : Int) = (m : Int)) := by omega
    have hjl : j < m := by omega
    clear hjm
    have HBA : Hid (Below w5.heap.size w5 (w5.alloc (.cells #[.slice pa y.1.1.length pc, .string y.1.2.name, .slice xa y.1.2.args.length xc, .string y.2.1.r.name, .slice ra y.2.1.r.args.length rc, .map (some q)] 104))) := (Below.refl _ _).alloc (Nat.le_refl _) _
    have CB5 : Hid (Blk (w5.alloc (.cells #[.slice pa y.1.1.length pc, .string y.1.2.name, .slice xa y.1.2.args.length xc, .string y.2.1.r.name, .slice ra y.2.1.r.args.length rc, .map (some q)] 104)) w5.heap.size #[.slice pa y.1.1.length pc, .string y.1.2.name, .slice xa y.1.2.args.length xc, .string y.2.1.r.name, .slice ra y.2.1.r.args.length rc, .map (some q)] 104) := Blk.new w5 _ _
    have t0 : ∀ o, (w5.alloc o).cell? ⟨w.heap.size, 0, none⟩ = some (.string tc.name) := fun o => (TB5.out.alloc o).cell 0
    have t1 : ∀ o, (w5.alloc o).cell? ⟨w.heap.size, 1, none⟩ = some (.slice a tc.args.length c) := fun o => (TB5.out.alloc o).cell 1
    go_wp2_with fail
    have hza : (w5.alloc (.cells #[.slice pa y.1.1.length pc, .string y.1.2.name, .slice xa y.1.2.args.length xc, .string y.2.1.r.name, .slice ra y.2.1.r.args.length rc, .map (some q)] 104)).heap.size = w5.heap.size + 1 := by simp
    refine (take_step y.1 y.2 tc pa xa ra a pc xc rc c q Lm _ (fun b => b ≠ w.heap.size ∧ b ≠ w.heap.size + 1) Z (HPU.out.later HBA.out) (HXS.out.later HBA.out) (HRA.out.later HBA.out) (HEV.out.later HBA.out) (SL5.out.later HBA.out) HATC.out HZC.out).mono ?_
    rintro e w6 ⟨hb6, hc6⟩
    have B6 := hide (HBA.out.trans (hb6.mono (by omega)))
    have hz6 : w5.heap.size + 1 ≤ w6.heap.size := by have := hb6.size; omega
    have CB6 := hide (CB5.out.below hb6 CB5.out.lt)
    have TB6 := hide (TB5.out.below B6.out TB5.out.lt)
    have RB6 := hide (RB5.out.below B6.out RB5.out.lt)
    have BW6 := hide (BW5.out.trans (B6.out.mono BW5.out.size))
    have PV6 := hide ((HPU.out.later HBA.out).later hb6)
    have HZB := hide (hb6.size)
    rcases hc6 with ⟨hnf, a7, c7, rfl, hs7⟩ | ⟨hfl, rfl⟩
    ·have HSZ := hide (full_size (y := y.2) (d := y.1) HATC.out)
     obtain ⟨tn, htn⟩ : ∃ tn, tn = putT (outC y.2) y.1.1 tc := ⟨_, rfl⟩
     have HTN : Hid (tn = outA tc y) := by unfold Hid; rw [htn]; rfl
     have HZN : Hid (sizeL [tn] ≤ 2000) := by
      unfold Hid
      rw [htn]
      apply Classical.byContradiction
      intro h
      exact hnf (HSZ.out.2 (by omega))
     have HATN : Hid ((atT tn y.1.1).isSome = true) := by unfold Hid; rw [htn, at_put _ _ _ _ HATC.out]; rfl
     have HLN : Hid (leftOk rs y.1.1 tn) := by unfold Hid; rw [htn]; exact left_next _ _ _ HNP.out
     have HEQ : Hid (endP rs false m t = shiftN (j + 1) (endP rs false (m - (j + 1)) tn)) := by
      unfold Hid
      have e1 : m - j = (m - (j + 1)) + 1 := by omega
      rw [HEN.out, e1, endP_step (t' := tn) (by rw [HNT.out, HTN.out]) HZN.out, shiftN_add, Nat.add_comm 1 j]
     have SN0 : Hid (Sl w6 (fun b => b ≠ w.heap.size ∧ b ≠ w.heap.size + 1) a7 tn.args) := by
      unfold Hid
      rw [htn]
      refine hs7.mono fun b hb _ => ?_
      rcases hb with h | h
      ·exact h.1
      ·have h8 := RB5.out.lt; omega
     rw [← htn]
     clear hnf hs7 htn hb6 t0 t1 CB5
     have HBN : Hid (Below w6.heap.size w6 (w6.alloc (.cells #[.string tn.name, .slice a7 tn.args.length c7] 27))) := (Below.refl _ _).alloc (Nat.le_refl _) _
     have NB : Hid (Blk (w6.alloc (.cells #[.string tn.name, .slice a7 tn.args.length c7] 27)) w6.heap.size #[.string tn.name, .slice a7 tn.args.length c7] 27) := Blk.new w6 _ _
     go_upto_region 12 with fail
     have CB7 := hide (CB6.out.below HBN.out CB6.out.lt)
     have TB7 := hide (TB6.out.below HBN.out TB6.out.lt)
     have RB7 := hide (RB6.out.below HBN.out RB6.out.lt)
     have SN := hide (SN0.out.later HBN.out)
     have PV7 : Hid (PV (w6.alloc (.cells #[.string tn.name, .slice a7 tn.args.length c7] 27)) (fun b => b ≠ w.heap.size ∧ b ≠ w.heap.size + 1) (.slice pa y.1.1.length pc) y.1.1) := (PV6.out.later HBN.out).mono fun b hb _ => HZ2.out b hb
     have BW7 := hide (BW6.out.trans (HBN.out.mono BW6.out.size))
     have hz76 : w6.heap.size + 1 ≤ (w6.alloc (.cells #[.string tn.name, .slice a7 tn.args.length c7] 27)).heap.size := by simp
     have hR1 : w.heap.size + 2 ≤ w5.heap.size := RB5.out.lt
     clear CB6 TB6 RB6 SN0 PV6 BW6 HBN
     generalize (w6.alloc (.cells #[.string tn.name, .slice a7 tn.args.length c7] 27)) = w7 at *
     have BD : Hid (Below w7.heap.size w7 w7.drew) := below_drewN (Below.refl _ _) 1
     refine wp_region_held_drew (S := fun w' => Blk w' w6.heap.size #[.string tn.name, .slice a7 tn.args.length c7] 27 ∧ Blk w' w5.heap.size #[.slice pa y.1.1.length pc, .string y.1.2.name, .slice xa y.1.2.args.length xc, .string y.2.1.r.name, .slice ra y.2.1.r.args.length rc, .map (some q)] 104) (by kernel_rfl) ⟨NB.out.below BD.out NB.out.lt, CB7.out.below BD.out CB7.out.lt⟩ (fun hHeld => ?_)
     refine tkq (v := ?_) 0 rfl ?_ ?_
     rotate_left
     ·intro w' hSw
      have n0 : w'.cell? ⟨w6.heap.size, 0, none⟩ = some (.string tn.name) := hSw.1.cell 0
      have n1 : w'.cell? ⟨w6.heap.size, 1, none⟩ = some (.slice a7 tn.args.length c7) := hSw.1.cell 1
      go_simp <;> with_reducible rfl
     try simp only [Act.put, sq]
     refine tkq (v := ?_) 1 rfl ?_ ?_
     rotate_left
     ·intro w' hSw
      go_simp <;> with_reducible rfl
     try simp only [Act.put, sq]
     refine tkq (v := ?_) 2 rfl ?_ ?_
     rotate_left
     ·intro w' hSw
      have p0 : w'.cell? ⟨w5.heap.size, 0, none⟩ = some (.slice pa y.1.1.length pc) := hSw.2.cell 0
      go_simp <;> with_reducible rfl
     try simp only [Act.put, sq]
     have hzw : w7.drew.heap.size = w7.heap.size := rfl
     have TBd : Hid (Blk w7.drew w.heap.size #[.string tc.name, .slice a tc.args.length c] 27) := TB7.out
     have RBd : Hid (Blk w7.drew (w.heap.size + 1) #[.string ⟨#[]⟩, .slice none 0 0] 27) := RB7.out
     have NBd : Hid (Blk w7.drew w6.heap.size #[.string tn.name, .slice a7 tn.args.length c7] 27) := NB.out
     have CBd : Hid (Blk w7.drew w5.heap.size #[.slice pa y.1.1.length pc, .string y.1.2.name, .slice xa y.1.2.args.length xc, .string y.2.1.r.name, .slice ra y.2.1.r.args.length rc, .map (some q)] 104) := CB7.out
     have SNd : Hid (Sl w7.drew (fun b => b ≠ w.heap.size ∧ b ≠ w.heap.size + 1) a7 tn.args) := SN.out.later BD.out
     have PVd : Hid (PV w7.drew (fun b => b ≠ w.heap.size ∧ b ≠ w.heap.size + 1) (.slice pa y.1.1.length pc) y.1.1) := PV7.out.later BD.out
     have BWd : Hid (Below w.heap.size w w7.drew) := BW7.out.trans (BD.out.mono BW7.out.size)
     rw [← hzw] at hz76
     clear hzw TB7 RB7 NB CB7 SN PV7 BW7 BD
     generalize w7.drew = wd at *
     have t0 := TBd.out.c0
     have t1 := TBd.out.c1
     have tf := TBd.out.frozen
     have tl := TBd.out.lt
     have FT : Hid (Blk ((wd.setCell ⟨w.heap.size, 0, none⟩ (.string tn.name)).setCell ⟨w.heap.size, 1, none⟩ (.slice a7 tn.args.length c7)) w.heap.size #[.string tn.name, .slice a7 tn.args.length c7] 27) := (TBd.out.set 0 _).set 1 _
     have FR : Hid (Blk ((wd.setCell ⟨w.heap.size, 0, none⟩ (.string tn.name)).setCell ⟨w.heap.size, 1, none⟩ (.slice a7 tn.args.length c7)) (w.heap.size + 1) #[.string ⟨#[]⟩, .slice none 0 0] 27) := (RBd.out.setOther _ _ (by omega)).setOther _ _ (by omega)
     have FN : Hid (Blk ((wd.setCell ⟨w.heap.size, 0, none⟩ (.string tn.name)).setCell ⟨w.heap.size, 1, none⟩ (.slice a7 tn.args.length c7)) w6.heap.size #[.string tn.name, .slice a7 tn.args.length c7] 27) := (NBd.out.setOther _ _ (by omega)).setOther _ _ (by omega)
     have FC : Hid (Blk ((wd.setCell ⟨w.heap.size, 0, none⟩ (.string tn.name)).setCell ⟨w.heap.size, 1, none⟩ (.slice a7 tn.args.length c7)) w5.heap.size #[.slice pa y.1.1.length pc, .string y.1.2.name, .slice xa y.1.2.args.length xc, .string y.2.1.r.name, .slice ra y.2.1.r.args.length rc, .map (some q)] 104) := (CBd.out.setOther _ _ (by omega)).setOther _ _ (by omega)
     have kS : ∀ b, b ≠ w.heap.size → (((wd.setCell ⟨w.heap.size, 0, none⟩ (.string tn.name)).setCell ⟨w.heap.size, 1, none⟩ (.slice a7 tn.args.length c7))).heap[b]? = wd.heap[b]? := fun b hb => by rw [Below.heap_setCell _ _ _ _ (by simpa using hb), Below.heap_setCell _ _ _ _ (by simpa using hb)]
     have FS : Hid (Sl ((wd.setCell ⟨w.heap.size, 0, none⟩ (.string tn.name)).setCell ⟨w.heap.size, 1, none⟩ (.slice a7 tn.args.length c7)) (fun b => b ≠ w.heap.size ∧ b ≠ w.heap.size + 1) a7 tn.args) := SNd.out.kept fun b hb => kS b hb.1
     have FP : Hid (PV ((wd.setCell ⟨w.heap.size, 0, none⟩ (.string tn.name)).setCell ⟨w.heap.size, 1, none⟩ (.slice a7 tn.args.length c7)) (fun b => b ≠ w.heap.size ∧ b ≠ w.heap.size + 1) (.slice pa y.1.1.length pc) y.1.1) := PVd.out.kept fun b hb => kS b hb.1
     have FB : Hid (Below w.heap.size w ((wd.setCell ⟨w.heap.size, 0, none⟩ (.string tn.name)).setCell ⟨w.heap.size, 1, none⟩ (.slice a7 tn.args.length c7))) := (BWd.out.setCell (by simp) _).setCell (by simp) _
     have hzS : (((wd.setCell ⟨w.heap.size, 0, none⟩ (.string tn.name)).setCell ⟨w.heap.size, 1, none⟩ (.slice a7 tn.args.length c7))).heap.size = wd.heap.size := by simp [World.setCell]
     have HZS := hide hzS
     clear kS hzS
     refine rdq 3 rfl fun K hK => ?_
     go_simp
     refine hK.out _ _ (by exact ⟨FN.out, FC.out⟩) (fun hHeld => ?_)
     clear hK K
     try simp only [Act.put, sq]
     refine tkq (v := ?_) 4 rfl ?_ ?_
     rotate_left
     ·intro w' hSw
      go_simp <;> with_reducible rfl
     try simp only [Act.put, sq]
     refine wpAnyH_done (by kernel_rfl) ?_ _
     generalize ((wd.setCell ⟨w.heap.size, 0, none⟩ (.string tn.name)).setCell ⟨w.heap.size, 1, none⟩ (.slice a7 tn.args.length c7)) = ws at *
     clear t0 t1 tf tl
     go_wp2_with fail
     go_roundw
     case rel => exact ⟨j + 1, tn, a7, c7, y.1.1, by omega, by go_num, HEQ.out, HZN.out, HATN.out, HLN.out, FT.out, FS.out, FP.out, FR.out, FB.out, by have := HZS.out; omega⟩
     case measure => simp [intOf]; omega
    ·have HEP : Hid (endP rs false m t = (8, ⟨⟨#[]⟩, []⟩, 0)) := by
      unfold Hid
      have e1 : m - j = (m - (j + 1)) + 1 := by omega
      rw [HEN.out, e1, endP_full HNT.out ((full_size (y := y.2) (d := y.1) HATC.out).1 hfl)]
      exact shiftN_err _ _ (by decide)
     clear hfl hb6 t0 t1
     have r0 := RB6.out.c0
     have r1 := RB6.out.c1
     have rf := RB6.out.frozen
     have rl := RB6.out.lt
     go_wp2_with fail
     have KF : Blk (((w6.setCell ⟨w.heap.size + 1, 0, none⟩ (.string ⟨#[]⟩)).setCell ⟨w.heap.size + 1, 1, none⟩ (.slice none 0 0)).alloc (.cells #[.string ⟨#[]⟩, .slice none 0 0] 27)) (w.heap.size + 1) #[.string ⟨#[]⟩, .slice none 0 0] 27 := ((RB6.out.set 0 _).set 1 _).alloc _
     have BF : Hid (Below w.heap.size w (((w6.setCell ⟨w.heap.size + 1, 0, none⟩ (.string ⟨#[]⟩)).setCell ⟨w.heap.size + 1, 1, none⟩ (.slice none 0 0)).alloc (.cells #[.string ⟨#[]⟩, .slice none 0 0] 27))) := ((BW6.out.setCell (by simp) _).setCell (by simp) _).alloc (by have := BW6.out.size; simp [World.setCell]; omega) _
     generalize (((w6.setCell ⟨w.heap.size + 1, 0, none⟩ (.string ⟨#[]⟩)).setCell ⟨w.heap.size + 1, 1, none⟩ (.slice none 0 0)).alloc (.cells #[.string ⟨#[]⟩, .slice none 0 0] 27)) = wf at *
     have f0 := KF.c0
     have f1 := KF.c1
     refine bodyPost_ret (v := .tuple #[.agg #[.string ⟨#[]⟩, .slice none 0 0], .int .i64 0, .int .i64 8]) (by simp [results, Tryz.results50, go_sem, f0, f1]) rfl ?_
     exact ⟨BF.out, ⟨⟨#[]⟩, []⟩, none, 0, 0, 8, rfl, HEP.out, ⟨by simp, Or.inl rfl⟩⟩
end Go.Proofs.YtmkendjmfdaedaaGreat

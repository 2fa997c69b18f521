/- Walks: the law ClosureSays. -/
import Derived.Test.YtdmaijmglblccaaGreatDoorKl39
namespace Go.Proofs.YtdmaijmglblccaaGreatDoor
open Go.RowKit
set_option linter.unusedSimpArgs false
set_option linter.unusedVariables false
set_option maxRecDepth 8000

def F1I (ls : List Pr) (a b : Tm) (ua aa ab : Option Addr) (uc ca cb Pa Pb Q : Nat) (w w5 : World) (fv iv : Value) (wr : World) : Prop :=
  ∃ i : Nat, iv = .int .i64 (i : Int) ∧ i ≤ 2 ∧ fv = .int .i64 (fN ls a b i) ∧ CsW ls a b ua aa ab uc ca cb Pa Pb w wr ∧ Below w5.heap.size w5 wr
set_option maxHeartbeats 20000000 in
theorem closureSays_any {BT : Nat} (ls : List Pr) (a b : Tm) (u va vb : Value) (w : World) (X : Nat → Prop) (hu : QV w X u ls) (hva : TV w X va a) (hvb : TV w X vb b) (hT : Tb BT w) (hBT : BT ≤ w.heap.size) :
    Calls Tryz.prog 3 #[u, va, vb] w fun e w' => e = .returned (.bool true) ∧ Below w.heap.size w w' := by
  obtain ⟨aa, ca, rfl, hsa⟩ := hva
  obtain ⟨ab, cb, rfl, hsb⟩ := hvb
  obtain ⟨ua, uc, rfl, hul, huu⟩ := id hu
  have B1 := (Below.refl w.heap.size w).alloc (Nat.le_refl _) (.cells #[.string a.name, .slice aa a.args.length ca] 25)
  have B2 := B1.alloc B1.size (.cells #[.string b.name, .slice ab b.args.length cb] 25)
  have P1 : Blk ((w.alloc (.cells #[.string a.name, .slice aa a.args.length ca] 25)).alloc (.cells #[.string b.name, .slice ab b.args.length cb] 25)) w.heap.size #[.string a.name, .slice aa a.args.length ca] 25 := (Blk.new w _ _).alloc _
  have P2 : Blk ((w.alloc (.cells #[.string a.name, .slice aa a.args.length ca] 25)).alloc (.cells #[.string b.name, .slice ab b.args.length cb] 25)) (w.heap.size + 1) #[.string b.name, .slice ab b.args.length cb] 25 := by
    have h := Blk.new (w.alloc (.cells #[.string a.name, .slice aa a.args.length ca] 25)) #[.string b.name, .slice ab b.args.length cb] 25
    rw [World.size_alloc] at h
    exact h
  have HT := hide hT
  have HBT := hide hBT
  have S1 : Hid (CsW ls a b ua aa ab uc ca cb w.heap.size (w.heap.size + 1) w ((w.alloc (.cells #[.string a.name, .slice aa a.args.length ca] 25)).alloc (.cells #[.string b.name, .slice ab b.args.length cb] 25))) :=
    ⟨(hu.later B2).mono fun _ _ _ => trivial, (hsa.later B2).mono fun _ _ _ => trivial, (hsb.later B2).mono fun _ _ _ => trivial, P1, P2, B2⟩
  clear hu hsa hsb hT hBT B1 B2 P1 P2 huu hul
  go_enter Tryz.func3, Tryz.ntmps3
  go_upto_region 1 with fail
  generalize ((w.alloc (.cells #[.string a.name, .slice aa a.args.length ca] 25)).alloc (.cells #[.string b.name, .slice ab b.args.length cb] 25)) = w1 at *
  obtain ⟨Pa, hPa⟩ : ∃ P, P = w.heap.size := ⟨_, rfl⟩
  obtain ⟨Pb, hPb⟩ : ∃ P, P = w.heap.size + 1 := ⟨_, rfl⟩
  rw [← hPb, ← hPa] at S1
  rw [← hPb, ← hPa]
  clear hPb hPa
  obtain ⟨p0, p1, q0, q1⟩ := S1.out.cells
  go_cut [29] (fun v wc => ∃ z : Bool, v = .bool z ∧ CsW ls a b ua aa ab uc ca cb Pa Pb w wc)
  case first =>
    go_wp2_with fail
    refine (hugePairs_any ls _ w1 _ S1.out.qv).mono ?_
    rintro e w2 ⟨rfl, hb2⟩
    have S2 := hide (S1.out.later hb2)
    clear p0 p1 q0 q1 hb2
    obtain ⟨p0, p1, q0, q1⟩ := S2.out.cells
    cases hg1 : hugeQ ls with
    | true =>
      go_wp2_with fail
      go_meet
      exact ⟨true, rfl, S2.out⟩
    | false =>
      go_wp2_with fail
      refine (huge_any a _ w2 _ ⟨aa, ca, rfl, S2.out.sa⟩).mono ?_
      rintro e w3 ⟨rfl, hb3⟩
      have S3 := hide (S2.out.later hb3)
      clear p0 p1 q0 q1 hb3
      obtain ⟨p0, p1, q0, q1⟩ := S3.out.cells
      cases hg2 : decide (3000 < sizeL [a]) with
      | true =>
        go_wp2_with fail
        go_meet
        exact ⟨true, rfl, S3.out⟩
      | false =>
        go_wp2_with fail
        refine (huge_any b _ w3 _ ⟨ab, cb, rfl, S3.out.sb⟩).mono ?_
        rintro e w4 ⟨rfl, hb4⟩
        have S4 := hide (S3.out.later hb4)
        clear p0 p1 q0 q1 hb4
        go_wp2_with fail
        go_meet
        exact ⟨_, rfl, S4.out⟩
  clear p0 p1 q0 q1
  obtain ⟨z1, rfl, hs2⟩ := hcut
  obtain ⟨w2, hw2⟩ : ∃ x, x = wc := ⟨_, rfl⟩
  rw [← hw2] at hs2 ⊢
  clear hw2 wc
  have S2 := hide hs2
  clear hs2 S1
  cases z1 with
  | true =>
    go_wp2_with fail
    go_ret
    exact ⟨rfl, S2.out.bl⟩
  | false =>
  go_step
  go_upto_region 3 with fail
  go_cut [7] (fun v wc => v = .int .i64 (grdE ls) ∧ CsW ls a b ua aa ab uc ca cb Pa Pb w wc)
  case first =>
    go_wp2_with fail
    refine (groundMay_any ls _ w2 _ S2.out.qv).mono ?_
    rintro e w3 ⟨rfl, hb3⟩
    have S3 := hide (S2.out.later hb3)
    clear hb3
    go_wp2_with fail
    go_meet
    exact ⟨rfl, S3.out⟩
  obtain ⟨rfl, hs3⟩ := hcut
  obtain ⟨w3, hw3⟩ : ∃ x, x = wc := ⟨_, rfl⟩
  rw [← hw3] at hs3 ⊢
  clear hw3 wc
  have S3 := hide hs3
  clear hs3 S2
  obtain ⟨ge, hge⟩ : ∃ z, z = grdE ls := ⟨_, rfl⟩
  have HGE := hide hge
  rw [← hge]
  clear hge
  go_step
  obtain ⟨p0, p1, q0, q1⟩ := S3.out.cells
  have C5 := Blk.new w3 #[.string a.name, .slice aa a.args.length ca, .string b.name, .slice ab b.args.length cb] 25
  have B5 : Below w3.heap.size w3 (w3.alloc (.cells #[.string a.name, .slice aa a.args.length ca, .string b.name, .slice ab b.args.length cb] 25)) := (Below.refl _ _).alloc (Nat.le_refl _) _
  have S5 := hide (S3.out.later B5)
  have HC5 := hide C5
  clear C5 B5
  go_upto_region 5 with fail
  go_cut [9] (fun v wc => v = .slice (some ⟨w3.heap.size, 0, none⟩) 2 2 ∧ wc = (w3.alloc (.cells #[.string a.name, .slice aa a.args.length ca, .string b.name, .slice ab b.args.length cb] 25)))
  case first =>
    go_wp2_with fail
    go_meet
    exact ⟨rfl, rfl⟩
  obtain ⟨rfl, hwc⟩ := hcut
  rw [hwc]
  clear hwc wc
  generalize (w3.alloc (.cells #[.string a.name, .slice aa a.args.length ca, .string b.name, .slice ab b.args.length cb] 25)) = w5 at *
  obtain ⟨Q, hQ⟩ : ∃ Q, Q = w3.heap.size := ⟨_, rfl⟩
  rw [← hQ] at HC5 ⊢
  clear hQ p0 p1 q0 q1 S3
  go_step
  go_step
  go_cut [8] (fun v wd => v = .int .i64 (fN ls a b 2) ∧ CsW ls a b ua aa ab uc ca cb Pa Pb w wd)
  case first =>
    go_wp2_with fail
    go_loopw [8, 10] (fun fv iv wr => F1I ls a b ua aa ab uc ca cb Pa Pb Q w w5 fv iv wr) (fun fv iv wr => 2 - (intOf iv).toNat)
    case atStart => exact ⟨0, rfl, Nat.zero_le _, by rw [HGE.out]; rfl, S5.out, Below.refl _ _⟩
    case round =>
      obtain ⟨i, rfl, hi, rfl, hs, hbr⟩ := hrel
      have SR := hide hs
      have HBR := hide hbr
      clear hs hbr
      obtain ⟨wa, hwa⟩ : ∃ x, x = wr := ⟨_, rfl⟩
      rw [← hwa] at SR HBR ⊢
      clear hwa
      obtain ⟨fv, hfv⟩ : ∃ z, z = fN ls a b i := ⟨_, rfl⟩
      have HFV := hide hfv
      rw [← hfv]
      clear hfv
      by_cases hi2 : i < 2
      · have hii : (i : Int) < 2 := by omega
        by_cases hf0 : fv = 0
        · have HF0 : Hid (fN ls a b i = 0) := by unfold Hid; rw [← HFV.out]; exact hf0
          subst hf0
          obtain ⟨x, hx⟩ : ∃ x, x = ([a, b] : List Tm)[i]'(by simpa using hi2) := ⟨_, rfl⟩
          have HNX : Hid (fN ls a b (i + 1) = cloE x) := by unfold Hid; rw [hx]; exact fN_next hi2 HF0.out
          have HXC : Hid (∃ ax cx, ∀ W, Below wa.heap.size wa W → W.cell? ⟨Q, i * 2, none⟩ = some (.string x.name) ∧ W.cell? ⟨Q, i * 2 + 1, none⟩ = some (.slice ax x.args.length cx) ∧ Sl W (fun _ => True) ax x.args) := by
            have h5 := HC5.out
            match i, hi2, hx with
            | 0, _, hx =>
              subst hx
              exact ⟨aa, ca, fun W hb => by
                have h6 := h5.below (HBR.out.trans (hb.mono HBR.out.size)) h5.lt
                exact ⟨h6.cell 0, h6.cell 1, SR.out.sa.later hb⟩⟩
            | 1, _, hx =>
              subst hx
              exact ⟨ab, cb, fun W hb => by
                have h6 := h5.below (HBR.out.trans (hb.mono HBR.out.size)) h5.lt
                exact ⟨h6.cell 2, h6.cell 3, SR.out.sb.later hb⟩⟩
          obtain ⟨ax, cx, hxc⟩ := HXC.out
          have HXX := hide hxc
          obtain ⟨d0, d1, -⟩ := hxc wa (Below.refl _ _)
          clear hxc hx HXC
          go_wp2_with fail
          refine (termMay_any x _ wa _ ⟨ax, cx, rfl, (HXX.out wa (Below.refl _ _)).2.2⟩).mono ?_
          rintro e wb ⟨rfl, hbb⟩
          have SB := hide (SR.out.later hbb)
          have HBB := hide hbb
          have HBW := hide (HBR.out.trans (hbb.mono HBR.out.size))
          obtain ⟨e0, e1, -⟩ := HXX.out wb hbb
          clear hbb d0 d1
          by_cases hm : mayE x = 0
          · have HM : Hid (mayE x = 0) := hm
            have hxz := mayE_size hm
            rw [hm]
            clear hm
            have HVO := hide (varsOf_any x _ wb _ ⟨ax, cx, rfl, (HXX.out wb HBB.out).2.2⟩ (by omega))
            go_wp2_with fail
            refine HVO.out.mono ?_
            rintro e wc ⟨v', rfl, hl, hbc⟩
            obtain ⟨va9, vc9, rfl, -⟩ := hl
            have SC := hide (SB.out.later hbc)
            have HBC := hide (HBW.out.trans (hbc.mono HBW.out.size))
            clear hbc HVO e0 e1
            by_cases ho : opnB x = true
            · have HFE : Hid ((15 : Int) = fN ls a b (i + 1)) := by unfold Hid; rw [HNX.out]; unfold cloE; rw [if_pos HM.out, if_pos ho]
              have hpos := (opn_vars x).2 ho
              generalize (varsP [] (preL [x])).length = nl at *
              have hdec : (0 : Int) < (nl : Int) := by omega
              clear ho
              go_wp2_with fail
              go_roundw
              case rel => exact ⟨i + 1, by go_num, by omega, congrArg (Value.int .i64) HFE.out, SC.out, HBC.out⟩
              case measure => simp [intOf]; omega
            · have HFE : Hid ((0 : Int) = fN ls a b (i + 1)) := by unfold Hid; rw [HNX.out]; unfold cloE; rw [if_pos HM.out, if_neg ho]
              have hzero : ¬ 0 < (varsP [] (preL [x])).length := fun h => ho ((opn_vars x).1 h)
              generalize (varsP [] (preL [x])).length = nl at *
              have hnl : nl = 0 := by omega
              subst hnl
              clear ho hzero
              go_wp2_with fail
              go_roundw
              case rel => exact ⟨i + 1, by go_num, by omega, congrArg (Value.int .i64) HFE.out, SC.out, HBC.out⟩
              case measure => simp [intOf]; omega
          · have HFE : Hid (mayE x = fN ls a b (i + 1)) := by unfold Hid; rw [HNX.out]; unfold cloE; rw [if_neg hm]
            obtain ⟨mx, hmx⟩ : ∃ z, z = mayE x := ⟨_, rfl⟩
            rw [← hmx] at hm HFE ⊢
            have hmb : (mx == 0) = false := by simpa using hm
            clear hmx hm
            go_wp2_with fail
            go_roundw
            case rel => exact ⟨i + 1, by go_num, by omega, congrArg (Value.int .i64) HFE.out, SB.out, HBW.out⟩
            case measure => simp [intOf]; omega
        · have HE : Hid (fv = fN ls a b 2) := by unfold Hid; rw [HFV.out]; exact (fN_end (by rw [← HFV.out]; exact hf0)).symm
          have hfb : (fv == 0) = false := by simpa using hf0
          clear hf0
          go_wp2_with fail
          go_meet
          exact ⟨congrArg (Value.int .i64) HE.out, SR.out⟩
      · have hii : ¬ (i : Int) < 2 := by omega
        have HE : Hid (fv = fN ls a b 2) := by unfold Hid; rw [HFV.out, show i = 2 by omega]
        go_wp2_with fail
        go_meet
        exact ⟨congrArg (Value.int .i64) HE.out, SR.out⟩
  obtain ⟨rfl, hs6⟩ := hcut
  obtain ⟨w6, hw6⟩ : ∃ x, x = wc := ⟨_, rfl⟩
  rw [← hw6] at hs6 ⊢
  clear hw6 wc
  have S6 := hide hs6
  clear hs6 S5 HC5
  obtain ⟨fe, hfe⟩ : ∃ z, z = fN ls a b 2 := ⟨_, rfl⟩
  have HFE := hide hfe
  rw [← hfe]
  clear hfe
  go_step
  exact closS1 ls a b ua aa ab uc ca cb Pa Pb ge fe w w6 S6 HGE HFE HT HBT
end Go.Proofs.YtdmaijmglblccaaGreatDoor

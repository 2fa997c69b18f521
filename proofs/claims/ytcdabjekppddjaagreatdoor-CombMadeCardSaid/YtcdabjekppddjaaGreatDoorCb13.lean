/- Walks: whether a term may be, and where its steps end, as the program says. -/
import Derived.Test.YtcdabjekppddjaaGreatDoorCb12
import Derived.Test.YtcdabjekppddjaaGreatDoorCb6
import Derived.Test.YtcdabjekppddjaaGreatDoorCb3
namespace Go.Proofs.YtcdabjekppddjaaGreatDoor
open Go.RowKit
set_option linter.unusedSimpArgs false
set_option linter.unusedVariables false
set_option maxRecDepth 8000

set_option maxHeartbeats 1000000 in
theorem ccheck_any (t : Tm) (v : Value) (w : World) (X : Nat → Prop) (hv : TV w X v t) :
    Calls Tryz.prog 12 #[v] w fun e w' => e = .returned (.int .i64 (combE t)) ∧ Below w.heap.size w w' := by
  obtain ⟨a, c, rfl, hs⟩ := hv
  have HV : Hid (TV w X (.agg #[.string t.name, .slice a t.args.length c]) t) := ⟨a, c, rfl, hs⟩
  clear hs
  go_enter Tryz.func12, Tryz.ntmps12
  go_wp2_with fail
  refine (check_any t _ _ X (HV.out.alloc _)).mono ?_
  rintro e w1 ⟨rfl, hb1⟩
  have HB2 : Hid (Below w.heap.size w w1) := ((Below.refl _ _).alloc (Nat.le_refl _) _).trans (hb1.mono (by simp))
  have c0 : w1.cell? ⟨w.heap.size, 0, none⟩ = some (.string t.name) := by rw [hb1.cell (p := ⟨_, _, none⟩) (by simp)]; simp
  have c1 : w1.cell? ⟨w.heap.size, 1, none⟩ = some (.slice a t.args.length c) := by rw [hb1.cell (p := ⟨_, _, none⟩) (by simp)]; simp
  clear hb1
  by_cases h : mayE t = 0
  · rw [h]
    have HE : Hid (combE t = if isC t then 0 else 2) := by unfold Hid combE; rw [if_pos h]
    clear h
    go_wp2_with fail
    refine (isPut_any t _ _ X (HV.out.later HB2.out)).mono ?_
    rintro e w2 ⟨rfl, hb2⟩
    have HB3 := hide (HB2.out.trans (hb2.mono HB2.out.size))
    clear hb2
    cases hcc : isC t with
    | true =>
      have HE2 : Hid (combE t = 0) := by unfold Hid; rw [HE.out, hcc]; rfl
      clear hcc HE
      go_wp2_with fail
      go_ret
      exact ⟨ret_int HE2.out.symm, HB3.out⟩
    | false =>
      have HE2 : Hid (combE t = 2) := by unfold Hid; rw [HE.out, hcc]; rfl
      clear hcc HE
      go_wp2_with fail
      go_ret
      exact ⟨ret_int HE2.out.symm, HB3.out⟩
  · have HE : Hid (combE t = mayE t) := by unfold Hid combE; rw [if_neg h]
    have hne : (mayE t == 0) = false := beq_eq_false_iff_ne.2 h
    clear h
    go_wp2_with fail
    go_ret
    exact ⟨ret_int HE.out.symm, HB2.out⟩

set_option maxHeartbeats 1000000 in
theorem tooGreat_any (t : Tm) (v : Value) (w : World) (X : Nat → Prop) (hv : TV w X v t) :
    Calls Tryz.prog 33 #[v] w fun e w' => e = .returned (.bool (decide (2000 < sizeL [t]))) ∧ Below w.heap.size w w' := by
  obtain ⟨a, c, rfl, hs⟩ := hv
  have HV : Hid (TV w X (.agg #[.string t.name, .slice a t.args.length c]) t) := ⟨a, c, rfl, hs⟩
  clear hs
  go_enter Tryz.func33, Tryz.ntmps33
  go_wp2_with fail
  refine (count_any 2000 (by omega) (by omega) t _ _ X (HV.out.alloc _)).mono ?_
  rintro e w1 ⟨rfl, hb1⟩
  have HB2 : Hid (Below w.heap.size w w1) := ((Below.refl _ _).alloc (Nat.le_refl _) _).trans (hb1.mono (by simp))
  clear hb1
  by_cases hbig : 2000 < sizeL [t]
  · have e : min ((sizeL [t] : Int)) (2000 + 1) = 2001 := by omega
    have HD : Hid (decide (2000 < sizeL [t]) = true) := decide_eq_true hbig
    rw [e]
    go_wp2_with fail
    go_ret
    exact ⟨by rw [HD.out]; rfl, HB2.out⟩
  · have e : min ((sizeL [t] : Int)) (2000 + 1) = sizeL [t] := by omega
    have HD : Hid (decide (2000 < sizeL [t]) = false) := decide_eq_false hbig
    have e3 : decide ((sizeL [t] : Int) > 2000) = false := decide_eq_false (by omega)
    rw [e]
    go_wp2_with fail
    go_ret
    exact ⟨by rw [HD.out]; rfl, HB2.out⟩

def RunE (t : Tm) (z : Int) : Int := if combE t = 0 then (if z < 0 ∨ 400 < z then 10 else 0) else combE t
set_option maxHeartbeats 2000000 in
theorem runErr_any (z : Int) (t : Tm) (v : Value) (w : World) (X : Nat → Prop) (hv : TV w X v t) (hz : RunE t z ≠ 0) :
    Calls Tryz.prog 51 #[v, .int .i64 z] w fun e w' => e = .returned (.tuple #[.agg #[.string ⟨#[]⟩, .slice none 0 0], .int .i64 0, .int .i64 (RunE t z)]) ∧ Below w.heap.size w w' := by
  obtain ⟨a, c, rfl, hs⟩ := hv
  have HV : Hid (TV w X (.agg #[.string t.name, .slice a t.args.length c]) t) := ⟨a, c, rfl, hs⟩
  clear hs
  have HB0 : Hid (Below w.heap.size w ((w.alloc (.cells #[.string t.name, .slice a t.args.length c] 24)).alloc (.cells #[.string ⟨#[]⟩, .slice none 0 0] 24))) := below2 _ _
  have HK : Hid (Blk ((w.alloc (.cells #[.string t.name, .slice a t.args.length c] 24)).alloc (.cells #[.string ⟨#[]⟩, .slice none 0 0] 24)) (w.heap.size + 1) #[.string ⟨#[]⟩, .slice none 0 0] 24) := by
    have h := Blk.new (w.alloc (.cells #[.string t.name, .slice a t.args.length c] 24)) #[.string ⟨#[]⟩, .slice none 0 0] 24
    unfold Hid
    simpa using h
  go_enter Tryz.func51, Tryz.ntmps51
  go_wp2_with fail
  refine (ccheck_any t _ _ X ((HV.out.alloc _).alloc _)).mono ?_
  rintro e w1 ⟨rfl, hb1⟩
  have K1 := HK.out.below hb1 (by simp)
  have r0 := K1.cell 0
  have r1 := K1.cell 1
  have rf := K1.frozen
  simp only [List.getElem?_toArray, List.getElem?_cons_succ, List.getElem?_cons_zero] at r0 r1
  have HB1 := hide (HB0.out.trans (hb1.mono (by simp; omega)))
  clear hb1 K1
  by_cases h : combE t = 0
  · rw [h]
    have hz2 : z < 0 ∨ 400 < z := by
      unfold RunE at hz
      rw [if_pos h] at hz
      apply Classical.byContradiction
      intro hn
      rw [if_neg hn] at hz
      exact hz rfl
    have HE : Hid (RunE t z = 10) := by unfold Hid RunE; rw [if_pos h, if_pos hz2]
    clear h hz
    by_cases hneg : z < 0
    · have g1 : decide (z < 0) = true := decide_eq_true hneg
      go_wp2_with fail
      refine bodyPost_ret (v := .tuple #[.agg #[.string ⟨#[]⟩, .slice none 0 0], .int .i64 0, .int .i64 10]) (by simp [results, Tryz.results51, go_sem, World.cell?_setCell_same, World.cell?_setCell_other, r0, r1]) rfl ?_
      exact ⟨by rw [HE.out], (HB1.out.setCell (p := ⟨w.heap.size + 1, 0, none⟩) (by simp) _).setCell (p := ⟨w.heap.size + 1, 1, none⟩) (by simp) _⟩
    · have g1 : decide (z < 0) = false := decide_eq_false hneg
      have g2 : decide (z > 400) = true := decide_eq_true (by omega)
      go_wp2_with fail
      refine bodyPost_ret (v := .tuple #[.agg #[.string ⟨#[]⟩, .slice none 0 0], .int .i64 0, .int .i64 10]) (by simp [results, Tryz.results51, go_sem, World.cell?_setCell_same, World.cell?_setCell_other, r0, r1]) rfl ?_
      exact ⟨by rw [HE.out], (HB1.out.setCell (p := ⟨w.heap.size + 1, 0, none⟩) (by simp) _).setCell (p := ⟨w.heap.size + 1, 1, none⟩) (by simp) _⟩
  · have HE : Hid (RunE t z = combE t) := by unfold Hid RunE; rw [if_neg h]
    have hne : (combE t == 0) = false := beq_eq_false_iff_ne.2 h
    clear h hz
    go_wp2_with fail
    refine bodyPost_ret (v := .tuple #[.agg #[.string ⟨#[]⟩, .slice none 0 0], .int .i64 0, .int .i64 (combE t)]) (by simp [results, Tryz.results51, go_sem, World.cell?_setCell_same, World.cell?_setCell_other, r0, r1]) rfl ?_
    exact ⟨by rw [HE.out], (HB1.out.setCell (p := ⟨w.heap.size + 1, 0, none⟩) (by simp) _).setCell (p := ⟨w.heap.size + 1, 1, none⟩) (by simp) _⟩

theorem EnI.belowE {w w1 w2 : World} {X : Nat → Prop} {m : Nat} {t0 : Tm} {i : Value} (h : EnI w X m t0 i w1) (hb : Below w1.heap.size w1 w2) : EnI w X m t0 i w2 := by
  obtain ⟨d, t, a, c, h1, h2, h3, h4, h5, h6, h7⟩ := h
  have := hb.size
  exact ⟨d, t, a, c, h1, h2, h3.trans (hb.mono (by omega)), by omega, h5.below hb (by omega), h6.below hb (by omega), h7.later hb⟩

set_option maxHeartbeats 4000000 in
theorem run_any (m : Nat) (t0 : Tm) (v : Value) (w : World) (X : Nat → Prop) (hm : m ≤ 400) (hce : combE t0 = 0) (hc : isC t0 = true) (hz : sizeL [t0] ≤ 2000) (hv : TV w X v t0) :
    Calls Tryz.prog 51 #[v, .int .i64 (m : Int)] w fun e w' => EnPost w X m t0 e w' := by
  obtain ⟨a, c, rfl, hs⟩ := hv
  have HS : Hid (Sl w (EnY w X) a t0.args) := hs.mono fun b h1 h2 => Or.inl ⟨h1, h2⟩
  have HW := hide (OnWay.start (m := m) hc hz)
  clear hs hc hz
  have I0 : Hid (EnI w X m t0 (.int .i64 ((0 : Nat) : Int)) ((w.alloc (.cells #[.string t0.name, .slice a t0.args.length c] 24)).alloc (.cells #[.string ⟨#[]⟩, .slice none 0 0] 24))) := by
    refine ⟨0, t0, a, c, rfl, HW.out, below2 _ _, by simp, (Blk.new w _ _).alloc _, ?_, HS.out.later (below2 _ _)⟩
    have h := Blk.new (w.alloc (.cells #[.string t0.name, .slice a t0.args.length c] 24)) #[.string ⟨#[]⟩, .slice none 0 0] 24
    simpa using h
  have HCE := hide hce
  have HV0 : Hid (TV w (EnY w X) (.agg #[.string t0.name, .slice a t0.args.length c]) t0) := ⟨a, c, rfl, HS.out⟩
  clear HW HS hce
  go_enter Tryz.func51, Tryz.ntmps51
  go_wp2_with fail
  refine (ccheck_any t0 _ _ (EnY w X) (by exact (HV0.out.alloc _).alloc _)).mono ?_
  rintro e w9 ⟨rfl, hb9⟩
  rw [HCE.out]
  have I9 := hide (I0.out.belowE hb9)
  clear hb9 I0
  have gm : decide ((m : Int) < 0) = false := decide_eq_false (by omega)
  have gm2 : decide ((m : Int) > 400) = false := decide_eq_false (by omega)
  go_wp2_with fail
  go_loopw [8] (fun i wr => EnI w X m t0 i wr) (fun i wr => m - (intOf i).toNat)
  case atStart => exact I9.out
  case round =>
    obtain ⟨d, t, at', ct, rfl, hon, hb, hsz, hT, hR, hs⟩ := hrel
    have HON := hide hon
    have HBW := hide hb
    have HT := hide hT
    have HR := hide hR
    have HSL := hide hs
    have hdm := hon.1
    have t0' := hT.cell 0
    have t1' := hT.cell 1
    simp only [List.getElem?_toArray, List.getElem?_cons_succ, List.getElem?_cons_zero] at t0' t1'
    clear hon hb hT hR hs
    go_wp2_with fail
    refine (cstep_any 2001 t _ _ (EnY w X) (by have := HON.out.2.2.2.2.2; omega) (by omega) HON.out.2.2.2.2.1 ⟨at', ct, rfl, HSL.out⟩).mono ?_
    rintro e w2 ⟨hb2, ⟨x, v2, hst, rfl, ⟨a2, c2, rfl, hs2⟩⟩ | ⟨hst, s2, a2, n2, c2, rfl⟩⟩
    · have HS2 : Hid (Sl w2 (EnY w X) a2 x.args) := hs2.mono fun b hb _ => hb.elim And.left fun h => Or.inr (by omega)
      have HST := hide hst
      have HB2 := hide hb2
      have hsz2 := hb2.size
      have r0 : ∀ o, (w2.alloc o).cell? ⟨w.heap.size + 1, 0, none⟩ = some (.string ⟨#[]⟩) := fun o => ((HR.out.below hb2 (by omega)).alloc o).cell 0
      have r1 : ∀ o, (w2.alloc o).cell? ⟨w.heap.size + 1, 1, none⟩ = some (.slice none 0 0) := fun o => ((HR.out.below hb2 (by omega)).alloc o).cell 1
      have rf : ∀ o i, (w2.alloc o).frozen? ⟨w.heap.size + 1, i, none⟩ = false := fun o => ((HR.out.below hb2 (by omega)).alloc o).frozen
      have r0' : w2.cell? ⟨w.heap.size + 1, 0, none⟩ = some (.string ⟨#[]⟩) := (HR.out.below hb2 (by omega)).cell 0
      have r1' : w2.cell? ⟨w.heap.size + 1, 1, none⟩ = some (.slice none 0 0) := (HR.out.below hb2 (by omega)).cell 1
      have rf' : ∀ i, w2.frozen? ⟨w.heap.size + 1, i, none⟩ = false := (HR.out.below hb2 (by omega)).frozen
      have q0 : w2.cell? ⟨w.heap.size, 0, none⟩ = some (.string t.name) := (HT.out.below hb2 (by omega)).cell 0
      have q1 : w2.cell? ⟨w.heap.size, 1, none⟩ = some (.slice at' t.args.length ct) := (HT.out.below hb2 (by omega)).cell 1
      have qf : ∀ i, w2.frozen? ⟨w.heap.size, i, none⟩ = false := (HT.out.below hb2 (by omega)).frozen
      have q0a : ∀ o, (w2.alloc o).cell? ⟨w.heap.size, 0, none⟩ = some (.string t.name) := fun o => ((HT.out.below hb2 (by omega)).alloc o).cell 0
      have q1a : ∀ o, (w2.alloc o).cell? ⟨w.heap.size, 1, none⟩ = some (.slice at' t.args.length ct) := fun o => ((HT.out.below hb2 (by omega)).alloc o).cell 1
      have qfa : ∀ o i, (w2.alloc o).frozen? ⟨w.heap.size, i, none⟩ = false := fun o => ((HT.out.below hb2 (by omega)).alloc o).frozen
      clear hs2 hst hb2 t0' t1'
      by_cases hd : d = m
      · subst hd
        have HE := hide (HON.out.fuel HST.out)
        have HBF : Hid (∀ o u u', Below w.heap.size w (((w2.setCell ⟨w.heap.size + 1, 0, none⟩ u).setCell ⟨w.heap.size + 1, 1, none⟩ u').alloc o) ∧ Below w.heap.size w (((w2.alloc o).setCell ⟨w.heap.size + 1, 0, none⟩ u).setCell ⟨w.heap.size + 1, 1, none⟩ u')) := fun o u u' => by
          have h0 := HBW.out.trans (HB2.out.mono (by omega))
          exact ⟨((h0.setCell (p := ⟨w.heap.size + 1, 0, none⟩) (by simp) u).setCell (p := ⟨w.heap.size + 1, 1, none⟩) (by simp) u').alloc (by simp [World.setCell]; omega) o, ((h0.alloc (by omega) o).setCell (p := ⟨w.heap.size + 1, 0, none⟩) (by simp) u).setCell (p := ⟨w.heap.size + 1, 1, none⟩) (by simp) u'⟩
        go_wp2_with fail
        refine bodyPost_ret (v := .tuple #[.agg #[.string ⟨#[]⟩, .slice none 0 0], .int .i64 0, .int .i64 9]) (by simp [results, Tryz.results51, go_sem, World.cell?_setCell_same, World.cell?_setCell_other, r0, r1, r0', r1']) rfl ?_
        refine ⟨by first | exact (HBF.out _ _ _).1 | exact (HBF.out _ _ _).2, Or.inr ⟨by rw [HE.out]; decide, by rw [HE.out]⟩⟩
      · have hdi : ((d : Int) == (m : Int)) = false := beq_eq_false_iff_ne.2 (by omega)
        have HTV : Hid (TV (w2.alloc (.cells #[.string x.name, .slice a2 x.args.length c2] 24)) (EnY w X) (.agg #[.string x.name, .slice a2 x.args.length c2]) x) := ⟨a2, c2, rfl, HS2.out.later ((Below.refl _ _).alloc (Nat.le_refl _) _)⟩
        go_wp2_with fail
        refine (tooGreat_any x _ _ (EnY w X) (by exact HTV.out)).mono ?_
        rintro e w5 ⟨rfl, hb5⟩
        have hs5 := hb5.size
        simp only [World.size_alloc] at hs5
        have BA : Hid (Below w2.heap.size w2 w5) := ((Below.refl _ _).alloc (Nat.le_refl _) _).trans (hb5.mono (by simp))
        have B5 := hide ((HBW.out.trans (HB2.out.mono (by omega))).trans (BA.out.mono (by omega)))
        have T5 := hide ((HT.out.below HB2.out (by omega)).below BA.out (by omega))
        have R5 := hide ((HR.out.below HB2.out (by omega)).below BA.out (by omega))
        have S5 := hide (HS2.out.later BA.out)
        have X5 := hide ((Blk.new w2 #[.string x.name, .slice a2 x.args.length c2] 24).below hb5 (by simp))
        have y0 : w5.cell? ⟨w.heap.size + 1, 0, none⟩ = some (.string ⟨#[]⟩) := R5.out.cell 0
        have y1 : w5.cell? ⟨w.heap.size + 1, 1, none⟩ = some (.slice none 0 0) := R5.out.cell 1
        have yf : ∀ i, w5.frozen? ⟨w.heap.size + 1, i, none⟩ = false := R5.out.frozen
        have x0 : w5.cell? ⟨w2.heap.size, 0, none⟩ = some (.string x.name) := X5.out.cell 0
        have x1 : w5.cell? ⟨w2.heap.size, 1, none⟩ = some (.slice a2 x.args.length c2) := X5.out.cell 1
        have u0 : w5.cell? ⟨w.heap.size, 0, none⟩ = some (.string t.name) := T5.out.cell 0
        have u1 : w5.cell? ⟨w.heap.size, 1, none⟩ = some (.slice at' t.args.length ct) := T5.out.cell 1
        have uf : ∀ i, w5.frozen? ⟨w.heap.size, i, none⟩ = false := T5.out.frozen
        clear hb5 r0 r1 rf r0' r1' rf' q0 q1 qf q0a q1a qfa
        by_cases hbig : 2000 < sizeL [x]
        · rw [decide_eq_true hbig]
          have HE := hide (HON.out.full hd HST.out hbig)
          go_wp2_with fail
          refine bodyPost_ret (v := .tuple #[.agg #[.string ⟨#[]⟩, .slice none 0 0], .int .i64 0, .int .i64 8]) (by simp [results, Tryz.results51, go_sem, World.cell?_setCell_same, World.cell?_setCell_other, y0, y1]) rfl ?_
          exact ⟨(B5.out.setCell (p := ⟨w.heap.size + 1, 0, none⟩) (by simp) _).setCell (p := ⟨w.heap.size + 1, 1, none⟩) (by simp) _, Or.inr ⟨by rw [HE.out]; decide, by rw [HE.out]⟩⟩
        · rw [decide_eq_false hbig]
          have HE := hide (HON.out.on hd HST.out hbig)
          have HEI : Hid (EnI w X m t0 (.int .i64 ((d + 1 : Nat) : Int)) ((w5.setCell ⟨w.heap.size, 0, none⟩ (.string x.name)).setCell ⟨w.heap.size, 1, none⟩ (.slice a2 x.args.length c2))) := by
            refine ⟨d + 1, x, a2, c2, rfl, HE.out, (B5.out.setCell (p := ⟨w.heap.size, 0, none⟩) (by simp) _).setCell (p := ⟨w.heap.size, 1, none⟩) (by simp) _, by simp [World.setCell]; omega, (T5.out.set 0 _).set 1 _, (R5.out.setOther _ _ (by omega)).setOther _ _ (by omega), ?_⟩
            refine S5.out.kept fun b hb => ?_
            have hne : b ≠ w.heap.size := by rcases hb with hb | hb <;> omega
            rw [Below.heap_setCell _ _ _ _ (by simpa using hne), Below.heap_setCell _ _ _ _ (by simpa using hne)]
          go_wp2_with fail
          go_roundw
          case rel => exact (by go_num : Value.int IntKind.i64 ((d : Int) + 1) = .int .i64 ((d + 1 : Nat) : Int)) ▸ HEI.out
          case measure => simp [intOf]; omega
    · have HE := hide (HON.out.fin hst)
      have hsz2 := hb2.size
      have RA := hide ((HR.out.below hb2 (by omega)).alloc (.cells #[.string s2, .slice a2 n2 c2] 24))
      have BA := hide ((HBW.out.trans (hb2.mono (by omega))).alloc (by omega) (.cells #[.string s2, .slice a2 n2 c2] 24))
      have TA := hide ((HT.out.below hb2 (by omega)).alloc (.cells #[.string s2, .slice a2 n2 c2] 24))
      have SA := hide ((HSL.out.later hb2).later ((Below.refl _ _).alloc (Nat.le_refl _) (.cells #[.string s2, .slice a2 n2 c2] 24)))
      have q0 : (w2.alloc (.cells #[.string s2, .slice a2 n2 c2] 24)).cell? ⟨w.heap.size, 0, none⟩ = some (.string t.name) := TA.out.cell 0
      have q1 : (w2.alloc (.cells #[.string s2, .slice a2 n2 c2] 24)).cell? ⟨w.heap.size, 1, none⟩ = some (.slice at' t.args.length ct) := TA.out.cell 1
      have hsA : w2.heap.size < (w2.alloc (.cells #[.string s2, .slice a2 n2 c2] 24)).heap.size := by simp
      clear hst hb2 t0' t1' TA
      go_wp2_with fail
      generalize (w2.alloc (.cells #[.string s2, .slice a2 n2 c2] 24)) = wA at *
      refine (copyOf_any t _ _ (EnY w X) ⟨at', ct, rfl, SA.out⟩ (by have := HON.out.2.2.2.2.2; omega)).mono ?_
      rintro e w6 ⟨v6, rfl, ⟨a6, c6, rfl, hs6⟩, hb6⟩
      have B6 := hide (BA.out.trans (hb6.mono BA.out.size))
      have K6 := RA.out.below hb6 (by omega)
      have S6 := hide hs6
      have r0 := K6.cell 0
      have r1 := K6.cell 1
      have rf := K6.frozen
      simp only [List.getElem?_toArray, List.getElem?_cons_succ, List.getElem?_cons_zero] at r0 r1
      clear hs6 hb6 K6
      go_wp2_with fail
      refine bodyPost_ret (v := .tuple #[.agg #[.string t.name, .slice a6 t.args.length c6], .int .i64 (d : Int), .int .i64 0]) (by simp [results, Tryz.results51, go_sem, World.cell?_setCell_same, World.cell?_setCell_other, r0, r1]) rfl ?_
      obtain ⟨e1, e2, e3⟩ := HE.out
      refine ⟨(B6.out.setCell (p := ⟨w.heap.size + 1, 0, none⟩) (by simp) _).setCell (p := ⟨w.heap.size + 1, 1, none⟩) (by simp) _, Or.inl ⟨e1, _, by rw [e3], ?_⟩⟩
      rw [e2]
      refine ⟨a6, c6, rfl, ?_⟩
      refine (S6.out.kept fun b hb => ?_).mono fun b hb _ => Or.inr (by omega)
      have hne : b ≠ w.heap.size + 1 := by omega
      rw [Below.heap_setCell _ _ _ _ (by simpa using hne), Below.heap_setCell _ _ _ _ (by simpa using hne)]
end Go.Proofs.YtcdabjekppddjaaGreatDoor

/- Walks: numerals and values; the law LongNumbers. -/
import Derived.Test.YtmapeiecapiliaaLn10
import Derived.Test.YtmapeiecapiliaaLn11
import Derived.Test.YtmapeiecapiliaaLn15
import Derived.Test.YtmapeiecapiliaaZTopNumbersOwn
namespace Go.Proofs.Ytmapeiecapiliaa
open Go.RowKit
set_option linter.unusedSimpArgs false
set_option linter.unusedVariables false
set_option maxRecDepth 8000

theorem end_good (inn : Bool) (u : Int) (hu : 0 ≤ u) (m : Nat) : ∀ t : Lm, errM u 0 [t] = 0 → sizeM [t] ≤ 2000 → errM u 0 [(endM inn m t).2.1] = 0 ∧ sizeM [(endM inn m t).2.1] ≤ 2000 := by
  induction m with
  | zero =>
    intro t he hz
    unfold endM
    split <;> exact ⟨he, hz⟩
  | succ m ih =>
    intro t he hz
    unfold endM
    split
    · split
      · exact ⟨he, hz⟩
      · rename_i h
        exact ih _ (err_stp inn 0 2001 t u hu he) (by omega)
    · exact ⟨he, hz⟩
/-- The number of what a term comes to, or an error. -/
def vlR (t : Lm) (m : Nat) : Int × Int := if (endM false m t).1 = 0 then (if valZ (endM false m t).2.1 < 0 then (0, 2) else (valZ (endM false m t).2.1, 0)) else (0, (endM false m t).1)
theorem valZ_some {t : Lm} {k : Nat} (h : valM t = some k) : valZ t = (k : Int) := by unfold valZ; rw [h]
theorem valZ_none {t : Lm} (h : valM t = none) : valZ t = -1 := by unfold valZ; rw [h]

set_option maxHeartbeats 1000000 in
theorem number_bad (n : Int) (hn : n < 0 ∨ 40 < n) (w : World) :
    Calls Try.prog 5 #[.int .i64 n] w fun e w' => e = .returned (.tuple #[.agg #[.int .i64 0, .int .i64 0, .slice none 0 0], .int .i64 10]) ∧ Below w.heap.size w w' := by
  by_cases hneg : n < 0
  · have g1 : decide (n < 0) = true := decide_eq_true hneg
    go_enter Try.func5, Try.ntmps5
    go_wp2_with fail
    refine bodyPost_ret (v := .tuple #[.agg #[.int .i64 0, .int .i64 0, .slice none 0 0], .int .i64 10]) (by simp [results, Try.results5, go_sem]) rfl ?_
    exact ⟨rfl, (Below.refl _ _).alloc (Nat.le_refl _) _⟩
  · have g1 : decide (n < 0) = false := decide_eq_false hneg
    have g2 : decide (n > 40) = true := decide_eq_true (by omega)
    go_enter Try.func5, Try.ntmps5
    go_wp2_with fail
    refine bodyPost_ret (v := .tuple #[.agg #[.int .i64 0, .int .i64 0, .slice none 0 0], .int .i64 10]) (by simp [results, Try.results5, go_sem]) rfl ?_
    exact ⟨rfl, (Below.refl _ _).alloc (Nat.le_refl _) _⟩
set_option maxHeartbeats 1000000 in
theorem number_ok (n : Nat) (hn : n ≤ 40) (w : World) :
    Calls Try.prog 5 #[.int .i64 (n : Int)] w fun e w' => ∃ a c, e = .returned (.tuple #[.agg #[.int .i64 2, .int .i64 0, .slice a 1 c], .int .i64 0]) ∧ SlM w' (fun b => w.heap.size ≤ b) a [⟨2, 0, [itM n]⟩] ∧ Below w.heap.size w w' := by
  have g1 : decide ((n : Int) < 0) = false := decide_eq_false (by omega)
  have g2 : decide ((n : Int) > 40) = false := decide_eq_false (by omega)
  go_enter Try.func5, Try.ntmps5
  go_wp2_with fail
  refine (numeralL_any n (by omega) _).mono ?_
  rintro e w1 ⟨a1, c1, rfl, hs1, hb1⟩
  have B1 := hide (((Below.refl w.heap.size w).alloc (Nat.le_refl _) (.cells #[.int .i64 0, .int .i64 0, .slice none 0 0] 25)).trans (hb1.mono (by simp)))
  have R1 := hide ((Blk.new w #[.int .i64 0, .int .i64 0, .slice none 0 0] 25).below hb1 (by simp))
  have S1 : Hid (SlM w1 (fun b => w.heap.size + 1 ≤ b) a1 [⟨2, 0, [itM n]⟩]) := hs1.mono fun b h _ => by simp at h; omega
  have r0 : w1.cell? ⟨w.heap.size, 0, none⟩ = some (.int .i64 0) := R1.out.cell 0
  have r1 : w1.cell? ⟨w.heap.size, 1, none⟩ = some (.int .i64 0) := R1.out.cell 1
  have r2 : w1.cell? ⟨w.heap.size, 2, none⟩ = some (.slice none 0 0) := R1.out.cell 2
  have rf := R1.out.frozen
  clear hs1 hb1
  go_wp2_with fail
  refine bodyPost_ret (v := .tuple #[.agg #[.int .i64 2, .int .i64 0, .slice a1 1 c1], .int .i64 0]) (by simp [results, Try.results5, go_sem, World.cell?_setCell_same, World.cell?_setCell_other, r0, r1, r2]) rfl ?_
  refine ⟨a1, c1, rfl, (S1.out.kept fun b hb => ?_).mono fun b hb _ => by omega, bl_set3 B1.out _ (Nat.le_refl _) _ _ _⟩
  have hne : b ≠ w.heap.size := by omega
  rw [Below.heap_setCell _ _ _ _ (by simpa using hne), Below.heap_setCell _ _ _ _ (by simpa using hne), Below.heap_setCell _ _ _ _ (by simpa using hne)]

set_option maxHeartbeats 1000000 in
theorem lValue_err (t : Lm) (z : Int) (hz : nmE t 0 z ≠ 0) (v : Value) (w : World) (X : Nat → Prop) (hv : MV w X v t) :
    Calls Try.prog 10 #[v, .int .i64 z] w fun e w' => e = .returned (.tuple #[.int .i64 0, .int .i64 (nmE t 0 z)]) ∧ Below w.heap.size w w' := by
  obtain ⟨a, c, rfl, hs⟩ := hv
  have HB0 : Hid (Below w.heap.size w (w.alloc (.cells #[.int .i64 t.kind, .int .i64 t.idx, .slice a t.subs.length c] 25))) := (Below.refl _ _).alloc (Nat.le_refl _) _
  have HV : Hid (MV (w.alloc (.cells #[.int .i64 t.kind, .int .i64 t.idx, .slice a t.subs.length c] 25)) X (.agg #[.int .i64 t.kind, .int .i64 t.idx, .slice a t.subs.length c]) t) := ⟨a, c, rfl, hs.later HB0.out⟩
  have HZ := hide hz
  have hzb : (nmE t 0 z == 0) = false := beq_eq_false_iff_ne.2 hz
  have hzn : (nmE t 0 z != 0) = true := by simp [bne, hzb]
  clear hs hz
  go_enter Try.func10, Try.ntmps10
  go_wp2_with fail
  refine (normal_err t 0 z HZ.out _ _ _ HV.out).mono ?_
  rintro e w1 ⟨rfl, hb1⟩
  have B1 := hide ((HB0.out.trans (hb1.mono (by simp))).alloc (by have := hb1.size; simp at this; omega) (.cells #[.int .i64 0, .int .i64 0, .slice none 0 0] 25))
  clear hb1
  obtain ⟨q, hq⟩ : ∃ q, nmE t 0 z = q := ⟨_, rfl⟩
  have HQ := hide hq
  rw [hq] at hzb hzn ⊢
  clear hq HZ
  go_wp2_with fail
  refine bodyPost_ret (v := .tuple #[.int .i64 0, .int .i64 q]) (by simp [results, Try.results10, go_sem]) rfl ?_
  exact ⟨by rw [HQ.out], B1.out⟩

set_option maxHeartbeats 2000000 in
theorem lValue_ok (t : Lm) (m : Nat) (hm : m ≤ 400) (hE : lamE 0 0 t = 0) (v : Value) (w : World) (X : Nat → Prop) (hv : MV w X v t) :
    Calls Try.prog 10 #[v, .int .i64 (m : Int)] w fun e w' => e = .returned (.tuple #[.int .i64 (vlR t m).1, .int .i64 (vlR t m).2]) ∧ Below w.heap.size w w' := by
  obtain ⟨a, c, rfl, hs⟩ := hv
  have HB0 : Hid (Below w.heap.size w (w.alloc (.cells #[.int .i64 t.kind, .int .i64 t.idx, .slice a t.subs.length c] 25))) := (Below.refl _ _).alloc (Nat.le_refl _) _
  have HV : Hid (MV (w.alloc (.cells #[.int .i64 t.kind, .int .i64 t.idx, .slice a t.subs.length c] 25)) X (.agg #[.int .i64 t.kind, .int .i64 t.idx, .slice a t.subs.length c]) t) := ⟨a, c, rfl, hs.later HB0.out⟩
  have HE := hide hE
  have HG := hide (end_good false 0 (Int.le_refl 0) m t (lamE_ok hE).2.1 (by have := (lamE_ok hE).2.2; omega))
  have HVL : Hid (vlR t m = if (endM false m t).1 = 0 then (if valZ (endM false m t).2.1 < 0 then (0, 2) else (valZ (endM false m t).2.1, 0)) else (0, (endM false m t).1)) := rfl
  clear hs hE
  go_enter Try.func10, Try.ntmps10
  go_wp2_with fail
  refine (normal_ok t 0 m hm HE.out _ _ _ HV.out).mono ?_
  rintro e w1 ⟨hb1, hcase⟩
  have B1 := hide (HB0.out.trans (hb1.mono (by simp)))
  clear hb1
  rcases hcase with ⟨h0, ay, cy, rfl, hs1⟩ | ⟨h0, rfl⟩
  · have HV2 : Hid (vlR t m = if valZ (endM false m t).2.1 < 0 then (0, 2) else (valZ (endM false m t).2.1, 0)) := by unfold Hid; rw [HVL.out, if_pos h0]
    clear h0 HVL
    obtain ⟨y, hy⟩ : ∃ y, (endM false m t).2.1 = y := ⟨_, rfl⟩
    obtain ⟨k9, hk9⟩ : ∃ k9, (endM false m t).2.2 = k9 := ⟨_, rfl⟩
    rw [hy] at HV2 hs1 HG ⊢
    rw [hk9]
    have S1 := hide (hs1.later ((Below.refl _ _).alloc (Nat.le_refl _) (.cells #[.int .i64 y.kind, .int .i64 y.idx, .slice ay y.subs.length cy] 25)))
    have B2 := hide (B1.out.alloc B1.out.size (.cells #[.int .i64 y.kind, .int .i64 y.idx, .slice ay y.subs.length cy] 25))
    have Y1 := Blk.new w1 #[.int .i64 y.kind, .int .i64 y.idx, .slice ay y.subs.length cy] 25
    have y0 := Y1.cell 0
    have y1 := Y1.cell 1
    have y2 := Y1.cell 2
    simp only [List.getElem?_toArray, List.getElem?_cons_succ, List.getElem?_cons_zero] at y0 y1 y2
    clear hs1 Y1 hy hk9
    go_wp2_with fail
    clear y0 y1 y2
    generalize (w1.alloc (.cells #[.int .i64 y.kind, .int .i64 y.idx, .slice ay y.subs.length cy] 25)) = w2 at *
    refine (value_any y (sh_of_err _ _ _ HG.out.1) HG.out.2 _ _ _ ⟨ay, cy, rfl, S1.out⟩).mono ?_
    rintro e w3 ⟨hb3, n, q, rfl, hq1, hq2⟩
    have B3 := hide (B2.out.trans (hb3.mono B2.out.size))
    clear hb3
    cases q with
    | true =>
      obtain ⟨kk, h1, h2⟩ := hq1 rfl
      have HV3 : Hid (vlR t m = ((kk : Int), 0)) := by unfold Hid; rw [HV2.out, valZ_some h1, if_neg (by omega)]
      subst h2
      clear hq1 hq2 h1
      go_wp2_with fail
      refine bodyPost_ret (v := .tuple #[.int .i64 (kk : Int), .int .i64 0]) (by simp [results, Try.results10, go_sem]) rfl ?_
      exact ⟨by rw [HV3.out], B3.out⟩
    | false =>
      have HV3 : Hid (vlR t m = (0, 2)) := by unfold Hid; rw [HV2.out, valZ_none (hq2 rfl), if_pos (by omega)]
      clear hq1 hq2
      go_wp2_with fail
      refine bodyPost_ret (v := .tuple #[.int .i64 0, .int .i64 2]) (by simp [results, Try.results10, go_sem]) rfl ?_
      exact ⟨by rw [HV3.out], B3.out⟩
  · have HV2 : Hid (vlR t m = (0, (endM false m t).1)) := by unfold Hid; rw [HVL.out, if_neg h0]
    have B2 := hide (B1.out.alloc B1.out.size (.cells #[.int .i64 0, .int .i64 0, .slice none 0 0] 25))
    obtain ⟨q, hq⟩ : ∃ q, (endM false m t).1 = q := ⟨_, rfl⟩
    rw [hq] at HV2 h0 ⊢
    have hqb : (q == 0) = false := beq_eq_false_iff_ne.2 h0
    have hqn : (q != 0) = true := by simp [bne, hqb]
    clear h0 hq HVL
    go_wp2_with fail
    refine bodyPost_ret (v := .tuple #[.int .i64 0, .int .i64 q]) (by simp [results, Try.results10, go_sem]) rfl ?_
    exact ⟨by rw [HV2.out], B2.out⟩
#print axioms lValue_ok
#print axioms number_ok
end Go.Proofs.Ytmapeiecapiliaa

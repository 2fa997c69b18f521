/- Walks: the law LongNumbers. -/
import Derived.Test.YthlmmooianidlaaLn16
namespace Go.Proofs.Ythlmmooianidlaa
open Go.RowKit
set_option linter.unusedSimpArgs false
set_option linter.unusedVariables false
set_option maxRecDepth 8000

set_option maxHeartbeats 40000000 in
theorem longNumbers_any (n : Int) (t : Lm) (v : Value) (z : Int) (w : World) (X : Nat → Prop) (hv : MV w X v t) :
    Calls Try.prog 3 #[.int .i64 n, v, .int .i64 z] w fun e w' => e = .returned (.bool true) ∧ Below w.heap.size w w' := by
  obtain ⟨a, c, rfl, hs⟩ := hv
  have HS := hide hs
  have BQ : Hid (Below w.heap.size w (w.alloc (.cells #[.int .i64 t.kind, .int .i64 t.idx, .slice a t.subs.length c] 24))) := (Below.refl _ _).alloc (Nat.le_refl _) _
  have TQ : Hid (Blk (w.alloc (.cells #[.int .i64 t.kind, .int .i64 t.idx, .slice a t.subs.length c] 24)) w.heap.size #[.int .i64 t.kind, .int .i64 t.idx, .slice a t.subs.length c] 24) := Blk.new _ _ _
  clear hs
  go_enter Try.func3, Try.ntmps3
  go_wp2_with fail
  generalize (w.alloc (.cells #[.int .i64 t.kind, .int .i64 t.idx, .slice a t.subs.length c] 24)) = w0 at *
  refine (hugeLam_any t _ _ X (by exact ⟨a, c, rfl, HS.out.later BQ.out⟩)).mono ?_
  rintro e w1 ⟨rfl, hb1⟩
  have TQ := hide (TQ.out.below hb1 TQ.out.lt)
  have BQ := hide (BQ.out.trans (hb1.mono BQ.out.size))
  have HTL : Hid (w.heap.size < w1.heap.size) := TQ.out.lt
  clear hb1
  by_cases hh : 3000 < sizeM [t]
  · rw [decide_eq_true hh]
    go_wp2_with fail
    go_ret
    exact ⟨rfl, BQ.out⟩
  rw [decide_eq_false hh]
  clear hh
  by_cases h30 : z > 30
  · have g1 : decide (z > 30) = true := decide_eq_true h30
    by_cases h400 : z ≤ 400
    · have g2 : decide (z ≤ 400) = true := decide_eq_true h400
      go_wp2_with fail
      go_ret
      exact ⟨rfl, BQ.out⟩
    · have g2 : decide (z ≤ 400) = false := decide_eq_false h400
      by_cases hnb : n < 0 ∨ 40 < n
      · by_cases hneg : n < 0
        · have g5 : decide (n < 0) = true := decide_eq_true hneg
          have NB := hide (number_bad n hnb w1)
          clear hnb
          go_wp2_with fail
          refine NB.out.mono ?_
          rintro e w2 ⟨rfl, hb2⟩
          have TQ := hide (((TQ.out.below hb2 TQ.out.lt).alloc (.cells #[.int .i64 0, .int .i64 0, .slice none 0 0] 24)).alloc (.cells #[.int .i64 0, .int .i64 0, .slice none 0 0] 24))
          have BQ := hide (((BQ.out.trans (hb2.mono BQ.out.size)).alloc (Nat.le_trans BQ.out.size hb2.size) (.cells #[.int .i64 0, .int .i64 0, .slice none 0 0] 24)).alloc (by have := BQ.out.size; have := hb2.size; simp; omega) (.cells #[.int .i64 0, .int .i64 0, .slice none 0 0] 24))
          clear hb2 NB
          go_wp2_with fail
          have LE := lam2_err 10 (.agg #[.int .i64 0, .int .i64 0, .slice none 0 0]) 0 0 none 0 0 rfl ((w2.alloc (.cells #[.int .i64 0, .int .i64 0, .slice none 0 0] 24)).alloc (.cells #[.int .i64 0, .int .i64 0, .slice none 0 0] 24)) (by decide)
          unfold zeroM at LE
          have HLE := hide LE
          clear LE
          refine HLE.out.mono ?_
          rintro e wq ⟨rfl, hbq⟩
          have TQ := hide (TQ.out.below hbq TQ.out.lt)
          have BQ := hide (BQ.out.trans (hbq.mono BQ.out.size))
          clear hbq HLE
          have t0 : wq.cell? ⟨w.heap.size, 0, none⟩ = some (.int .i64 t.kind) := TQ.out.cell 0
          have t1 : wq.cell? ⟨w.heap.size, 1, none⟩ = some (.int .i64 t.idx) := TQ.out.cell 1
          have t2 : wq.cell? ⟨w.heap.size, 2, none⟩ = some (.slice a t.subs.length c) := TQ.out.cell 2
          go_wp2_with fail
          refine (lamMay_any t _ 0 0 _ X (by exact ⟨a, c, rfl, HS.out.later BQ.out⟩)).mono ?_
          rintro e w11 ⟨rfl, hb11⟩
          have TQ := hide (TQ.out.below hb11 TQ.out.lt)
          have BQ := hide (BQ.out.trans (hb11.mono BQ.out.size))
          clear hb11 t0 t1 t2
          have t0 : w11.cell? ⟨w.heap.size, 0, none⟩ = some (.int .i64 t.kind) := TQ.out.cell 0
          have t1 : w11.cell? ⟨w.heap.size, 1, none⟩ = some (.int .i64 t.idx) := TQ.out.cell 1
          have t2 : w11.cell? ⟨w.heap.size, 2, none⟩ = some (.slice a t.subs.length c) := TQ.out.cell 2
          by_cases hE : lamE 0 0 t = 0
          · rw [hE]
            have HE := hide hE
            clear hE
            go_wp2_with fail
            refine (lamSize_any t _ 60 _ X (by exact ⟨a, c, rfl, HS.out.later BQ.out⟩) (by omega) (by omega)).mono ?_
            rintro e w12 ⟨rfl, hb12⟩
            have TQ := hide (TQ.out.below hb12 TQ.out.lt)
            have BQ := hide (BQ.out.trans (hb12.mono BQ.out.size))
            clear hb12 t0 t1 t2
            have t0 : w12.cell? ⟨w.heap.size, 0, none⟩ = some (.int .i64 t.kind) := TQ.out.cell 0
            have t1 : w12.cell? ⟨w.heap.size, 1, none⟩ = some (.int .i64 t.idx) := TQ.out.cell 1
            have t2 : w12.cell? ⟨w.heap.size, 2, none⟩ = some (.slice a t.subs.length c) := TQ.out.cell 2
            by_cases h60 : 60 < sizeM [t]
            · have em : min ((sizeM [t] : Int)) (60 + 1) = 61 := by omega
              rw [em]
              go_wp2_with fail
              go_ret
              exact ⟨rfl, BQ.out⟩
            have em : min ((sizeM [t] : Int)) (60 + 1) = sizeM [t] := by omega
            have e60 : decide ((sizeM [t] : Int) > 60) = false := decide_eq_false (by omega)
            rw [em]
            clear em
            by_cases hbad : z < 0 ∨ 400 < z
            · have HNM : Hid (nmE t 0 z = 3) := by unfold Hid nmE; rw [if_pos HE.out, if_pos hbad]
              have VL := hide (lValue_err t z (by rw [HNM.out]; decide) _ w12 X (by exact ⟨a, c, rfl, HS.out.later BQ.out⟩))
              rw [HNM.out] at VL
              by_cases hneg : z < 0
              · have g1 : decide (z < 0) = true := decide_eq_true hneg
                go_wp2_with fail
                refine VL.out.mono ?_
                rintro e wv ⟨rfl, hbv⟩
                have BV := hide (BQ.out.trans (hbv.mono BQ.out.size))
                clear hbv
                go_wp2_with fail
                go_ret
                exact ⟨rfl, BV.out⟩
              · have g1 : decide (z < 0) = false := decide_eq_false hneg
                have g2 : decide (z > 400) = true := decide_eq_true (by omega)
                go_wp2_with fail
                refine VL.out.mono ?_
                rintro e wv ⟨rfl, hbv⟩
                have BV := hide (BQ.out.trans (hbv.mono BQ.out.size))
                clear hbv
                go_wp2_with fail
                go_ret
                exact ⟨rfl, BV.out⟩
            exact (hbad (Or.inr (by omega))).elim
          · have HNM : Hid (nmE t 0 z = lamE 0 0 t) := by unfold Hid nmE; rw [if_neg hE]
            have VL := hide (lValue_err t z (by rw [HNM.out]; exact hE) _ w11 X (by exact ⟨a, c, rfl, HS.out.later BQ.out⟩))
            rw [HNM.out] at VL
            have hqb : (lamE 0 0 t == 0) = false := beq_eq_false_iff_ne.2 hE
            clear hE HNM
            generalize lamE 0 0 t = q at *
            go_wp2_with fail
            refine VL.out.mono ?_
            rintro e wv ⟨rfl, hbv⟩
            have BV := hide (BQ.out.trans (hbv.mono BQ.out.size))
            clear hbv
            go_wp2_with fail
            go_ret
            exact ⟨by simp, BV.out⟩
        · have g5 : decide (n < 0) = false := decide_eq_false hneg
          have g6 : decide (n > 40) = true := decide_eq_true (by omega)
          have NB := hide (number_bad n hnb w1)
          clear hnb
          go_wp2_with fail
          refine NB.out.mono ?_
          rintro e w2 ⟨rfl, hb2⟩
          have TQ := hide (((TQ.out.below hb2 TQ.out.lt).alloc (.cells #[.int .i64 0, .int .i64 0, .slice none 0 0] 24)).alloc (.cells #[.int .i64 0, .int .i64 0, .slice none 0 0] 24))
          have BQ := hide (((BQ.out.trans (hb2.mono BQ.out.size)).alloc (Nat.le_trans BQ.out.size hb2.size) (.cells #[.int .i64 0, .int .i64 0, .slice none 0 0] 24)).alloc (by have := BQ.out.size; have := hb2.size; simp; omega) (.cells #[.int .i64 0, .int .i64 0, .slice none 0 0] 24))
          clear hb2 NB
          go_wp2_with fail
          have LE := lam2_err 10 (.agg #[.int .i64 0, .int .i64 0, .slice none 0 0]) 0 0 none 0 0 rfl ((w2.alloc (.cells #[.int .i64 0, .int .i64 0, .slice none 0 0] 24)).alloc (.cells #[.int .i64 0, .int .i64 0, .slice none 0 0] 24)) (by decide)
          unfold zeroM at LE
          have HLE := hide LE
          clear LE
          refine HLE.out.mono ?_
          rintro e wq ⟨rfl, hbq⟩
          have TQ := hide (TQ.out.below hbq TQ.out.lt)
          have BQ := hide (BQ.out.trans (hbq.mono BQ.out.size))
          clear hbq HLE
          have t0 : wq.cell? ⟨w.heap.size, 0, none⟩ = some (.int .i64 t.kind) := TQ.out.cell 0
          have t1 : wq.cell? ⟨w.heap.size, 1, none⟩ = some (.int .i64 t.idx) := TQ.out.cell 1
          have t2 : wq.cell? ⟨w.heap.size, 2, none⟩ = some (.slice a t.subs.length c) := TQ.out.cell 2
          go_wp2_with fail
          refine (lamMay_any t _ 0 0 _ X (by exact ⟨a, c, rfl, HS.out.later BQ.out⟩)).mono ?_
          rintro e w11 ⟨rfl, hb11⟩
          have TQ := hide (TQ.out.below hb11 TQ.out.lt)
          have BQ := hide (BQ.out.trans (hb11.mono BQ.out.size))
          clear hb11 t0 t1 t2
          have t0 : w11.cell? ⟨w.heap.size, 0, none⟩ = some (.int .i64 t.kind) := TQ.out.cell 0
          have t1 : w11.cell? ⟨w.heap.size, 1, none⟩ = some (.int .i64 t.idx) := TQ.out.cell 1
          have t2 : w11.cell? ⟨w.heap.size, 2, none⟩ = some (.slice a t.subs.length c) := TQ.out.cell 2
          by_cases hE : lamE 0 0 t = 0
          · rw [hE]
            have HE := hide hE
            clear hE
            go_wp2_with fail
            refine (lamSize_any t _ 60 _ X (by exact ⟨a, c, rfl, HS.out.later BQ.out⟩) (by omega) (by omega)).mono ?_
            rintro e w12 ⟨rfl, hb12⟩
            have TQ := hide (TQ.out.below hb12 TQ.out.lt)
            have BQ := hide (BQ.out.trans (hb12.mono BQ.out.size))
            clear hb12 t0 t1 t2
            have t0 : w12.cell? ⟨w.heap.size, 0, none⟩ = some (.int .i64 t.kind) := TQ.out.cell 0
            have t1 : w12.cell? ⟨w.heap.size, 1, none⟩ = some (.int .i64 t.idx) := TQ.out.cell 1
            have t2 : w12.cell? ⟨w.heap.size, 2, none⟩ = some (.slice a t.subs.length c) := TQ.out.cell 2
            by_cases h60 : 60 < sizeM [t]
            · have em : min ((sizeM [t] : Int)) (60 + 1) = 61 := by omega
              rw [em]
              go_wp2_with fail
              go_ret
              exact ⟨rfl, BQ.out⟩
            have em : min ((sizeM [t] : Int)) (60 + 1) = sizeM [t] := by omega
            have e60 : decide ((sizeM [t] : Int) > 60) = false := decide_eq_false (by omega)
            rw [em]
            clear em
            by_cases hbad : z < 0 ∨ 400 < z
            · have HNM : Hid (nmE t 0 z = 3) := by unfold Hid nmE; rw [if_pos HE.out, if_pos hbad]
              have VL := hide (lValue_err t z (by rw [HNM.out]; decide) _ w12 X (by exact ⟨a, c, rfl, HS.out.later BQ.out⟩))
              rw [HNM.out] at VL
              by_cases hneg : z < 0
              · have g1 : decide (z < 0) = true := decide_eq_true hneg
                go_wp2_with fail
                refine VL.out.mono ?_
                rintro e wv ⟨rfl, hbv⟩
                have BV := hide (BQ.out.trans (hbv.mono BQ.out.size))
                clear hbv
                go_wp2_with fail
                go_ret
                exact ⟨rfl, BV.out⟩
              · have g1 : decide (z < 0) = false := decide_eq_false hneg
                have g2 : decide (z > 400) = true := decide_eq_true (by omega)
                go_wp2_with fail
                refine VL.out.mono ?_
                rintro e wv ⟨rfl, hbv⟩
                have BV := hide (BQ.out.trans (hbv.mono BQ.out.size))
                clear hbv
                go_wp2_with fail
                go_ret
                exact ⟨rfl, BV.out⟩
            exact (hbad (Or.inr (by omega))).elim
          · have HNM : Hid (nmE t 0 z = lamE 0 0 t) := by unfold Hid nmE; rw [if_neg hE]
            have VL := hide (lValue_err t z (by rw [HNM.out]; exact hE) _ w11 X (by exact ⟨a, c, rfl, HS.out.later BQ.out⟩))
            rw [HNM.out] at VL
            have hqb : (lamE 0 0 t == 0) = false := beq_eq_false_iff_ne.2 hE
            clear hE HNM
            generalize lamE 0 0 t = q at *
            go_wp2_with fail
            refine VL.out.mono ?_
            rintro e wv ⟨rfl, hbv⟩
            have BV := hide (BQ.out.trans (hbv.mono BQ.out.size))
            clear hbv
            go_wp2_with fail
            go_ret
            exact ⟨by simp, BV.out⟩
      · obtain ⟨nn, rfl⟩ : ∃ nn : Nat, n = (nn : Int) := ⟨n.toNat, by omega⟩
        have hnn : nn ≤ 40 := by omega
        have g5 : decide ((nn : Int) < 0) = false := decide_eq_false (by omega)
        have g6 : decide ((nn : Int) > 40) = false := decide_eq_false (by omega)
        clear hnb
        go_wp2_with fail
        refine (number_ok nn hnn w1).mono ?_
        rintro e w2 ⟨a2, c2, rfl, hs2, hb2⟩
        have S2 := hide (hs2.mono (Y := fun b => w1.heap.size ≤ b ∧ b < w2.heap.size) fun b h1 h2 => ⟨h1, h2⟩)
        have TQ := hide (((TQ.out.below hb2 TQ.out.lt).alloc (.cells #[.int .i64 2, .int .i64 0, .slice a2 1 c2] 24)).alloc (.cells #[.int .i64 0, .int .i64 0, .slice none 0 0] 24))
        have BQ := hide (((BQ.out.trans (hb2.mono BQ.out.size)).alloc (Nat.le_trans BQ.out.size hb2.size) (.cells #[.int .i64 2, .int .i64 0, .slice a2 1 c2] 24)).alloc (by have := BQ.out.size; have := hb2.size; simp; omega) (.cells #[.int .i64 0, .int .i64 0, .slice none 0 0] 24))
        have NQ : Hid (Blk ((w2.alloc (.cells #[.int .i64 2, .int .i64 0, .slice a2 1 c2] 24)).alloc (.cells #[.int .i64 0, .int .i64 0, .slice none 0 0] 24)) w2.heap.size #[.int .i64 2, .int .i64 0, .slice a2 1 c2] 24) := (Blk.new w2 _ _).alloc _
        have ZQ : Hid (Blk ((w2.alloc (.cells #[.int .i64 2, .int .i64 0, .slice a2 1 c2] 24)).alloc (.cells #[.int .i64 0, .int .i64 0, .slice none 0 0] 24)) (w2.heap.size + 1) #[.int .i64 0, .int .i64 0, .slice none 0 0] 24) := by
          have h := Blk.new (w2.alloc (.cells #[.int .i64 2, .int .i64 0, .slice a2 1 c2] 24)) #[.int .i64 0, .int .i64 0, .slice none 0 0] 24
          unfold Hid
          simpa using h
        have SQ := hide (S2.out.later (below2M (.cells #[.int .i64 2, .int .i64 0, .slice a2 1 c2] 24) (.cells #[.int .i64 0, .int .i64 0, .slice none 0 0] 24)))
        have hz3 : ((w2.alloc (.cells #[.int .i64 2, .int .i64 0, .slice a2 1 c2] 24)).alloc (.cells #[.int .i64 0, .int .i64 0, .slice none 0 0] 24)).heap.size = w2.heap.size + 2 := by simp
        have hw2 : w1.heap.size ≤ w2.heap.size := hb2.size
        have hw1 : w.heap.size < w1.heap.size := HTL.out
        clear hs2 hb2 S2
        go_wp2_with fail
        generalize ((w2.alloc (.cells #[.int .i64 2, .int .i64 0, .slice a2 1 c2] 24)).alloc (.cells #[.int .i64 0, .int .i64 0, .slice none 0 0] 24)) = w3 at *
        refine (numeralR_any nn (by omega) w3).mono ?_
        rintro e w4 ⟨a4, c4, rfl, hs4, hb4⟩
        have TQ := hide (TQ.out.below hb4 TQ.out.lt)
        have BQ := hide (BQ.out.trans (hb4.mono BQ.out.size))
        have NQ := hide (NQ.out.below hb4 NQ.out.lt)
        have ZQ := hide (ZQ.out.below hb4 ZQ.out.lt)
        have SQ := hide (SQ.out.later hb4)
        have S4 := hide hs4
        have hw4 : w3.heap.size ≤ w4.heap.size := hb4.size
        have r0 : w4.cell? ⟨w2.heap.size + 1, 0, none⟩ = some (.int .i64 0) := ZQ.out.cell 0
        have r1 : w4.cell? ⟨w2.heap.size + 1, 1, none⟩ = some (.int .i64 0) := ZQ.out.cell 1
        have r2 : w4.cell? ⟨w2.heap.size + 1, 2, none⟩ = some (.slice none 0 0) := ZQ.out.cell 2
        have rf := ZQ.out.frozen
        have n0 : w4.cell? ⟨w2.heap.size, 0, none⟩ = some (.int .i64 2) := NQ.out.cell 0
        have n1 : w4.cell? ⟨w2.heap.size, 1, none⟩ = some (.int .i64 0) := NQ.out.cell 1
        have n2 : w4.cell? ⟨w2.heap.size, 2, none⟩ = some (.slice a2 1 c2) := NQ.out.cell 2
        have VX : Hid (MV (((w4.setCell ⟨w2.heap.size + 1, 0, none⟩ (.int .i64 2)).setCell ⟨w2.heap.size + 1, 1, none⟩ (.int .i64 0)).setCell ⟨w2.heap.size + 1, 2, none⟩ (.slice a4 1 c4)) (fun _ => True) (.agg #[.int .i64 2, .int .i64 0, .slice a2 1 c2]) ⟨2, 0, [⟨2, 0, [itM nn]⟩]⟩) := ⟨a2, c2, rfl, (SQ.out.kept fun b hb => by
          have hne : b ≠ w2.heap.size + 1 := by omega
          rw [Below.heap_setCell _ _ _ _ (by simpa using hne), Below.heap_setCell _ _ _ _ (by simpa using hne), Below.heap_setCell _ _ _ _ (by simpa using hne)]).mono fun _ _ _ => trivial⟩
        have VY : Hid (MV (((w4.setCell ⟨w2.heap.size + 1, 0, none⟩ (.int .i64 2)).setCell ⟨w2.heap.size + 1, 1, none⟩ (.int .i64 0)).setCell ⟨w2.heap.size + 1, 2, none⟩ (.slice a4 1 c4)) (fun _ => True) (.agg #[.int .i64 2, .int .i64 0, .slice a4 1 c4]) ⟨2, 0, [⟨2, 0, [itM nn]⟩]⟩) := ⟨a4, c4, rfl, (S4.out.kept fun b hb => by
          have hne : b ≠ w2.heap.size + 1 := by omega
          rw [Below.heap_setCell _ _ _ _ (by simpa using hne), Below.heap_setCell _ _ _ _ (by simpa using hne), Below.heap_setCell _ _ _ _ (by simpa using hne)]).mono fun _ _ _ => trivial⟩
        have TS := hide (blk_set3o TQ.out (B := w2.heap.size + 1) (by omega) (.int .i64 2) (.int .i64 0) (.slice a4 1 c4))
        have BS := hide (bl_set3 BQ.out (w2.heap.size + 1) (by omega) (.int .i64 2) (.int .i64 0) (.slice a4 1 c4))
        clear hs4 hb4
        go_wp2_with fail
        clear r0 r1 r2 rf n0 n1 n2
        generalize (((w4.setCell ⟨w2.heap.size + 1, 0, none⟩ (.int .i64 2)).setCell ⟨w2.heap.size + 1, 1, none⟩ (.int .i64 0)).setCell ⟨w2.heap.size + 1, 2, none⟩ (.slice a4 1 c4)) = w5 at *
        refine (lam2_ok ⟨2, 0, [⟨2, 0, [itM nn]⟩]⟩ _ _ w5 _ _ VX.out VY.out).mono ?_
        rintro e wq ⟨rfl, hbq⟩
        have TQ := hide (TS.out.below hbq TS.out.lt)
        have BQ := hide (BS.out.trans (hbq.mono BS.out.size))
        clear hbq VX VY TS BS SQ S4 NQ ZQ hz3 hw2 hw4
        have t0 : wq.cell? ⟨w.heap.size, 0, none⟩ = some (.int .i64 t.kind) := TQ.out.cell 0
        have t1 : wq.cell? ⟨w.heap.size, 1, none⟩ = some (.int .i64 t.idx) := TQ.out.cell 1
        have t2 : wq.cell? ⟨w.heap.size, 2, none⟩ = some (.slice a t.subs.length c) := TQ.out.cell 2
        go_wp2_with fail
        refine (lamMay_any t _ 0 0 _ X (by exact ⟨a, c, rfl, HS.out.later BQ.out⟩)).mono ?_
        rintro e w11 ⟨rfl, hb11⟩
        have TQ := hide (TQ.out.below hb11 TQ.out.lt)
        have BQ := hide (BQ.out.trans (hb11.mono BQ.out.size))
        clear hb11 t0 t1 t2
        have t0 : w11.cell? ⟨w.heap.size, 0, none⟩ = some (.int .i64 t.kind) := TQ.out.cell 0
        have t1 : w11.cell? ⟨w.heap.size, 1, none⟩ = some (.int .i64 t.idx) := TQ.out.cell 1
        have t2 : w11.cell? ⟨w.heap.size, 2, none⟩ = some (.slice a t.subs.length c) := TQ.out.cell 2
        by_cases hE : lamE 0 0 t = 0
        · rw [hE]
          have HE := hide hE
          clear hE
          go_wp2_with fail
          refine (lamSize_any t _ 60 _ X (by exact ⟨a, c, rfl, HS.out.later BQ.out⟩) (by omega) (by omega)).mono ?_
          rintro e w12 ⟨rfl, hb12⟩
          have TQ := hide (TQ.out.below hb12 TQ.out.lt)
          have BQ := hide (BQ.out.trans (hb12.mono BQ.out.size))
          clear hb12 t0 t1 t2
          have t0 : w12.cell? ⟨w.heap.size, 0, none⟩ = some (.int .i64 t.kind) := TQ.out.cell 0
          have t1 : w12.cell? ⟨w.heap.size, 1, none⟩ = some (.int .i64 t.idx) := TQ.out.cell 1
          have t2 : w12.cell? ⟨w.heap.size, 2, none⟩ = some (.slice a t.subs.length c) := TQ.out.cell 2
          by_cases h60 : 60 < sizeM [t]
          · have em : min ((sizeM [t] : Int)) (60 + 1) = 61 := by omega
            rw [em]
            go_wp2_with fail
            go_ret
            exact ⟨rfl, BQ.out⟩
          have em : min ((sizeM [t] : Int)) (60 + 1) = sizeM [t] := by omega
          have e60 : decide ((sizeM [t] : Int) > 60) = false := decide_eq_false (by omega)
          rw [em]
          clear em
          by_cases hbad : z < 0 ∨ 400 < z
          · have HNM : Hid (nmE t 0 z = 3) := by unfold Hid nmE; rw [if_pos HE.out, if_pos hbad]
            have VL := hide (lValue_err t z (by rw [HNM.out]; decide) _ w12 X (by exact ⟨a, c, rfl, HS.out.later BQ.out⟩))
            rw [HNM.out] at VL
            by_cases hneg : z < 0
            · have g1 : decide (z < 0) = true := decide_eq_true hneg
              go_wp2_with fail
              refine VL.out.mono ?_
              rintro e wv ⟨rfl, hbv⟩
              have BV := hide (BQ.out.trans (hbv.mono BQ.out.size))
              clear hbv
              go_wp2_with fail
              go_ret
              exact ⟨rfl, BV.out⟩
            · have g1 : decide (z < 0) = false := decide_eq_false hneg
              have g2 : decide (z > 400) = true := decide_eq_true (by omega)
              go_wp2_with fail
              refine VL.out.mono ?_
              rintro e wv ⟨rfl, hbv⟩
              have BV := hide (BQ.out.trans (hbv.mono BQ.out.size))
              clear hbv
              go_wp2_with fail
              go_ret
              exact ⟨rfl, BV.out⟩
          exact (hbad (Or.inr (by omega))).elim
        · have HNM : Hid (nmE t 0 z = lamE 0 0 t) := by unfold Hid nmE; rw [if_neg hE]
          have VL := hide (lValue_err t z (by rw [HNM.out]; exact hE) _ w11 X (by exact ⟨a, c, rfl, HS.out.later BQ.out⟩))
          rw [HNM.out] at VL
          have hqb : (lamE 0 0 t == 0) = false := beq_eq_false_iff_ne.2 hE
          clear hE HNM
          generalize lamE 0 0 t = q at *
          go_wp2_with fail
          refine VL.out.mono ?_
          rintro e wv ⟨rfl, hbv⟩
          have BV := hide (BQ.out.trans (hbv.mono BQ.out.size))
          clear hbv
          go_wp2_with fail
          go_ret
          exact ⟨by simp, BV.out⟩
  · have g1 : decide (z > 30) = false := decide_eq_false h30
    by_cases hnb : n < 0 ∨ 40 < n
    · by_cases hneg : n < 0
      · have g5 : decide (n < 0) = true := decide_eq_true hneg
        have NB := hide (number_bad n hnb w1)
        clear hnb
        go_wp2_with fail
        refine NB.out.mono ?_
        rintro e w2 ⟨rfl, hb2⟩
        have TQ := hide (((TQ.out.below hb2 TQ.out.lt).alloc (.cells #[.int .i64 0, .int .i64 0, .slice none 0 0] 24)).alloc (.cells #[.int .i64 0, .int .i64 0, .slice none 0 0] 24))
        have BQ := hide (((BQ.out.trans (hb2.mono BQ.out.size)).alloc (Nat.le_trans BQ.out.size hb2.size) (.cells #[.int .i64 0, .int .i64 0, .slice none 0 0] 24)).alloc (by have := BQ.out.size; have := hb2.size; simp; omega) (.cells #[.int .i64 0, .int .i64 0, .slice none 0 0] 24))
        clear hb2 NB
        go_wp2_with fail
        have LE := lam2_err 10 (.agg #[.int .i64 0, .int .i64 0, .slice none 0 0]) 0 0 none 0 0 rfl ((w2.alloc (.cells #[.int .i64 0, .int .i64 0, .slice none 0 0] 24)).alloc (.cells #[.int .i64 0, .int .i64 0, .slice none 0 0] 24)) (by decide)
        unfold zeroM at LE
        have HLE := hide LE
        clear LE
        refine HLE.out.mono ?_
        rintro e wq ⟨rfl, hbq⟩
        have TQ := hide (TQ.out.below hbq TQ.out.lt)
        have BQ := hide (BQ.out.trans (hbq.mono BQ.out.size))
        clear hbq HLE
        have t0 : wq.cell? ⟨w.heap.size, 0, none⟩ = some (.int .i64 t.kind) := TQ.out.cell 0
        have t1 : wq.cell? ⟨w.heap.size, 1, none⟩ = some (.int .i64 t.idx) := TQ.out.cell 1
        have t2 : wq.cell? ⟨w.heap.size, 2, none⟩ = some (.slice a t.subs.length c) := TQ.out.cell 2
        go_wp2_with fail
        refine (lamMay_any t _ 0 0 _ X (by exact ⟨a, c, rfl, HS.out.later BQ.out⟩)).mono ?_
        rintro e w11 ⟨rfl, hb11⟩
        have TQ := hide (TQ.out.below hb11 TQ.out.lt)
        have BQ := hide (BQ.out.trans (hb11.mono BQ.out.size))
        clear hb11 t0 t1 t2
        have t0 : w11.cell? ⟨w.heap.size, 0, none⟩ = some (.int .i64 t.kind) := TQ.out.cell 0
        have t1 : w11.cell? ⟨w.heap.size, 1, none⟩ = some (.int .i64 t.idx) := TQ.out.cell 1
        have t2 : w11.cell? ⟨w.heap.size, 2, none⟩ = some (.slice a t.subs.length c) := TQ.out.cell 2
        by_cases hE : lamE 0 0 t = 0
        · rw [hE]
          have HE := hide hE
          clear hE
          go_wp2_with fail
          refine (lamSize_any t _ 60 _ X (by exact ⟨a, c, rfl, HS.out.later BQ.out⟩) (by omega) (by omega)).mono ?_
          rintro e w12 ⟨rfl, hb12⟩
          have TQ := hide (TQ.out.below hb12 TQ.out.lt)
          have BQ := hide (BQ.out.trans (hb12.mono BQ.out.size))
          clear hb12 t0 t1 t2
          have t0 : w12.cell? ⟨w.heap.size, 0, none⟩ = some (.int .i64 t.kind) := TQ.out.cell 0
          have t1 : w12.cell? ⟨w.heap.size, 1, none⟩ = some (.int .i64 t.idx) := TQ.out.cell 1
          have t2 : w12.cell? ⟨w.heap.size, 2, none⟩ = some (.slice a t.subs.length c) := TQ.out.cell 2
          by_cases h60 : 60 < sizeM [t]
          · have em : min ((sizeM [t] : Int)) (60 + 1) = 61 := by omega
            rw [em]
            go_wp2_with fail
            go_ret
            exact ⟨rfl, BQ.out⟩
          have em : min ((sizeM [t] : Int)) (60 + 1) = sizeM [t] := by omega
          have e60 : decide ((sizeM [t] : Int) > 60) = false := decide_eq_false (by omega)
          rw [em]
          clear em
          by_cases hbad : z < 0 ∨ 400 < z
          · have HNM : Hid (nmE t 0 z = 3) := by unfold Hid nmE; rw [if_pos HE.out, if_pos hbad]
            have VL := hide (lValue_err t z (by rw [HNM.out]; decide) _ w12 X (by exact ⟨a, c, rfl, HS.out.later BQ.out⟩))
            rw [HNM.out] at VL
            by_cases hneg : z < 0
            · have g1 : decide (z < 0) = true := decide_eq_true hneg
              go_wp2_with fail
              refine VL.out.mono ?_
              rintro e wv ⟨rfl, hbv⟩
              have BV := hide (BQ.out.trans (hbv.mono BQ.out.size))
              clear hbv
              go_wp2_with fail
              go_ret
              exact ⟨rfl, BV.out⟩
            · have g1 : decide (z < 0) = false := decide_eq_false hneg
              have g2 : decide (z > 400) = true := decide_eq_true (by omega)
              go_wp2_with fail
              refine VL.out.mono ?_
              rintro e wv ⟨rfl, hbv⟩
              have BV := hide (BQ.out.trans (hbv.mono BQ.out.size))
              clear hbv
              go_wp2_with fail
              go_ret
              exact ⟨rfl, BV.out⟩
          obtain ⟨m, rfl⟩ : ∃ m : Nat, z = (m : Int) := ⟨z.toNat, by omega⟩
          have hm : m ≤ 400 := by omega
          have g1 : decide ((m : Int) < 0) = false := decide_eq_false (by omega)
          have g2 : decide ((m : Int) > 400) = false := decide_eq_false (by omega)
          have HVL : Hid (vlR t m = if (endM false m t).1 = 0 then (if valZ (endM false m t).2.1 < 0 then (0, 2) else (valZ (endM false m t).2.1, 0)) else (0, (endM false m t).1)) := rfl
          have HG := hide (end_good false 0 (Int.le_refl 0) m t (lamE_ok HE.out).2.1 (by have := (lamE_ok HE.out).2.2; omega))
          clear hbad
          go_wp2_with fail
          refine (lamEnd_any 0 m t _ _ X hm ⟨by omega, by omega⟩ (lamE_ok HE.out).2.1 (by have := (lamE_ok HE.out).2.2; omega) (by exact ⟨a, c, rfl, HS.out.later BQ.out⟩)).mono ?_
          rintro e w13 ⟨hb13, hcase⟩
          have TQ := hide (TQ.out.below hb13 TQ.out.lt)
          have BQ := hide (BQ.out.trans (hb13.mono BQ.out.size))
          clear hb13 t0 t1 t2
          have t0 : w13.cell? ⟨w.heap.size, 0, none⟩ = some (.int .i64 t.kind) := TQ.out.cell 0
          have t1 : w13.cell? ⟨w.heap.size, 1, none⟩ = some (.int .i64 t.idx) := TQ.out.cell 1
          have t2 : w13.cell? ⟨w.heap.size, 2, none⟩ = some (.slice a t.subs.length c) := TQ.out.cell 2
          rcases hcase with ⟨h0, ay, cy, rfl, hs1⟩ | ⟨h0, rfl⟩
          · have HV2 : Hid (vlR t m = if valZ (endM false m t).2.1 < 0 then (0, 2) else (valZ (endM false m t).2.1, 0)) := by unfold Hid; rw [HVL.out, if_pos h0]
            clear h0 HVL
            obtain ⟨y, hy⟩ : ∃ y, (endM false m t).2.1 = y := ⟨_, rfl⟩
            obtain ⟨k9, hk9⟩ : ∃ k9, (endM false m t).2.2 = k9 := ⟨_, rfl⟩
            rw [hy] at HV2 hs1 HG ⊢
            rw [hk9]
            have S1 := hide (hs1.later ((Below.refl _ _).alloc (Nat.le_refl _) (.cells #[.int .i64 y.kind, .int .i64 y.idx, .slice ay y.subs.length cy] 24)))
            have TQ := hide (TQ.out.alloc (.cells #[.int .i64 y.kind, .int .i64 y.idx, .slice ay y.subs.length cy] 24))
            have BQ := hide (BQ.out.alloc BQ.out.size (.cells #[.int .i64 y.kind, .int .i64 y.idx, .slice ay y.subs.length cy] 24))
            have Y1 := Blk.new w13 #[.int .i64 y.kind, .int .i64 y.idx, .slice ay y.subs.length cy] 24
            have y0 := Y1.cell 0
            have y1 := Y1.cell 1
            have y2 := Y1.cell 2
            simp only [List.getElem?_toArray, List.getElem?_cons_succ, List.getElem?_cons_zero] at y0 y1 y2
            clear hs1 Y1 hy hk9 t0 t1 t2
            go_wp2_with fail
            clear y0 y1 y2
            generalize (w13.alloc (.cells #[.int .i64 y.kind, .int .i64 y.idx, .slice ay y.subs.length cy] 24)) = w14 at *
            refine (valueOf_any y HG.out.1 HG.out.2 _ _ _ ⟨ay, cy, rfl, S1.out⟩).mono ?_
            rintro e w15 ⟨rfl, hb15⟩
            have TQ := hide (TQ.out.below hb15 TQ.out.lt)
            have BQ := hide (BQ.out.trans (hb15.mono BQ.out.size))
            clear hb15
            have t0 : w15.cell? ⟨w.heap.size, 0, none⟩ = some (.int .i64 t.kind) := TQ.out.cell 0
            have t1 : w15.cell? ⟨w.heap.size, 1, none⟩ = some (.int .i64 t.idx) := TQ.out.cell 1
            have t2 : w15.cell? ⟨w.heap.size, 2, none⟩ = some (.slice a t.subs.length c) := TQ.out.cell 2
            have VL := hide (lValue_ok t m hm HE.out _ w15 X (by exact ⟨a, c, rfl, HS.out.later BQ.out⟩))
            by_cases hneg : valZ y < 0
            · rw [HV2.out, if_pos hneg] at VL
              have gn : decide (valZ y < 0) = true := decide_eq_true hneg
              clear hneg
              generalize valZ y = zz at *
              go_wp2_with fail
              refine VL.out.mono ?_
              rintro e wv ⟨rfl, hbv⟩
              have BV := hide (BQ.out.trans (hbv.mono BQ.out.size))
              clear hbv
              go_wp2_with fail
              go_ret
              exact ⟨rfl, BV.out⟩
            · rw [HV2.out, if_neg hneg] at VL
              have gn : decide (valZ y < 0) = false := decide_eq_false hneg
              clear hneg
              generalize valZ y = zz at *
              go_wp2_with fail
              refine VL.out.mono ?_
              rintro e wv ⟨rfl, hbv⟩
              have BV := hide (BQ.out.trans (hbv.mono BQ.out.size))
              clear hbv
              go_wp2_with fail
              go_ret
              exact ⟨by simp, BV.out⟩
          · have HV2 : Hid (vlR t m = (0, (endM false m t).1)) := by unfold Hid; rw [HVL.out, if_neg h0]
            have TQ := hide (TQ.out.alloc (.cells #[.int .i64 0, .int .i64 0, .slice none 0 0] 24))
            have BQ := hide (BQ.out.alloc BQ.out.size (.cells #[.int .i64 0, .int .i64 0, .slice none 0 0] 24))
            have VL := hide (lValue_ok t m hm HE.out _ (w13.alloc (.cells #[.int .i64 0, .int .i64 0, .slice none 0 0] 24)) X (by exact ⟨a, c, rfl, HS.out.later BQ.out⟩))
            rw [HV2.out] at VL
            obtain ⟨q, hq⟩ : ∃ q, (endM false m t).1 = q := ⟨_, rfl⟩
            rw [hq] at VL h0 ⊢
            have hqb : (q == 0) = false := beq_eq_false_iff_ne.2 h0
            clear h0 hq HVL HV2 t0 t1 t2
            have t0 : (w13.alloc (.cells #[.int .i64 0, .int .i64 0, .slice none 0 0] 24)).cell? ⟨w.heap.size, 0, none⟩ = some (.int .i64 t.kind) := TQ.out.cell 0
            have t1 : (w13.alloc (.cells #[.int .i64 0, .int .i64 0, .slice none 0 0] 24)).cell? ⟨w.heap.size, 1, none⟩ = some (.int .i64 t.idx) := TQ.out.cell 1
            have t2 : (w13.alloc (.cells #[.int .i64 0, .int .i64 0, .slice none 0 0] 24)).cell? ⟨w.heap.size, 2, none⟩ = some (.slice a t.subs.length c) := TQ.out.cell 2
            go_wp2_with fail
            refine VL.out.mono ?_
            rintro e wv ⟨rfl, hbv⟩
            have BV := hide (BQ.out.trans (hbv.mono BQ.out.size))
            clear hbv
            go_wp2_with fail
            go_ret
            exact ⟨by simp, BV.out⟩
        · have HNM : Hid (nmE t 0 z = lamE 0 0 t) := by unfold Hid nmE; rw [if_neg hE]
          have VL := hide (lValue_err t z (by rw [HNM.out]; exact hE) _ w11 X (by exact ⟨a, c, rfl, HS.out.later BQ.out⟩))
          rw [HNM.out] at VL
          have hqb : (lamE 0 0 t == 0) = false := beq_eq_false_iff_ne.2 hE
          clear hE HNM
          generalize lamE 0 0 t = q at *
          go_wp2_with fail
          refine VL.out.mono ?_
          rintro e wv ⟨rfl, hbv⟩
          have BV := hide (BQ.out.trans (hbv.mono BQ.out.size))
          clear hbv
          go_wp2_with fail
          go_ret
          exact ⟨by simp, BV.out⟩
      · have g5 : decide (n < 0) = false := decide_eq_false hneg
        have g6 : decide (n > 40) = true := decide_eq_true (by omega)
        have NB := hide (number_bad n hnb w1)
        clear hnb
        go_wp2_with fail
        refine NB.out.mono ?_
        rintro e w2 ⟨rfl, hb2⟩
        have TQ := hide (((TQ.out.below hb2 TQ.out.lt).alloc (.cells #[.int .i64 0, .int .i64 0, .slice none 0 0] 24)).alloc (.cells #[.int .i64 0, .int .i64 0, .slice none 0 0] 24))
        have BQ := hide (((BQ.out.trans (hb2.mono BQ.out.size)).alloc (Nat.le_trans BQ.out.size hb2.size) (.cells #[.int .i64 0, .int .i64 0, .slice none 0 0] 24)).alloc (by have := BQ.out.size; have := hb2.size; simp; omega) (.cells #[.int .i64 0, .int .i64 0, .slice none 0 0] 24))
        clear hb2 NB
        go_wp2_with fail
        have LE := lam2_err 10 (.agg #[.int .i64 0, .int .i64 0, .slice none 0 0]) 0 0 none 0 0 rfl ((w2.alloc (.cells #[.int .i64 0, .int .i64 0, .slice none 0 0] 24)).alloc (.cells #[.int .i64 0, .int .i64 0, .slice none 0 0] 24)) (by decide)
        unfold zeroM at LE
        have HLE := hide LE
        clear LE
        refine HLE.out.mono ?_
        rintro e wq ⟨rfl, hbq⟩
        have TQ := hide (TQ.out.below hbq TQ.out.lt)
        have BQ := hide (BQ.out.trans (hbq.mono BQ.out.size))
        clear hbq HLE
        have t0 : wq.cell? ⟨w.heap.size, 0, none⟩ = some (.int .i64 t.kind) := TQ.out.cell 0
        have t1 : wq.cell? ⟨w.heap.size, 1, none⟩ = some (.int .i64 t.idx) := TQ.out.cell 1
        have t2 : wq.cell? ⟨w.heap.size, 2, none⟩ = some (.slice a t.subs.length c) := TQ.out.cell 2
        go_wp2_with fail
        refine (lamMay_any t _ 0 0 _ X (by exact ⟨a, c, rfl, HS.out.later BQ.out⟩)).mono ?_
        rintro e w11 ⟨rfl, hb11⟩
        have TQ := hide (TQ.out.below hb11 TQ.out.lt)
        have BQ := hide (BQ.out.trans (hb11.mono BQ.out.size))
        clear hb11 t0 t1 t2
        have t0 : w11.cell? ⟨w.heap.size, 0, none⟩ = some (.int .i64 t.kind) := TQ.out.cell 0
        have t1 : w11.cell? ⟨w.heap.size, 1, none⟩ = some (.int .i64 t.idx) := TQ.out.cell 1
        have t2 : w11.cell? ⟨w.heap.size, 2, none⟩ = some (.slice a t.subs.length c) := TQ.out.cell 2
        by_cases hE : lamE 0 0 t = 0
        · rw [hE]
          have HE := hide hE
          clear hE
          go_wp2_with fail
          refine (lamSize_any t _ 60 _ X (by exact ⟨a, c, rfl, HS.out.later BQ.out⟩) (by omega) (by omega)).mono ?_
          rintro e w12 ⟨rfl, hb12⟩
          have TQ := hide (TQ.out.below hb12 TQ.out.lt)
          have BQ := hide (BQ.out.trans (hb12.mono BQ.out.size))
          clear hb12 t0 t1 t2
          have t0 : w12.cell? ⟨w.heap.size, 0, none⟩ = some (.int .i64 t.kind) := TQ.out.cell 0
          have t1 : w12.cell? ⟨w.heap.size, 1, none⟩ = some (.int .i64 t.idx) := TQ.out.cell 1
          have t2 : w12.cell? ⟨w.heap.size, 2, none⟩ = some (.slice a t.subs.length c) := TQ.out.cell 2
          by_cases h60 : 60 < sizeM [t]
          · have em : min ((sizeM [t] : Int)) (60 + 1) = 61 := by omega
            rw [em]
            go_wp2_with fail
            go_ret
            exact ⟨rfl, BQ.out⟩
          have em : min ((sizeM [t] : Int)) (60 + 1) = sizeM [t] := by omega
          have e60 : decide ((sizeM [t] : Int) > 60) = false := decide_eq_false (by omega)
          rw [em]
          clear em
          by_cases hbad : z < 0 ∨ 400 < z
          · have HNM : Hid (nmE t 0 z = 3) := by unfold Hid nmE; rw [if_pos HE.out, if_pos hbad]
            have VL := hide (lValue_err t z (by rw [HNM.out]; decide) _ w12 X (by exact ⟨a, c, rfl, HS.out.later BQ.out⟩))
            rw [HNM.out] at VL
            by_cases hneg : z < 0
            · have g1 : decide (z < 0) = true := decide_eq_true hneg
              go_wp2_with fail
              refine VL.out.mono ?_
              rintro e wv ⟨rfl, hbv⟩
              have BV := hide (BQ.out.trans (hbv.mono BQ.out.size))
              clear hbv
              go_wp2_with fail
              go_ret
              exact ⟨rfl, BV.out⟩
            · have g1 : decide (z < 0) = false := decide_eq_false hneg
              have g2 : decide (z > 400) = true := decide_eq_true (by omega)
              go_wp2_with fail
              refine VL.out.mono ?_
              rintro e wv ⟨rfl, hbv⟩
              have BV := hide (BQ.out.trans (hbv.mono BQ.out.size))
              clear hbv
              go_wp2_with fail
              go_ret
              exact ⟨rfl, BV.out⟩
          obtain ⟨m, rfl⟩ : ∃ m : Nat, z = (m : Int) := ⟨z.toNat, by omega⟩
          have hm : m ≤ 400 := by omega
          have g1 : decide ((m : Int) < 0) = false := decide_eq_false (by omega)
          have g2 : decide ((m : Int) > 400) = false := decide_eq_false (by omega)
          have HVL : Hid (vlR t m = if (endM false m t).1 = 0 then (if valZ (endM false m t).2.1 < 0 then (0, 2) else (valZ (endM false m t).2.1, 0)) else (0, (endM false m t).1)) := rfl
          have HG := hide (end_good false 0 (Int.le_refl 0) m t (lamE_ok HE.out).2.1 (by have := (lamE_ok HE.out).2.2; omega))
          clear hbad
          go_wp2_with fail
          refine (lamEnd_any 0 m t _ _ X hm ⟨by omega, by omega⟩ (lamE_ok HE.out).2.1 (by have := (lamE_ok HE.out).2.2; omega) (by exact ⟨a, c, rfl, HS.out.later BQ.out⟩)).mono ?_
          rintro e w13 ⟨hb13, hcase⟩
          have TQ := hide (TQ.out.below hb13 TQ.out.lt)
          have BQ := hide (BQ.out.trans (hb13.mono BQ.out.size))
          clear hb13 t0 t1 t2
          have t0 : w13.cell? ⟨w.heap.size, 0, none⟩ = some (.int .i64 t.kind) := TQ.out.cell 0
          have t1 : w13.cell? ⟨w.heap.size, 1, none⟩ = some (.int .i64 t.idx) := TQ.out.cell 1
          have t2 : w13.cell? ⟨w.heap.size, 2, none⟩ = some (.slice a t.subs.length c) := TQ.out.cell 2
          rcases hcase with ⟨h0, ay, cy, rfl, hs1⟩ | ⟨h0, rfl⟩
          · have HV2 : Hid (vlR t m = if valZ (endM false m t).2.1 < 0 then (0, 2) else (valZ (endM false m t).2.1, 0)) := by unfold Hid; rw [HVL.out, if_pos h0]
            clear h0 HVL
            obtain ⟨y, hy⟩ : ∃ y, (endM false m t).2.1 = y := ⟨_, rfl⟩
            obtain ⟨k9, hk9⟩ : ∃ k9, (endM false m t).2.2 = k9 := ⟨_, rfl⟩
            rw [hy] at HV2 hs1 HG ⊢
            rw [hk9]
            have S1 := hide (hs1.later ((Below.refl _ _).alloc (Nat.le_refl _) (.cells #[.int .i64 y.kind, .int .i64 y.idx, .slice ay y.subs.length cy] 24)))
            have TQ := hide (TQ.out.alloc (.cells #[.int .i64 y.kind, .int .i64 y.idx, .slice ay y.subs.length cy] 24))
            have BQ := hide (BQ.out.alloc BQ.out.size (.cells #[.int .i64 y.kind, .int .i64 y.idx, .slice ay y.subs.length cy] 24))
            have Y1 := Blk.new w13 #[.int .i64 y.kind, .int .i64 y.idx, .slice ay y.subs.length cy] 24
            have y0 := Y1.cell 0
            have y1 := Y1.cell 1
            have y2 := Y1.cell 2
            simp only [List.getElem?_toArray, List.getElem?_cons_succ, List.getElem?_cons_zero] at y0 y1 y2
            clear hs1 Y1 hy hk9 t0 t1 t2
            go_wp2_with fail
            clear y0 y1 y2
            generalize (w13.alloc (.cells #[.int .i64 y.kind, .int .i64 y.idx, .slice ay y.subs.length cy] 24)) = w14 at *
            refine (valueOf_any y HG.out.1 HG.out.2 _ _ _ ⟨ay, cy, rfl, S1.out⟩).mono ?_
            rintro e w15 ⟨rfl, hb15⟩
            have TQ := hide (TQ.out.below hb15 TQ.out.lt)
            have BQ := hide (BQ.out.trans (hb15.mono BQ.out.size))
            clear hb15
            have t0 : w15.cell? ⟨w.heap.size, 0, none⟩ = some (.int .i64 t.kind) := TQ.out.cell 0
            have t1 : w15.cell? ⟨w.heap.size, 1, none⟩ = some (.int .i64 t.idx) := TQ.out.cell 1
            have t2 : w15.cell? ⟨w.heap.size, 2, none⟩ = some (.slice a t.subs.length c) := TQ.out.cell 2
            have VL := hide (lValue_ok t m hm HE.out _ w15 X (by exact ⟨a, c, rfl, HS.out.later BQ.out⟩))
            by_cases hneg : valZ y < 0
            · rw [HV2.out, if_pos hneg] at VL
              have gn : decide (valZ y < 0) = true := decide_eq_true hneg
              clear hneg
              generalize valZ y = zz at *
              go_wp2_with fail
              refine VL.out.mono ?_
              rintro e wv ⟨rfl, hbv⟩
              have BV := hide (BQ.out.trans (hbv.mono BQ.out.size))
              clear hbv
              go_wp2_with fail
              go_ret
              exact ⟨rfl, BV.out⟩
            · rw [HV2.out, if_neg hneg] at VL
              have gn : decide (valZ y < 0) = false := decide_eq_false hneg
              clear hneg
              generalize valZ y = zz at *
              go_wp2_with fail
              refine VL.out.mono ?_
              rintro e wv ⟨rfl, hbv⟩
              have BV := hide (BQ.out.trans (hbv.mono BQ.out.size))
              clear hbv
              go_wp2_with fail
              go_ret
              exact ⟨by simp, BV.out⟩
          · have HV2 : Hid (vlR t m = (0, (endM false m t).1)) := by unfold Hid; rw [HVL.out, if_neg h0]
            have TQ := hide (TQ.out.alloc (.cells #[.int .i64 0, .int .i64 0, .slice none 0 0] 24))
            have BQ := hide (BQ.out.alloc BQ.out.size (.cells #[.int .i64 0, .int .i64 0, .slice none 0 0] 24))
            have VL := hide (lValue_ok t m hm HE.out _ (w13.alloc (.cells #[.int .i64 0, .int .i64 0, .slice none 0 0] 24)) X (by exact ⟨a, c, rfl, HS.out.later BQ.out⟩))
            rw [HV2.out] at VL
            obtain ⟨q, hq⟩ : ∃ q, (endM false m t).1 = q := ⟨_, rfl⟩
            rw [hq] at VL h0 ⊢
            have hqb : (q == 0) = false := beq_eq_false_iff_ne.2 h0
            clear h0 hq HVL HV2 t0 t1 t2
            have t0 : (w13.alloc (.cells #[.int .i64 0, .int .i64 0, .slice none 0 0] 24)).cell? ⟨w.heap.size, 0, none⟩ = some (.int .i64 t.kind) := TQ.out.cell 0
            have t1 : (w13.alloc (.cells #[.int .i64 0, .int .i64 0, .slice none 0 0] 24)).cell? ⟨w.heap.size, 1, none⟩ = some (.int .i64 t.idx) := TQ.out.cell 1
            have t2 : (w13.alloc (.cells #[.int .i64 0, .int .i64 0, .slice none 0 0] 24)).cell? ⟨w.heap.size, 2, none⟩ = some (.slice a t.subs.length c) := TQ.out.cell 2
            go_wp2_with fail
            refine VL.out.mono ?_
            rintro e wv ⟨rfl, hbv⟩
            have BV := hide (BQ.out.trans (hbv.mono BQ.out.size))
            clear hbv
            go_wp2_with fail
            go_ret
            exact ⟨by simp, BV.out⟩
        · have HNM : Hid (nmE t 0 z = lamE 0 0 t) := by unfold Hid nmE; rw [if_neg hE]
          have VL := hide (lValue_err t z (by rw [HNM.out]; exact hE) _ w11 X (by exact ⟨a, c, rfl, HS.out.later BQ.out⟩))
          rw [HNM.out] at VL
          have hqb : (lamE 0 0 t == 0) = false := beq_eq_false_iff_ne.2 hE
          clear hE HNM
          generalize lamE 0 0 t = q at *
          go_wp2_with fail
          refine VL.out.mono ?_
          rintro e wv ⟨rfl, hbv⟩
          have BV := hide (BQ.out.trans (hbv.mono BQ.out.size))
          clear hbv
          go_wp2_with fail
          go_ret
          exact ⟨by simp, BV.out⟩
    · obtain ⟨nn, rfl⟩ : ∃ nn : Nat, n = (nn : Int) := ⟨n.toNat, by omega⟩
      have hnn : nn ≤ 40 := by omega
      have g5 : decide ((nn : Int) < 0) = false := decide_eq_false (by omega)
      have g6 : decide ((nn : Int) > 40) = false := decide_eq_false (by omega)
      clear hnb
      go_wp2_with fail
      refine (number_ok nn hnn w1).mono ?_
      rintro e w2 ⟨a2, c2, rfl, hs2, hb2⟩
      have S2 := hide (hs2.mono (Y := fun b => w1.heap.size ≤ b ∧ b < w2.heap.size) fun b h1 h2 => ⟨h1, h2⟩)
      have TQ := hide (((TQ.out.below hb2 TQ.out.lt).alloc (.cells #[.int .i64 2, .int .i64 0, .slice a2 1 c2] 24)).alloc (.cells #[.int .i64 0, .int .i64 0, .slice none 0 0] 24))
      have BQ := hide (((BQ.out.trans (hb2.mono BQ.out.size)).alloc (Nat.le_trans BQ.out.size hb2.size) (.cells #[.int .i64 2, .int .i64 0, .slice a2 1 c2] 24)).alloc (by have := BQ.out.size; have := hb2.size; simp; omega) (.cells #[.int .i64 0, .int .i64 0, .slice none 0 0] 24))
      have NQ : Hid (Blk ((w2.alloc (.cells #[.int .i64 2, .int .i64 0, .slice a2 1 c2] 24)).alloc (.cells #[.int .i64 0, .int .i64 0, .slice none 0 0] 24)) w2.heap.size #[.int .i64 2, .int .i64 0, .slice a2 1 c2] 24) := (Blk.new w2 _ _).alloc _
      have ZQ : Hid (Blk ((w2.alloc (.cells #[.int .i64 2, .int .i64 0, .slice a2 1 c2] 24)).alloc (.cells #[.int .i64 0, .int .i64 0, .slice none 0 0] 24)) (w2.heap.size + 1) #[.int .i64 0, .int .i64 0, .slice none 0 0] 24) := by
        have h := Blk.new (w2.alloc (.cells #[.int .i64 2, .int .i64 0, .slice a2 1 c2] 24)) #[.int .i64 0, .int .i64 0, .slice none 0 0] 24
        unfold Hid
        simpa using h
      have SQ := hide (S2.out.later (below2M (.cells #[.int .i64 2, .int .i64 0, .slice a2 1 c2] 24) (.cells #[.int .i64 0, .int .i64 0, .slice none 0 0] 24)))
      have hz3 : ((w2.alloc (.cells #[.int .i64 2, .int .i64 0, .slice a2 1 c2] 24)).alloc (.cells #[.int .i64 0, .int .i64 0, .slice none 0 0] 24)).heap.size = w2.heap.size + 2 := by simp
      have hw2 : w1.heap.size ≤ w2.heap.size := hb2.size
      have hw1 : w.heap.size < w1.heap.size := HTL.out
      clear hs2 hb2 S2
      go_wp2_with fail
      generalize ((w2.alloc (.cells #[.int .i64 2, .int .i64 0, .slice a2 1 c2] 24)).alloc (.cells #[.int .i64 0, .int .i64 0, .slice none 0 0] 24)) = w3 at *
      refine (numeralR_any nn (by omega) w3).mono ?_
      rintro e w4 ⟨a4, c4, rfl, hs4, hb4⟩
      have TQ := hide (TQ.out.below hb4 TQ.out.lt)
      have BQ := hide (BQ.out.trans (hb4.mono BQ.out.size))
      have NQ := hide (NQ.out.below hb4 NQ.out.lt)
      have ZQ := hide (ZQ.out.below hb4 ZQ.out.lt)
      have SQ := hide (SQ.out.later hb4)
      have S4 := hide hs4
      have hw4 : w3.heap.size ≤ w4.heap.size := hb4.size
      have r0 : w4.cell? ⟨w2.heap.size + 1, 0, none⟩ = some (.int .i64 0) := ZQ.out.cell 0
      have r1 : w4.cell? ⟨w2.heap.size + 1, 1, none⟩ = some (.int .i64 0) := ZQ.out.cell 1
      have r2 : w4.cell? ⟨w2.heap.size + 1, 2, none⟩ = some (.slice none 0 0) := ZQ.out.cell 2
      have rf := ZQ.out.frozen
      have n0 : w4.cell? ⟨w2.heap.size, 0, none⟩ = some (.int .i64 2) := NQ.out.cell 0
      have n1 : w4.cell? ⟨w2.heap.size, 1, none⟩ = some (.int .i64 0) := NQ.out.cell 1
      have n2 : w4.cell? ⟨w2.heap.size, 2, none⟩ = some (.slice a2 1 c2) := NQ.out.cell 2
      have VX : Hid (MV (((w4.setCell ⟨w2.heap.size + 1, 0, none⟩ (.int .i64 2)).setCell ⟨w2.heap.size + 1, 1, none⟩ (.int .i64 0)).setCell ⟨w2.heap.size + 1, 2, none⟩ (.slice a4 1 c4)) (fun _ => True) (.agg #[.int .i64 2, .int .i64 0, .slice a2 1 c2]) ⟨2, 0, [⟨2, 0, [itM nn]⟩]⟩) := ⟨a2, c2, rfl, (SQ.out.kept fun b hb => by
        have hne : b ≠ w2.heap.size + 1 := by omega
        rw [Below.heap_setCell _ _ _ _ (by simpa using hne), Below.heap_setCell _ _ _ _ (by simpa using hne), Below.heap_setCell _ _ _ _ (by simpa using hne)]).mono fun _ _ _ => trivial⟩
      have VY : Hid (MV (((w4.setCell ⟨w2.heap.size + 1, 0, none⟩ (.int .i64 2)).setCell ⟨w2.heap.size + 1, 1, none⟩ (.int .i64 0)).setCell ⟨w2.heap.size + 1, 2, none⟩ (.slice a4 1 c4)) (fun _ => True) (.agg #[.int .i64 2, .int .i64 0, .slice a4 1 c4]) ⟨2, 0, [⟨2, 0, [itM nn]⟩]⟩) := ⟨a4, c4, rfl, (S4.out.kept fun b hb => by
        have hne : b ≠ w2.heap.size + 1 := by omega
        rw [Below.heap_setCell _ _ _ _ (by simpa using hne), Below.heap_setCell _ _ _ _ (by simpa using hne), Below.heap_setCell _ _ _ _ (by simpa using hne)]).mono fun _ _ _ => trivial⟩
      have TS := hide (blk_set3o TQ.out (B := w2.heap.size + 1) (by omega) (.int .i64 2) (.int .i64 0) (.slice a4 1 c4))
      have BS := hide (bl_set3 BQ.out (w2.heap.size + 1) (by omega) (.int .i64 2) (.int .i64 0) (.slice a4 1 c4))
      clear hs4 hb4
      go_wp2_with fail
      clear r0 r1 r2 rf n0 n1 n2
      generalize (((w4.setCell ⟨w2.heap.size + 1, 0, none⟩ (.int .i64 2)).setCell ⟨w2.heap.size + 1, 1, none⟩ (.int .i64 0)).setCell ⟨w2.heap.size + 1, 2, none⟩ (.slice a4 1 c4)) = w5 at *
      refine (lam2_ok ⟨2, 0, [⟨2, 0, [itM nn]⟩]⟩ _ _ w5 _ _ VX.out VY.out).mono ?_
      rintro e wq ⟨rfl, hbq⟩
      have TQ := hide (TS.out.below hbq TS.out.lt)
      have BQ := hide (BS.out.trans (hbq.mono BS.out.size))
      clear hbq VX VY TS BS SQ S4 NQ ZQ hz3 hw2 hw4
      have t0 : wq.cell? ⟨w.heap.size, 0, none⟩ = some (.int .i64 t.kind) := TQ.out.cell 0
      have t1 : wq.cell? ⟨w.heap.size, 1, none⟩ = some (.int .i64 t.idx) := TQ.out.cell 1
      have t2 : wq.cell? ⟨w.heap.size, 2, none⟩ = some (.slice a t.subs.length c) := TQ.out.cell 2
      go_wp2_with fail
      refine (lamMay_any t _ 0 0 _ X (by exact ⟨a, c, rfl, HS.out.later BQ.out⟩)).mono ?_
      rintro e w11 ⟨rfl, hb11⟩
      have TQ := hide (TQ.out.below hb11 TQ.out.lt)
      have BQ := hide (BQ.out.trans (hb11.mono BQ.out.size))
      clear hb11 t0 t1 t2
      have t0 : w11.cell? ⟨w.heap.size, 0, none⟩ = some (.int .i64 t.kind) := TQ.out.cell 0
      have t1 : w11.cell? ⟨w.heap.size, 1, none⟩ = some (.int .i64 t.idx) := TQ.out.cell 1
      have t2 : w11.cell? ⟨w.heap.size, 2, none⟩ = some (.slice a t.subs.length c) := TQ.out.cell 2
      by_cases hE : lamE 0 0 t = 0
      · rw [hE]
        have HE := hide hE
        clear hE
        go_wp2_with fail
        refine (lamSize_any t _ 60 _ X (by exact ⟨a, c, rfl, HS.out.later BQ.out⟩) (by omega) (by omega)).mono ?_
        rintro e w12 ⟨rfl, hb12⟩
        have TQ := hide (TQ.out.below hb12 TQ.out.lt)
        have BQ := hide (BQ.out.trans (hb12.mono BQ.out.size))
        clear hb12 t0 t1 t2
        have t0 : w12.cell? ⟨w.heap.size, 0, none⟩ = some (.int .i64 t.kind) := TQ.out.cell 0
        have t1 : w12.cell? ⟨w.heap.size, 1, none⟩ = some (.int .i64 t.idx) := TQ.out.cell 1
        have t2 : w12.cell? ⟨w.heap.size, 2, none⟩ = some (.slice a t.subs.length c) := TQ.out.cell 2
        by_cases h60 : 60 < sizeM [t]
        · have em : min ((sizeM [t] : Int)) (60 + 1) = 61 := by omega
          rw [em]
          go_wp2_with fail
          go_ret
          exact ⟨rfl, BQ.out⟩
        have em : min ((sizeM [t] : Int)) (60 + 1) = sizeM [t] := by omega
        have e60 : decide ((sizeM [t] : Int) > 60) = false := decide_eq_false (by omega)
        rw [em]
        clear em
        by_cases hbad : z < 0 ∨ 400 < z
        · have HNM : Hid (nmE t 0 z = 3) := by unfold Hid nmE; rw [if_pos HE.out, if_pos hbad]
          have VL := hide (lValue_err t z (by rw [HNM.out]; decide) _ w12 X (by exact ⟨a, c, rfl, HS.out.later BQ.out⟩))
          rw [HNM.out] at VL
          by_cases hneg : z < 0
          · have g1 : decide (z < 0) = true := decide_eq_true hneg
            go_wp2_with fail
            refine VL.out.mono ?_
            rintro e wv ⟨rfl, hbv⟩
            have BV := hide (BQ.out.trans (hbv.mono BQ.out.size))
            clear hbv
            go_wp2_with fail
            go_ret
            exact ⟨rfl, BV.out⟩
          · have g1 : decide (z < 0) = false := decide_eq_false hneg
            have g2 : decide (z > 400) = true := decide_eq_true (by omega)
            go_wp2_with fail
            refine VL.out.mono ?_
            rintro e wv ⟨rfl, hbv⟩
            have BV := hide (BQ.out.trans (hbv.mono BQ.out.size))
            clear hbv
            go_wp2_with fail
            go_ret
            exact ⟨rfl, BV.out⟩
        obtain ⟨m, rfl⟩ : ∃ m : Nat, z = (m : Int) := ⟨z.toNat, by omega⟩
        have hm : m ≤ 400 := by omega
        have g1 : decide ((m : Int) < 0) = false := decide_eq_false (by omega)
        have g2 : decide ((m : Int) > 400) = false := decide_eq_false (by omega)
        have HVL : Hid (vlR t m = if (endM false m t).1 = 0 then (if valZ (endM false m t).2.1 < 0 then (0, 2) else (valZ (endM false m t).2.1, 0)) else (0, (endM false m t).1)) := rfl
        have HG := hide (end_good false 0 (Int.le_refl 0) m t (lamE_ok HE.out).2.1 (by have := (lamE_ok HE.out).2.2; omega))
        clear hbad
        go_wp2_with fail
        refine (lamEnd_any 0 m t _ _ X hm ⟨by omega, by omega⟩ (lamE_ok HE.out).2.1 (by have := (lamE_ok HE.out).2.2; omega) (by exact ⟨a, c, rfl, HS.out.later BQ.out⟩)).mono ?_
        rintro e w13 ⟨hb13, hcase⟩
        have TQ := hide (TQ.out.below hb13 TQ.out.lt)
        have BQ := hide (BQ.out.trans (hb13.mono BQ.out.size))
        clear hb13 t0 t1 t2
        have t0 : w13.cell? ⟨w.heap.size, 0, none⟩ = some (.int .i64 t.kind) := TQ.out.cell 0
        have t1 : w13.cell? ⟨w.heap.size, 1, none⟩ = some (.int .i64 t.idx) := TQ.out.cell 1
        have t2 : w13.cell? ⟨w.heap.size, 2, none⟩ = some (.slice a t.subs.length c) := TQ.out.cell 2
        rcases hcase with ⟨h0, ay, cy, rfl, hs1⟩ | ⟨h0, rfl⟩
        · have HV2 : Hid (vlR t m = if valZ (endM false m t).2.1 < 0 then (0, 2) else (valZ (endM false m t).2.1, 0)) := by unfold Hid; rw [HVL.out, if_pos h0]
          clear h0 HVL
          obtain ⟨y, hy⟩ : ∃ y, (endM false m t).2.1 = y := ⟨_, rfl⟩
          obtain ⟨k9, hk9⟩ : ∃ k9, (endM false m t).2.2 = k9 := ⟨_, rfl⟩
          rw [hy] at HV2 hs1 HG ⊢
          rw [hk9]
          have S1 := hide (hs1.later ((Below.refl _ _).alloc (Nat.le_refl _) (.cells #[.int .i64 y.kind, .int .i64 y.idx, .slice ay y.subs.length cy] 24)))
          have TQ := hide (TQ.out.alloc (.cells #[.int .i64 y.kind, .int .i64 y.idx, .slice ay y.subs.length cy] 24))
          have BQ := hide (BQ.out.alloc BQ.out.size (.cells #[.int .i64 y.kind, .int .i64 y.idx, .slice ay y.subs.length cy] 24))
          have Y1 := Blk.new w13 #[.int .i64 y.kind, .int .i64 y.idx, .slice ay y.subs.length cy] 24
          have y0 := Y1.cell 0
          have y1 := Y1.cell 1
          have y2 := Y1.cell 2
          simp only [List.getElem?_toArray, List.getElem?_cons_succ, List.getElem?_cons_zero] at y0 y1 y2
          clear hs1 Y1 hy hk9 t0 t1 t2
          go_wp2_with fail
          clear y0 y1 y2
          generalize (w13.alloc (.cells #[.int .i64 y.kind, .int .i64 y.idx, .slice ay y.subs.length cy] 24)) = w14 at *
          refine (valueOf_any y HG.out.1 HG.out.2 _ _ _ ⟨ay, cy, rfl, S1.out⟩).mono ?_
          rintro e w15 ⟨rfl, hb15⟩
          have TQ := hide (TQ.out.below hb15 TQ.out.lt)
          have BQ := hide (BQ.out.trans (hb15.mono BQ.out.size))
          clear hb15
          have t0 : w15.cell? ⟨w.heap.size, 0, none⟩ = some (.int .i64 t.kind) := TQ.out.cell 0
          have t1 : w15.cell? ⟨w.heap.size, 1, none⟩ = some (.int .i64 t.idx) := TQ.out.cell 1
          have t2 : w15.cell? ⟨w.heap.size, 2, none⟩ = some (.slice a t.subs.length c) := TQ.out.cell 2
          have VL := hide (lValue_ok t m hm HE.out _ w15 X (by exact ⟨a, c, rfl, HS.out.later BQ.out⟩))
          by_cases hneg : valZ y < 0
          · rw [HV2.out, if_pos hneg] at VL
            have gn : decide (valZ y < 0) = true := decide_eq_true hneg
            clear hneg
            generalize valZ y = zz at *
            go_wp2_with fail
            refine VL.out.mono ?_
            rintro e wv ⟨rfl, hbv⟩
            have BV := hide (BQ.out.trans (hbv.mono BQ.out.size))
            clear hbv
            go_wp2_with fail
            go_ret
            exact ⟨rfl, BV.out⟩
          · rw [HV2.out, if_neg hneg] at VL
            have gn : decide (valZ y < 0) = false := decide_eq_false hneg
            clear hneg
            generalize valZ y = zz at *
            go_wp2_with fail
            refine VL.out.mono ?_
            rintro e wv ⟨rfl, hbv⟩
            have BV := hide (BQ.out.trans (hbv.mono BQ.out.size))
            clear hbv
            go_wp2_with fail
            go_ret
            exact ⟨by simp, BV.out⟩
        · have HV2 : Hid (vlR t m = (0, (endM false m t).1)) := by unfold Hid; rw [HVL.out, if_neg h0]
          have TQ := hide (TQ.out.alloc (.cells #[.int .i64 0, .int .i64 0, .slice none 0 0] 24))
          have BQ := hide (BQ.out.alloc BQ.out.size (.cells #[.int .i64 0, .int .i64 0, .slice none 0 0] 24))
          have VL := hide (lValue_ok t m hm HE.out _ (w13.alloc (.cells #[.int .i64 0, .int .i64 0, .slice none 0 0] 24)) X (by exact ⟨a, c, rfl, HS.out.later BQ.out⟩))
          rw [HV2.out] at VL
          obtain ⟨q, hq⟩ : ∃ q, (endM false m t).1 = q := ⟨_, rfl⟩
          rw [hq] at VL h0 ⊢
          have hqb : (q == 0) = false := beq_eq_false_iff_ne.2 h0
          clear h0 hq HVL HV2 t0 t1 t2
          have t0 : (w13.alloc (.cells #[.int .i64 0, .int .i64 0, .slice none 0 0] 24)).cell? ⟨w.heap.size, 0, none⟩ = some (.int .i64 t.kind) := TQ.out.cell 0
          have t1 : (w13.alloc (.cells #[.int .i64 0, .int .i64 0, .slice none 0 0] 24)).cell? ⟨w.heap.size, 1, none⟩ = some (.int .i64 t.idx) := TQ.out.cell 1
          have t2 : (w13.alloc (.cells #[.int .i64 0, .int .i64 0, .slice none 0 0] 24)).cell? ⟨w.heap.size, 2, none⟩ = some (.slice a t.subs.length c) := TQ.out.cell 2
          go_wp2_with fail
          refine VL.out.mono ?_
          rintro e wv ⟨rfl, hbv⟩
          have BV := hide (BQ.out.trans (hbv.mono BQ.out.size))
          clear hbv
          go_wp2_with fail
          go_ret
          exact ⟨by simp, BV.out⟩
      · have HNM : Hid (nmE t 0 z = lamE 0 0 t) := by unfold Hid nmE; rw [if_neg hE]
        have VL := hide (lValue_err t z (by rw [HNM.out]; exact hE) _ w11 X (by exact ⟨a, c, rfl, HS.out.later BQ.out⟩))
        rw [HNM.out] at VL
        have hqb : (lamE 0 0 t == 0) = false := beq_eq_false_iff_ne.2 hE
        clear hE HNM
        generalize lamE 0 0 t = q at *
        go_wp2_with fail
        refine VL.out.mono ?_
        rintro e wv ⟨rfl, hbv⟩
        have BV := hide (BQ.out.trans (hbv.mono BQ.out.size))
        clear hbv
        go_wp2_with fail
        go_ret
        exact ⟨by simp, BV.out⟩
#print axioms longNumbers_any
end Go.Proofs.Ythlmmooianidlaa

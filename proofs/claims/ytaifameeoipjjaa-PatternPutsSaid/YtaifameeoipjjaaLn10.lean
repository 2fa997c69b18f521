/- Walks: the document's steps, to the end. -/
import Derived.Test.YtaifameeoipjjaaLn9c
namespace Go.Proofs.Ytaifameeoipjjaa
open Go.RowKit
set_option linter.unusedSimpArgs false
set_option linter.unusedVariables false
set_option maxRecDepth 8000

set_option maxHeartbeats 4000000 in
theorem lamEnd_any (u : Int) {M : Int} (m : Nat) (t0 : Lm) (v : Value) (w : World) (X : Nat → Prop) (hm : m ≤ 400) (hu : 0 ≤ u ∧ u ≤ 40) (he : errM u M [t0] = 0) (hz : sizeM [t0] ≤ 2000) (hv : MV w X v t0) (hM : M ≤ 40 := by omega) :
    Calls Try.prog 8 #[v, .int .i64 (m : Int), .bool false] w fun e w' => RnPost false m t0 X w e w' := by
  obtain ⟨a, c, rfl, hs⟩ := hv
  have HS : Hid (SlM w (RuY w X) a t0.subs) := hs.mono fun b h1 h2 => Or.inl ⟨h1, h2⟩
  have HW := hide (OnWayM.start (inn := false) (m := m) hu he hz hM)
  have I0 : Hid (RuI false u w X m t0 (.int .i64 ((0 : Nat) : Int)) ((w.alloc (.cells #[.int .i64 t0.kind, .int .i64 t0.idx, .slice a t0.subs.length c] 24)).alloc (.cells #[.int .i64 0, .int .i64 0, .slice none 0 0] 24))) := by
    refine ⟨0, t0, a, c, rfl, HW.out, below2M _ _, by simp, (Blk.new w _ _).alloc _, ?_, HS.out.later (below2M _ _)⟩
    have h := Blk.new (w.alloc (.cells #[.int .i64 t0.kind, .int .i64 t0.idx, .slice a t0.subs.length c] 24)) #[.int .i64 0, .int .i64 0, .slice none 0 0] 24
    simpa using h
  clear hs he hz HS HW
  go_enter Try.func8, Try.ntmps8
  go_wp2_with fail
  go_loopw [9] (fun i wr => RuI false u w X m t0 i wr) (fun i wr => m - (intOf i).toNat)
  case atStart => exact I0.out
  case round =>
    obtain ⟨d, t, at', ct, rfl, hon, hb, hsz, hT, hR, hs⟩ := hrel
    have HON := hide hon
    have HBW := hide hb
    have HT := hide hT
    have HR := hide hR
    have HSL := hide hs
    have hdm := hon.le
    have t0' : wr.cell? ⟨w.heap.size, 0, none⟩ = some (.int .i64 t.kind) := hT.cell 0
    have t1' : wr.cell? ⟨w.heap.size, 1, none⟩ = some (.int .i64 t.idx) := hT.cell 1
    have t2' : wr.cell? ⟨w.heap.size, 2, none⟩ = some (.slice at' t.subs.length ct) := hT.cell 2
    clear hon hb hT hR hs I0
    go_wp2_with fail
    refine (hasStep_any t _ wr (RuY w X) ⟨at', ct, rfl, HSL.out⟩ (sh_of_err _ _ _ HON.out.er.choose_spec.1)).mono ?_
    rintro e w1 ⟨rfl, hb1⟩
    have hsz1 : wr.heap.size ≤ w1.heap.size := hb1.size
    have B1 := hide (HBW.out.trans (hb1.mono (by omega)))
    have T1 := hide (HT.out.below hb1 (by omega))
    have R1 := hide (HR.out.below hb1 (by omega))
    have S1 := hide (HSL.out.later hb1)
    have q0 : w1.cell? ⟨w.heap.size, 0, none⟩ = some (.int .i64 t.kind) := T1.out.cell 0
    have q1 : w1.cell? ⟨w.heap.size, 1, none⟩ = some (.int .i64 t.idx) := T1.out.cell 1
    have q2 : w1.cell? ⟨w.heap.size, 2, none⟩ = some (.slice at' t.subs.length ct) := T1.out.cell 2
    have r0 : w1.cell? ⟨w.heap.size + 1, 0, none⟩ = some (.int .i64 0) := R1.out.cell 0
    have r1 : w1.cell? ⟨w.heap.size + 1, 1, none⟩ = some (.int .i64 0) := R1.out.cell 1
    have r2 : w1.cell? ⟨w.heap.size + 1, 2, none⟩ = some (.slice none 0 0) := R1.out.cell 2
    have rf := R1.out.frozen
    clear hb1 t0' t1' t2' HSL HT HR HBW
    cases hst : stepM [t] with
    | false =>
      have HE := hide (HON.out.fin hst)
      clear hst
      go_wp2_with fail
      refine bodyPost_ret (v := .tuple #[.agg #[.int .i64 t.kind, .int .i64 t.idx, .slice at' t.subs.length ct], .int .i64 (d : Int), .int .i64 0]) (by simp [results, Try.results8, go_sem, World.cell?_setCell_same, World.cell?_setCell_other, r0, r1, r2]) rfl ?_
      refine ⟨bl_set3 B1.out _ (by omega) _ _ _, Or.inl ⟨HE.out.1, at', ct, by rw [HE.out.2.1, HE.out.2.2], ?_⟩⟩
      rw [HE.out.2.1]
      exact (ruY_keep S1.out _ (Or.inr rfl) _ _ _).mono fun b hb _ => hb.imp id fun h => by omega
    | true =>
      have HST := hide hst
      clear hst
      by_cases hd : d = m
      · subst hd
        have HE := hide (HON.out.fuel HST.out)
        go_wp2_with fail
        refine bodyPost_ret (v := .tuple #[.agg #[.int .i64 0, .int .i64 0, .slice none 0 0], .int .i64 0, .int .i64 9]) (by simp [results, Try.results8, go_sem, World.cell?_setCell_same, World.cell?_setCell_other, r0, r1, r2]) rfl ?_
        exact ⟨bl_set3 B1.out _ (by omega) _ _ _, Or.inr ⟨by rw [HE.out]; decide, by rw [HE.out]⟩⟩
      · have hdi : ((d : Int) == (m : Int)) = false := beq_eq_false_iff_ne.2 (by omega)
        clear r0 r1 r2 rf
        go_wp2_with fail
        refine (lamStep_any 2001 t u _ w1 (RuY w X) (by have := HON.out.sz; omega) HON.out.gd HST.out ⟨at', ct, rfl, S1.out⟩).mono ?_
        rintro e w5 ⟨a5, c5, rfl, hs5, hb5⟩
        obtain ⟨x, hx⟩ : ∃ x, stpT false 2001 t = x := ⟨_, rfl⟩
        have HX := hide hx
        rw [hx] at hs5 ⊢
        have hsz5 : w1.heap.size ≤ w5.heap.size := hb5.size
        have B5 := hide (B1.out.trans (hb5.mono (by omega)))
        have T5 := hide (T1.out.below hb5 (by omega))
        have R5 := hide (R1.out.below hb5 (by omega))
        have S5 : Hid (SlM w5 (RuY w X) a5 x.subs) := hs5.mono fun b hb _ => hb.elim And.left fun h => Or.inr (by omega)
        have u0 : w5.cell? ⟨w.heap.size, 0, none⟩ = some (.int .i64 t.kind) := T5.out.cell 0
        have u1 : w5.cell? ⟨w.heap.size, 1, none⟩ = some (.int .i64 t.idx) := T5.out.cell 1
        have u2 : w5.cell? ⟨w.heap.size, 2, none⟩ = some (.slice at' t.subs.length ct) := T5.out.cell 2
        have uf : ∀ i, w5.frozen? ⟨w.heap.size, i, none⟩ = false := T5.out.frozen
        have BS := hide (bl_set3 B5.out w.heap.size (Nat.le_refl _) (.int .i64 x.kind) (.int .i64 x.idx) (.slice a5 x.subs.length c5))
        have TS := hide (blk_set3 T5.out (.int .i64 x.kind) (.int .i64 x.idx) (.slice a5 x.subs.length c5))
        have RS := hide (blk_set3o R5.out (B := w.heap.size) (by omega) (.int .i64 x.kind) (.int .i64 x.idx) (.slice a5 x.subs.length c5))
        have SS := hide (ruY_keep S5.out w.heap.size (Or.inl rfl) (.int .i64 x.kind) (.int .i64 x.idx) (.slice a5 x.subs.length c5))
        have hzS : (((w5.setCell ⟨w.heap.size, 0, none⟩ (.int .i64 x.kind)).setCell ⟨w.heap.size, 1, none⟩ (.int .i64 x.idx)).setCell ⟨w.heap.size, 2, none⟩ (.slice a5 x.subs.length c5)).heap.size = w5.heap.size := by simp [World.setCell]
        clear hs5 hb5 hx q0 q1 q2
        go_wp2_with fail
        clear u0 u1 u2 uf
        generalize (((w5.setCell ⟨w.heap.size, 0, none⟩ (.int .i64 x.kind)).setCell ⟨w.heap.size, 1, none⟩ (.int .i64 x.idx)).setCell ⟨w.heap.size, 2, none⟩ (.slice a5 x.subs.length c5)) = w6 at *
        refine (lamSize_any x _ 2000 _ (RuY w X) ⟨a5, c5, rfl, SS.out⟩ (by omega) (by omega)).mono ?_
        rintro e w7 ⟨rfl, hb7⟩
        have hsz7 : w6.heap.size ≤ w7.heap.size := hb7.size
        have B7 := hide (BS.out.trans (hb7.mono (by omega)))
        have T7 := hide (TS.out.below hb7 (by omega))
        have R7 := hide (RS.out.below hb7 (by omega))
        have S7 := hide (SS.out.later hb7)
        have y0 : w7.cell? ⟨w.heap.size + 1, 0, none⟩ = some (.int .i64 0) := R7.out.cell 0
        have y1 : w7.cell? ⟨w.heap.size + 1, 1, none⟩ = some (.int .i64 0) := R7.out.cell 1
        have y2 : w7.cell? ⟨w.heap.size + 1, 2, none⟩ = some (.slice none 0 0) := R7.out.cell 2
        have yf : ∀ i, w7.frozen? ⟨w.heap.size + 1, i, none⟩ = false := R7.out.frozen
        clear hb7
        by_cases hbig : 2000 < sizeM [x]
        · have e : min ((sizeM [x] : Int)) (2000 + 1) = 2001 := by omega
          have HE := hide (HON.out.full hd HST.out (by rw [HX.out]; exact hbig))
          rw [e]
          clear e hbig
          go_wp2_with fail
          refine bodyPost_ret (v := .tuple #[.agg #[.int .i64 0, .int .i64 0, .slice none 0 0], .int .i64 0, .int .i64 8]) (by simp [results, Try.results8, go_sem, World.cell?_setCell_same, World.cell?_setCell_other, y0, y1, y2]) rfl ?_
          exact ⟨bl_set3 B7.out _ (by omega) _ _ _, Or.inr ⟨by rw [HE.out]; decide, by rw [HE.out]⟩⟩
        · have e : min ((sizeM [x] : Int)) (2000 + 1) = sizeM [x] := by omega
          have e3 : decide ((sizeM [x] : Int) > 2000) = false := decide_eq_false (by omega)
          have HE := hide (HON.out.on hd HST.out (by rw [HX.out]; exact hbig))
          rw [HX.out] at HE
          rw [e]
          have HEI : Hid (RuI false u w X m t0 (.int .i64 ((d + 1 : Nat) : Int)) w7) := ⟨d + 1, x, a5, c5, rfl, HE.out, B7.out, by omega, T7.out, R7.out, S7.out⟩
          clear e hbig
          go_wp2_with fail
          go_roundw
          case rel => exact (by go_num : Value.int IntKind.i64 ((d : Int) + 1) = .int .i64 ((d + 1 : Nat) : Int)) ▸ HEI.out
          case measure => simp [intOf]; omega
end Go.Proofs.Ytaifameeoipjjaa

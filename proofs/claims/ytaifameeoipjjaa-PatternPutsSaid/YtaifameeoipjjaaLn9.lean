/- Walks: the program's steps, to the end; the document's. -/
import Derived.Test.YtaifameeoipjjaaLn6
import Derived.Test.YtaifameeoipjjaaLn9c
namespace Go.Proofs.Ytaifameeoipjjaa
open Go.RowKit
set_option linter.unusedSimpArgs false
set_option linter.unusedVariables false
set_option maxRecDepth 8000

set_option maxHeartbeats 4000000 in
theorem bRun_any (u : Int) {M : Int} (m : Nat) (t0 : Lm) (v : Value) (w : World) (X : Nat → Prop) (hm : m ≤ 400) (hu : 0 ≤ u ∧ u ≤ 40) (he : errM u M [t0] = 0) (hz : sizeM [t0] ≤ 2000) (hv : MV w X v t0) (hM : M ≤ 40 := by omega) :
    Calls Try.prog 22 #[v, .func (.func 23) #[] #[], .int .i64 (m : Int)] w fun e w' => RnPost false m t0 X w e w' := by
  obtain ⟨a, c, rfl, hs⟩ := hv
  have HS : Hid (SlM w (RuY w X) a t0.subs) := hs.mono fun b h1 h2 => Or.inl ⟨h1, h2⟩
  have HW := hide (OnWayM.start (inn := false) (m := m) hu he hz hM)
  have I0 : Hid (RuI false u w X m t0 (.int .i64 ((0 : Nat) : Int)) ((w.alloc (.cells #[.int .i64 t0.kind, .int .i64 t0.idx, .slice a t0.subs.length c] 24)).alloc (.cells #[.int .i64 0, .int .i64 0, .slice none 0 0] 24))) := by
    refine ⟨0, t0, a, c, rfl, HW.out, below2M _ _, by simp, (Blk.new w _ _).alloc _, ?_, HS.out.later (below2M _ _)⟩
    have h := Blk.new (w.alloc (.cells #[.int .i64 t0.kind, .int .i64 t0.idx, .slice a t0.subs.length c] 24)) #[.int .i64 0, .int .i64 0, .slice none 0 0] 24
    simpa using h
  clear hs he hz HS HW
  go_enter Try.func22, Try.ntmps22
  go_wp2_with fail
  go_loopw [9] (fun i wr => RuI false u w X m t0 i wr) (fun i wr => m - (intOf i).toNat)
  case atStart => exact I0.out
  case round =>
    obtain ⟨d, t, at', ct, rfl, hon, hb, hsz, hT, hR, hs⟩ := hrel
    have HON := hide hon
    have HBW := hide hb
    have HT := hide hT
    have HR := hide hR
    have HSL := hide hs
    have hdm := hon.le
    have t0' : wr.cell? ⟨w.heap.size, 0, none⟩ = some (.int .i64 t.kind) := hT.cell 0
    have t1' : wr.cell? ⟨w.heap.size, 1, none⟩ = some (.int .i64 t.idx) := hT.cell 1
    have t2' : wr.cell? ⟨w.heap.size, 2, none⟩ = some (.slice at' t.subs.length ct) := hT.cell 2
    clear hon hb hT hR hs I0
    go_wp2_with fail
    refine (outerF_any _ t wr (RuY w X) ⟨at', ct, rfl, HSL.out⟩).mono ?_
    rintro e w1 ⟨T, a1, c1, rfl, hB1, hs1, hb1⟩
    have HB1 := hide hB1
    have HS1 := hide hs1
    have HBB1 := hide hb1
    clear hB1 hs1 hb1
    go_wp2_with fail
    refine (firstM_any (outer_at 2001 t u (by have := HON.out.sz; omega) HON.out.gd) T a1 c1 w1 (RuY w X) HB1.out HS1.out).mono ?_
    rintro e w2 ⟨hb2', hcase⟩
    have HB2 := hide (HBB1.out.trans (hb2'.mono HBB1.out.size))
    have hsz2 : wr.heap.size ≤ w2.heap.size := HB2.out.size
    have hsz1 : wr.heap.size ≤ w1.heap.size := HBB1.out.size
    clear hb2' t0' t1' t2'
    rcases hcase with ⟨hst, rfl⟩ | ⟨hst, x, ok, a2, c2, rfl, hfs, hs2⟩
    · have HE := hide (HON.out.fin hst)
      have RA := hide ((HR.out.below HB2.out (by omega)).alloc (.cells #[.int .i64 0, .int .i64 0, .slice none 0 0] 24))
      have BA := hide ((HBW.out.trans (HB2.out.mono (by omega))).alloc (by omega) (.cells #[.int .i64 0, .int .i64 0, .slice none 0 0] 24))
      have TA := hide ((HT.out.below HB2.out (by omega)).alloc (.cells #[.int .i64 0, .int .i64 0, .slice none 0 0] 24))
      have SA := hide ((HSL.out.later HB2.out).later ((Below.refl _ _).alloc (Nat.le_refl _) (.cells #[.int .i64 0, .int .i64 0, .slice none 0 0] 24)))
      have q0 : (w2.alloc (.cells #[.int .i64 0, .int .i64 0, .slice none 0 0] 24)).cell? ⟨w.heap.size, 0, none⟩ = some (.int .i64 t.kind) := TA.out.cell 0
      have q1 : (w2.alloc (.cells #[.int .i64 0, .int .i64 0, .slice none 0 0] 24)).cell? ⟨w.heap.size, 1, none⟩ = some (.int .i64 t.idx) := TA.out.cell 1
      have q2 : (w2.alloc (.cells #[.int .i64 0, .int .i64 0, .slice none 0 0] 24)).cell? ⟨w.heap.size, 2, none⟩ = some (.slice at' t.subs.length ct) := TA.out.cell 2
      have hsA : (w2.alloc (.cells #[.int .i64 0, .int .i64 0, .slice none 0 0] 24)).heap.size = w2.heap.size + 1 := by simp
      clear hst TA
      go_wp2_with fail
      generalize (w2.alloc (.cells #[.int .i64 0, .int .i64 0, .slice none 0 0] 24)) = wA at *
      refine (copyM_any t u HON.out.gd _ _ (RuY w X) ⟨at', ct, rfl, SA.out⟩).mono ?_
      rintro e w6 ⟨v6, rfl, ⟨a6, c6, rfl, hs6⟩, hb6⟩
      have B6 := hide (BA.out.trans (hb6.mono BA.out.size))
      have K6 := hide (RA.out.below hb6 (by omega))
      have S6 : Hid (SlM w6 (RuY w X) a6 t.subs) := hs6.mono fun b h _ => Or.inr (by omega)
      have r0 : w6.cell? ⟨w.heap.size + 1, 0, none⟩ = some (.int .i64 0) := K6.out.cell 0
      have r1 : w6.cell? ⟨w.heap.size + 1, 1, none⟩ = some (.int .i64 0) := K6.out.cell 1
      have r2 : w6.cell? ⟨w.heap.size + 1, 2, none⟩ = some (.slice none 0 0) := K6.out.cell 2
      have rf := K6.out.frozen
      clear hs6 hb6 q0 q1 q2
      go_wp2_with fail
      refine bodyPost_ret (v := .tuple #[.agg #[.int .i64 t.kind, .int .i64 t.idx, .slice a6 t.subs.length c6], .int .i64 (d : Int), .int .i64 0]) (by simp [results, Try.results22, go_sem, World.cell?_setCell_same, World.cell?_setCell_other, r0, r1, r2]) rfl ?_
      refine ⟨bl_set3 B6.out _ (by omega) _ _ _, Or.inl ⟨HE.out.1, a6, c6, by rw [HE.out.2.1, HE.out.2.2], ?_⟩⟩
      rw [HE.out.2.1]
      exact (ruY_keep S6.out _ (Or.inr rfl) _ _ _).mono fun b hb _ => hb.imp id fun h => by omega
    · have HST := hide hst
      have HFS := hide hfs
      have HS2 : Hid (SlM w2 (RuY w X) a2 x.subs) := hs2.mono fun b hb _ => hb.elim And.left fun h => Or.inr (by omega)
      have RA := hide ((HR.out.below HB2.out (by omega)).alloc (.cells #[.int .i64 x.kind, .int .i64 x.idx, .slice a2 x.subs.length c2] 24))
      have TA := hide ((HT.out.below HB2.out (by omega)).alloc (.cells #[.int .i64 x.kind, .int .i64 x.idx, .slice a2 x.subs.length c2] 24))
      have BA := hide ((HBW.out.trans (HB2.out.mono (by omega))).alloc (by omega) (.cells #[.int .i64 x.kind, .int .i64 x.idx, .slice a2 x.subs.length c2] 24))
      have SA := hide (HS2.out.later ((Below.refl _ _).alloc (Nat.le_refl _) (.cells #[.int .i64 x.kind, .int .i64 x.idx, .slice a2 x.subs.length c2] 24)))
      have XA : Hid (Blk (w2.alloc (.cells #[.int .i64 x.kind, .int .i64 x.idx, .slice a2 x.subs.length c2] 24)) w2.heap.size #[.int .i64 x.kind, .int .i64 x.idx, .slice a2 x.subs.length c2] 24) := Blk.new _ _ _
      have hsA : (w2.alloc (.cells #[.int .i64 x.kind, .int .i64 x.idx, .slice a2 x.subs.length c2] 24)).heap.size = w2.heap.size + 1 := by simp
      clear hs2 hst hfs
      obtain ⟨P2, hP2⟩ : ∃ P2, P2 = w2.heap.size := ⟨_, rfl⟩
      have R2 := hide (HR.out.below HB2.out (by omega))
      have B2w := hide (HBW.out.trans (HB2.out.mono (by omega)))
      by_cases hd : d = m
      · subst hd
        have HE := hide (HON.out.fuel HST.out)
        have r0 : ∀ o, (w2.alloc o).cell? ⟨w.heap.size + 1, 0, none⟩ = some (.int .i64 0) := fun o => (R2.out.alloc o).cell 0
        have r1 : ∀ o, (w2.alloc o).cell? ⟨w.heap.size + 1, 1, none⟩ = some (.int .i64 0) := fun o => (R2.out.alloc o).cell 1
        have r2 : ∀ o, (w2.alloc o).cell? ⟨w.heap.size + 1, 2, none⟩ = some (.slice none 0 0) := fun o => (R2.out.alloc o).cell 2
        have rf : ∀ o i, (w2.alloc o).frozen? ⟨w.heap.size + 1, i, none⟩ = false := fun o => (R2.out.alloc o).frozen
        have r0' : w2.cell? ⟨w.heap.size + 1, 0, none⟩ = some (.int .i64 0) := R2.out.cell 0
        have r1' : w2.cell? ⟨w.heap.size + 1, 1, none⟩ = some (.int .i64 0) := R2.out.cell 1
        have r2' : w2.cell? ⟨w.heap.size + 1, 2, none⟩ = some (.slice none 0 0) := R2.out.cell 2
        have rf' : ∀ i, w2.frozen? ⟨w.heap.size + 1, i, none⟩ = false := R2.out.frozen
        have hl2 : w.heap.size + 1 < w2.heap.size := by omega
        have HBF : Hid (∀ o x0 x1 x2, Below w.heap.size w ((((w2.setCell ⟨w.heap.size + 1, 0, none⟩ x0).setCell ⟨w.heap.size + 1, 1, none⟩ x1).setCell ⟨w.heap.size + 1, 2, none⟩ x2).alloc o) ∧ Below w.heap.size w ((((w2.alloc o).setCell ⟨w.heap.size + 1, 0, none⟩ x0).setCell ⟨w.heap.size + 1, 1, none⟩ x1).setCell ⟨w.heap.size + 1, 2, none⟩ x2)) := fun o x0 x1 x2 => ⟨(bl_set3 B2w.out _ (by omega) x0 x1 x2).alloc (by have := (bl_set3 B2w.out (w.heap.size + 1) (by omega) x0 x1 x2).size; omega) o, bl_set3 (B2w.out.alloc (by omega) o) _ (by omega) x0 x1 x2⟩
        go_wp2_with fail
        refine bodyPost_ret (v := .tuple #[.agg #[.int .i64 0, .int .i64 0, .slice none 0 0], .int .i64 0, .int .i64 9]) (by simp [results, Try.results22, go_sem, World.cell?_setCell_same, World.cell?_setCell_other, r0, r1, r2, r0', r1', r2', hl2, World.cell?_alloc_old]) rfl ?_
        refine ⟨by first | exact (HBF.out _ _ _ _).1 | exact (HBF.out _ _ _ _).2, Or.inr ⟨by rw [HE.out]; decide, by rw [HE.out]⟩⟩
      · have hdi : ((d : Int) == (m : Int)) = false := beq_eq_false_iff_ne.2 (by omega)
        have x0 := XA.out.cell 0
        have x1 := XA.out.cell 1
        have x2 := XA.out.cell 2
        simp only [List.getElem?_toArray, List.getElem?_cons_succ, List.getElem?_cons_zero] at x0 x1 x2
        cases ok with
        | false =>
          have HE := hide (HON.out.full hd HST.out (HFS.out.2 rfl))
          have r0 : ∀ o, (w2.alloc o).cell? ⟨w.heap.size + 1, 0, none⟩ = some (.int .i64 0) := fun o => (R2.out.alloc o).cell 0
          have r1 : ∀ o, (w2.alloc o).cell? ⟨w.heap.size + 1, 1, none⟩ = some (.int .i64 0) := fun o => (R2.out.alloc o).cell 1
          have r2 : ∀ o, (w2.alloc o).cell? ⟨w.heap.size + 1, 2, none⟩ = some (.slice none 0 0) := fun o => (R2.out.alloc o).cell 2
          have rf : ∀ o i, (w2.alloc o).frozen? ⟨w.heap.size + 1, i, none⟩ = false := fun o => (R2.out.alloc o).frozen
          have r0' : w2.cell? ⟨w.heap.size + 1, 0, none⟩ = some (.int .i64 0) := R2.out.cell 0
          have r1' : w2.cell? ⟨w.heap.size + 1, 1, none⟩ = some (.int .i64 0) := R2.out.cell 1
          have r2' : w2.cell? ⟨w.heap.size + 1, 2, none⟩ = some (.slice none 0 0) := R2.out.cell 2
          have rf' : ∀ i, w2.frozen? ⟨w.heap.size + 1, i, none⟩ = false := R2.out.frozen
          have hl2 : w.heap.size + 1 < w2.heap.size := by omega
          have HBF : Hid (∀ o x0 x1 x2, Below w.heap.size w ((((w2.setCell ⟨w.heap.size + 1, 0, none⟩ x0).setCell ⟨w.heap.size + 1, 1, none⟩ x1).setCell ⟨w.heap.size + 1, 2, none⟩ x2).alloc o) ∧ Below w.heap.size w ((((w2.alloc o).setCell ⟨w.heap.size + 1, 0, none⟩ x0).setCell ⟨w.heap.size + 1, 1, none⟩ x1).setCell ⟨w.heap.size + 1, 2, none⟩ x2)) := fun o x0 x1 x2 => ⟨(bl_set3 B2w.out _ (by omega) x0 x1 x2).alloc (by have := (bl_set3 B2w.out (w.heap.size + 1) (by omega) x0 x1 x2).size; omega) o, bl_set3 (B2w.out.alloc (by omega) o) _ (by omega) x0 x1 x2⟩
          clear x0 x1 x2
          go_wp2_with fail
          refine bodyPost_ret (v := .tuple #[.agg #[.int .i64 0, .int .i64 0, .slice none 0 0], .int .i64 0, .int .i64 8]) (by simp [results, Try.results22, go_sem, World.cell?_setCell_same, World.cell?_setCell_other, r0, r1, r2, r0', r1', r2', hl2, World.cell?_alloc_old]) rfl ?_
          refine ⟨by first | exact (HBF.out _ _ _ _).1 | exact (HBF.out _ _ _ _).2, Or.inr ⟨by rw [HE.out]; decide, by rw [HE.out]⟩⟩
        | true =>
          have HXS := hide (HFS.out.1 rfl)
          go_wp2_with fail
          refine (countM_any 2000 (by omega) (by omega) x _ _ (RuY w X) (by exact ⟨a2, c2, rfl, SA.out⟩)).mono ?_
          rintro e w5 ⟨rfl, hb5⟩
          have hs5 := hb5.size
          rw [hsA] at hs5
          have B5 := hide (BA.out.trans (hb5.mono (by omega)))
          have T5 := hide (TA.out.below hb5 (by omega))
          have R5 := hide (RA.out.below hb5 (by omega))
          have S5 := hide (SA.out.later hb5)
          have X5 := hide (XA.out.below hb5 (by omega))
          have y0 : w5.cell? ⟨w.heap.size + 1, 0, none⟩ = some (.int .i64 0) := R5.out.cell 0
          have y1 : w5.cell? ⟨w.heap.size + 1, 1, none⟩ = some (.int .i64 0) := R5.out.cell 1
          have y2 : w5.cell? ⟨w.heap.size + 1, 2, none⟩ = some (.slice none 0 0) := R5.out.cell 2
          have yf : ∀ i, w5.frozen? ⟨w.heap.size + 1, i, none⟩ = false := R5.out.frozen
          have z0 : w5.cell? ⟨w2.heap.size, 0, none⟩ = some (.int .i64 x.kind) := X5.out.cell 0
          have z1 : w5.cell? ⟨w2.heap.size, 1, none⟩ = some (.int .i64 x.idx) := X5.out.cell 1
          have z2 : w5.cell? ⟨w2.heap.size, 2, none⟩ = some (.slice a2 x.subs.length c2) := X5.out.cell 2
          have u0 : w5.cell? ⟨w.heap.size, 0, none⟩ = some (.int .i64 t.kind) := T5.out.cell 0
          have u1 : w5.cell? ⟨w.heap.size, 1, none⟩ = some (.int .i64 t.idx) := T5.out.cell 1
          have u2 : w5.cell? ⟨w.heap.size, 2, none⟩ = some (.slice at' t.subs.length ct) := T5.out.cell 2
          have uf : ∀ i, w5.frozen? ⟨w.heap.size, i, none⟩ = false := T5.out.frozen
          clear hb5 x0 x1 x2
          by_cases hbig : 2000 < sizeM [x]
          · have e : min ((sizeM [x] : Int)) (2000 + 1) = 2001 := by omega
            have HE := hide (HON.out.full hd HST.out (by rw [← HXS.out]; exact hbig))
            rw [e]
            clear e hbig
            go_wp2_with fail
            refine bodyPost_ret (v := .tuple #[.agg #[.int .i64 0, .int .i64 0, .slice none 0 0], .int .i64 0, .int .i64 8]) (by simp [results, Try.results22, go_sem, World.cell?_setCell_same, World.cell?_setCell_other, y0, y1, y2]) rfl ?_
            exact ⟨bl_set3 B5.out _ (by omega) _ _ _, Or.inr ⟨by rw [HE.out]; decide, by rw [HE.out]⟩⟩
          · have e : min ((sizeM [x] : Int)) (2000 + 1) = sizeM [x] := by omega
            have e3 : decide ((sizeM [x] : Int) > 2000) = false := decide_eq_false (by omega)
            have HE := hide (HON.out.on hd HST.out (by rw [← HXS.out]; exact hbig))
            rw [← HXS.out] at HE
            rw [e]
            have HEI : Hid (RuI false u w X m t0 (.int .i64 ((d + 1 : Nat) : Int)) (((w5.setCell ⟨w.heap.size, 0, none⟩ (.int .i64 x.kind)).setCell ⟨w.heap.size, 1, none⟩ (.int .i64 x.idx)).setCell ⟨w.heap.size, 2, none⟩ (.slice a2 x.subs.length c2))) :=
              ⟨d + 1, x, a2, c2, rfl, HE.out, bl_set3 B5.out _ (by omega) _ _ _, by simp [World.setCell]; omega, blk_set3 T5.out _ _ _, blk_set3o R5.out (by omega) _ _ _, ruY_keep S5.out _ (Or.inl rfl) _ _ _⟩
            clear e hbig
            go_wp2_with fail
            go_roundw
            case rel => exact (by go_num : Value.int IntKind.i64 ((d : Int) + 1) = .int .i64 ((d + 1 : Nat) : Int)) ▸ HEI.out
            case measure => simp [intOf]; omega
end Go.Proofs.Ytaifameeoipjjaa

/- Several texts in one. -/
import Derived.Test.YtoakclalhfngpaaLn6i
import Derived.Test.YtoakclalhfngpaaLn9c
import Derived.Test.YtoakclalhfngpaaZFReduceMadeOwn
import Derived.Test.YtoakclalhfngpaaL11
import Derived.Test.YtoakclalhfngpaaDv3
import Derived.Test.YtoakclalhfngpaaL27
import Derived.Test.YtoakclalhfngpaaLn1
import Derived.Test.YtoakclalhfngpaaHs7
import Derived.Test.YtoakclalhfngpaaDv4
import Derived.Test.YtoakclalhfngpaaSt1
import Derived.Test.YtoakclalhfngpaaL24
import Derived.Test.YtoakclalhfngpaaLn8i
import Derived.Test.YtoakclalhfngpaaZEReduceMadeOwn
/- Walks: the program's innermost steps, to the end. -/
namespace Go.Proofs.Ytoakclalhfngpaa
open Go.RowKit
set_option linter.unusedSimpArgs false
set_option linter.unusedVariables false
set_option maxRecDepth 8000

set_option maxHeartbeats 1000000 in
theorem innerF_any (v : Value) (t : Lm) (w : World) (X : Nat → Prop) (hv : MV w X v t) :
    Calls Try.prog 27 #[v] w fun e w' => ∃ T a c, e = .returned (.func (.func 45) #[] #[.pointer (some ⟨T, 0, none⟩)]) ∧ Blk w' T #[.int .i64 t.kind, .int .i64 t.idx, .slice a t.subs.length c] 27 ∧ SlM w' X a t.subs ∧ Below w.heap.size w w' := by
  have hmf : ∀ (fn : Fn) (first cap : Array Value) (w : World), (Instr.makeFunc fn first cap).run Try.prog w = .ok (.func fn first cap) w := fun _ _ _ _ => rfl
  obtain ⟨a, c, rfl, hs⟩ := hv
  have HB : Hid (Below w.heap.size w (w.alloc (.cells #[.int .i64 t.kind, .int .i64 t.idx, .slice a t.subs.length c] 27))) := (Below.refl _ _).alloc (Nat.le_refl _) _
  have HS := hide (hs.later HB.out)
  have HK : Hid (Blk (w.alloc (.cells #[.int .i64 t.kind, .int .i64 t.idx, .slice a t.subs.length c] 27)) w.heap.size #[.int .i64 t.kind, .int .i64 t.idx, .slice a t.subs.length c] 27) := Blk.new _ _ _
  clear hs
  go_enter Try.func27, Try.ntmps27
  go_wp2_with fail
  go_ret
  exact ⟨_, a, c, rfl, HK.out, HS.out, HB.out⟩

set_option maxHeartbeats 4000000 in
theorem bRunI_any (u : Int) (m : Nat) (t0 : Lm) (v : Value) (w : World) (X : Nat → Prop) (hm : m ≤ 400) (hu : 0 ≤ u ∧ u ≤ 40) (he : errM u 0 [t0] = 0) (hz : sizeM [t0] ≤ 2000) (hv : MV w X v t0) :
    Calls Try.prog 42 #[v, .func (.func 27) #[] #[], .int .i64 (m : Int)] w fun e w' => RnPost true m t0 X w e w' := by
  obtain ⟨a, c, rfl, hs⟩ := hv
  have HS : Hid (SlM w (RuY w X) a t0.subs) := hs.mono fun b h1 h2 => Or.inl ⟨h1, h2⟩
  have HW := hide (OnWayM.start (inn := true) (m := m) hu he hz)
  have I0 : Hid (RuI true u w X m t0 (.int .i64 ((0 : Nat) : Int)) ((w.alloc (.cells #[.int .i64 t0.kind, .int .i64 t0.idx, .slice a t0.subs.length c] 27)).alloc (.cells #[.int .i64 0, .int .i64 0, .slice none 0 0] 27))) := by
    refine ⟨0, t0, a, c, rfl, HW.out, below2M _ _, by simp, (Blk.new w _ _).alloc _, ?_, HS.out.later (below2M _ _)⟩
    have h := Blk.new (w.alloc (.cells #[.int .i64 t0.kind, .int .i64 t0.idx, .slice a t0.subs.length c] 27)) #[.int .i64 0, .int .i64 0, .slice none 0 0] 27
    simpa using h
  clear hs he hz HS HW
  go_enter Try.func42, Try.ntmps42
  go_wp2_with fail
  go_loopw [9] (fun i wr => RuI true u w X m t0 i wr) (fun i wr => m - (intOf i).toNat)
  case atStart => exact I0.out
  case round =>
    obtain ⟨d, t, at', ct, rfl, hon, hb, hsz, hT, hR, hs⟩ := hrel
    have HON := hide hon
    have HBW := hide hb
    have HT := hide hT
    have HR := hide hR
    have HSL := hide hs
    have hdm := hon.le
    have t0' : wr.cell? ⟨w.heap.size, 0, none⟩ = some (.int .i64 t.kind) := hT.cell 0
    have t1' : wr.cell? ⟨w.heap.size, 1, none⟩ = some (.int .i64 t.idx) := hT.cell 1
    have t2' : wr.cell? ⟨w.heap.size, 2, none⟩ = some (.slice at' t.subs.length ct) := hT.cell 2
    clear hon hb hT hR hs I0
    go_wp2_with fail
    refine (innerF_any _ t wr (RuY w X) ⟨at', ct, rfl, HSL.out⟩).mono ?_
    rintro e w1 ⟨T, a1, c1, rfl, hB1, hs1, hb1⟩
    have HB1 := hide hB1
    have HS1 := hide hs1
    have HBB1 := hide hb1
    clear hB1 hs1 hb1
    go_wp2_with fail
    refine (firstI_any (inner_at 2001 t u (by have := HON.out.sz; omega) HON.out.gd) T a1 c1 w1 (RuY w X) HB1.out HS1.out).mono ?_
    rintro e w2 ⟨hb2', hcase⟩
    have HB2 := hide (HBB1.out.trans (hb2'.mono HBB1.out.size))
    have hsz2 : wr.heap.size ≤ w2.heap.size := HB2.out.size
    have hsz1 : wr.heap.size ≤ w1.heap.size := HBB1.out.size
    clear hb2' t0' t1' t2'
    rcases hcase with ⟨hst, rfl⟩ | ⟨hst, x, ok, a2, c2, rfl, hfs, hs2⟩
    · have HE := hide (HON.out.fin hst)
      have RA := hide ((HR.out.below HB2.out (by omega)).alloc (.cells #[.int .i64 0, .int .i64 0, .slice none 0 0] 27))
      have BA := hide ((HBW.out.trans (HB2.out.mono (by omega))).alloc (by omega) (.cells #[.int .i64 0, .int .i64 0, .slice none 0 0] 27))
      have TA := hide ((HT.out.below HB2.out (by omega)).alloc (.cells #[.int .i64 0, .int .i64 0, .slice none 0 0] 27))
      have SA := hide ((HSL.out.later HB2.out).later ((Below.refl _ _).alloc (Nat.le_refl _) (.cells #[.int .i64 0, .int .i64 0, .slice none 0 0] 27)))
      have q0 : (w2.alloc (.cells #[.int .i64 0, .int .i64 0, .slice none 0 0] 27)).cell? ⟨w.heap.size, 0, none⟩ = some (.int .i64 t.kind) := TA.out.cell 0
      have q1 : (w2.alloc (.cells #[.int .i64 0, .int .i64 0, .slice none 0 0] 27)).cell? ⟨w.heap.size, 1, none⟩ = some (.int .i64 t.idx) := TA.out.cell 1
      have q2 : (w2.alloc (.cells #[.int .i64 0, .int .i64 0, .slice none 0 0] 27)).cell? ⟨w.heap.size, 2, none⟩ = some (.slice at' t.subs.length ct) := TA.out.cell 2
      have hsA : (w2.alloc (.cells #[.int .i64 0, .int .i64 0, .slice none 0 0] 27)).heap.size = w2.heap.size + 1 := by simp
      clear hst TA
      go_wp2_with fail
      generalize (w2.alloc (.cells #[.int .i64 0, .int .i64 0, .slice none 0 0] 27)) = wA at *
      refine (copyM_any t u HON.out.gd _ _ (RuY w X) ⟨at', ct, rfl, SA.out⟩).mono ?_
      rintro e w6 ⟨v6, rfl, ⟨a6, c6, rfl, hs6⟩, hb6⟩
      have B6 := hide (BA.out.trans (hb6.mono BA.out.size))
      have K6 := hide (RA.out.below hb6 (by omega))
      have S6 : Hid (SlM w6 (RuY w X) a6 t.subs) := hs6.mono fun b h _ => Or.inr (by omega)
      have r0 : w6.cell? ⟨w.heap.size + 1, 0, none⟩ = some (.int .i64 0) := K6.out.cell 0
      have r1 : w6.cell? ⟨w.heap.size + 1, 1, none⟩ = some (.int .i64 0) := K6.out.cell 1
      have r2 : w6.cell? ⟨w.heap.size + 1, 2, none⟩ = some (.slice none 0 0) := K6.out.cell 2
      have rf := K6.out.frozen
      clear hs6 hb6 q0 q1 q2
      go_wp2_with fail
      refine bodyPost_ret (v := .tuple #[.agg #[.int .i64 t.kind, .int .i64 t.idx, .slice a6 t.subs.length c6], .int .i64 (d : Int), .int .i64 0]) (by simp [results, Try.results42, go_sem, World.cell?_setCell_same, World.cell?_setCell_other, r0, r1, r2]) rfl ?_
      refine ⟨bl_set3 B6.out _ (by omega) _ _ _, Or.inl ⟨HE.out.1, a6, c6, by rw [HE.out.2.1, HE.out.2.2], ?_⟩⟩
      rw [HE.out.2.1]
      exact (ruY_keep S6.out _ (Or.inr rfl) _ _ _).mono fun b hb _ => hb.imp id fun h => by omega
    · have HST := hide hst
      have HFS := hide hfs
      have HS2 : Hid (SlM w2 (RuY w X) a2 x.subs) := hs2.mono fun b hb _ => hb.elim And.left fun h => Or.inr (by omega)
      have RA := hide ((HR.out.below HB2.out (by omega)).alloc (.cells #[.int .i64 x.kind, .int .i64 x.idx, .slice a2 x.subs.length c2] 27))
      have TA := hide ((HT.out.below HB2.out (by omega)).alloc (.cells #[.int .i64 x.kind, .int .i64 x.idx, .slice a2 x.subs.length c2] 27))
      have BA := hide ((HBW.out.trans (HB2.out.mono (by omega))).alloc (by omega) (.cells #[.int .i64 x.kind, .int .i64 x.idx, .slice a2 x.subs.length c2] 27))
      have SA := hide (HS2.out.later ((Below.refl _ _).alloc (Nat.le_refl _) (.cells #[.int .i64 x.kind, .int .i64 x.idx, .slice a2 x.subs.length c2] 27)))
      have XA : Hid (Blk (w2.alloc (.cells #[.int .i64 x.kind, .int .i64 x.idx, .slice a2 x.subs.length c2] 27)) w2.heap.size #[.int .i64 x.kind, .int .i64 x.idx, .slice a2 x.subs.length c2] 27) := Blk.new _ _ _
      have hsA : (w2.alloc (.cells #[.int .i64 x.kind, .int .i64 x.idx, .slice a2 x.subs.length c2] 27)).heap.size = w2.heap.size + 1 := by simp
      clear hs2 hst hfs
      obtain ⟨P2, hP2⟩ : ∃ P2, P2 = w2.heap.size := ⟨_, rfl⟩
      have R2 := hide (HR.out.below HB2.out (by omega))
      have B2w := hide (HBW.out.trans (HB2.out.mono (by omega)))
      by_cases hd : d = m
      · subst hd
        have HE := hide (HON.out.fuel HST.out)
        have r0 : ∀ o, (w2.alloc o).cell? ⟨w.heap.size + 1, 0, none⟩ = some (.int .i64 0) := fun o => (R2.out.alloc o).cell 0
        have r1 : ∀ o, (w2.alloc o).cell? ⟨w.heap.size + 1, 1, none⟩ = some (.int .i64 0) := fun o => (R2.out.alloc o).cell 1
        have r2 : ∀ o, (w2.alloc o).cell? ⟨w.heap.size + 1, 2, none⟩ = some (.slice none 0 0) := fun o => (R2.out.alloc o).cell 2
        have rf : ∀ o i, (w2.alloc o).frozen? ⟨w.heap.size + 1, i, none⟩ = false := fun o => (R2.out.alloc o).frozen
        have r0' : w2.cell? ⟨w.heap.size + 1, 0, none⟩ = some (.int .i64 0) := R2.out.cell 0
        have r1' : w2.cell? ⟨w.heap.size + 1, 1, none⟩ = some (.int .i64 0) := R2.out.cell 1
        have r2' : w2.cell? ⟨w.heap.size + 1, 2, none⟩ = some (.slice none 0 0) := R2.out.cell 2
        have rf' : ∀ i, w2.frozen? ⟨w.heap.size + 1, i, none⟩ = false := R2.out.frozen
        have hl2 : w.heap.size + 1 < w2.heap.size := by omega
        have HBF : Hid (∀ o x0 x1 x2, Below w.heap.size w ((((w2.setCell ⟨w.heap.size + 1, 0, none⟩ x0).setCell ⟨w.heap.size + 1, 1, none⟩ x1).setCell ⟨w.heap.size + 1, 2, none⟩ x2).alloc o) ∧ Below w.heap.size w ((((w2.alloc o).setCell ⟨w.heap.size + 1, 0, none⟩ x0).setCell ⟨w.heap.size + 1, 1, none⟩ x1).setCell ⟨w.heap.size + 1, 2, none⟩ x2)) := fun o x0 x1 x2 => ⟨(bl_set3 B2w.out _ (by omega) x0 x1 x2).alloc (by have := (bl_set3 B2w.out (w.heap.size + 1) (by omega) x0 x1 x2).size; omega) o, bl_set3 (B2w.out.alloc (by omega) o) _ (by omega) x0 x1 x2⟩
        go_wp2_with fail
        refine bodyPost_ret (v := .tuple #[.agg #[.int .i64 0, .int .i64 0, .slice none 0 0], .int .i64 0, .int .i64 9]) (by simp [results, Try.results42, go_sem, World.cell?_setCell_same, World.cell?_setCell_other, r0, r1, r2, r0', r1', r2', hl2, World.cell?_alloc_old]) rfl ?_
        refine ⟨by first | exact (HBF.out _ _ _ _).1 | exact (HBF.out _ _ _ _).2, Or.inr ⟨by rw [HE.out]; decide, by rw [HE.out]⟩⟩
      · have hdi : ((d : Int) == (m : Int)) = false := beq_eq_false_iff_ne.2 (by omega)
        have x0 := XA.out.cell 0
        have x1 := XA.out.cell 1
        have x2 := XA.out.cell 2
        simp only [List.getElem?_toArray, List.getElem?_cons_succ, List.getElem?_cons_zero] at x0 x1 x2
        cases ok with
        | false =>
          have HE := hide (HON.out.full hd HST.out (HFS.out.2 rfl))
          have r0 : ∀ o, (w2.alloc o).cell? ⟨w.heap.size + 1, 0, none⟩ = some (.int .i64 0) := fun o => (R2.out.alloc o).cell 0
          have r1 : ∀ o, (w2.alloc o).cell? ⟨w.heap.size + 1, 1, none⟩ = some (.int .i64 0) := fun o => (R2.out.alloc o).cell 1
          have r2 : ∀ o, (w2.alloc o).cell? ⟨w.heap.size + 1, 2, none⟩ = some (.slice none 0 0) := fun o => (R2.out.alloc o).cell 2
          have rf : ∀ o i, (w2.alloc o).frozen? ⟨w.heap.size + 1, i, none⟩ = false := fun o => (R2.out.alloc o).frozen
          have r0' : w2.cell? ⟨w.heap.size + 1, 0, none⟩ = some (.int .i64 0) := R2.out.cell 0
          have r1' : w2.cell? ⟨w.heap.size + 1, 1, none⟩ = some (.int .i64 0) := R2.out.cell 1
          have r2' : w2.cell? ⟨w.heap.size + 1, 2, none⟩ = some (.slice none 0 0) := R2.out.cell 2
          have rf' : ∀ i, w2.frozen? ⟨w.heap.size + 1, i, none⟩ = false := R2.out.frozen
          have hl2 : w.heap.size + 1 < w2.heap.size := by omega
          have HBF : Hid (∀ o x0 x1 x2, Below w.heap.size w ((((w2.setCell ⟨w.heap.size + 1, 0, none⟩ x0).setCell ⟨w.heap.size + 1, 1, none⟩ x1).setCell ⟨w.heap.size + 1, 2, none⟩ x2).alloc o) ∧ Below w.heap.size w ((((w2.alloc o).setCell ⟨w.heap.size + 1, 0, none⟩ x0).setCell ⟨w.heap.size + 1, 1, none⟩ x1).setCell ⟨w.heap.size + 1, 2, none⟩ x2)) := fun o x0 x1 x2 => ⟨(bl_set3 B2w.out _ (by omega) x0 x1 x2).alloc (by have := (bl_set3 B2w.out (w.heap.size + 1) (by omega) x0 x1 x2).size; omega) o, bl_set3 (B2w.out.alloc (by omega) o) _ (by omega) x0 x1 x2⟩
          clear x0 x1 x2
          go_wp2_with fail
          refine bodyPost_ret (v := .tuple #[.agg #[.int .i64 0, .int .i64 0, .slice none 0 0], .int .i64 0, .int .i64 8]) (by simp [results, Try.results42, go_sem, World.cell?_setCell_same, World.cell?_setCell_other, r0, r1, r2, r0', r1', r2', hl2, World.cell?_alloc_old]) rfl ?_
          refine ⟨by first | exact (HBF.out _ _ _ _).1 | exact (HBF.out _ _ _ _).2, Or.inr ⟨by rw [HE.out]; decide, by rw [HE.out]⟩⟩
        | true =>
          have HXS := hide (HFS.out.1 rfl)
          go_wp2_with fail
          refine (countM_any 2000 (by omega) (by omega) x _ _ (RuY w X) (by exact ⟨a2, c2, rfl, SA.out⟩)).mono ?_
          rintro e w5 ⟨rfl, hb5⟩
          have hs5 := hb5.size
          rw [hsA] at hs5
          have B5 := hide (BA.out.trans (hb5.mono (by omega)))
          have T5 := hide (TA.out.below hb5 (by omega))
          have R5 := hide (RA.out.below hb5 (by omega))
          have S5 := hide (SA.out.later hb5)
          have X5 := hide (XA.out.below hb5 (by omega))
          have y0 : w5.cell? ⟨w.heap.size + 1, 0, none⟩ = some (.int .i64 0) := R5.out.cell 0
          have y1 : w5.cell? ⟨w.heap.size + 1, 1, none⟩ = some (.int .i64 0) := R5.out.cell 1
          have y2 : w5.cell? ⟨w.heap.size + 1, 2, none⟩ = some (.slice none 0 0) := R5.out.cell 2
          have yf : ∀ i, w5.frozen? ⟨w.heap.size + 1, i, none⟩ = false := R5.out.frozen
          have z0 : w5.cell? ⟨w2.heap.size, 0, none⟩ = some (.int .i64 x.kind) := X5.out.cell 0
          have z1 : w5.cell? ⟨w2.heap.size, 1, none⟩ = some (.int .i64 x.idx) := X5.out.cell 1
          have z2 : w5.cell? ⟨w2.heap.size, 2, none⟩ = some (.slice a2 x.subs.length c2) := X5.out.cell 2
          have u0 : w5.cell? ⟨w.heap.size, 0, none⟩ = some (.int .i64 t.kind) := T5.out.cell 0
          have u1 : w5.cell? ⟨w.heap.size, 1, none⟩ = some (.int .i64 t.idx) := T5.out.cell 1
          have u2 : w5.cell? ⟨w.heap.size, 2, none⟩ = some (.slice at' t.subs.length ct) := T5.out.cell 2
          have uf : ∀ i, w5.frozen? ⟨w.heap.size, i, none⟩ = false := T5.out.frozen
          clear hb5 x0 x1 x2
          by_cases hbig : 2000 < sizeM [x]
          · have e : min ((sizeM [x] : Int)) (2000 + 1) = 2001 := by omega
            have HE := hide (HON.out.full hd HST.out (by rw [← HXS.out]; exact hbig))
            rw [e]
            clear e hbig
            go_wp2_with fail
            refine bodyPost_ret (v := .tuple #[.agg #[.int .i64 0, .int .i64 0, .slice none 0 0], .int .i64 0, .int .i64 8]) (by simp [results, Try.results42, go_sem, World.cell?_setCell_same, World.cell?_setCell_other, y0, y1, y2]) rfl ?_
            exact ⟨bl_set3 B5.out _ (by omega) _ _ _, Or.inr ⟨by rw [HE.out]; decide, by rw [HE.out]⟩⟩
          · have e : min ((sizeM [x] : Int)) (2000 + 1) = sizeM [x] := by omega
            have e3 : decide ((sizeM [x] : Int) > 2000) = false := decide_eq_false (by omega)
            have HE := hide (HON.out.on hd HST.out (by rw [← HXS.out]; exact hbig))
            rw [← HXS.out] at HE
            rw [e]
            have HEI : Hid (RuI true u w X m t0 (.int .i64 ((d + 1 : Nat) : Int)) (((w5.setCell ⟨w.heap.size, 0, none⟩ (.int .i64 x.kind)).setCell ⟨w.heap.size, 1, none⟩ (.int .i64 x.idx)).setCell ⟨w.heap.size, 2, none⟩ (.slice a2 x.subs.length c2))) :=
              ⟨d + 1, x, a2, c2, rfl, HE.out, bl_set3 B5.out _ (by omega) _ _ _, by simp [World.setCell]; omega, blk_set3 T5.out _ _ _, blk_set3o R5.out (by omega) _ _ _, ruY_keep S5.out _ (Or.inl rfl) _ _ _⟩
            clear e hbig
            go_wp2_with fail
            go_roundw
            case rel => exact (by go_num : Value.int IntKind.i64 ((d : Int) + 1) = .int .i64 ((d + 1 : Nat) : Int)) ▸ HEI.out
            case measure => simp [intOf]; omega
#print axioms bRunI_any
end Go.Proofs.Ytoakclalhfngpaa

/- Walks: Strict. -/
namespace Go.Proofs.Ytoakclalhfngpaa
open Go.RowKit
set_option linter.unusedSimpArgs false
set_option linter.unusedVariables false
set_option maxRecDepth 8000

set_option maxHeartbeats 2000000 in
theorem rRunI_err (t : Lm) (u z : Int) (hz : nmE t u z ≠ 0) (v : Value) (w : World) (X : Nat → Prop) (hv : MV w X v t) :
    Calls Try.prog 25 #[v, .int .i64 u, .int .i64 z, .func (.func 27) #[] #[]] w fun e w' => e = .returned (.tuple #[.agg #[.int .i64 0, .int .i64 0, .slice none 0 0], .int .i64 0, .int .i64 (nmE t u z)]) ∧ Below w.heap.size w w' := by
  obtain ⟨a, c, rfl, hs⟩ := hv
  have HB0 : Hid (Below w.heap.size w ((w.alloc (.cells #[.int .i64 t.kind, .int .i64 t.idx, .slice a t.subs.length c] 27)).alloc (.cells #[.int .i64 0, .int .i64 0, .slice none 0 0] 27))) := below2M _ _
  have HV : Hid (MV ((w.alloc (.cells #[.int .i64 t.kind, .int .i64 t.idx, .slice a t.subs.length c] 27)).alloc (.cells #[.int .i64 0, .int .i64 0, .slice none 0 0] 27)) (fun b => X b ∧ b < w.heap.size) (.agg #[.int .i64 t.kind, .int .i64 t.idx, .slice a t.subs.length c]) t) := ⟨a, c, rfl, (hs.mono (Y := fun b => X b ∧ b < w.heap.size) fun b h1 h2 => ⟨h1, h2⟩).later HB0.out⟩
  have HT : Hid (Blk ((w.alloc (.cells #[.int .i64 t.kind, .int .i64 t.idx, .slice a t.subs.length c] 27)).alloc (.cells #[.int .i64 0, .int .i64 0, .slice none 0 0] 27)) w.heap.size #[.int .i64 t.kind, .int .i64 t.idx, .slice a t.subs.length c] 27) := (Blk.new w _ _).alloc _
  have HR : Hid (Blk ((w.alloc (.cells #[.int .i64 t.kind, .int .i64 t.idx, .slice a t.subs.length c] 27)).alloc (.cells #[.int .i64 0, .int .i64 0, .slice none 0 0] 27)) (w.heap.size + 1) #[.int .i64 0, .int .i64 0, .slice none 0 0] 27) := by
    have h := Blk.new (w.alloc (.cells #[.int .i64 t.kind, .int .i64 t.idx, .slice a t.subs.length c] 27)) #[.int .i64 0, .int .i64 0, .slice none 0 0] 27
    unfold Hid
    simpa using h
  have hz0 : (((w.alloc (.cells #[.int .i64 t.kind, .int .i64 t.idx, .slice a t.subs.length c] 27)).alloc (.cells #[.int .i64 0, .int .i64 0, .slice none 0 0] 27))).heap.size = w.heap.size + 2 := by simp
  clear hs
  go_enter Try.func25, Try.ntmps25
  go_wp2_with fail
  refine (lCheck_any t _ u _ _ HV.out).mono ?_
  rintro e w1 ⟨rfl, hb1⟩
  have B9 := hide (HB0.out.trans (hb1.mono (by omega)))
  have R9 := hide (HR.out.below hb1 (by omega))
  have r0 : w1.cell? ⟨w.heap.size + 1, 0, none⟩ = some (.int .i64 0) := R9.out.cell 0
  have r1 : w1.cell? ⟨w.heap.size + 1, 1, none⟩ = some (.int .i64 0) := R9.out.cell 1
  have r2 : w1.cell? ⟨w.heap.size + 1, 2, none⟩ = some (.slice none 0 0) := R9.out.cell 2
  have rf := R9.out.frozen
  clear hb1
  by_cases h : lamE u 0 t = 0
  · have hz2 : z < 0 ∨ 400 < z := by
      unfold nmE at hz
      rw [if_pos h] at hz
      apply Classical.byContradiction
      intro hn
      rw [if_neg hn] at hz
      exact hz rfl
    have HE : Hid (nmE t u z = 3) := by unfold Hid nmE; rw [if_pos h, if_pos hz2]
    rw [h]
    clear h hz
    by_cases hneg : z < 0
    · have g1 : decide (z < 0) = true := decide_eq_true hneg
      go_wp2_with fail
      refine bodyPost_ret (v := .tuple #[.agg #[.int .i64 0, .int .i64 0, .slice none 0 0], .int .i64 0, .int .i64 3]) (by simp [results, Try.results25, go_sem, World.cell?_setCell_same, World.cell?_setCell_other, r0, r1, r2]) rfl ?_
      exact ⟨by rw [HE.out], bl_set3 B9.out _ (by omega) _ _ _⟩
    · have g1 : decide (z < 0) = false := decide_eq_false hneg
      have g2 : decide (z > 400) = true := decide_eq_true (by omega)
      go_wp2_with fail
      refine bodyPost_ret (v := .tuple #[.agg #[.int .i64 0, .int .i64 0, .slice none 0 0], .int .i64 0, .int .i64 3]) (by simp [results, Try.results25, go_sem, World.cell?_setCell_same, World.cell?_setCell_other, r0, r1, r2]) rfl ?_
      exact ⟨by rw [HE.out], bl_set3 B9.out _ (by omega) _ _ _⟩
  · have HE : Hid (nmE t u z = lamE u 0 t) := by unfold Hid nmE; rw [if_neg h]
    have hne : (lamE u 0 t == 0) = false := beq_eq_false_iff_ne.2 h
    clear h hz
    go_wp2_with fail
    refine bodyPost_ret (v := .tuple #[.agg #[.int .i64 0, .int .i64 0, .slice none 0 0], .int .i64 0, .int .i64 (lamE u 0 t)]) (by simp [results, Try.results25, go_sem, World.cell?_setCell_same, World.cell?_setCell_other, r0, r1, r2]) rfl ?_
    exact ⟨by rw [HE.out], bl_set3 B9.out _ (by omega) _ _ _⟩

set_option maxHeartbeats 2000000 in
theorem rRunI_ok (t : Lm) (u : Int) (m : Nat) (hm : m ≤ 400) (hE : lamE u 0 t = 0) (v : Value) (w : World) (X : Nat → Prop) (hv : MV w X v t) :
    Calls Try.prog 25 #[v, .int .i64 u, .int .i64 (m : Int), .func (.func 27) #[] #[]] w fun e w' => RnPost true m t X w e w' := by
  obtain ⟨a, c, rfl, hs⟩ := hv
  have HB0 : Hid (Below w.heap.size w ((w.alloc (.cells #[.int .i64 t.kind, .int .i64 t.idx, .slice a t.subs.length c] 27)).alloc (.cells #[.int .i64 0, .int .i64 0, .slice none 0 0] 27))) := below2M _ _
  have HV : Hid (MV ((w.alloc (.cells #[.int .i64 t.kind, .int .i64 t.idx, .slice a t.subs.length c] 27)).alloc (.cells #[.int .i64 0, .int .i64 0, .slice none 0 0] 27)) (fun b => X b ∧ b < w.heap.size) (.agg #[.int .i64 t.kind, .int .i64 t.idx, .slice a t.subs.length c]) t) := ⟨a, c, rfl, (hs.mono (Y := fun b => X b ∧ b < w.heap.size) fun b h1 h2 => ⟨h1, h2⟩).later HB0.out⟩
  have HT : Hid (Blk ((w.alloc (.cells #[.int .i64 t.kind, .int .i64 t.idx, .slice a t.subs.length c] 27)).alloc (.cells #[.int .i64 0, .int .i64 0, .slice none 0 0] 27)) w.heap.size #[.int .i64 t.kind, .int .i64 t.idx, .slice a t.subs.length c] 27) := (Blk.new w _ _).alloc _
  have HR : Hid (Blk ((w.alloc (.cells #[.int .i64 t.kind, .int .i64 t.idx, .slice a t.subs.length c] 27)).alloc (.cells #[.int .i64 0, .int .i64 0, .slice none 0 0] 27)) (w.heap.size + 1) #[.int .i64 0, .int .i64 0, .slice none 0 0] 27) := by
    have h := Blk.new (w.alloc (.cells #[.int .i64 t.kind, .int .i64 t.idx, .slice a t.subs.length c] 27)) #[.int .i64 0, .int .i64 0, .slice none 0 0] 27
    unfold Hid
    simpa using h
  have hz0 : (((w.alloc (.cells #[.int .i64 t.kind, .int .i64 t.idx, .slice a t.subs.length c] 27)).alloc (.cells #[.int .i64 0, .int .i64 0, .slice none 0 0] 27))).heap.size = w.heap.size + 2 := by simp
  clear hs
  have HE := hide hE
  have gm : decide ((m : Int) < 0) = false := decide_eq_false (by omega)
  have gm2 : decide ((m : Int) > 400) = false := decide_eq_false (by omega)
  clear hE
  go_enter Try.func25, Try.ntmps25
  go_wp2_with fail
  refine (lCheck_any t _ u _ _ HV.out).mono ?_
  rintro e w1 ⟨rfl, hb1⟩
  rw [HE.out]
  have B1 := hide (HB0.out.trans (hb1.mono (by omega)))
  have T1 := HT.out.below hb1 (by omega)
  have R1 := hide (HR.out.below hb1 (by omega))
  have hw1 : w.heap.size + 2 ≤ w1.heap.size := by have := hb1.size; omega
  have V1 := hide (HV.out.later hb1)
  have c0 : w1.cell? ⟨w.heap.size, 0, none⟩ = some (.int .i64 t.kind) := T1.cell 0
  have c1 : w1.cell? ⟨w.heap.size, 1, none⟩ = some (.int .i64 t.idx) := T1.cell 1
  have c2 : w1.cell? ⟨w.heap.size, 2, none⟩ = some (.slice a t.subs.length c) := T1.cell 2
  clear hb1 T1 hz0
  go_wp2_with fail
  refine (bRunI_any u m t _ w1 _ hm (lamE_ok HE.out).1 (lamE_ok HE.out).2.1 (by have := (lamE_ok HE.out).2.2; omega) V1.out).mono ?_
  rintro e w9 ⟨hb9, hcase⟩
  have B9 := hide (B1.out.trans (hb9.mono (by omega)))
  have R9 := hide (R1.out.below hb9 (by omega))
  have hw9 : w1.heap.size ≤ w9.heap.size := hb9.size
  have r0 : w9.cell? ⟨w.heap.size + 1, 0, none⟩ = some (.int .i64 0) := R9.out.cell 0
  have r1 : w9.cell? ⟨w.heap.size + 1, 1, none⟩ = some (.int .i64 0) := R9.out.cell 1
  have r2 : w9.cell? ⟨w.heap.size + 1, 2, none⟩ = some (.slice none 0 0) := R9.out.cell 2
  have rf := R9.out.frozen
  clear hb9 c0 c1 c2
  rcases hcase with ⟨h0, a9, c9, rfl, hs9⟩ | ⟨h0, rfl⟩
  · have S9 : Hid (SlM w9 (fun b => (X b ∧ b < w.heap.size) ∨ w.heap.size + 2 ≤ b) a9 (endM true m t).2.1.subs) := hs9.mono fun b hb _ => hb.imp (fun h => h.1) fun h => by omega
    have H0 := hide h0
    clear hs9 h0
    go_wp2_with fail
    refine bodyPost_ret (v := .tuple #[.agg #[.int .i64 (endM true m t).2.1.kind, .int .i64 (endM true m t).2.1.idx, .slice a9 (endM true m t).2.1.subs.length c9], .int .i64 ((endM true m t).2.2 : Int), .int .i64 0]) (by simp [results, Try.results25, go_sem, World.cell?_setCell_same, World.cell?_setCell_other, r0, r1, r2]) rfl ?_
    refine ⟨bl_set3 B9.out _ (by omega) _ _ _, Or.inl ⟨H0.out, a9, c9, rfl, (S9.out.kept fun b hb => ?_).mono fun b hb _ => hb.imp id fun h => by omega⟩⟩
    have hne : b ≠ w.heap.size + 1 := by rcases hb with hb | hb <;> omega
    rw [Below.heap_setCell _ _ _ _ (by simpa using hne), Below.heap_setCell _ _ _ _ (by simpa using hne), Below.heap_setCell _ _ _ _ (by simpa using hne)]
  · have H0 := hide h0
    clear h0
    go_wp2_with fail
    refine bodyPost_ret (v := .tuple #[.agg #[.int .i64 0, .int .i64 0, .slice none 0 0], .int .i64 0, .int .i64 (endM true m t).1]) (by simp [results, Try.results25, go_sem, World.cell?_setCell_same, World.cell?_setCell_other, r0, r1, r2]) rfl ?_
    exact ⟨bl_set3 B9.out _ (by omega) _ _ _, Or.inr ⟨H0.out, rfl⟩⟩

set_option maxHeartbeats 2000000 in
theorem strict_err (t : Lm) (u z : Int) (hz : nmE t u z ≠ 0) (v : Value) (w : World) (X : Nat → Prop) (hv : MV w X v t) :
    Calls Try.prog 12 #[v, .int .i64 u, .int .i64 z] w fun e w' => e = .returned (.tuple #[.agg #[.int .i64 0, .int .i64 0, .slice none 0 0], .int .i64 0, .int .i64 (nmE t u z)]) ∧ Below w.heap.size w w' := by
  obtain ⟨a, c, rfl, hs⟩ := hv
  have HB0 : Hid (Below w.heap.size w ((w.alloc (.cells #[.int .i64 t.kind, .int .i64 t.idx, .slice a t.subs.length c] 27)).alloc (.cells #[.int .i64 0, .int .i64 0, .slice none 0 0] 27))) := below2M _ _
  have HV : Hid (MV ((w.alloc (.cells #[.int .i64 t.kind, .int .i64 t.idx, .slice a t.subs.length c] 27)).alloc (.cells #[.int .i64 0, .int .i64 0, .slice none 0 0] 27)) (fun b => X b ∧ b < w.heap.size) (.agg #[.int .i64 t.kind, .int .i64 t.idx, .slice a t.subs.length c]) t) := ⟨a, c, rfl, (hs.mono (Y := fun b => X b ∧ b < w.heap.size) fun b h1 h2 => ⟨h1, h2⟩).later HB0.out⟩
  have HT : Hid (Blk ((w.alloc (.cells #[.int .i64 t.kind, .int .i64 t.idx, .slice a t.subs.length c] 27)).alloc (.cells #[.int .i64 0, .int .i64 0, .slice none 0 0] 27)) w.heap.size #[.int .i64 t.kind, .int .i64 t.idx, .slice a t.subs.length c] 27) := (Blk.new w _ _).alloc _
  have HR : Hid (Blk ((w.alloc (.cells #[.int .i64 t.kind, .int .i64 t.idx, .slice a t.subs.length c] 27)).alloc (.cells #[.int .i64 0, .int .i64 0, .slice none 0 0] 27)) (w.heap.size + 1) #[.int .i64 0, .int .i64 0, .slice none 0 0] 27) := by
    have h := Blk.new (w.alloc (.cells #[.int .i64 t.kind, .int .i64 t.idx, .slice a t.subs.length c] 27)) #[.int .i64 0, .int .i64 0, .slice none 0 0] 27
    unfold Hid
    simpa using h
  have hz0 : (((w.alloc (.cells #[.int .i64 t.kind, .int .i64 t.idx, .slice a t.subs.length c] 27)).alloc (.cells #[.int .i64 0, .int .i64 0, .slice none 0 0] 27))).heap.size = w.heap.size + 2 := by simp
  clear hs
  go_enter Try.func12, Try.ntmps12
  go_wp2_with fail
  refine (rRunI_err t u z hz _ _ _ HV.out).mono ?_
  rintro e w1 ⟨rfl, hb1⟩
  have B9 := hide (HB0.out.trans (hb1.mono (by omega)))
  have R9 := hide (HR.out.below hb1 (by omega))
  have r0 : w1.cell? ⟨w.heap.size + 1, 0, none⟩ = some (.int .i64 0) := R9.out.cell 0
  have r1 : w1.cell? ⟨w.heap.size + 1, 1, none⟩ = some (.int .i64 0) := R9.out.cell 1
  have r2 : w1.cell? ⟨w.heap.size + 1, 2, none⟩ = some (.slice none 0 0) := R9.out.cell 2
  have rf := R9.out.frozen
  clear hb1
  go_wp2_with fail
  refine bodyPost_ret (v := .tuple #[.agg #[.int .i64 0, .int .i64 0, .slice none 0 0], .int .i64 0, .int .i64 (nmE t u z)]) (by simp [results, Try.results12, go_sem, World.cell?_setCell_same, World.cell?_setCell_other, r0, r1, r2]) rfl ?_
  exact ⟨rfl, bl_set3 B9.out _ (by omega) _ _ _⟩

set_option maxHeartbeats 2000000 in
theorem strict_ok (t : Lm) (u : Int) (m : Nat) (hm : m ≤ 400) (hE : lamE u 0 t = 0) (v : Value) (w : World) (X : Nat → Prop) (hv : MV w X v t) :
    Calls Try.prog 12 #[v, .int .i64 u, .int .i64 (m : Int)] w fun e w' => RnPost true m t X w e w' := by
  obtain ⟨a, c, rfl, hs⟩ := hv
  have HB0 : Hid (Below w.heap.size w ((w.alloc (.cells #[.int .i64 t.kind, .int .i64 t.idx, .slice a t.subs.length c] 27)).alloc (.cells #[.int .i64 0, .int .i64 0, .slice none 0 0] 27))) := below2M _ _
  have HV : Hid (MV ((w.alloc (.cells #[.int .i64 t.kind, .int .i64 t.idx, .slice a t.subs.length c] 27)).alloc (.cells #[.int .i64 0, .int .i64 0, .slice none 0 0] 27)) (fun b => X b ∧ b < w.heap.size) (.agg #[.int .i64 t.kind, .int .i64 t.idx, .slice a t.subs.length c]) t) := ⟨a, c, rfl, (hs.mono (Y := fun b => X b ∧ b < w.heap.size) fun b h1 h2 => ⟨h1, h2⟩).later HB0.out⟩
  have HT : Hid (Blk ((w.alloc (.cells #[.int .i64 t.kind, .int .i64 t.idx, .slice a t.subs.length c] 27)).alloc (.cells #[.int .i64 0, .int .i64 0, .slice none 0 0] 27)) w.heap.size #[.int .i64 t.kind, .int .i64 t.idx, .slice a t.subs.length c] 27) := (Blk.new w _ _).alloc _
  have HR : Hid (Blk ((w.alloc (.cells #[.int .i64 t.kind, .int .i64 t.idx, .slice a t.subs.length c] 27)).alloc (.cells #[.int .i64 0, .int .i64 0, .slice none 0 0] 27)) (w.heap.size + 1) #[.int .i64 0, .int .i64 0, .slice none 0 0] 27) := by
    have h := Blk.new (w.alloc (.cells #[.int .i64 t.kind, .int .i64 t.idx, .slice a t.subs.length c] 27)) #[.int .i64 0, .int .i64 0, .slice none 0 0] 27
    unfold Hid
    simpa using h
  have hz0 : (((w.alloc (.cells #[.int .i64 t.kind, .int .i64 t.idx, .slice a t.subs.length c] 27)).alloc (.cells #[.int .i64 0, .int .i64 0, .slice none 0 0] 27))).heap.size = w.heap.size + 2 := by simp
  clear hs
  have HE := hide hE
  clear hE
  go_enter Try.func12, Try.ntmps12
  go_wp2_with fail
  refine (rRunI_ok t u m hm HE.out _ _ _ HV.out).mono ?_
  rintro e w9 ⟨hb9, hcase⟩
  have B9 := hide (HB0.out.trans (hb9.mono (by omega)))
  have R9 := hide (HR.out.below hb9 (by omega))
  have hw9 : w.heap.size + 2 ≤ w9.heap.size := by have := hb9.size; omega
  have r0 : w9.cell? ⟨w.heap.size + 1, 0, none⟩ = some (.int .i64 0) := R9.out.cell 0
  have r1 : w9.cell? ⟨w.heap.size + 1, 1, none⟩ = some (.int .i64 0) := R9.out.cell 1
  have r2 : w9.cell? ⟨w.heap.size + 1, 2, none⟩ = some (.slice none 0 0) := R9.out.cell 2
  have rf := R9.out.frozen
  clear hb9
  rw [hz0] at hcase
  clear hz0
  rcases hcase with ⟨h0, a9, c9, rfl, hs9⟩ | ⟨h0, rfl⟩
  · have S9 : Hid (SlM w9 (fun b => (X b ∧ b < w.heap.size) ∨ w.heap.size + 2 ≤ b) a9 (endM true m t).2.1.subs) := hs9.mono fun b hb _ => hb.imp (fun h => h.1) fun h => by omega
    have H0 := hide h0
    clear hs9 h0
    go_wp2_with fail
    refine bodyPost_ret (v := .tuple #[.agg #[.int .i64 (endM true m t).2.1.kind, .int .i64 (endM true m t).2.1.idx, .slice a9 (endM true m t).2.1.subs.length c9], .int .i64 ((endM true m t).2.2 : Int), .int .i64 0]) (by simp [results, Try.results12, go_sem, World.cell?_setCell_same, World.cell?_setCell_other, r0, r1, r2]) rfl ?_
    refine ⟨bl_set3 B9.out _ (by omega) _ _ _, Or.inl ⟨H0.out, a9, c9, rfl, (S9.out.kept fun b hb => ?_).mono fun b hb _ => hb.imp id fun h => by omega⟩⟩
    have hne : b ≠ w.heap.size + 1 := by rcases hb with hb | hb <;> omega
    rw [Below.heap_setCell _ _ _ _ (by simpa using hne), Below.heap_setCell _ _ _ _ (by simpa using hne), Below.heap_setCell _ _ _ _ (by simpa using hne)]
  · have H0 := hide h0
    clear h0
    go_wp2_with fail
    refine bodyPost_ret (v := .tuple #[.agg #[.int .i64 0, .int .i64 0, .slice none 0 0], .int .i64 0, .int .i64 (endM true m t).1]) (by simp [results, Try.results12, go_sem, World.cell?_setCell_same, World.cell?_setCell_other, r0, r1, r2]) rfl ?_
    exact ⟨bl_set3 B9.out _ (by omega) _ _ _, Or.inr ⟨H0.out, rfl⟩⟩
#print axioms strict_ok
#print axioms strict_err
end Go.Proofs.Ytoakclalhfngpaa

/- What the law ReduceSays keeps: answers in boxes. -/
namespace Go.Proofs.Ytoakclalhfngpaa
open Go.RowKit Go.Shelf
set_option linter.unusedSimpArgs false
set_option linter.unusedVariables false
set_option maxRecDepth 8000

def BoxM (W : World) (P : Nat) (y : Lm) : Prop := ∃ a c, Blk W P #[.int .i64 y.kind, .int .i64 y.idx, .slice a y.subs.length c] 27 ∧ SlM W (fun _ => True) a y.subs
def BoxA (W : World) (P : Nat) : Prop := ∃ k x a n c, Blk W P #[.int .i64 k, .int .i64 x, .slice a n c] 27
/-- What the program answered. -/
def AnsM (W : World) (P : Nat) (f : Int) (y : Lm) : Prop := (f = 0 ∧ BoxM W P y) ∨ (f ≠ 0 ∧ Blk W P #[.int .i64 0, .int .i64 0, .slice none 0 0] 27)
/-- What the document asks. -/
def AnsD (W : World) (P : Nat) (f : Int) (y : Lm) : Prop := (f = 0 ∧ BoxM W P y) ∨ (f ≠ 0 ∧ BoxA W P)
theorem BoxM.later {W W' : World} {P : Nat} {y : Lm} (h : BoxM W P y) (hb : Below W.heap.size W W') : BoxM W' P y := by
  obtain ⟨a, c, h1, h2⟩ := h
  exact ⟨a, c, h1.below hb h1.lt, h2.later hb⟩
theorem BoxA.later {W W' : World} {P : Nat} (h : BoxA W P) (hb : Below W.heap.size W W') : BoxA W' P := by
  obtain ⟨k, x, a, n, c, h1⟩ := h
  exact ⟨k, x, a, n, c, h1.below hb h1.lt⟩
theorem AnsM.later {W W' : World} {P : Nat} {f : Int} {y : Lm} (h : AnsM W P f y) (hb : Below W.heap.size W W') : AnsM W' P f y :=
  h.imp (fun h => ⟨h.1, h.2.later hb⟩) fun h => ⟨h.1, h.2.below hb h.2.lt⟩
theorem AnsD.later {W W' : World} {P : Nat} {f : Int} {y : Lm} (h : AnsD W P f y) (hb : Below W.heap.size W W') : AnsD W' P f y :=
  h.imp (fun h => ⟨h.1, h.2.later hb⟩) fun h => ⟨h.1, h.2.later hb⟩
/-- Both are held side by side. -/
theorem lam2_pair {W : World} {P Q : Nat} {f : Int} {y : Lm} (hP : AnsM W P f y) (hQ : AnsD W Q f y) :
    ∃ k x a n c k' x' a' n' c', Blk W P #[.int .i64 k, .int .i64 x, .slice a n c] 27 ∧ Blk W Q #[.int .i64 k', .int .i64 x', .slice a' n' c'] 27 ∧ ∀ W', Below W.heap.size W W' → Calls Try.prog 13 #[.agg #[.int .i64 k, .int .i64 x, .slice a n c], .int .i64 f, .agg #[.int .i64 k', .int .i64 x', .slice a' n' c'], .int .i64 f] W' fun e W'' => e = .returned (.bool true) ∧ Below W'.heap.size W' W'' := by
  rcases hP with ⟨h0, a, c, h1, h2⟩ | ⟨h0, h1⟩
  · rcases hQ with ⟨_, a', c', h3, h4⟩ | ⟨h5, _⟩
    · subst h0
      exact ⟨_, _, _, _, _, _, _, _, _, _, h1, h3, fun W' hb => lam2_ok y _ _ W' _ _ ⟨a, c, rfl, h2.later hb⟩ ⟨a', c', rfl, h4.later hb⟩⟩
    · exact absurd h0 h5
  · rcases hQ with ⟨h5, _⟩ | ⟨_, k', x', a', n', c', h3⟩
    · exact absurd h5 h0
    · exact ⟨_, _, _, _, _, _, _, _, _, _, h1, h3, fun W' _ => lam2_err f _ k' x' a' n' c' rfl W' h0⟩
/-- What comes of a run: an error or none; the term; how many steps. -/
def rF (inn : Bool) (t : Lm) (u z : Int) : Int := if nmE t u z = 0 then (endM inn z.toNat t).1 else nmE t u z
def rY (inn : Bool) (t : Lm) (z : Int) : Lm := (endM inn z.toNat t).2.1
def rN (inn : Bool) (t : Lm) (u z : Int) : Int := if rF inn t u z = 0 then ((endM inn z.toNat t).2.2 : Int) else 0
theorem nm_ok {t : Lm} {u z : Int} (h : nmE t u z = 0) : lamE u 0 t = 0 ∧ 0 ≤ z ∧ z ≤ 400 := by
  unfold nmE at h
  split at h
  · rename_i h1
    split at h
    · cases h
    · exact ⟨h1, by omega, by omega⟩
  · rename_i h1; exact absurd h h1
/-- A run's answer, whoever gives it. -/
def AnP (f n : Int) (y : Lm) (w : World) (e : Ending) (w' : World) : Prop :=
  Below w.heap.size w w' ∧ ((f = 0 ∧ ∃ a c, e = .returned (.tuple #[.agg #[.int .i64 y.kind, .int .i64 y.idx, .slice a y.subs.length c], .int .i64 n, .int .i64 0]) ∧ SlM w' (fun _ => True) a y.subs) ∨ (f ≠ 0 ∧ e = .returned (.tuple #[.agg #[.int .i64 0, .int .i64 0, .slice none 0 0], .int .i64 n, .int .i64 f])))
theorem RnPost.an {inn : Bool} {t : Lm} {u z : Int} {X : Nat → Prop} {w w' : World} {e : Ending} (hn : nmE t u z = 0) (h : RnPost inn z.toNat t X w e w') : AnP (rF inn t u z) (rN inn t u z) (rY inn t z) w e w' := by
  have ef : rF inn t u z = (endM inn z.toNat t).1 := by unfold rF; rw [if_pos hn]
  obtain ⟨hb, ⟨h0, a, c, rfl, hs⟩ | ⟨h0, rfl⟩⟩ := h
  · refine ⟨hb, Or.inl ⟨by rw [ef, h0], a, c, ?_, hs.mono fun _ _ _ => trivial⟩⟩
    have en : rN inn t u z = ((endM inn z.toNat t).2.2 : Int) := by unfold rN; rw [ef, if_pos h0]
    rw [en]
    rfl
  · refine ⟨hb, Or.inr ⟨by rw [ef]; exact h0, ?_⟩⟩
    have en : rN inn t u z = 0 := by unfold rN; rw [ef, if_neg h0]
    rw [en, ef]
theorem normal_any (t : Lm) (u z : Int) (v : Value) (w : World) (X : Nat → Prop) (hv : MV w X v t) :
    Calls Try.prog 11 #[v, .int .i64 u, .int .i64 z] w fun e w' => AnP (rF false t u z) (rN false t u z) (rY false t z) w e w' := by
  by_cases h : nmE t u z = 0
  · obtain ⟨h1, h2, h3⟩ := nm_ok h
    have ez : z = (z.toNat : Int) := by omega
    have hc := normal_ok t u z.toNat (by omega) h1 v w X hv
    rw [← ez] at hc
    exact hc.mono fun e w' hp => hp.an h
  · refine (normal_err t u z h v w X hv).mono ?_
    rintro e w' ⟨rfl, hb⟩
    have ef : rF false t u z = nmE t u z := by unfold rF; rw [if_neg h]
    have en : rN false t u z = 0 := by unfold rN; rw [ef, if_neg h]
    rw [ef, en]
    exact ⟨hb, Or.inr ⟨h, rfl⟩⟩
theorem strict_any (t : Lm) (u z : Int) (v : Value) (w : World) (X : Nat → Prop) (hv : MV w X v t) :
    Calls Try.prog 12 #[v, .int .i64 u, .int .i64 z] w fun e w' => AnP (rF true t u z) (rN true t u z) (rY true t z) w e w' := by
  by_cases h : nmE t u z = 0
  · obtain ⟨h1, h2, h3⟩ := nm_ok h
    have ez : z = (z.toNat : Int) := by omega
    have hc := strict_ok t u z.toNat (by omega) h1 v w X hv
    rw [← ez] at hc
    exact hc.mono fun e w' hp => hp.an h
  · refine (strict_err t u z h v w X hv).mono ?_
    rintro e w' ⟨rfl, hb⟩
    have ef : rF true t u z = nmE t u z := by unfold rF; rw [if_neg h]
    have en : rN true t u z = 0 := by unfold rN; rw [ef, if_neg h]
    rw [ef, en]
    exact ⟨hb, Or.inr ⟨h, rfl⟩⟩
/-- The answer is put into a box of its own. -/
theorem AnP.box {f n : Int} {y : Lm} {w w' : World} {e : Ending} (h : AnP f n y w e w') : ∃ k x a m c, e = .returned (.tuple #[.agg #[.int .i64 k, .int .i64 x, .slice a m c], .int .i64 n, .int .i64 f]) ∧ Below w.heap.size w w' ∧ AnsM (w'.alloc (.cells #[.int .i64 k, .int .i64 x, .slice a m c] 27)) w'.heap.size f y := by
  obtain ⟨hb, ⟨h0, a, c, rfl, hs⟩ | ⟨h0, rfl⟩⟩ := h
  · subst h0
    exact ⟨_, _, a, _, c, rfl, hb, Or.inl ⟨rfl, a, c, Blk.new _ _ _, hs.later ((Below.refl _ _).alloc (Nat.le_refl _) _)⟩⟩
  · exact ⟨0, 0, none, 0, 0, rfl, hb, Or.inr ⟨h0, Blk.new _ _ _⟩⟩
#print axioms normal_any
#print axioms strict_any
#print axioms AnP.box
#print axioms lam2_pair
end Go.Proofs.Ytoakclalhfngpaa

/- Walks: reduce.Develop, reduce.Eta. -/
namespace Go.Proofs.Ytoakclalhfngpaa
open Go.RowKit Go.Shelf
set_option linter.unusedSimpArgs false
set_option linter.unusedVariables false
set_option maxRecDepth 8000

/-- An error, or a term that is all new. -/
def RtPost (f : Int) (y : Lm) (w : World) (e : Ending) (w' : World) : Prop :=
  Below w.heap.size w w' ∧ ((f = 0 ∧ ∃ a c, e = .returned (.tuple #[.agg #[.int .i64 y.kind, .int .i64 y.idx, .slice a y.subs.length c], .int .i64 0]) ∧ SlM w' (fun b => w.heap.size ≤ b) a y.subs) ∨ (f ≠ 0 ∧ e = .returned (.tuple #[.agg #[.int .i64 0, .int .i64 0, .slice none 0 0], .int .i64 f])))
theorem rt_end {w wz : World} {y : Lm} {a : Option Addr} {c R : Nat} (hR : w.heap.size ≤ R) (hb : Below w.heap.size w wz) (hs : SlM wz (fun b => w.heap.size ≤ b ∧ b ≠ R) a y.subs) (v0 v1 v2 : Value) :
    RtPost 0 y w (.returned (.tuple #[.agg #[.int .i64 y.kind, .int .i64 y.idx, .slice a y.subs.length c], .int .i64 0])) (((wz.setCell ⟨R, 0, none⟩ v0).setCell ⟨R, 1, none⟩ v1).setCell ⟨R, 2, none⟩ v2) := by
  refine ⟨bl_set3 hb R hR _ _ _, Or.inl ⟨rfl, a, c, rfl, (hs.kept fun q hq => ?_).mono fun b h _ => h.1⟩⟩
  rw [Below.heap_setCell _ _ _ _ (by simpa using hq.2), Below.heap_setCell _ _ _ _ (by simpa using hq.2), Below.heap_setCell _ _ _ _ (by simpa using hq.2)]
def dvE (t : Lm) (u : Int) : Int := if lamE u 0 t = 0 then (if devT 2001 t = none then 8 else 0) else lamE u 0 t
def dvY (t : Lm) : Lm := (devT 2001 t).getD ⟨0, 0, []⟩

set_option maxHeartbeats 2000000 in
theorem rDevelop_any (t : Lm) (u : Int) (v : Value) (w : World) (X : Nat → Prop) (hv : MV w X v t) :
    Calls Try.prog 18 #[v, .int .i64 u] w fun e w' => RtPost (dvE t u) (dvY t) w e w' := by
  obtain ⟨a, c, rfl, hs⟩ := hv
  have HB0 : Hid (Below w.heap.size w ((w.alloc (.cells #[.int .i64 t.kind, .int .i64 t.idx, .slice a t.subs.length c] 27)).alloc (.cells #[.int .i64 0, .int .i64 0, .slice none 0 0] 27))) := below2M _ _
  have HV : Hid (MV ((w.alloc (.cells #[.int .i64 t.kind, .int .i64 t.idx, .slice a t.subs.length c] 27)).alloc (.cells #[.int .i64 0, .int .i64 0, .slice none 0 0] 27)) (fun b => X b ∧ b < w.heap.size) (.agg #[.int .i64 t.kind, .int .i64 t.idx, .slice a t.subs.length c]) t) := ⟨a, c, rfl, (hs.mono (Y := fun b => X b ∧ b < w.heap.size) fun b h1 h2 => ⟨h1, h2⟩).later HB0.out⟩
  have HT : Hid (Blk ((w.alloc (.cells #[.int .i64 t.kind, .int .i64 t.idx, .slice a t.subs.length c] 27)).alloc (.cells #[.int .i64 0, .int .i64 0, .slice none 0 0] 27)) w.heap.size #[.int .i64 t.kind, .int .i64 t.idx, .slice a t.subs.length c] 27) := (Blk.new w _ _).alloc _
  have HR : Hid (Blk ((w.alloc (.cells #[.int .i64 t.kind, .int .i64 t.idx, .slice a t.subs.length c] 27)).alloc (.cells #[.int .i64 0, .int .i64 0, .slice none 0 0] 27)) (w.heap.size + 1) #[.int .i64 0, .int .i64 0, .slice none 0 0] 27) := by
    have h := Blk.new (w.alloc (.cells #[.int .i64 t.kind, .int .i64 t.idx, .slice a t.subs.length c] 27)) #[.int .i64 0, .int .i64 0, .slice none 0 0] 27
    unfold Hid
    simpa using h
  have hz0 : (((w.alloc (.cells #[.int .i64 t.kind, .int .i64 t.idx, .slice a t.subs.length c] 27)).alloc (.cells #[.int .i64 0, .int .i64 0, .slice none 0 0] 27))).heap.size = w.heap.size + 2 := by simp
  clear hs
  go_enter Try.func18, Try.ntmps18
  go_wp2_with fail
  refine (lCheck_any t _ u _ _ HV.out).mono ?_
  rintro e w1 ⟨rfl, hb1⟩
  have B9 := hide (HB0.out.trans (hb1.mono (by omega)))
  have R9 := hide (HR.out.below hb1 (by omega))
  have T9 := hide (HT.out.below hb1 (by omega))
  have V9 := hide (HV.out.later hb1)
  have hz1 : w.heap.size + 2 ≤ w1.heap.size := by have := hb1.size; omega
  clear hb1 hz0
  by_cases h : lamE u 0 t = 0
  · have hle := lamE_ok h
    have HDV := hide (develop_at 2001 t u (by omega) hle.1.1 (by omega) hle.2.1)
    have HE : Hid (dvE t u = if devT 2001 t = none then 8 else 0) := by unfold Hid dvE; rw [if_pos h]
    rw [h]
    have c0 : w1.cell? ⟨w.heap.size, 0, none⟩ = some (.int .i64 t.kind) := T9.out.cell 0
    have c1 : w1.cell? ⟨w.heap.size, 1, none⟩ = some (.int .i64 t.idx) := T9.out.cell 1
    have c2 : w1.cell? ⟨w.heap.size, 2, none⟩ = some (.slice a t.subs.length c) := T9.out.cell 2
    clear h hle
    go_wp2_with fail
    refine (HDV.out _ w1 _ V9.out).mono ?_
    rintro e w2 ⟨hb2, hcase⟩
    have hz2 : w.heap.size + 2 ≤ w2.heap.size := by have := hb2.size; omega
    have B2 := hide (B9.out.trans (hb2.mono (by omega)))
    have R2 := hide (R9.out.below hb2 (by omega))
    clear c0 c1 c2
    rcases hcase with ⟨t', a2, c2, hd, rfl, hs2⟩ | ⟨hd, k2, x2, a2, l2, c2, rfl⟩
    · have HZ : Hid (dvE t u = 0) := by unfold Hid; rw [HE.out, hd]; simp
      have HY : Hid (dvY t = t') := by unfold Hid dvY; rw [hd]; rfl
      have S2 : Hid (SlM w2 (fun b => w.heap.size ≤ b ∧ b ≠ w.heap.size + 1) a2 t'.subs) := hs2.mono fun b h _ => by omega
      have KA : Hid (Blk (w2.alloc (.cells #[.int .i64 t'.kind, .int .i64 t'.idx, .slice a2 t'.subs.length c2] 27)) w2.heap.size #[.int .i64 t'.kind, .int .i64 t'.idx, .slice a2 t'.subs.length c2] 27) := Blk.new _ _ _
      have RA := hide (R2.out.alloc (.cells #[.int .i64 t'.kind, .int .i64 t'.idx, .slice a2 t'.subs.length c2] 27))
      have BA := hide (B2.out.alloc (by omega) (.cells #[.int .i64 t'.kind, .int .i64 t'.idx, .slice a2 t'.subs.length c2] 27))
      have SA := hide (S2.out.later ((Below.refl _ _).alloc (Nat.le_refl _) (.cells #[.int .i64 t'.kind, .int .i64 t'.idx, .slice a2 t'.subs.length c2] 27)))
      have q0 := KA.out.cell 0
      have q1 := KA.out.cell 1
      have q2 := KA.out.cell 2
      have r0 := RA.out.cell 0
      have r1 := RA.out.cell 1
      have r2 := RA.out.cell 2
      have rf := RA.out.frozen
      simp only [List.getElem?_toArray, List.getElem?_cons_succ, List.getElem?_cons_zero] at q0 q1 q2 r0 r1 r2
      clear hd hs2 hb2
      go_wp2_with fail
      refine bodyPost_ret (v := .tuple #[.agg #[.int .i64 t'.kind, .int .i64 t'.idx, .slice a2 t'.subs.length c2], .int .i64 0]) (by simp [results, Try.results18, go_sem, World.cell?_setCell_same, World.cell?_setCell_other, r0, r1, r2]) rfl ?_
      rw [HY.out, HZ.out]
      exact rt_end (by omega) BA.out SA.out _ _ _
    · have HZ : Hid (dvE t u = 8) := by unfold Hid; rw [HE.out, hd]; simp
      have RA := hide (R2.out.alloc (.cells #[.int .i64 k2, .int .i64 x2, .slice a2 l2 c2] 27))
      have r0 := RA.out.cell 0
      have r1 := RA.out.cell 1
      have r2 := RA.out.cell 2
      have rf := RA.out.frozen
      simp only [List.getElem?_toArray, List.getElem?_cons_succ, List.getElem?_cons_zero] at r0 r1 r2
      have r0' : w2.cell? ⟨w.heap.size + 1, 0, none⟩ = some (.int .i64 0) := R2.out.cell 0
      have r1' : w2.cell? ⟨w.heap.size + 1, 1, none⟩ = some (.int .i64 0) := R2.out.cell 1
      have r2' : w2.cell? ⟨w.heap.size + 1, 2, none⟩ = some (.slice none 0 0) := R2.out.cell 2
      have rf' := R2.out.frozen
      have hl2 : w.heap.size + 1 < w2.heap.size := by omega
      have HBF : Hid (∀ o x0 x1 x2, Below w.heap.size w ((((w2.setCell ⟨w.heap.size + 1, 0, none⟩ x0).setCell ⟨w.heap.size + 1, 1, none⟩ x1).setCell ⟨w.heap.size + 1, 2, none⟩ x2).alloc o) ∧ Below w.heap.size w ((((w2.alloc o).setCell ⟨w.heap.size + 1, 0, none⟩ x0).setCell ⟨w.heap.size + 1, 1, none⟩ x1).setCell ⟨w.heap.size + 1, 2, none⟩ x2)) := fun o x0 x1 x2 => ⟨(bl_set3 B2.out _ (by omega) x0 x1 x2).alloc (by have := (bl_set3 B2.out (w.heap.size + 1) (by omega) x0 x1 x2).size; omega) o, bl_set3 (B2.out.alloc (by omega) o) _ (by omega) x0 x1 x2⟩
      clear hd hb2
      go_wp2_with fail
      refine bodyPost_ret (v := .tuple #[.agg #[.int .i64 0, .int .i64 0, .slice none 0 0], .int .i64 8]) (by simp [results, Try.results18, go_sem, World.cell?_setCell_same, World.cell?_setCell_other, r0, r1, r2, r0', r1', r2', hl2, World.cell?_alloc_old]) rfl ?_
      rw [HZ.out]
      exact ⟨by first | exact (HBF.out _ _ _ _).1 | exact (HBF.out _ _ _ _).2, Or.inr ⟨by decide, rfl⟩⟩
  · have HE : Hid (dvE t u = lamE u 0 t) := by unfold Hid dvE; rw [if_neg h]
    have HNE := hide h
    have hne : (lamE u 0 t == 0) = false := beq_eq_false_iff_ne.2 h
    have r0 : w1.cell? ⟨w.heap.size + 1, 0, none⟩ = some (.int .i64 0) := R9.out.cell 0
    have r1 : w1.cell? ⟨w.heap.size + 1, 1, none⟩ = some (.int .i64 0) := R9.out.cell 1
    have r2 : w1.cell? ⟨w.heap.size + 1, 2, none⟩ = some (.slice none 0 0) := R9.out.cell 2
    have rf := R9.out.frozen
    clear h
    go_wp2_with fail
    refine bodyPost_ret (v := .tuple #[.agg #[.int .i64 0, .int .i64 0, .slice none 0 0], .int .i64 (lamE u 0 t)]) (by simp [results, Try.results18, go_sem, World.cell?_setCell_same, World.cell?_setCell_other, r0, r1, r2]) rfl ?_
    rw [HE.out]
    exact ⟨bl_set3 B9.out _ (by omega) _ _ _, Or.inr ⟨HNE.out, rfl⟩⟩

set_option maxHeartbeats 2000000 in
theorem rEta_any (t : Lm) (u : Int) (v : Value) (w : World) (X : Nat → Prop) (hv : MV w X v t) :
    Calls Try.prog 17 #[v, .int .i64 u] w fun e w' => RtPost (lamE u 0 t) (etaT t) w e w' := by
  obtain ⟨a, c, rfl, hs⟩ := hv
  have HB0 : Hid (Below w.heap.size w ((w.alloc (.cells #[.int .i64 t.kind, .int .i64 t.idx, .slice a t.subs.length c] 27)).alloc (.cells #[.int .i64 0, .int .i64 0, .slice none 0 0] 27))) := below2M _ _
  have HV : Hid (MV ((w.alloc (.cells #[.int .i64 t.kind, .int .i64 t.idx, .slice a t.subs.length c] 27)).alloc (.cells #[.int .i64 0, .int .i64 0, .slice none 0 0] 27)) (fun b => X b ∧ b < w.heap.size) (.agg #[.int .i64 t.kind, .int .i64 t.idx, .slice a t.subs.length c]) t) := ⟨a, c, rfl, (hs.mono (Y := fun b => X b ∧ b < w.heap.size) fun b h1 h2 => ⟨h1, h2⟩).later HB0.out⟩
  have HT : Hid (Blk ((w.alloc (.cells #[.int .i64 t.kind, .int .i64 t.idx, .slice a t.subs.length c] 27)).alloc (.cells #[.int .i64 0, .int .i64 0, .slice none 0 0] 27)) w.heap.size #[.int .i64 t.kind, .int .i64 t.idx, .slice a t.subs.length c] 27) := (Blk.new w _ _).alloc _
  have HR : Hid (Blk ((w.alloc (.cells #[.int .i64 t.kind, .int .i64 t.idx, .slice a t.subs.length c] 27)).alloc (.cells #[.int .i64 0, .int .i64 0, .slice none 0 0] 27)) (w.heap.size + 1) #[.int .i64 0, .int .i64 0, .slice none 0 0] 27) := by
    have h := Blk.new (w.alloc (.cells #[.int .i64 t.kind, .int .i64 t.idx, .slice a t.subs.length c] 27)) #[.int .i64 0, .int .i64 0, .slice none 0 0] 27
    unfold Hid
    simpa using h
  have hz0 : (((w.alloc (.cells #[.int .i64 t.kind, .int .i64 t.idx, .slice a t.subs.length c] 27)).alloc (.cells #[.int .i64 0, .int .i64 0, .slice none 0 0] 27))).heap.size = w.heap.size + 2 := by simp
  clear hs
  go_enter Try.func17, Try.ntmps17
  go_wp2_with fail
  refine (lCheck_any t _ u _ _ HV.out).mono ?_
  rintro e w1 ⟨rfl, hb1⟩
  have B9 := hide (HB0.out.trans (hb1.mono (by omega)))
  have R9 := hide (HR.out.below hb1 (by omega))
  have T9 := hide (HT.out.below hb1 (by omega))
  have V9 := hide (HV.out.later hb1)
  have hz1 : w.heap.size + 2 ≤ w1.heap.size := by have := hb1.size; omega
  clear hb1 hz0
  by_cases h : lamE u 0 t = 0
  · have hle := lamE_ok h
    have HZ0 := hide h
    have HDV := hide (eta_any t _ w1 _ V9.out (by omega) (bnd_of_err _ _ _ hle.1.1 (by omega) (by omega) hle.2.1) (sh_of_err _ _ _ hle.2.1))
    rw [h]
    have c0 : w1.cell? ⟨w.heap.size, 0, none⟩ = some (.int .i64 t.kind) := T9.out.cell 0
    have c1 : w1.cell? ⟨w.heap.size, 1, none⟩ = some (.int .i64 t.idx) := T9.out.cell 1
    have c2 : w1.cell? ⟨w.heap.size, 2, none⟩ = some (.slice a t.subs.length c) := T9.out.cell 2
    clear h hle
    go_wp2_with fail
    refine HDV.out.mono ?_
    rintro e w2 ⟨a2, c9, rfl, hs2, hb2⟩
    have hz2 : w.heap.size + 2 ≤ w2.heap.size := by have := hb2.size; omega
    have B2 := hide (B9.out.trans (hb2.mono (by omega)))
    have R2 := hide (R9.out.below hb2 (by omega))
    have S2 : Hid (SlM w2 (fun b => w.heap.size ≤ b ∧ b ≠ w.heap.size + 1) a2 (etaT t).subs) := hs2.mono fun b h _ => by omega
    have r0 : w2.cell? ⟨w.heap.size + 1, 0, none⟩ = some (.int .i64 0) := R2.out.cell 0
    have r1 : w2.cell? ⟨w.heap.size + 1, 1, none⟩ = some (.int .i64 0) := R2.out.cell 1
    have r2 : w2.cell? ⟨w.heap.size + 1, 2, none⟩ = some (.slice none 0 0) := R2.out.cell 2
    have rf := R2.out.frozen
    clear c0 c1 c2 hs2 hb2
    go_wp2_with fail
    refine bodyPost_ret (v := .tuple #[.agg #[.int .i64 (etaT t).kind, .int .i64 (etaT t).idx, .slice a2 (etaT t).subs.length c9], .int .i64 0]) (by simp [results, Try.results17, go_sem, World.cell?_setCell_same, World.cell?_setCell_other, r0, r1, r2]) rfl ?_
    rw [HZ0.out]
    exact rt_end (by omega) B2.out S2.out _ _ _
  · have HNE := hide h
    have hne : (lamE u 0 t == 0) = false := beq_eq_false_iff_ne.2 h
    have r0 : w1.cell? ⟨w.heap.size + 1, 0, none⟩ = some (.int .i64 0) := R9.out.cell 0
    have r1 : w1.cell? ⟨w.heap.size + 1, 1, none⟩ = some (.int .i64 0) := R9.out.cell 1
    have r2 : w1.cell? ⟨w.heap.size + 1, 2, none⟩ = some (.slice none 0 0) := R9.out.cell 2
    have rf := R9.out.frozen
    clear h
    go_wp2_with fail
    refine bodyPost_ret (v := .tuple #[.agg #[.int .i64 0, .int .i64 0, .slice none 0 0], .int .i64 (lamE u 0 t)]) (by simp [results, Try.results17, go_sem, World.cell?_setCell_same, World.cell?_setCell_other, r0, r1, r2]) rfl ?_
    exact ⟨bl_set3 B9.out _ (by omega) _ _ _, Or.inr ⟨HNE.out, rfl⟩⟩
#print axioms rDevelop_any
#print axioms rEta_any
end Go.Proofs.Ytoakclalhfngpaa

/- What the law ReduceSays keeps besides: boxes that are written. -/
namespace Go.Proofs.Ytoakclalhfngpaa
open Go.RowKit Go.Shelf
set_option linter.unusedSimpArgs false
set_option linter.unusedVariables false
set_option maxRecDepth 8000

/-- The term, where it was, and nothing old is changed. -/
def LT (t : Lm) (a : Option Addr) (c : Nat) (w W : World) : Prop :=
  Below w.heap.size w W ∧ Blk W w.heap.size #[.int .i64 t.kind, .int .i64 t.idx, .slice a t.subs.length c] 27
theorem LT.lt {t : Lm} {a : Option Addr} {c : Nat} {w W : World} (h : LT t a c w W) : w.heap.size < W.heap.size := h.2.lt
theorem LT.later {t : Lm} {a : Option Addr} {c : Nat} {w W W' : World} (h : LT t a c w W) (hb : Below W.heap.size W W') : LT t a c w W' := ⟨h.1.trans (hb.mono h.1.size), h.2.below hb h.2.lt⟩
theorem LT.set3 {t : Lm} {a : Option Addr} {c : Nat} {w W : World} (h : LT t a c w W) {P : Nat} (hP : w.heap.size < P) (u u' u'' : Value) : LT t a c w (((W.setCell ⟨P, 0, none⟩ u).setCell ⟨P, 1, none⟩ u').setCell ⟨P, 2, none⟩ u'') := ⟨bl_set3 h.1 P (by omega) _ _ _, blk_set3o h.2 (by omega) _ _ _⟩
/-- An answer in a box whose memory lies in blocks that V lets. -/
def AnsV (W : World) (P : Nat) (f : Int) (y : Lm) (V : Nat → Prop) : Prop := (f = 0 ∧ ∃ a c, Blk W P #[.int .i64 y.kind, .int .i64 y.idx, .slice a y.subs.length c] 27 ∧ SlM W V a y.subs) ∨ (f ≠ 0 ∧ BoxA W P)
theorem AnsV.toD {W : World} {P : Nat} {f : Int} {y : Lm} {V : Nat → Prop} (h : AnsV W P f y V) : AnsD W P f y :=
  h.imp (fun ⟨h0, a, c, h1, h2⟩ => ⟨h0, a, c, h1, h2.mono fun _ _ _ => trivial⟩) id
theorem AnsV.later {W W' : World} {P : Nat} {f : Int} {y : Lm} {V : Nat → Prop} (h : AnsV W P f y V) (hb : Below W.heap.size W W') : AnsV W' P f y V :=
  h.imp (fun ⟨h0, a, c, h1, h2⟩ => ⟨h0, a, c, h1.below hb h1.lt, h2.later hb⟩) fun h => ⟨h.1, h.2.later hb⟩
theorem AnsV.set3 {W : World} {P Q : Nat} {f : Int} {y : Lm} {V : Nat → Prop} (h : AnsV W P f y V) (hPQ : P ≠ Q) (hV : ¬ V Q) (u u' u'' : Value) : AnsV (((W.setCell ⟨Q, 0, none⟩ u).setCell ⟨Q, 1, none⟩ u').setCell ⟨Q, 2, none⟩ u'') P f y V := by
  rcases h with ⟨h0, a, c, h1, h2⟩ | ⟨h0, k, x, a, n, c, h1⟩
  · refine Or.inl ⟨h0, a, c, blk_set3o h1 hPQ _ _ _, h2.kept fun b hb => ?_⟩
    have hne : b ≠ Q := fun e => hV (e ▸ hb)
    rw [Below.heap_setCell _ _ _ _ (by simpa using hne), Below.heap_setCell _ _ _ _ (by simpa using hne), Below.heap_setCell _ _ _ _ (by simpa using hne)]
  · exact Or.inr ⟨h0, k, x, a, n, c, blk_set3o h1 hPQ _ _ _⟩
/-- An answer is written into its box. -/
theorem AnsV.put {W : World} {P : Nat} {f k x : Int} {a : Option Addr} {m c : Nat} {y : Lm} {V : Nat → Prop} {x0 x1 x2 : Value} (hB : Blk W P #[x0, x1, x2] 27) (hV : ¬ V P) (h : (f = 0 ∧ k = y.kind ∧ x = y.idx ∧ m = y.subs.length ∧ SlM W V a y.subs) ∨ f ≠ 0) : AnsV (((W.setCell ⟨P, 0, none⟩ (.int .i64 k)).setCell ⟨P, 1, none⟩ (.int .i64 x)).setCell ⟨P, 2, none⟩ (.slice a m c)) P f y V := by
  rcases h with ⟨h0, rfl, rfl, rfl, h1⟩ | h0
  · refine Or.inl ⟨h0, a, c, blk_set3 hB _ _ _, h1.kept fun b hb => ?_⟩
    have hne : b ≠ P := fun e => hV (e ▸ hb)
    rw [Below.heap_setCell _ _ _ _ (by simpa using hne), Below.heap_setCell _ _ _ _ (by simpa using hne), Below.heap_setCell _ _ _ _ (by simpa using hne)]
  · exact Or.inr ⟨h0, k, x, a, m, c, blk_set3 hB _ _ _⟩
/-- A run's answer, taken apart. -/
theorem RnPost.parts {inn : Bool} {t : Lm} {u z : Int} {X : Nat → Prop} {w w' : World} {e : Ending} (hn : nmE t u z = 0) (h : RnPost inn z.toNat t X w e w') : ∃ k x a m c, e = .returned (.tuple #[.agg #[.int .i64 k, .int .i64 x, .slice a m c], .int .i64 (rN inn t u z), .int .i64 (rF inn t u z)]) ∧ Below w.heap.size w w' ∧ ((rF inn t u z = 0 ∧ k = (rY inn t z).kind ∧ x = (rY inn t z).idx ∧ m = (rY inn t z).subs.length ∧ SlM w' (fun b => (X b ∧ b < w.heap.size) ∨ w.heap.size ≤ b) a (rY inn t z).subs) ∨ rF inn t u z ≠ 0) := by
  have ef : rF inn t u z = (endM inn z.toNat t).1 := by unfold rF; rw [if_pos hn]
  obtain ⟨hb, ⟨h0, a, c, rfl, hs⟩ | ⟨h0, rfl⟩⟩ := h
  · have en : rN inn t u z = ((endM inn z.toNat t).2.2 : Int) := by unfold rN; rw [ef, if_pos h0]
    refine ⟨_, _, a, _, c, by rw [en, ef, h0]; rfl, hb, Or.inl ⟨by rw [ef, h0], rfl, rfl, rfl, hs⟩⟩
  · have en : rN inn t u z = 0 := by unfold rN; rw [ef, if_neg h0]
    exact ⟨0, 0, none, 0, 0, by rw [en, ef], hb, Or.inr (by rw [ef]; exact h0)⟩
/-- An answer of the program, put into a box. -/
theorem RtPost.box {f : Int} {y : Lm} {w w' : World} {e : Ending} (h : RtPost f y w e w') : ∃ k x a m c, e = .returned (.tuple #[.agg #[.int .i64 k, .int .i64 x, .slice a m c], .int .i64 f]) ∧ Below w.heap.size w w' ∧ AnsM (w'.alloc (.cells #[.int .i64 k, .int .i64 x, .slice a m c] 27)) w'.heap.size f y := by
  obtain ⟨hb, ⟨h0, a, c, rfl, hs⟩ | ⟨h0, rfl⟩⟩ := h
  · subst h0
    exact ⟨_, _, a, _, c, rfl, hb, Or.inl ⟨rfl, a, c, Blk.new _ _ _, (hs.mono fun _ _ _ => trivial).later ((Below.refl _ _).alloc (Nat.le_refl _) _)⟩⟩
  · exact ⟨0, 0, none, 0, 0, rfl, hb, Or.inr ⟨h0, Blk.new _ _ _⟩⟩
#print axioms AnsV.put
#print axioms RnPost.parts
#print axioms RtPost.box
end Go.Proofs.Ytoakclalhfngpaa

/- Walks: whether two lambda terms are the same; whether one is a number. -/
namespace Go.Proofs.Ytoakclalhfngpaa
open Go.RowKit
set_option linter.unusedSimpArgs false
set_option linter.unusedVariables false
set_option maxRecDepth 8000

set_option maxHeartbeats 2000000 in
theorem sameG_any (t : Lm) : ∀ (s : Lm) (v u : Value) (w : World) (X Y : Nat → Prop), MV w X v t → MV w Y u s →
    Calls Try.prog 20 #[v, u] w fun e w' => ∃ q : Bool, e = .returned (.bool q) ∧ (q = true ↔ t = s) ∧ Below w.heap.size w w' := by
  induction t using Lm.ind with
  | h kd ix l ih =>
    intro s v u w X Y hv hu
    have IH := hide ih
    clear ih
    obtain ⟨kd2, ix2, l2⟩ := s
    obtain ⟨a, c, rfl, hs⟩ := hv
    obtain ⟨a2, c2, rfl, hs2⟩ := hu
    dsimp only at hs hs2 ⊢
    have hl := hs.1
    have hl2' := hs2.1
    have HB2 : Hid (Below w.heap.size w ((w.alloc (.cells #[.int .i64 kd, .int .i64 ix, .slice a l.length c] 27)).alloc (.cells #[.int .i64 kd2, .int .i64 ix2, .slice a2 l2.length c2] 27))) := below2M _ _
    by_cases h1 : kd = kd2
    case neg =>
      have e1 : (kd == kd2) = false := beq_eq_false_iff_ne.2 h1
      have e2 : (kd != kd2) = true := by simp [bne, e1]
      have HN : Hid ((⟨kd, ix, l⟩ : Lm) ≠ ⟨kd2, ix2, l2⟩) := fun e => by cases e; exact h1 rfl
      clear hs hs2 h1
      go_enter Try.func20, Try.ntmps20
      go_wp2_with fail
      go_ret
      exact ⟨false, rfl, by simpa using HN.out, HB2.out⟩
    subst h1
    by_cases h1 : ix = ix2
    case neg =>
      have e1 : (ix == ix2) = false := beq_eq_false_iff_ne.2 h1
      have e2 : (ix != ix2) = true := by simp [bne, e1]
      have HN : Hid ((⟨kd, ix, l⟩ : Lm) ≠ ⟨kd, ix2, l2⟩) := fun e => by cases e; exact h1 rfl
      clear hs hs2 h1
      go_enter Try.func20, Try.ntmps20
      go_wp2_with fail
      go_ret
      exact ⟨false, rfl, by simpa using HN.out, HB2.out⟩
    subst h1
    by_cases h1 : l.length = l2.length
    case neg =>
      have e1 : ((l.length : Int) == (l2.length : Int)) = false := beq_eq_false_iff_ne.2 (by omega)
      have e2 : ((l.length : Int) != (l2.length : Int)) = true := by simp [bne, e1]
      have HN : Hid ((⟨kd, ix, l⟩ : Lm) ≠ ⟨kd, ix, l2⟩) := fun e => by cases e; exact h1 rfl
      clear hs hs2 h1
      go_enter Try.func20, Try.ntmps20
      go_wp2_with fail
      go_ret
      exact ⟨false, rfl, by simpa using HN.out, HB2.out⟩
    have HLL := hide h1
    have e1 : ((l.length : Int) == (l2.length : Int)) = true := by simp [h1]
    have e2 : ((l.length : Int) != (l2.length : Int)) = false := by simp [bne, e1]
    clear h1
    go_enter Try.func20, Try.ntmps20
    go_wp2_with fail
    clear e1 e2
    go_loopw [5] (fun i wr => ∃ (k : Nat), k ≤ l.length ∧ i = .int .i64 k ∧ l.take k = l2.take k ∧ Below w.heap.size w wr ∧ wr.cell? ⟨w.heap.size, 2, none⟩ = some (.slice a l.length c) ∧ wr.cell? ⟨w.heap.size + 1, 2, none⟩ = some (.slice a2 l2.length c2) ∧ w.heap.size + 2 ≤ wr.heap.size) (fun i wr => l.length - (intOf i).toNat)
    case atStart => exact ⟨0, Nat.zero_le _, rfl, by simp, below2M _ _, by simp, by simp, by simp⟩
    case round =>
      obtain ⟨k, hk, rfl, htk, hb, hc1, hc2, hsz⟩ := hrel
      have HTK := hide htk
      clear htk
      by_cases hlt : k < l.length
      · have hlt2 : k < l2.length := by have := HLL.out; omega
        have hlti : (k : Int) < (l.length : Int) := by omega
        have hlti2 : (k : Int) < (l2.length : Int) := by omega
        obtain ⟨b, o, a', c', rfl, d0, d0', d1, hx⟩ := hs.get hb (fun _ _ h => h) k hlt
        obtain ⟨b2, o2, a2', c2', rfl, e0, e0', e1, hx2⟩ := hs2.get hb (fun _ _ h => h) k hlt2
        have HX := hide hx
        have HX2 := hide hx2
        have HB := hide hb
        have HS0 := hide (And.intro hc1 (And.intro hc2 (And.intro d0 (And.intro d0' (And.intro d1 (And.intro e0 (And.intro e0' e1)))))))
        have HN : Hid (l[k] = l2[k] → l.take (k + 1) = l2.take (k + 1)) := fun h => by rw [List.take_succ_eq_append_getElem hlt, List.take_succ_eq_append_getElem hlt2, HTK.out, h]
        have HNO : Hid (l[k] ≠ l2[k] → (⟨kd, ix, l⟩ : Lm) ≠ ⟨kd, ix, l2⟩) := fun h e => by cases e; exact h rfl
        clear hx hx2 hb
        go_wp2_with fail
        go_region_held3 (fun w' => w'.cell? ⟨w.heap.size, 2, none⟩ = some (.slice (some ⟨b, o, none⟩) l.length c) ∧ w'.cell? ⟨w.heap.size + 1, 2, none⟩ = some (.slice (some ⟨b2, o2, none⟩) l2.length c2) ∧ w'.cell? ⟨b, o + k * 3, none⟩ = some (.int .i64 l[k].kind) ∧ w'.cell? ⟨b, o + k * 3 + 1, none⟩ = some (.int .i64 l[k].idx) ∧ w'.cell? ⟨b, o + k * 3 + 2, none⟩ = some (.slice a' l[k].subs.length c') ∧ w'.cell? ⟨b2, o2 + k * 3, none⟩ = some (.int .i64 l2[k].kind) ∧ w'.cell? ⟨b2, o2 + k * 3 + 1, none⟩ = some (.int .i64 l2[k].idx) ∧ w'.cell? ⟨b2, o2 + k * 3 + 2, none⟩ = some (.slice a2' l2[k].subs.length c2')) (first | exact HS0.out | exact hS1)
          ((go_at_call 20; refine (IH.out _ (List.getElem_mem hlt) l2[k] _ _ _ X Y (by exact HX.out.later (below_drewN (Below.refl _ _) 1)) (by exact HX2.out.later (below_drewN (Below.refl _ _) 1))).mono ?_; rintro e w1 ⟨q, rfl, hq, hb1⟩; have hS1 := same_cellsM (n := 1) hb1 HS0.out))
        have HQ := hide hq
        have HB1 := hide ((HB.out.trans (below_drewN (Below.refl _ _) 1)).trans (hb1.mono (by simp; omega)))
        have hsz1 : w.heap.size + 2 ≤ w1.heap.size := by have := hb1.size; simp at this; omega
        have HS1 := hide hS1
        clear hq hb1 hS1
        cases q with
        | true =>
          go_wp2_with fail
          go_roundw
          case rel => exact ⟨k + 1, by omega, by go_num, HN.out (HQ.out.1 rfl), HB1.out, HS1.out.1, HS1.out.2.1, hsz1⟩
          case measure => simp [intOf]; omega
        | false =>
          go_wp2_with fail
          go_ret
          exact ⟨false, rfl, by simpa using HNO.out (fun h => by have := HQ.out.2 h; cases this), HB1.out⟩
      · have hEQ : l = l2 := by
          have h := HTK.out
          rw [List.take_of_length_le (by omega), List.take_of_length_le (by have := HLL.out; omega)] at h
          exact h
        have HEQ := hide hEQ
        have HB := hide hb
        clear hEQ
        go_wp2_with fail
        go_ret
        exact ⟨true, rfl, by simp [HEQ.out], HB.out⟩
#print axioms sameG_any
end Go.Proofs.Ytoakclalhfngpaa

/- The law ReduceSays, its last part. -/
namespace Go.Proofs.Ytoakclalhfngpaa
open Go.RowKit Go.Shelf
set_option linter.unusedSimpArgs false
set_option linter.unusedVariables false
set_option maxRecDepth 8000

/-- Does it begin with that region? -/
def headIs (n : Nat) : Code → Bool
  | .region m _ _ => m == n
  | .seq a _ => headIs n a
  | .scope c => headIs n c
  | .block _ c => headIs n c
  | _ => false
/-- The statements from a region on. -/
def seqFrom (n : Nat) : Code → Code
  | .seq a b => bif headIs n a then .seq a b else seqFrom n b
  | .scope c => seqFrom n c
  | c => c
noncomputable def tailRsF : Code := seqFrom 38 ((Try.f5.body).getD .skip)
set_option maxHeartbeats 20000000 in
theorem reduceF (t : Lm) (a : Option Addr) (c : Nat) (u z : Int) (w wa : World) (X0 : Nat → Prop) (HMV : Hid (∀ W, LT t a c w W → MV W (fun b => X0 b ∧ b < w.heap.size) (.agg #[.int .i64 t.kind, .int .i64 t.idx, .slice a t.subs.length c]) t)) (L0 : Hid (LT t a c w wa)) (P Q : Nat) (l : List Lm) (ad : Option Addr) (cs : Nat) (A1 : Hid (AnsD wa P (lamE u 0 t) (etaT t))) (A2 : Hid (AnsD wa Q (dvE t u) (dvY t))) (S1 : Hid (SlM wa (fun _ => True) ad l)) (E1 : Hid (stE t u = 0 → l = stsT 2001 t)) (ll : l.length ≤ 4000)
    {s4 s5 s6 s8 s9 s10 s11 s12 s13 s14 s15 s16 s17 s18 s19 s25 s26 s27 s28 s29 s30 s31 s32 s33 s34 s35 s36 s37 s38 s39 s40 s41 s42 s43 s44 s45 s46 s47 s48 s49 s50 s51 s52 s53 s54 s55 s56 s57 s58 s59 s60 s61 s62 s63 s64 s65 s66 s67 s68 s69 s70 s71 s72 s73 s74 s75 s76 s77 s78 s79 s80 s81 s82 s83 s84 s85 s86 s87 s88 s89 s90 s91 s92 s93 s94 s95 s96 s97 s98 s99 s100 s101 s102 s103 s104 s105 s106 s107 s108 s109 s110 s111 s112 s113 s114 s115 s116 s117 s118 s119 s120 s121 s122 s123 s124 s125 s126 s127 s128 s129 s130 s131 s132 s133 s134 s135 s136 s137 s138 s139 s140 s141 s142 s143 s144 s145 s146 s147 s148 s149 s150 s151 s152 s153 s154 s155 s156 s157 s158 s159 s160 s161 s162 s163 s164 s165 s166 s167 s168 s169 s170 s171 s172 s173 s174 s175 s176 s177 s178 s179 s180 s181 s182 s183 s184 s185 s186 s187 s188 s189 s190 s191 s192 s193 s194 s195 s196 s197 s198 s199 s200 s201 s202 s203 s204 s205 s206 s207 s208 s209 s210 s211 s212 s213 s214 s215 : Value} :
    Code.wp Try.prog tailRsF (bodyPost Try.prog Try.f5 fun e w' => e = .returned (.bool true) ∧ Below w.heap.size w w') ⟨List.toArray ((.agg #[.int .i64 t.kind, .int .i64 t.idx, .slice a t.subs.length c]) :: .int .i64 u :: .int .i64 z :: .pointer (some ⟨w.heap.size, 0, none⟩) :: s4 :: s5 :: s6 :: .int .i64 (lamE u 0 t) :: s8 :: s9 :: s10 :: s11 :: s12 :: s13 :: s14 :: s15 :: s16 :: s17 :: s18 :: s19 :: .int .i64 (dvE t u) :: .int .i64 (stE t u) :: .pointer (some ⟨P, 0, none⟩) :: .pointer (some ⟨Q, 0, none⟩) :: .slice ad l.length cs :: s25 :: s26 :: s27 :: s28 :: s29 :: s30 :: s31 :: s32 :: s33 :: s34 :: s35 :: s36 :: s37 :: s38 :: s39 :: s40 :: s41 :: s42 :: s43 :: s44 :: s45 :: s46 :: s47 :: s48 :: s49 :: s50 :: s51 :: s52 :: s53 :: s54 :: s55 :: s56 :: s57 :: s58 :: s59 :: s60 :: s61 :: s62 :: s63 :: s64 :: s65 :: s66 :: s67 :: s68 :: s69 :: s70 :: s71 :: s72 :: s73 :: s74 :: s75 :: s76 :: s77 :: s78 :: s79 :: s80 :: s81 :: s82 :: s83 :: s84 :: s85 :: s86 :: s87 :: s88 :: s89 :: s90 :: s91 :: s92 :: s93 :: s94 :: s95 :: s96 :: s97 :: s98 :: s99 :: s100 :: s101 :: s102 :: s103 :: s104 :: s105 :: s106 :: s107 :: s108 :: s109 :: s110 :: s111 :: s112 :: s113 :: s114 :: s115 :: s116 :: s117 :: s118 :: s119 :: s120 :: s121 :: s122 :: s123 :: s124 :: s125 :: s126 :: s127 :: s128 :: s129 :: s130 :: s131 :: s132 :: s133 :: s134 :: s135 :: s136 :: s137 :: s138 :: s139 :: s140 :: s141 :: s142 :: s143 :: s144 :: s145 :: s146 :: s147 :: s148 :: s149 :: s150 :: s151 :: s152 :: s153 :: s154 :: s155 :: s156 :: s157 :: s158 :: s159 :: s160 :: s161 :: s162 :: s163 :: s164 :: s165 :: s166 :: s167 :: s168 :: s169 :: s170 :: s171 :: s172 :: s173 :: s174 :: s175 :: s176 :: s177 :: s178 :: s179 :: s180 :: s181 :: s182 :: s183 :: s184 :: s185 :: s186 :: s187 :: s188 :: s189 :: s190 :: s191 :: s192 :: s193 :: s194 :: s195 :: s196 :: s197 :: s198 :: s199 :: s200 :: s201 :: s202 :: s203 :: s204 :: s205 :: s206 :: s207 :: s208 :: s209 :: s210 :: s211 :: s212 :: s213 :: s214 :: s215 :: []), []⟩ wa := by
  conv => arg 2; whnf
  have c0 : wa.cell? ⟨w.heap.size, 0, none⟩ = some (.int .i64 t.kind) := L0.out.2.cell 0
  have c1 : wa.cell? ⟨w.heap.size, 1, none⟩ = some (.int .i64 t.idx) := L0.out.2.cell 1
  have c2 : wa.cell? ⟨w.heap.size, 2, none⟩ = some (.slice a t.subs.length c) := L0.out.2.cell 2
  go_wp2_with fail
  refine (rEta_any t u _ wa _ (HMV.out wa L0.out)).mono ?_
  intro e w1 hp
  obtain ⟨k1, x1, a1, m1, n1, rfl, hb1, hA1⟩ := hp.box
  have BQ1 : Hid (Below w1.heap.size w1 (w1.alloc (.cells #[.int .i64 k1, .int .i64 x1, .slice a1 m1 n1] 27))) := (Below.refl _ _).alloc (Nat.le_refl _) _
  have L1 := hide ((L0.out.later hb1).later BQ1.out)
  have B1 := hide (hb1.trans (BQ1.out.mono hb1.size))
  have C1 := hide hA1
  have d0 := L1.out.2.cell 0
  have d1 := L1.out.2.cell 1
  have d2 := L1.out.2.cell 2
  simp only [List.getElem?_toArray, List.getElem?_cons_succ, List.getElem?_cons_zero] at d0 d1 d2
  clear c0 c1 c2 hb1 hA1 hp BQ1
  go_wp2_with fail
  generalize (w1.alloc (.cells #[.int .i64 k1, .int .i64 x1, .slice a1 m1 n1] 27)) = w2 at *
  obtain ⟨P1, eP1⟩ : ∃ P1, P1 = w1.heap.size := ⟨_, rfl⟩
  rw [← eP1] at C1
  simp only [← eP1]
  clear eP1
  refine (rDevelop_any t u _ w2 _ (HMV.out w2 L1.out)).mono ?_
  intro e w3 hp
  obtain ⟨k3, x3, a3, m3, n3, rfl, hb3, hA3⟩ := hp.box
  have BQ3 : Hid (Below w3.heap.size w3 (w3.alloc (.cells #[.int .i64 k3, .int .i64 x3, .slice a3 m3 n3] 27))) := (Below.refl _ _).alloc (Nat.le_refl _) _
  have B23 := hide (hb3.trans (BQ3.out.mono hb3.size))
  have L3 := hide (L1.out.later B23.out)
  have C3 := hide hA3
  have f0 := L3.out.2.cell 0
  have f1 := L3.out.2.cell 1
  have f2 := L3.out.2.cell 2
  simp only [List.getElem?_toArray, List.getElem?_cons_succ, List.getElem?_cons_zero] at f0 f1 f2
  clear d0 d1 d2 hb3 hA3 hp BQ3
  go_wp2_with fail
  generalize (w3.alloc (.cells #[.int .i64 k3, .int .i64 x3, .slice a3 m3 n3] 27)) = w4 at *
  obtain ⟨P3, eP3⟩ : ∃ P3, P3 = w3.heap.size := ⟨_, rfl⟩
  rw [← eP3] at C3
  simp only [← eP3]
  clear eP3
  have B14 := hide (B1.out.trans (B23.out.mono B1.out.size))
  refine (rSteps_any t u _ w4 _ (HMV.out w4 L3.out)).mono ?_
  rintro e w5 ⟨hb5, hst⟩
  have B15 := hide (B14.out.trans (hb5.mono B14.out.size))
  have L5 := hide (L3.out.later hb5)
  have D1 := hide ((C1.out.later B23.out).later hb5)
  have D2 := hide (A1.out.later B15.out)
  have D3 := hide (C3.out.later hb5)
  have D4 := hide (A2.out.later B15.out)
  obtain ⟨p1, p2, p3, p4, p5, p6, p7, p8, p9, p10, hBP1, hBP, hCall1⟩ := lam2_pair D1.out D2.out
  obtain ⟨q1, q2, q3, q4, q5, q6, q7, q8, q9, q10, hBP3, hBQ, hCall2⟩ := lam2_pair D3.out D4.out
  have i0 : w5.cell? ⟨P1, 0, none⟩ = some (.int .i64 p1) := hBP1.cell 0
  have i1 : w5.cell? ⟨P1, 1, none⟩ = some (.int .i64 p2) := hBP1.cell 1
  have i2 : w5.cell? ⟨P1, 2, none⟩ = some (.slice p3 p4 p5) := hBP1.cell 2
  have j0 : w5.cell? ⟨P, 0, none⟩ = some (.int .i64 p6) := hBP.cell 0
  have j1 : w5.cell? ⟨P, 1, none⟩ = some (.int .i64 p7) := hBP.cell 1
  have j2 : w5.cell? ⟨P, 2, none⟩ = some (.slice p8 p9 p10) := hBP.cell 2
  have HB3 := hide hBP3
  have HBQ := hide hBQ
  have HC1 := hide (hCall1 w5 (Below.refl _ _))
  have HC2 := hide hCall2
  have S5 := hide (S1.out.later B15.out)
  have HST := hide hst
  clear f0 f1 f2 hst hBP1 hBP hBP3 hBQ hCall1 hCall2 hb5
  have hform : Hid (∃ av nv cv, e = .returned (.tuple #[.slice av nv cv, .int .i64 (stE t u)]) ∧ ((stE t u = 0 ∧ nv = (stsT 2001 t).length ∧ SlM w5 (fun _ => True) av (stsT 2001 t)) ∨ (stE t u ≠ 0 ∧ nv = 0))) := by
    rcases HST.out with ⟨h0, av, cv, rfl, hs⟩ | ⟨h0, rfl⟩
    · exact ⟨av, _, cv, by rw [h0], Or.inl ⟨h0, rfl, hs.mono fun _ _ _ => trivial⟩⟩
    · exact ⟨none, 0, 0, rfl, Or.inr ⟨h0, rfl⟩⟩
  obtain ⟨av, nv, cv, rfl, hsv⟩ := hform.out
  have HSV := hide hsv
  clear hsv hform HST
  obtain ⟨sE, hsE⟩ : ∃ sE, sE = stE t u := ⟨_, rfl⟩
  rw [← hsE] at HSV E1
  simp only [← hsE]
  clear hsE
  go_wp2_with fail
  refine HC1.out.mono ?_
  rintro e w6 ⟨rfl, hb6⟩
  have K3 := hide (HB3.out.below hb6 HB3.out.lt)
  have KQ := hide (HBQ.out.below hb6 HBQ.out.lt)
  have g0 : w6.cell? ⟨P3, 0, none⟩ = some (.int .i64 q1) := K3.out.cell 0
  have g1 : w6.cell? ⟨P3, 1, none⟩ = some (.int .i64 q2) := K3.out.cell 1
  have g2 : w6.cell? ⟨P3, 2, none⟩ = some (.slice q3 q4 q5) := K3.out.cell 2
  have h0 : w6.cell? ⟨Q, 0, none⟩ = some (.int .i64 q6) := KQ.out.cell 0
  have h1 : w6.cell? ⟨Q, 1, none⟩ = some (.int .i64 q7) := KQ.out.cell 1
  have h2 : w6.cell? ⟨Q, 2, none⟩ = some (.slice q8 q9 q10) := KQ.out.cell 2
  have L6 := hide (L5.out.later hb6)
  have HC3 := hide (HC2.out w6 hb6)
  have S6 := hide (S5.out.later hb6)
  have V6 : Hid (sE = 0 → SlM w6 (fun _ => True) av (stsT 2001 t)) := fun h => by
    rcases HSV.out with ⟨_, _, hs⟩ | ⟨h', _⟩
    · exact hs.later hb6
    · exact absurd h h'
  clear i0 i1 i2 j0 j1 j2 hb6
  go_wp2_with fail
  refine HC3.out.mono ?_
  rintro e w7 ⟨rfl, hb7⟩
  have L7 := hide (L6.out.later hb7)
  have S7 := hide (S6.out.later hb7)
  have V7 : Hid (sE = 0 → SlM w7 (fun _ => True) av (stsT 2001 t)) := fun h => (V6.out h).later hb7
  clear g0 g1 g2 h0 h1 h2 hb7
  by_cases hs0 : sE = 0
  case neg =>
    have hne : (sE == 0) = false := beq_eq_false_iff_ne.2 hs0
    have hnv : nv = 0 := by
      rcases HSV.out with ⟨h, _⟩ | ⟨_, h⟩
      · exact absurd h hs0
      · exact h
    subst hnv
    clear hs0
    go_wp2_with fail
    go_ret
    exact ⟨rfl, L7.out.1⟩
  case pos =>
    subst hs0
    have hl := E1.out rfl
    have VL := V7.out rfl
    rw [← hl] at VL
    have hnv : nv = l.length := by
      rcases HSV.out with ⟨_, h, _⟩ | ⟨h, _⟩
      · rw [h, hl]
      · exact absurd rfl h
    subst hnv
    have HVL := hide VL
    clear hl VL V7 V6 HSV E1
    go_wp2_with fail
    go_loopw [32] (fun i wr => ∃ j : Nat, j ≤ l.length ∧ i = .int .i64 (j : Int) ∧ Below w7.heap.size w7 wr) (fun i wr => l.length - (intOf i).toNat)
    case atStart => exact ⟨0, Nat.zero_le _, rfl, Below.refl _ _⟩
    case round =>
      obtain ⟨j, hj, rfl, hbr⟩ := hrel
      have HBR := hide hbr
      have hzr := hbr.size
      clear hbr
      by_cases hlt : j < l.length
      · obtain ⟨b1, o1, y1, z1, hae1, e0, e1, e2, hm1⟩ := (HVL.out.later HBR.out).get (Below.refl wr.heap.size wr) (fun _ _ h => h) j hlt
        obtain ⟨b2, o2, y2, z2, hae2, g0, g1, g2, hm2⟩ := (S7.out.later HBR.out).get (Below.refl wr.heap.size wr) (fun _ _ h => h) j hlt
        subst hae1
        subst hae2
        have hlti : (j : Int) < (l.length : Int) := by omega
        have hb1l := cell_ltM e0
        have hb2l := cell_ltM g0
        have HS0 : Hid (wr.cell? ⟨b1, o1 + j * 3, none⟩ = some (.int .i64 l[j].kind) ∧ wr.cell? ⟨b1, o1 + j * 3 + 1, none⟩ = some (.int .i64 l[j].idx) ∧ wr.cell? ⟨b1, o1 + j * 3 + 2, none⟩ = some (.slice y1 l[j].subs.length z1) ∧ wr.cell? ⟨b2, o2 + j * 3, none⟩ = some (.int .i64 l[j].kind) ∧ wr.cell? ⟨b2, o2 + j * 3 + 1, none⟩ = some (.int .i64 l[j].idx) ∧ wr.cell? ⟨b2, o2 + j * 3 + 2, none⟩ = some (.slice y2 l[j].subs.length z2)) := ⟨e0, e1, e2, g0, g1, g2⟩
        have KP : Hid (∀ w', Below wr.heap.size wr w' → w'.cell? ⟨b1, o1 + j * 3, none⟩ = some (.int .i64 l[j].kind) ∧ w'.cell? ⟨b1, o1 + j * 3 + 1, none⟩ = some (.int .i64 l[j].idx) ∧ w'.cell? ⟨b1, o1 + j * 3 + 2, none⟩ = some (.slice y1 l[j].subs.length z1) ∧ w'.cell? ⟨b2, o2 + j * 3, none⟩ = some (.int .i64 l[j].kind) ∧ w'.cell? ⟨b2, o2 + j * 3 + 1, none⟩ = some (.int .i64 l[j].idx) ∧ w'.cell? ⟨b2, o2 + j * 3 + 2, none⟩ = some (.slice y2 l[j].subs.length z2)) := fun w' hb => by
          have hh := HS0.out
          exact ⟨(hb.cell (p := ⟨b1, o1 + j * 3, none⟩) hb1l).trans hh.1, (hb.cell (p := ⟨b1, o1 + j * 3 + 1, none⟩) hb1l).trans hh.2.1, (hb.cell (p := ⟨b1, o1 + j * 3 + 2, none⟩) hb1l).trans hh.2.2.1, (hb.cell (p := ⟨b2, o2 + j * 3, none⟩) hb2l).trans hh.2.2.2.1, (hb.cell (p := ⟨b2, o2 + j * 3 + 1, none⟩) hb2l).trans hh.2.2.2.2.1, (hb.cell (p := ⟨b2, o2 + j * 3 + 2, none⟩) hb2l).trans hh.2.2.2.2.2⟩
        have HD : Hid (Below wr.heap.size wr wr.drew) := (Below.refl _ _).drew
        have SM : Hid (∀ w', Below wr.heap.size wr w' → Calls Try.prog 20 #[.agg #[.int .i64 l[j].kind, .int .i64 l[j].idx, .slice y1 l[j].subs.length z1], .agg #[.int .i64 l[j].kind, .int .i64 l[j].idx, .slice y2 l[j].subs.length z2]] w' fun e w'' => e = .returned (.bool true) ∧ Below wr.heap.size wr w'') := fun w' hb => (sameM_any l[j] _ _ w' _ _ (hm1.later hb) (hm2.later hb)).mono fun e w'' ⟨h1, h2⟩ => ⟨h1, hb.trans (h2.mono hb.size)⟩
        clear e0 e1 e2 g0 g1 g2 hm1 hm2
        go_upto_region 50 with fail
        go_region_held3 (fun w' => w'.cell? ⟨b1, o1 + j * 3, none⟩ = some (.int .i64 l[j].kind) ∧ w'.cell? ⟨b1, o1 + j * 3 + 1, none⟩ = some (.int .i64 l[j].idx) ∧ w'.cell? ⟨b1, o1 + j * 3 + 2, none⟩ = some (.slice y1 l[j].subs.length z1) ∧ w'.cell? ⟨b2, o2 + j * 3, none⟩ = some (.int .i64 l[j].kind) ∧ w'.cell? ⟨b2, o2 + j * 3 + 1, none⟩ = some (.int .i64 l[j].idx) ∧ w'.cell? ⟨b2, o2 + j * 3 + 2, none⟩ = some (.slice y2 l[j].subs.length z2)) (first | exact hS | exact HS0.out | go_keep)
          (first | (go_at_call 20; refine (SM.out _ (by first | exact HD.out | exact Below.refl _ _)).mono ?_; rintro e w9 ⟨rfl, hb9⟩; have hS := KP.out _ hb9))
        all_goals
          have HB9 := hide (HBR.out.trans (hb9.mono hzr))
          clear hS hb9
        all_goals go_wp2_with fail
        all_goals go_roundw
        case rel => exact ⟨j + 1, by omega, by go_num, HB9.out⟩
        case measure => simp [intOf]; omega
      · have hge : ¬ ((j : Int) < (l.length : Int)) := by omega
        go_wp2_with fail
        go_ret
        exact ⟨rfl, (L7.out.later HBR.out).1⟩
#print axioms reduceF
end Go.Proofs.Ytoakclalhfngpaa

/- The law ReduceSays: eta, development, steps of the document. -/
namespace Go.Proofs.Ytoakclalhfngpaa
open Go.RowKit Go.Shelf
set_option linter.unusedSimpArgs false
set_option linter.unusedVariables false
set_option maxRecDepth 8000

noncomputable def tailRsE : Code := seqFrom 21 ((Try.f5.body).getD .skip)
open Classical in
/-- What the loop has found so far. -/
noncomputable def sofar (l : List Lm) (j : Nat) : Int := if ∃ y ∈ l.take j, 2000 < sizeM [y] then 8 else 0
theorem sofar_zero (l : List Lm) : sofar l 0 = 0 := by unfold sofar; rw [if_neg]; simp
theorem sofar_big {l : List Lm} {j : Nat} (h : j < l.length) (hb : 2000 < sizeM [l[j]]) : sofar l (j + 1) = 8 := by
  unfold sofar
  rw [if_pos]
  refine ⟨l[j], ?_, hb⟩
  have e := List.take_succ_eq_append_getElem h
  rw [e]
  exact List.mem_append_right _ (List.mem_singleton.2 rfl)
theorem sofar_small {l : List Lm} {j : Nat} (h : j < l.length) (hb : ¬ 2000 < sizeM [l[j]]) : sofar l (j + 1) = sofar l j := by
  unfold sofar
  have e : (∃ y ∈ l.take (j + 1), 2000 < sizeM [y]) ↔ ∃ y ∈ l.take j, 2000 < sizeM [y] := by
    rw [List.take_succ_eq_append_getElem h]
    constructor
    · rintro ⟨y, hy, h2⟩
      rcases List.mem_append.1 hy with hy | hy
      · exact ⟨y, hy, h2⟩
      · simp at hy; subst hy; exact absurd h2 hb
    · rintro ⟨y, hy, h2⟩
      exact ⟨y, List.mem_append_left _ hy, h2⟩
  simp only [e]
theorem sofar_end {t : Lm} {u : Int} (h : lamE u 0 t = 0) {j : Nat} (hj : (stsT 2001 t).length ≤ j) : sofar (stsT 2001 t) j = stE t u := by
  unfold sofar stE
  rw [if_pos h, List.take_of_length_le hj]
  have e : (∃ y ∈ stsT 2001 t, 2000 < sizeM [y]) ↔ ∃ p ∈ hndT 2001 t, badH p := by
    unfold stsT badH
    constructor
    · rintro ⟨y, hy, h2⟩
      obtain ⟨p, hp, rfl⟩ := List.mem_map.1 hy
      exact ⟨p, hp, h2⟩
    · rintro ⟨p, hp, h2⟩
      exact ⟨_, List.mem_map.2 ⟨p, hp, rfl⟩, h2⟩
  by_cases hb : ∃ y ∈ stsT 2001 t, 2000 < sizeM [y]
  · rw [if_pos hb, if_pos (e.1 hb)]
  · rw [if_neg hb, if_neg (fun h => hb (e.2 h))]
set_option maxHeartbeats 20000000 in
theorem reduceE (t : Lm) (a : Option Addr) (c : Nat) (u z : Int) (w wa : World) (X0 : Nat → Prop) (HMV : Hid (∀ W, LT t a c w W → MV W (fun b => X0 b ∧ b < w.heap.size) (.agg #[.int .i64 t.kind, .int .i64 t.idx, .slice a t.subs.length c]) t)) (L0 : Hid (LT t a c w wa))
    {s4 s5 s6 s8 s9 s10 s11 s12 s13 s14 s15 s16 s17 s18 s19 s20 s21 s22 s23 s24 s25 s26 s27 s28 s29 s30 s31 s32 s33 s34 s35 s36 s37 s38 s39 s40 s41 s42 s43 s44 s45 s46 s47 s48 s49 s50 s51 s52 s53 s54 s55 s56 s57 s58 s59 s60 s61 s62 s63 s64 s65 s66 s67 s68 s69 s70 s71 s72 s73 s74 s75 s76 s77 s78 s79 s80 s81 s82 s83 s84 s85 s86 s87 s88 s89 s90 s91 s92 s93 s94 s95 s96 s97 s98 s99 s100 s101 s102 s103 s104 s105 s106 s107 s108 s109 s110 s111 s112 s113 s114 s115 s116 s117 s118 s119 s120 s121 s122 s123 s124 s125 s126 s127 s128 s129 s130 s131 s132 s133 s134 s135 s136 s137 s138 s139 s140 s141 s142 s143 s144 s145 s146 s147 s148 s149 s150 s151 s152 s153 s154 s155 s156 s157 s158 s159 s160 s161 s162 s163 s164 s165 s166 s167 s168 s169 s170 s171 s172 s173 s174 s175 s176 s177 s178 s179 s180 s181 s182 s183 s184 s185 s186 s187 s188 s189 s190 s191 s192 s193 s194 s195 s196 s197 s198 s199 s200 s201 s202 s203 s204 s205 s206 s207 s208 s209 s210 s211 s212 s213 s214 s215 : Value} :
    Code.wp Try.prog tailRsE (bodyPost Try.prog Try.f5 fun e w' => e = .returned (.bool true) ∧ Below w.heap.size w w') ⟨List.toArray ((.agg #[.int .i64 t.kind, .int .i64 t.idx, .slice a t.subs.length c]) :: .int .i64 u :: .int .i64 z :: .pointer (some ⟨w.heap.size, 0, none⟩) :: s4 :: s5 :: s6 :: .int .i64 (lamE u 0 t) :: s8 :: s9 :: s10 :: s11 :: s12 :: s13 :: s14 :: s15 :: s16 :: s17 :: s18 :: s19 :: s20 :: s21 :: s22 :: s23 :: s24 :: s25 :: s26 :: s27 :: s28 :: s29 :: s30 :: s31 :: s32 :: s33 :: s34 :: s35 :: s36 :: s37 :: s38 :: s39 :: s40 :: s41 :: s42 :: s43 :: s44 :: s45 :: s46 :: s47 :: s48 :: s49 :: s50 :: s51 :: s52 :: s53 :: s54 :: s55 :: s56 :: s57 :: s58 :: s59 :: s60 :: s61 :: s62 :: s63 :: s64 :: s65 :: s66 :: s67 :: s68 :: s69 :: s70 :: s71 :: s72 :: s73 :: s74 :: s75 :: s76 :: s77 :: s78 :: s79 :: s80 :: s81 :: s82 :: s83 :: s84 :: s85 :: s86 :: s87 :: s88 :: s89 :: s90 :: s91 :: s92 :: s93 :: s94 :: s95 :: s96 :: s97 :: s98 :: s99 :: s100 :: s101 :: s102 :: s103 :: s104 :: s105 :: s106 :: s107 :: s108 :: s109 :: s110 :: s111 :: s112 :: s113 :: s114 :: s115 :: s116 :: s117 :: s118 :: s119 :: s120 :: s121 :: s122 :: s123 :: s124 :: s125 :: s126 :: s127 :: s128 :: s129 :: s130 :: s131 :: s132 :: s133 :: s134 :: s135 :: s136 :: s137 :: s138 :: s139 :: s140 :: s141 :: s142 :: s143 :: s144 :: s145 :: s146 :: s147 :: s148 :: s149 :: s150 :: s151 :: s152 :: s153 :: s154 :: s155 :: s156 :: s157 :: s158 :: s159 :: s160 :: s161 :: s162 :: s163 :: s164 :: s165 :: s166 :: s167 :: s168 :: s169 :: s170 :: s171 :: s172 :: s173 :: s174 :: s175 :: s176 :: s177 :: s178 :: s179 :: s180 :: s181 :: s182 :: s183 :: s184 :: s185 :: s186 :: s187 :: s188 :: s189 :: s190 :: s191 :: s192 :: s193 :: s194 :: s195 :: s196 :: s197 :: s198 :: s199 :: s200 :: s201 :: s202 :: s203 :: s204 :: s205 :: s206 :: s207 :: s208 :: s209 :: s210 :: s211 :: s212 :: s213 :: s214 :: s215 :: []), []⟩ wa := by
  conv => arg 2; whnf
  go_upto_if 128 with fail
  have hLw := L0.out.lt
  have BZ : Hid (Below wa.heap.size wa ((wa.alloc (.cells #[.int .i64 0, .int .i64 0, .slice none 0 0] 27)).alloc (.cells #[.int .i64 0, .int .i64 0, .slice none 0 0] 27))) := below2M _ _
  have K10 : Hid (Blk ((wa.alloc (.cells #[.int .i64 0, .int .i64 0, .slice none 0 0] 27)).alloc (.cells #[.int .i64 0, .int .i64 0, .slice none 0 0] 27)) wa.heap.size #[.int .i64 0, .int .i64 0, .slice none 0 0] 27) := (Blk.new wa _ _).alloc _
  have K11 : Hid (Blk ((wa.alloc (.cells #[.int .i64 0, .int .i64 0, .slice none 0 0] 27)).alloc (.cells #[.int .i64 0, .int .i64 0, .slice none 0 0] 27)) (wa.heap.size + 1) #[.int .i64 0, .int .i64 0, .slice none 0 0] 27) := by
    have h := Blk.new (wa.alloc (.cells #[.int .i64 0, .int .i64 0, .slice none 0 0] 27)) #[.int .i64 0, .int .i64 0, .slice none 0 0] 27
    unfold Hid
    simpa using h
  have hzZ : ((wa.alloc (.cells #[.int .i64 0, .int .i64 0, .slice none 0 0] 27)).alloc (.cells #[.int .i64 0, .int .i64 0, .slice none 0 0] 27)).heap.size = wa.heap.size + 2 := by simp
  have L6 := hide (L0.out.later BZ.out)
  generalize ((wa.alloc (.cells #[.int .i64 0, .int .i64 0, .slice none 0 0] 27)).alloc (.cells #[.int .i64 0, .int .i64 0, .slice none 0 0] 27)) = wz at *
  obtain ⟨P, eP⟩ : ∃ P, P = wa.heap.size := ⟨_, rfl⟩
  rw [← eP] at K10 K11
  simp only [← eP]
  have hPw : w.heap.size < P := by omega
  have hPz : wz.heap.size = P + 2 := by omega
  have HPz := hide hPz
  clear eP hzZ BZ L0 hPz hLw
  go_cut [20, 21, 24] (fun o20 o21 o24 we => o20 = .int .i64 (dvE t u) ∧ o21 = .int .i64 (stE t u) ∧ ∃ (l : List Lm) (ad : Option Addr) (cs : Nat), o24 = .slice ad l.length cs ∧ LT t a c w we ∧ AnsD we P (lamE u 0 t) (etaT t) ∧ AnsD we (P + 1) (dvE t u) (dvY t) ∧ SlM we (fun _ => True) ad l ∧ (stE t u = 0 → l = stsT 2001 t) ∧ l.length ≤ 4000)
  case first =>
    by_cases hE : lamE u 0 t = 0
    case neg =>
      have hne : (lamE u 0 t == 0) = false := beq_eq_false_iff_ne.2 hE
      have HDE : Hid (dvE t u = lamE u 0 t) := by unfold Hid dvE; rw [if_neg hE]
      have HSE : Hid (stE t u = lamE u 0 t) := by unfold Hid stE; rw [if_neg hE]
      have HE := hide hE
      clear hE
      go_wp2_with fail
      go_meet
      exact ⟨by rw [HDE.out], by rw [HSE.out], [], none, 0, rfl, L6.out, Or.inr ⟨HE.out, _, _, _, _, _, K10.out⟩, Or.inr ⟨by rw [HDE.out]; exact HE.out, _, _, _, _, _, K11.out⟩, ⟨by simp, Or.inl rfl⟩, fun h => absurd (by rw [← HSE.out]; exact h) HE.out, by simp⟩
    case pos =>
      have hle := lamE_ok hE
      have hne : (lamE u 0 t == 0) = true := beq_iff_eq.2 hE
      have HE := hide hE
      have CE := hide (fun W (hW : LT t a c w W) => etaOf_any t _ W _ (HMV.out W hW) (by omega) (bnd_of_err _ _ _ hle.1.1 (by omega) (by omega) hle.2.1) (sh_of_err _ _ _ hle.2.1))
      have CD := hide (fun W (hW : LT t a c w W) => developOf_at 2001 t u (by omega) hle.1.1 (by omega) hle.2.1 _ W _ (HMV.out W hW))
      have CS := hide (fun W (hW : LT t a c w W) => lamSteps_at 2001 t u (by omega) ⟨hle.1.1, by omega, hle.2.1, by omega⟩ _ W _ (HMV.out W hW))
      have HLS : Hid ((stsT 2001 t).length ≤ 4000) := by
        have h1 := hnd_len 2001 t
        have h2 : (stsT 2001 t).length = (hndT 2001 t).length := by simp [stsT]
        unfold Hid
        omega
      clear hE hle
      have c0 : wz.cell? ⟨w.heap.size, 0, none⟩ = some (.int .i64 t.kind) := L6.out.2.cell 0
      have c1 : wz.cell? ⟨w.heap.size, 1, none⟩ = some (.int .i64 t.idx) := L6.out.2.cell 1
      have c2 : wz.cell? ⟨w.heap.size, 2, none⟩ = some (.slice a t.subs.length c) := L6.out.2.cell 2
      go_wp2_with fail
      refine (CE.out wz L6.out).mono ?_
      rintro e w5 ⟨a5, c5, rfl, hs5, hb5⟩
      have hz5 := hb5.size
      have hzz := HPz.out
      have L7 := hide (L6.out.later hb5)
      have K17 := hide (K10.out.below hb5 (by omega))
      have K27 := hide (K11.out.below hb5 (by omega))
      have AV1 : Hid (AnsV (((w5.setCell ⟨P, 0, none⟩ (.int .i64 (etaT t).kind)).setCell ⟨P, 1, none⟩ (.int .i64 (etaT t).idx)).setCell ⟨P, 2, none⟩ (.slice a5 (etaT t).subs.length c5)) P (lamE u 0 t) (etaT t) (fun b => b < w.heap.size ∨ P + 2 ≤ b)) := AnsV.put K17.out (by omega) (Or.inl ⟨HE.out, rfl, rfl, rfl, hs5.mono fun b hb _ => by omega⟩)
      have L8 := hide (L7.out.set3 (P := P) hPw (.int .i64 (etaT t).kind) (.int .i64 (etaT t).idx) (.slice a5 (etaT t).subs.length c5))
      have K28 := hide (blk_set3o K27.out (B := P) (by omega) (.int .i64 (etaT t).kind) (.int .i64 (etaT t).idx) (.slice a5 (etaT t).subs.length c5))
      have q0 : w5.cell? ⟨P, 0, none⟩ = some (.int .i64 0) := K17.out.cell 0
      have q1 : w5.cell? ⟨P, 1, none⟩ = some (.int .i64 0) := K17.out.cell 1
      have q2 : w5.cell? ⟨P, 2, none⟩ = some (.slice none 0 0) := K17.out.cell 2
      have qf := K17.out.frozen
      have HZ8 : Hid (P + 2 ≤ (((w5.setCell ⟨P, 0, none⟩ (.int .i64 (etaT t).kind)).setCell ⟨P, 1, none⟩ (.int .i64 (etaT t).idx)).setCell ⟨P, 2, none⟩ (.slice a5 (etaT t).subs.length c5)).heap.size) := by
        have hz8 : (((w5.setCell ⟨P, 0, none⟩ (.int .i64 (etaT t).kind)).setCell ⟨P, 1, none⟩ (.int .i64 (etaT t).idx)).setCell ⟨P, 2, none⟩ (.slice a5 (etaT t).subs.length c5)).heap.size = w5.heap.size := by simp [World.setCell]
        unfold Hid; omega
      have d0 := L8.out.2.cell 0
      have d1 := L8.out.2.cell 1
      have d2 := L8.out.2.cell 2
      simp only [List.getElem?_toArray, List.getElem?_cons_succ, List.getElem?_cons_zero] at d0 d1 d2
      clear c0 c1 c2 hb5 hs5 hz5 hzz
      go_wp2_with fail
      generalize (((w5.setCell ⟨P, 0, none⟩ (.int .i64 (etaT t).kind)).setCell ⟨P, 1, none⟩ (.int .i64 (etaT t).idx)).setCell ⟨P, 2, none⟩ (.slice a5 (etaT t).subs.length c5)) = w8 at *
      refine (CD.out w8 L8.out).mono ?_
      rintro e w9 ⟨hb9, hcase⟩
      have hform : Hid (∃ k9 x9 a9 m9 c9 ok, e = .returned (.tuple #[.agg #[.int .i64 k9, .int .i64 x9, .slice a9 m9 c9], .bool ok]) ∧ ((ok = true ∧ dvE t u = 0 ∧ k9 = (dvY t).kind ∧ x9 = (dvY t).idx ∧ m9 = (dvY t).subs.length ∧ SlM w9 (fun b => w8.heap.size ≤ b) a9 (dvY t).subs) ∨ (ok = false ∧ dvE t u = 8))) := by
        rcases hcase with ⟨t', a', c', hd, rfl, hs⟩ | ⟨hd, k', x', a', l', c', rfl⟩
        · have e1 : dvE t u = 0 := by unfold dvE; rw [if_pos HE.out, hd]; simp
          have e2 : dvY t = t' := by unfold dvY; rw [hd]; rfl
          exact ⟨_, _, a', _, c', true, rfl, Or.inl ⟨rfl, e1, by rw [e2], by rw [e2], by rw [e2], by rw [e2]; exact hs⟩⟩
        · have e1 : dvE t u = 8 := by unfold dvE; rw [if_pos HE.out, hd]; simp
          exact ⟨_, _, a', _, c', false, rfl, Or.inr ⟨rfl, e1⟩⟩
      obtain ⟨k9, x9, a9, m9, c9, ok, rfl, hfc⟩ := hform.out
      have HFC := hide hfc
      have hz9 := hb9.size
      have hzz := HZ8.out
      have BA : Hid (Below w9.heap.size w9 (w9.alloc (.cells #[.int .i64 k9, .int .i64 x9, .slice a9 m9 c9] 27))) := (Below.refl _ _).alloc (Nat.le_refl _) _
      have B9 := hide (hb9.trans (BA.out.mono hz9))
      have KA : Hid (Blk (w9.alloc (.cells #[.int .i64 k9, .int .i64 x9, .slice a9 m9 c9] 27)) w9.heap.size #[.int .i64 k9, .int .i64 x9, .slice a9 m9 c9] 27) := Blk.new _ _ _
      have L9 := hide (L8.out.later B9.out)
      have K29 := hide (K28.out.below B9.out (by omega))
      have AV2 := hide ((AV1.out.later B9.out).set3 (Q := P + 1) (by omega) (by omega) (.int .i64 k9) (.int .i64 x9) (.slice a9 m9 c9))
      have AV3 : Hid (AnsV ((((w9.alloc (.cells #[.int .i64 k9, .int .i64 x9, .slice a9 m9 c9] 27)).setCell ⟨P + 1, 0, none⟩ (.int .i64 k9)).setCell ⟨P + 1, 1, none⟩ (.int .i64 x9)).setCell ⟨P + 1, 2, none⟩ (.slice a9 m9 c9)) (P + 1) (dvE t u) (dvY t) (fun b => P + 2 ≤ b)) := AnsV.put K29.out (by omega) (by
        rcases HFC.out with ⟨_, h1, h2, h3, h4, h5⟩ | ⟨_, h1⟩
        · exact Or.inl ⟨h1, h2, h3, h4, (h5.mono fun b hb _ => by omega).later BA.out⟩
        · exact Or.inr (by rw [h1]; decide))
      have LA := hide (L9.out.set3 (P := P + 1) (by omega) (.int .i64 k9) (.int .i64 x9) (.slice a9 m9 c9))
      have y0 := KA.out.cell 0
      have y1 := KA.out.cell 1
      have y2 := KA.out.cell 2
      have r0 := K29.out.cell 0
      have r1 := K29.out.cell 1
      have r2 := K29.out.cell 2
      have rf := K29.out.frozen
      have g0 := LA.out.2.cell 0
      have g1 := LA.out.2.cell 1
      have g2 := LA.out.2.cell 2
      simp only [List.getElem?_toArray, List.getElem?_cons_succ, List.getElem?_cons_zero] at y0 y1 y2 r0 r1 r2 g0 g1 g2
      have HOKE : Hid ((ok = true → dvE t u = 0) ∧ (ok = false → dvE t u = 8)) := by
        rcases HFC.out with ⟨h0, h1, _⟩ | ⟨h0, h1⟩
        · exact ⟨fun _ => h1, (fun h => by rw [h0] at h; cases h)⟩
        · exact ⟨(fun h => by rw [h0] at h; cases h), fun _ => h1⟩
      clear d0 d1 d2 q0 q1 q2 qf hb9 hcase hform hfc hz9 hzz
      go_upto_if 138 with fail
      generalize ((((w9.alloc (.cells #[.int .i64 k9, .int .i64 x9, .slice a9 m9 c9] 27)).setCell ⟨P + 1, 0, none⟩ (.int .i64 k9)).setCell ⟨P + 1, 1, none⟩ (.int .i64 x9)).setCell ⟨P + 1, 2, none⟩ (.slice a9 m9 c9)) = wS at *
      go_cut [20] (fun o wd => o = .int .i64 (dvE t u) ∧ LT t a c w wd ∧ AnsD wd P (lamE u 0 t) (etaT t) ∧ AnsD wd (P + 1) (dvE t u) (dvY t))
      case first =>
        cases ok with
        | true =>
          have hd := HOKE.out.1 rfl
          have HD0 : Hid (dvE t u = lamE u 0 t) := by unfold Hid; rw [hd, HE.out]
          clear hd
          go_wp2_with fail
          go_meet
          exact ⟨by rw [HD0.out], LA.out, AV2.out.toD, AV3.out.toD⟩
        | false =>
          have HD0 := hide (HOKE.out.2 rfl)
          go_wp2_with fail
          go_meet
          exact ⟨by rw [HD0.out], LA.out, AV2.out.toD, AV3.out.toD⟩
      obtain ⟨rfl, hl, hA1, hA2⟩ := hcut
      have LB := hide hl
      have A1 := hide hA1
      have A2 := hide hA2
      clear hl hA1 hA2 y0 y1 y2 r0 r1 r2 rf g0 g1 g2
      have g0 : wc.cell? ⟨w.heap.size, 0, none⟩ = some (.int .i64 t.kind) := LB.out.2.cell 0
      have g1 : wc.cell? ⟨w.heap.size, 1, none⟩ = some (.int .i64 t.idx) := LB.out.2.cell 1
      have g2 : wc.cell? ⟨w.heap.size, 2, none⟩ = some (.slice a t.subs.length c) := LB.out.2.cell 2
      go_wp2_with fail
      refine (CS.out wc LB.out).mono ?_
      rintro e w6 ⟨a6, c6, rfl, hs6, hb6⟩
      have L6' := hide (LB.out.later hb6)
      have A16 := hide (A1.out.later hb6)
      have A26 := hide (A2.out.later hb6)
      have HSO : Hid (∀ j, (stsT 2001 t).length ≤ j → sofar (stsT 2001 t) j = stE t u) := fun j hj => sofar_end HE.out hj
      have HS6 : Hid (SlM w6 (fun _ => True) a6 (stsT 2001 t)) := hs6.mono fun _ _ _ => trivial
      obtain ⟨Ls, hLs⟩ : ∃ Ls, Ls = stsT 2001 t := ⟨_, rfl⟩
      rw [← hLs] at HSO HS6 HLS
      simp only [← hLs]
      have HLs := hide hLs
      have hlen4 := HLS.out
      clear g0 g1 g2 hs6 hb6 hLs
      go_wp2_with fail
      go_loopw [21, 27] (fun o21 i wr => ∃ j : Nat, j ≤ Ls.length ∧ i = .int .i64 (j : Int) ∧ o21 = .int .i64 (sofar Ls j) ∧ Below w6.heap.size w6 wr) (fun o21 i wr => Ls.length - (intOf i).toNat)
      case atStart => exact ⟨0, Nat.zero_le _, rfl, by rw [sofar_zero, HE.out], Below.refl _ _⟩
      case round =>
        obtain ⟨j, hj, rfl, rfl, hbr⟩ := hrel
        have HBR := hide hbr
        have hzr := hbr.size
        clear hbr
        by_cases hlt : j < Ls.length
        · obtain ⟨b1, o1, y1, z1, hae1, e0, e1, e2, hm1⟩ := (HS6.out.later HBR.out).get (Below.refl wr.heap.size wr) (fun _ _ h => h) j hlt
          subst hae1
          have hlti : (j : Int) < (Ls.length : Int) := by omega
          have HM1 := hide hm1
          clear hm1
          go_wp2_with fail
          refine (lamSize_any Ls[j] _ 2000 _ _ HM1.out (by omega) (by omega)).mono ?_
          rintro e w7 ⟨rfl, hb7⟩
          have HB7 := hide (HBR.out.trans (hb7.mono hzr))
          clear e0 e1 e2 hb7
          by_cases hbig : 2000 < sizeM [Ls[j]]
          · have hbi : decide (2000 < min (sizeM [Ls[j]] : Int) 2001) = true := decide_eq_true (by omega)
            have hbi2 : decide (min (sizeM [Ls[j]] : Int) (2000 + 1) > 2000) = true := decide_eq_true (by omega)
            have HSF := hide (sofar_big hlt hbig)
            clear hbig
            go_wp2_with fail
            go_roundw
            case rel => exact ⟨j + 1, by omega, by go_num, by rw [HSF.out], HB7.out⟩
            case measure => simp [intOf]; omega
          · have hbi : decide (2000 < min (sizeM [Ls[j]] : Int) 2001) = false := decide_eq_false (by omega)
            have hbi2 : decide (min (sizeM [Ls[j]] : Int) (2000 + 1) > 2000) = false := decide_eq_false (by omega)
            have HSF := hide (sofar_small hlt hbig)
            clear hbig
            go_wp2_with fail
            go_roundw
            case rel => exact ⟨j + 1, by omega, by go_num, by rw [HSF.out], HB7.out⟩
            case measure => simp [intOf]; omega
        · have hge : ¬ ((j : Int) < (Ls.length : Int)) := by omega
          have HSF := hide (HSO.out j (by omega))
          go_wp2_with fail
          go_meet
          exact ⟨rfl, by rw [HSF.out], Ls, a6, c6, rfl, L6'.out.later HBR.out, A16.out.later HBR.out, A26.out.later HBR.out, HS6.out.later HBR.out, fun _ => HLs.out, HLS.out⟩
  obtain ⟨rfl, rfl, l, ad, cs, rfl, hl, hA1, hA2, hS, hE1, hll⟩ := hcut
  have LF := hide hl
  have A1 := hide hA1
  have A2 := hide hA2
  have S1 := hide hS
  have E1 := hide hE1
  clear hl hA1 hA2 hS hE1
  go_step
  exact reduceF t a c u z w wc X0 HMV LF P (P + 1) l ad cs A1 A2 S1 E1 hll
#print axioms reduceE
end Go.Proofs.Ytoakclalhfngpaa

/- The law ReduceSays: both runs held side by side. -/
namespace Go.Proofs.Ytoakclalhfngpaa
open Go.RowKit Go.Shelf
set_option linter.unusedSimpArgs false
set_option linter.unusedVariables false
set_option maxRecDepth 8000

noncomputable def tailRsD : Code := seqFrom 17 ((Try.f5.body).getD .skip)
set_option maxHeartbeats 20000000 in
theorem reduceD (t : Lm) (a : Option Addr) (c : Nat) (u z : Int) (w wa : World) (X0 : Nat → Prop) (HMV : Hid (∀ W, LT t a c w W → MV W (fun b => X0 b ∧ b < w.heap.size) (.agg #[.int .i64 t.kind, .int .i64 t.idx, .slice a t.subs.length c]) t)) (L0 : Hid (LT t a c w wa)) (P : Nat) (A1 : Hid (AnsD wa P (rF false t u z) (rY false t z))) (A2 : Hid (AnsD wa (P + 1) (rF true t u z) (rY true t z)))
    {s4 s5 s6 s14 s15 s16 s17 s18 s19 s20 s21 s22 s23 s24 s25 s26 s27 s28 s29 s30 s31 s32 s33 s34 s35 s36 s37 s38 s39 s40 s41 s42 s43 s44 s45 s46 s47 s48 s49 s50 s51 s52 s53 s54 s55 s56 s57 s58 s59 s60 s61 s62 s63 s64 s65 s66 s67 s68 s69 s70 s71 s72 s73 s74 s75 s76 s77 s78 s79 s80 s81 s82 s83 s84 s85 s86 s87 s88 s89 s90 s91 s92 s93 s94 s95 s96 s97 s98 s99 s100 s101 s102 s103 s104 s105 s106 s107 s108 s109 s110 s111 s112 s113 s114 s115 s116 s117 s118 s119 s120 s121 s122 s123 s124 s125 s126 s127 s128 s129 s130 s131 s132 s133 s134 s135 s136 s137 s138 s139 s140 s141 s142 s143 s144 s145 s146 s147 s148 s149 s150 s151 s152 s153 s154 s155 s156 s157 s158 s159 s160 s161 s162 s163 s164 s165 s166 s167 s168 s169 s170 s171 s172 s173 s174 s175 s176 s177 s178 s179 s180 s181 s182 s183 s184 s185 s186 s187 s188 s189 s190 s191 s192 s193 s194 s195 s196 s197 s198 s199 s200 s201 s202 s203 s204 s205 s206 s207 s208 s209 s210 s211 s212 s213 s214 s215 : Value} :
    Code.wp Try.prog tailRsD (bodyPost Try.prog Try.f5 fun e w' => e = .returned (.bool true) ∧ Below w.heap.size w w') ⟨List.toArray ((.agg #[.int .i64 t.kind, .int .i64 t.idx, .slice a t.subs.length c]) :: .int .i64 u :: .int .i64 z :: .pointer (some ⟨w.heap.size, 0, none⟩) :: s4 :: s5 :: s6 :: .int .i64 (lamE u 0 t) :: .int .i64 (rF false t u z) :: .int .i64 (rF true t u z) :: .pointer (some ⟨P, 0, none⟩) :: .pointer (some ⟨P + 1, 0, none⟩) :: .int .i64 (rN false t u z) :: .int .i64 (rN true t u z) :: s14 :: s15 :: s16 :: s17 :: s18 :: s19 :: s20 :: s21 :: s22 :: s23 :: s24 :: s25 :: s26 :: s27 :: s28 :: s29 :: s30 :: s31 :: s32 :: s33 :: s34 :: s35 :: s36 :: s37 :: s38 :: s39 :: s40 :: s41 :: s42 :: s43 :: s44 :: s45 :: s46 :: s47 :: s48 :: s49 :: s50 :: s51 :: s52 :: s53 :: s54 :: s55 :: s56 :: s57 :: s58 :: s59 :: s60 :: s61 :: s62 :: s63 :: s64 :: s65 :: s66 :: s67 :: s68 :: s69 :: s70 :: s71 :: s72 :: s73 :: s74 :: s75 :: s76 :: s77 :: s78 :: s79 :: s80 :: s81 :: s82 :: s83 :: s84 :: s85 :: s86 :: s87 :: s88 :: s89 :: s90 :: s91 :: s92 :: s93 :: s94 :: s95 :: s96 :: s97 :: s98 :: s99 :: s100 :: s101 :: s102 :: s103 :: s104 :: s105 :: s106 :: s107 :: s108 :: s109 :: s110 :: s111 :: s112 :: s113 :: s114 :: s115 :: s116 :: s117 :: s118 :: s119 :: s120 :: s121 :: s122 :: s123 :: s124 :: s125 :: s126 :: s127 :: s128 :: s129 :: s130 :: s131 :: s132 :: s133 :: s134 :: s135 :: s136 :: s137 :: s138 :: s139 :: s140 :: s141 :: s142 :: s143 :: s144 :: s145 :: s146 :: s147 :: s148 :: s149 :: s150 :: s151 :: s152 :: s153 :: s154 :: s155 :: s156 :: s157 :: s158 :: s159 :: s160 :: s161 :: s162 :: s163 :: s164 :: s165 :: s166 :: s167 :: s168 :: s169 :: s170 :: s171 :: s172 :: s173 :: s174 :: s175 :: s176 :: s177 :: s178 :: s179 :: s180 :: s181 :: s182 :: s183 :: s184 :: s185 :: s186 :: s187 :: s188 :: s189 :: s190 :: s191 :: s192 :: s193 :: s194 :: s195 :: s196 :: s197 :: s198 :: s199 :: s200 :: s201 :: s202 :: s203 :: s204 :: s205 :: s206 :: s207 :: s208 :: s209 :: s210 :: s211 :: s212 :: s213 :: s214 :: s215 :: []), []⟩ wa := by
  conv => arg 2; whnf
  have c0 : wa.cell? ⟨w.heap.size, 0, none⟩ = some (.int .i64 t.kind) := L0.out.2.cell 0
  have c1 : wa.cell? ⟨w.heap.size, 1, none⟩ = some (.int .i64 t.idx) := L0.out.2.cell 1
  have c2 : wa.cell? ⟨w.heap.size, 2, none⟩ = some (.slice a t.subs.length c) := L0.out.2.cell 2
  go_wp2_with fail
  refine (normal_any t u z _ wa _ (HMV.out wa L0.out)).mono ?_
  intro e w1 hp
  obtain ⟨k1, x1, a1, m1, n1, rfl, hb1, hA1⟩ := hp.box
  have BQ1 : Hid (Below w1.heap.size w1 (w1.alloc (.cells #[.int .i64 k1, .int .i64 x1, .slice a1 m1 n1] 27))) := (Below.refl _ _).alloc (Nat.le_refl _) _
  have L1 := hide ((L0.out.later hb1).later BQ1.out)
  have B1 := hide (hb1.trans (BQ1.out.mono hb1.size))
  have C1 := hide hA1
  have d0 := L1.out.2.cell 0
  have d1 := L1.out.2.cell 1
  have d2 := L1.out.2.cell 2
  simp only [List.getElem?_toArray, List.getElem?_cons_succ, List.getElem?_cons_zero] at d0 d1 d2
  clear c0 c1 c2 hb1 hA1 hp BQ1
  go_wp2_with fail
  generalize (w1.alloc (.cells #[.int .i64 k1, .int .i64 x1, .slice a1 m1 n1] 27)) = w2 at *
  obtain ⟨P1, eP1⟩ : ∃ P1, P1 = w1.heap.size := ⟨_, rfl⟩
  rw [← eP1] at C1
  simp only [← eP1]
  clear eP1
  refine (strict_any t u z _ w2 _ (HMV.out w2 L1.out)).mono ?_
  intro e w3 hp
  obtain ⟨k3, x3, a3, m3, n3, rfl, hb3, hA3⟩ := hp.box
  have BQ3 : Hid (Below w3.heap.size w3 (w3.alloc (.cells #[.int .i64 k3, .int .i64 x3, .slice a3 m3 n3] 27))) := (Below.refl _ _).alloc (Nat.le_refl _) _
  have B23 := hide (hb3.trans (BQ3.out.mono hb3.size))
  have L3 := hide (L1.out.later B23.out)
  have C3 := hide hA3
  have B14 := hide (B1.out.trans (B23.out.mono B1.out.size))
  have D1 := hide (C1.out.later B23.out)
  have D2 := hide (A1.out.later B14.out)
  have D4 := hide (A2.out.later B14.out)
  obtain ⟨p1, p2, p3, p4, p5, p6, p7, p8, p9, p10, hBP1, hBP, hCall1⟩ := lam2_pair D1.out D2.out
  obtain ⟨q1, q2, q3, q4, q5, q6, q7, q8, q9, q10, hBP3, hBQ, hCall2⟩ := lam2_pair C3.out D4.out
  have i0 := hBP1.cell 0
  have i1 := hBP1.cell 1
  have i2 := hBP1.cell 2
  have j0 := hBP.cell 0
  have j1 := hBP.cell 1
  have j2 := hBP.cell 2
  simp only [List.getElem?_toArray, List.getElem?_cons_succ, List.getElem?_cons_zero] at i0 i1 i2 j0 j1 j2
  have HB3 := hide hBP3
  have HBQ := hide hBQ
  have HC1 := hide (hCall1 _ (Below.refl _ _))
  have HC2 := hide hCall2
  obtain ⟨n1', hn1⟩ : ∃ n, n = rN false t u z := ⟨_, rfl⟩
  obtain ⟨n2', hn2⟩ : ∃ n, n = rN true t u z := ⟨_, rfl⟩
  obtain ⟨f1', hf1⟩ : ∃ n, n = rF false t u z := ⟨_, rfl⟩
  obtain ⟨f2', hf2⟩ : ∃ n, n = rF true t u z := ⟨_, rfl⟩
  rw [← hf1] at HC1
  rw [← hf2] at HC2
  simp only [← hn1, ← hn2, ← hf1, ← hf2]
  clear d0 d1 d2 hb3 hA3 hp BQ3 hBP1 hBP hBP3 hBQ hCall1 hCall2 hn1 hn2 hf1 hf2
  go_wp2_with fail
  generalize (w3.alloc (.cells #[.int .i64 k3, .int .i64 x3, .slice a3 m3 n3] 27)) = w4 at *
  obtain ⟨P3, eP3⟩ : ∃ P3, P3 = w3.heap.size := ⟨_, rfl⟩
  rw [← eP3] at HB3
  simp only [← eP3]
  clear eP3
  refine HC1.out.mono ?_
  rintro e w6 ⟨rfl, hb6⟩
  have K3 := hide (HB3.out.below hb6 HB3.out.lt)
  have KQ := hide (HBQ.out.below hb6 HBQ.out.lt)
  have g0 : w6.cell? ⟨P3, 0, none⟩ = some (.int .i64 q1) := K3.out.cell 0
  have g1 : w6.cell? ⟨P3, 1, none⟩ = some (.int .i64 q2) := K3.out.cell 1
  have g2 : w6.cell? ⟨P3, 2, none⟩ = some (.slice q3 q4 q5) := K3.out.cell 2
  have h0 : w6.cell? ⟨P + 1, 0, none⟩ = some (.int .i64 q6) := KQ.out.cell 0
  have h1 : w6.cell? ⟨P + 1, 1, none⟩ = some (.int .i64 q7) := KQ.out.cell 1
  have h2 : w6.cell? ⟨P + 1, 2, none⟩ = some (.slice q8 q9 q10) := KQ.out.cell 2
  have L6 := hide (L3.out.later hb6)
  have HC3 := hide (HC2.out w6 hb6)
  clear i0 i1 i2 j0 j1 j2 hb6
  go_wp2_with fail
  refine HC3.out.mono ?_
  rintro e w7 ⟨rfl, hb7⟩
  have L7 := hide (L6.out.later hb7)
  clear g0 g1 g2 h0 h1 h2 hb7
  go_upto_if 122 with fail
  go_cut [] (fun wd => LT t a c w wd)
  case first =>
    go_wp2_with fail
    go_meet
    exact L7.out
  have L8 := hide hcut
  clear hcut
  go_step
  exact reduceE t a c u z w wc X0 HMV L8
#print axioms reduceD
end Go.Proofs.Ytoakclalhfngpaa

/- Walks: the document's steps, to the end. -/
namespace Go.Proofs.Ytoakclalhfngpaa
open Go.RowKit
set_option linter.unusedSimpArgs false
set_option linter.unusedVariables false
set_option maxRecDepth 8000

set_option maxHeartbeats 4000000 in
theorem lamEnd_any (u : Int) (m : Nat) (t0 : Lm) (v : Value) (w : World) (X : Nat → Prop) (hm : m ≤ 400) (hu : 0 ≤ u ∧ u ≤ 40) (he : errM u 0 [t0] = 0) (hz : sizeM [t0] ≤ 2000) (hv : MV w X v t0) :
    Calls Try.prog 10 #[v, .int .i64 (m : Int), .bool false] w fun e w' => RnPost false m t0 X w e w' := by
  obtain ⟨a, c, rfl, hs⟩ := hv
  have HS : Hid (SlM w (RuY w X) a t0.subs) := hs.mono fun b h1 h2 => Or.inl ⟨h1, h2⟩
  have HW := hide (OnWayM.start (inn := false) (m := m) hu he hz)
  have I0 : Hid (RuI false u w X m t0 (.int .i64 ((0 : Nat) : Int)) ((w.alloc (.cells #[.int .i64 t0.kind, .int .i64 t0.idx, .slice a t0.subs.length c] 27)).alloc (.cells #[.int .i64 0, .int .i64 0, .slice none 0 0] 27))) := by
    refine ⟨0, t0, a, c, rfl, HW.out, below2M _ _, by simp, (Blk.new w _ _).alloc _, ?_, HS.out.later (below2M _ _)⟩
    have h := Blk.new (w.alloc (.cells #[.int .i64 t0.kind, .int .i64 t0.idx, .slice a t0.subs.length c] 27)) #[.int .i64 0, .int .i64 0, .slice none 0 0] 27
    simpa using h
  clear hs he hz HS HW
  go_enter Try.func10, Try.ntmps10
  go_wp2_with fail
  go_loopw [9] (fun i wr => RuI false u w X m t0 i wr) (fun i wr => m - (intOf i).toNat)
  case atStart => exact I0.out
  case round =>
    obtain ⟨d, t, at', ct, rfl, hon, hb, hsz, hT, hR, hs⟩ := hrel
    have HON := hide hon
    have HBW := hide hb
    have HT := hide hT
    have HR := hide hR
    have HSL := hide hs
    have hdm := hon.le
    have t0' : wr.cell? ⟨w.heap.size, 0, none⟩ = some (.int .i64 t.kind) := hT.cell 0
    have t1' : wr.cell? ⟨w.heap.size, 1, none⟩ = some (.int .i64 t.idx) := hT.cell 1
    have t2' : wr.cell? ⟨w.heap.size, 2, none⟩ = some (.slice at' t.subs.length ct) := hT.cell 2
    clear hon hb hT hR hs I0
    go_wp2_with fail
    refine (hasStep_any t _ wr (RuY w X) ⟨at', ct, rfl, HSL.out⟩ (sh_of_err _ _ _ HON.out.er)).mono ?_
    rintro e w1 ⟨rfl, hb1⟩
    have hsz1 : wr.heap.size ≤ w1.heap.size := hb1.size
    have B1 := hide (HBW.out.trans (hb1.mono (by omega)))
    have T1 := hide (HT.out.below hb1 (by omega))
    have R1 := hide (HR.out.below hb1 (by omega))
    have S1 := hide (HSL.out.later hb1)
    have q0 : w1.cell? ⟨w.heap.size, 0, none⟩ = some (.int .i64 t.kind) := T1.out.cell 0
    have q1 : w1.cell? ⟨w.heap.size, 1, none⟩ = some (.int .i64 t.idx) := T1.out.cell 1
    have q2 : w1.cell? ⟨w.heap.size, 2, none⟩ = some (.slice at' t.subs.length ct) := T1.out.cell 2
    have r0 : w1.cell? ⟨w.heap.size + 1, 0, none⟩ = some (.int .i64 0) := R1.out.cell 0
    have r1 : w1.cell? ⟨w.heap.size + 1, 1, none⟩ = some (.int .i64 0) := R1.out.cell 1
    have r2 : w1.cell? ⟨w.heap.size + 1, 2, none⟩ = some (.slice none 0 0) := R1.out.cell 2
    have rf := R1.out.frozen
    clear hb1 t0' t1' t2' HSL HT HR HBW
    cases hst : stepM [t] with
    | false =>
      have HE := hide (HON.out.fin hst)
      clear hst
      go_wp2_with fail
      refine bodyPost_ret (v := .tuple #[.agg #[.int .i64 t.kind, .int .i64 t.idx, .slice at' t.subs.length ct], .int .i64 (d : Int), .int .i64 0]) (by simp [results, Try.results10, go_sem, World.cell?_setCell_same, World.cell?_setCell_other, r0, r1, r2]) rfl ?_
      refine ⟨bl_set3 B1.out _ (by omega) _ _ _, Or.inl ⟨HE.out.1, at', ct, by rw [HE.out.2.1, HE.out.2.2], ?_⟩⟩
      rw [HE.out.2.1]
      exact (ruY_keep S1.out _ (Or.inr rfl) _ _ _).mono fun b hb _ => hb.imp id fun h => by omega
    | true =>
      have HST := hide hst
      clear hst
      by_cases hd : d = m
      · subst hd
        have HE := hide (HON.out.fuel HST.out)
        go_wp2_with fail
        refine bodyPost_ret (v := .tuple #[.agg #[.int .i64 0, .int .i64 0, .slice none 0 0], .int .i64 0, .int .i64 9]) (by simp [results, Try.results10, go_sem, World.cell?_setCell_same, World.cell?_setCell_other, r0, r1, r2]) rfl ?_
        exact ⟨bl_set3 B1.out _ (by omega) _ _ _, Or.inr ⟨by rw [HE.out]; decide, by rw [HE.out]⟩⟩
      · have hdi : ((d : Int) == (m : Int)) = false := beq_eq_false_iff_ne.2 (by omega)
        clear r0 r1 r2 rf
        go_wp2_with fail
        refine (lamStep_any 2001 t u _ w1 (RuY w X) (by have := HON.out.sz; omega) HON.out.gd HST.out ⟨at', ct, rfl, S1.out⟩).mono ?_
        rintro e w5 ⟨a5, c5, rfl, hs5, hb5⟩
        obtain ⟨x, hx⟩ : ∃ x, stpT false 2001 t = x := ⟨_, rfl⟩
        have HX := hide hx
        rw [hx] at hs5 ⊢
        have hsz5 : w1.heap.size ≤ w5.heap.size := hb5.size
        have B5 := hide (B1.out.trans (hb5.mono (by omega)))
        have T5 := hide (T1.out.below hb5 (by omega))
        have R5 := hide (R1.out.below hb5 (by omega))
        have S5 : Hid (SlM w5 (RuY w X) a5 x.subs) := hs5.mono fun b hb _ => hb.elim And.left fun h => Or.inr (by omega)
        have u0 : w5.cell? ⟨w.heap.size, 0, none⟩ = some (.int .i64 t.kind) := T5.out.cell 0
        have u1 : w5.cell? ⟨w.heap.size, 1, none⟩ = some (.int .i64 t.idx) := T5.out.cell 1
        have u2 : w5.cell? ⟨w.heap.size, 2, none⟩ = some (.slice at' t.subs.length ct) := T5.out.cell 2
        have uf : ∀ i, w5.frozen? ⟨w.heap.size, i, none⟩ = false := T5.out.frozen
        have BS := hide (bl_set3 B5.out w.heap.size (Nat.le_refl _) (.int .i64 x.kind) (.int .i64 x.idx) (.slice a5 x.subs.length c5))
        have TS := hide (blk_set3 T5.out (.int .i64 x.kind) (.int .i64 x.idx) (.slice a5 x.subs.length c5))
        have RS := hide (blk_set3o R5.out (B := w.heap.size) (by omega) (.int .i64 x.kind) (.int .i64 x.idx) (.slice a5 x.subs.length c5))
        have SS := hide (ruY_keep S5.out w.heap.size (Or.inl rfl) (.int .i64 x.kind) (.int .i64 x.idx) (.slice a5 x.subs.length c5))
        have hzS : (((w5.setCell ⟨w.heap.size, 0, none⟩ (.int .i64 x.kind)).setCell ⟨w.heap.size, 1, none⟩ (.int .i64 x.idx)).setCell ⟨w.heap.size, 2, none⟩ (.slice a5 x.subs.length c5)).heap.size = w5.heap.size := by simp [World.setCell]
        clear hs5 hb5 hx q0 q1 q2
        go_wp2_with fail
        clear u0 u1 u2 uf
        generalize (((w5.setCell ⟨w.heap.size, 0, none⟩ (.int .i64 x.kind)).setCell ⟨w.heap.size, 1, none⟩ (.int .i64 x.idx)).setCell ⟨w.heap.size, 2, none⟩ (.slice a5 x.subs.length c5)) = w6 at *
        refine (lamSize_any x _ 2000 _ (RuY w X) ⟨a5, c5, rfl, SS.out⟩ (by omega) (by omega)).mono ?_
        rintro e w7 ⟨rfl, hb7⟩
        have hsz7 : w6.heap.size ≤ w7.heap.size := hb7.size
        have B7 := hide (BS.out.trans (hb7.mono (by omega)))
        have T7 := hide (TS.out.below hb7 (by omega))
        have R7 := hide (RS.out.below hb7 (by omega))
        have S7 := hide (SS.out.later hb7)
        have y0 : w7.cell? ⟨w.heap.size + 1, 0, none⟩ = some (.int .i64 0) := R7.out.cell 0
        have y1 : w7.cell? ⟨w.heap.size + 1, 1, none⟩ = some (.int .i64 0) := R7.out.cell 1
        have y2 : w7.cell? ⟨w.heap.size + 1, 2, none⟩ = some (.slice none 0 0) := R7.out.cell 2
        have yf : ∀ i, w7.frozen? ⟨w.heap.size + 1, i, none⟩ = false := R7.out.frozen
        clear hb7
        by_cases hbig : 2000 < sizeM [x]
        · have e : min ((sizeM [x] : Int)) (2000 + 1) = 2001 := by omega
          have HE := hide (HON.out.full hd HST.out (by rw [HX.out]; exact hbig))
          rw [e]
          clear e hbig
          go_wp2_with fail
          refine bodyPost_ret (v := .tuple #[.agg #[.int .i64 0, .int .i64 0, .slice none 0 0], .int .i64 0, .int .i64 8]) (by simp [results, Try.results10, go_sem, World.cell?_setCell_same, World.cell?_setCell_other, y0, y1, y2]) rfl ?_
          exact ⟨bl_set3 B7.out _ (by omega) _ _ _, Or.inr ⟨by rw [HE.out]; decide, by rw [HE.out]⟩⟩
        · have e : min ((sizeM [x] : Int)) (2000 + 1) = sizeM [x] := by omega
          have e3 : decide ((sizeM [x] : Int) > 2000) = false := decide_eq_false (by omega)
          have HE := hide (HON.out.on hd HST.out (by rw [HX.out]; exact hbig))
          rw [HX.out] at HE
          rw [e]
          have HEI : Hid (RuI false u w X m t0 (.int .i64 ((d + 1 : Nat) : Int)) w7) := ⟨d + 1, x, a5, c5, rfl, HE.out, B7.out, by omega, T7.out, R7.out, S7.out⟩
          clear e hbig
          go_wp2_with fail
          go_roundw
          case rel => exact (by go_num : Value.int IntKind.i64 ((d : Int) + 1) = .int .i64 ((d + 1 : Nat) : Int)) ▸ HEI.out
          case measure => simp [intOf]; omega
#print axioms lamEnd_any
end Go.Proofs.Ytoakclalhfngpaa

/- Walks: the document's innermost steps, to the end. -/
namespace Go.Proofs.Ytoakclalhfngpaa
open Go.RowKit
set_option linter.unusedSimpArgs false
set_option linter.unusedVariables false
set_option maxRecDepth 8000

set_option maxHeartbeats 4000000 in
theorem lamEndI_any (u : Int) (m : Nat) (t0 : Lm) (v : Value) (w : World) (X : Nat → Prop) (hm : m ≤ 400) (hu : 0 ≤ u ∧ u ≤ 40) (he : errM u 0 [t0] = 0) (hz : sizeM [t0] ≤ 2000) (hv : MV w X v t0) :
    Calls Try.prog 10 #[v, .int .i64 (m : Int), .bool true] w fun e w' => RnPost true m t0 X w e w' := by
  obtain ⟨a, c, rfl, hs⟩ := hv
  have HS : Hid (SlM w (RuY w X) a t0.subs) := hs.mono fun b h1 h2 => Or.inl ⟨h1, h2⟩
  have HW := hide (OnWayM.start (inn := true) (m := m) hu he hz)
  have I0 : Hid (RuI true u w X m t0 (.int .i64 ((0 : Nat) : Int)) ((w.alloc (.cells #[.int .i64 t0.kind, .int .i64 t0.idx, .slice a t0.subs.length c] 27)).alloc (.cells #[.int .i64 0, .int .i64 0, .slice none 0 0] 27))) := by
    refine ⟨0, t0, a, c, rfl, HW.out, below2M _ _, by simp, (Blk.new w _ _).alloc _, ?_, HS.out.later (below2M _ _)⟩
    have h := Blk.new (w.alloc (.cells #[.int .i64 t0.kind, .int .i64 t0.idx, .slice a t0.subs.length c] 27)) #[.int .i64 0, .int .i64 0, .slice none 0 0] 27
    simpa using h
  clear hs he hz HS HW
  go_enter Try.func10, Try.ntmps10
  go_wp2_with fail
  go_loopw [9] (fun i wr => RuI true u w X m t0 i wr) (fun i wr => m - (intOf i).toNat)
  case atStart => exact I0.out
  case round =>
    obtain ⟨d, t, at', ct, rfl, hon, hb, hsz, hT, hR, hs⟩ := hrel
    have HON := hide hon
    have HBW := hide hb
    have HT := hide hT
    have HR := hide hR
    have HSL := hide hs
    have hdm := hon.le
    have t0' : wr.cell? ⟨w.heap.size, 0, none⟩ = some (.int .i64 t.kind) := hT.cell 0
    have t1' : wr.cell? ⟨w.heap.size, 1, none⟩ = some (.int .i64 t.idx) := hT.cell 1
    have t2' : wr.cell? ⟨w.heap.size, 2, none⟩ = some (.slice at' t.subs.length ct) := hT.cell 2
    clear hon hb hT hR hs I0
    go_wp2_with fail
    refine (hasStep_any t _ wr (RuY w X) ⟨at', ct, rfl, HSL.out⟩ (sh_of_err _ _ _ HON.out.er)).mono ?_
    rintro e w1 ⟨rfl, hb1⟩
    have hsz1 : wr.heap.size ≤ w1.heap.size := hb1.size
    have B1 := hide (HBW.out.trans (hb1.mono (by omega)))
    have T1 := hide (HT.out.below hb1 (by omega))
    have R1 := hide (HR.out.below hb1 (by omega))
    have S1 := hide (HSL.out.later hb1)
    have q0 : w1.cell? ⟨w.heap.size, 0, none⟩ = some (.int .i64 t.kind) := T1.out.cell 0
    have q1 : w1.cell? ⟨w.heap.size, 1, none⟩ = some (.int .i64 t.idx) := T1.out.cell 1
    have q2 : w1.cell? ⟨w.heap.size, 2, none⟩ = some (.slice at' t.subs.length ct) := T1.out.cell 2
    have r0 : w1.cell? ⟨w.heap.size + 1, 0, none⟩ = some (.int .i64 0) := R1.out.cell 0
    have r1 : w1.cell? ⟨w.heap.size + 1, 1, none⟩ = some (.int .i64 0) := R1.out.cell 1
    have r2 : w1.cell? ⟨w.heap.size + 1, 2, none⟩ = some (.slice none 0 0) := R1.out.cell 2
    have rf := R1.out.frozen
    clear hb1 t0' t1' t2' HSL HT HR HBW
    cases hst : stepM [t] with
    | false =>
      have HE := hide (HON.out.fin hst)
      clear hst
      go_wp2_with fail
      refine bodyPost_ret (v := .tuple #[.agg #[.int .i64 t.kind, .int .i64 t.idx, .slice at' t.subs.length ct], .int .i64 (d : Int), .int .i64 0]) (by simp [results, Try.results10, go_sem, World.cell?_setCell_same, World.cell?_setCell_other, r0, r1, r2]) rfl ?_
      refine ⟨bl_set3 B1.out _ (by omega) _ _ _, Or.inl ⟨HE.out.1, at', ct, by rw [HE.out.2.1, HE.out.2.2], ?_⟩⟩
      rw [HE.out.2.1]
      exact (ruY_keep S1.out _ (Or.inr rfl) _ _ _).mono fun b hb _ => hb.imp id fun h => by omega
    | true =>
      have HST := hide hst
      clear hst
      by_cases hd : d = m
      · subst hd
        have HE := hide (HON.out.fuel HST.out)
        go_wp2_with fail
        refine bodyPost_ret (v := .tuple #[.agg #[.int .i64 0, .int .i64 0, .slice none 0 0], .int .i64 0, .int .i64 9]) (by simp [results, Try.results10, go_sem, World.cell?_setCell_same, World.cell?_setCell_other, r0, r1, r2]) rfl ?_
        exact ⟨bl_set3 B1.out _ (by omega) _ _ _, Or.inr ⟨by rw [HE.out]; decide, by rw [HE.out]⟩⟩
      · have hdi : ((d : Int) == (m : Int)) = false := beq_eq_false_iff_ne.2 (by omega)
        clear r0 r1 r2 rf
        go_wp2_with fail
        refine (lamStepI_any 2001 t u _ w1 (RuY w X) (by have := HON.out.sz; omega) HON.out.gd HST.out ⟨at', ct, rfl, S1.out⟩).mono ?_
        rintro e w5 ⟨a5, c5, rfl, hs5, hb5⟩
        obtain ⟨x, hx⟩ : ∃ x, stpT true 2001 t = x := ⟨_, rfl⟩
        have HX := hide hx
        rw [hx] at hs5 ⊢
        have hsz5 : w1.heap.size ≤ w5.heap.size := hb5.size
        have B5 := hide (B1.out.trans (hb5.mono (by omega)))
        have T5 := hide (T1.out.below hb5 (by omega))
        have R5 := hide (R1.out.below hb5 (by omega))
        have S5 : Hid (SlM w5 (RuY w X) a5 x.subs) := hs5.mono fun b hb _ => hb.elim And.left fun h => Or.inr (by omega)
        have u0 : w5.cell? ⟨w.heap.size, 0, none⟩ = some (.int .i64 t.kind) := T5.out.cell 0
        have u1 : w5.cell? ⟨w.heap.size, 1, none⟩ = some (.int .i64 t.idx) := T5.out.cell 1
        have u2 : w5.cell? ⟨w.heap.size, 2, none⟩ = some (.slice at' t.subs.length ct) := T5.out.cell 2
        have uf : ∀ i, w5.frozen? ⟨w.heap.size, i, none⟩ = false := T5.out.frozen
        have BS := hide (bl_set3 B5.out w.heap.size (Nat.le_refl _) (.int .i64 x.kind) (.int .i64 x.idx) (.slice a5 x.subs.length c5))
        have TS := hide (blk_set3 T5.out (.int .i64 x.kind) (.int .i64 x.idx) (.slice a5 x.subs.length c5))
        have RS := hide (blk_set3o R5.out (B := w.heap.size) (by omega) (.int .i64 x.kind) (.int .i64 x.idx) (.slice a5 x.subs.length c5))
        have SS := hide (ruY_keep S5.out w.heap.size (Or.inl rfl) (.int .i64 x.kind) (.int .i64 x.idx) (.slice a5 x.subs.length c5))
        have hzS : (((w5.setCell ⟨w.heap.size, 0, none⟩ (.int .i64 x.kind)).setCell ⟨w.heap.size, 1, none⟩ (.int .i64 x.idx)).setCell ⟨w.heap.size, 2, none⟩ (.slice a5 x.subs.length c5)).heap.size = w5.heap.size := by simp [World.setCell]
        clear hs5 hb5 hx q0 q1 q2
        go_wp2_with fail
        clear u0 u1 u2 uf
        generalize (((w5.setCell ⟨w.heap.size, 0, none⟩ (.int .i64 x.kind)).setCell ⟨w.heap.size, 1, none⟩ (.int .i64 x.idx)).setCell ⟨w.heap.size, 2, none⟩ (.slice a5 x.subs.length c5)) = w6 at *
        refine (lamSize_any x _ 2000 _ (RuY w X) ⟨a5, c5, rfl, SS.out⟩ (by omega) (by omega)).mono ?_
        rintro e w7 ⟨rfl, hb7⟩
        have hsz7 : w6.heap.size ≤ w7.heap.size := hb7.size
        have B7 := hide (BS.out.trans (hb7.mono (by omega)))
        have T7 := hide (TS.out.below hb7 (by omega))
        have R7 := hide (RS.out.below hb7 (by omega))
        have S7 := hide (SS.out.later hb7)
        have y0 : w7.cell? ⟨w.heap.size + 1, 0, none⟩ = some (.int .i64 0) := R7.out.cell 0
        have y1 : w7.cell? ⟨w.heap.size + 1, 1, none⟩ = some (.int .i64 0) := R7.out.cell 1
        have y2 : w7.cell? ⟨w.heap.size + 1, 2, none⟩ = some (.slice none 0 0) := R7.out.cell 2
        have yf : ∀ i, w7.frozen? ⟨w.heap.size + 1, i, none⟩ = false := R7.out.frozen
        clear hb7
        by_cases hbig : 2000 < sizeM [x]
        · have e : min ((sizeM [x] : Int)) (2000 + 1) = 2001 := by omega
          have HE := hide (HON.out.full hd HST.out (by rw [HX.out]; exact hbig))
          rw [e]
          clear e hbig
          go_wp2_with fail
          refine bodyPost_ret (v := .tuple #[.agg #[.int .i64 0, .int .i64 0, .slice none 0 0], .int .i64 0, .int .i64 8]) (by simp [results, Try.results10, go_sem, World.cell?_setCell_same, World.cell?_setCell_other, y0, y1, y2]) rfl ?_
          exact ⟨bl_set3 B7.out _ (by omega) _ _ _, Or.inr ⟨by rw [HE.out]; decide, by rw [HE.out]⟩⟩
        · have e : min ((sizeM [x] : Int)) (2000 + 1) = sizeM [x] := by omega
          have e3 : decide ((sizeM [x] : Int) > 2000) = false := decide_eq_false (by omega)
          have HE := hide (HON.out.on hd HST.out (by rw [HX.out]; exact hbig))
          rw [HX.out] at HE
          rw [e]
          have HEI : Hid (RuI true u w X m t0 (.int .i64 ((d + 1 : Nat) : Int)) w7) := ⟨d + 1, x, a5, c5, rfl, HE.out, B7.out, by omega, T7.out, R7.out, S7.out⟩
          clear e hbig
          go_wp2_with fail
          go_roundw
          case rel => exact (by go_num : Value.int IntKind.i64 ((d : Int) + 1) = .int .i64 ((d + 1 : Nat) : Int)) ▸ HEI.out
          case measure => simp [intOf]; omega
#print axioms lamEndI_any
end Go.Proofs.Ytoakclalhfngpaa

/- The law ReduceSays: both runs of the document. -/
namespace Go.Proofs.Ytoakclalhfngpaa
open Go.RowKit Go.Shelf
set_option linter.unusedSimpArgs false
set_option linter.unusedVariables false
set_option maxRecDepth 8000

noncomputable def tailRsC : Code := seqFrom 14 ((Try.f5.body).getD .skip)
set_option maxHeartbeats 20000000 in
theorem reduceC (t : Lm) (a : Option Addr) (c : Nat) (u z : Int) (w wa : World) (X0 : Nat → Prop) (HMV : Hid (∀ W, LT t a c w W → MV W (fun b => X0 b ∧ b < w.heap.size) (.agg #[.int .i64 t.kind, .int .i64 t.idx, .slice a t.subs.length c]) t)) (L0 : Hid (LT t a c w wa)) (P : Nat) (K10 : Hid (Blk wa P #[.int .i64 0, .int .i64 0, .slice none 0 0] 27)) (K11 : Hid (Blk wa (P + 1) #[.int .i64 0, .int .i64 0, .slice none 0 0] 27)) (hPw : w.heap.size < P) (hPz : P + 2 ≤ wa.heap.size)
    {s4 s5 s6 s14 s15 s16 s17 s18 s19 s20 s21 s22 s23 s24 s25 s26 s27 s28 s29 s30 s31 s32 s33 s34 s35 s36 s37 s38 s39 s40 s41 s42 s43 s44 s45 s46 s47 s48 s49 s50 s51 s52 s53 s54 s55 s56 s57 s58 s59 s60 s61 s62 s63 s64 s65 s66 s67 s68 s69 s70 s71 s72 s73 s74 s75 s76 s77 s78 s79 s80 s81 s82 s83 s84 s85 s86 s87 s88 s89 s90 s91 s92 s93 s94 s95 s96 s97 s98 s99 s100 s101 s102 s103 s104 s105 s106 s107 s108 s109 s110 s111 s112 s113 s114 s115 s116 s117 s118 s119 s120 s121 s122 s123 s124 s125 s126 s127 s128 s129 s130 s131 s132 s133 s134 s135 s136 s137 s138 s139 s140 s141 s142 s143 s144 s145 s146 s147 s148 s149 s150 s151 s152 s153 s154 s155 s156 s157 s158 s159 s160 s161 s162 s163 s164 s165 s166 s167 s168 s169 s170 s171 s172 s173 s174 s175 s176 s177 s178 s179 s180 s181 s182 s183 s184 s185 s186 s187 s188 s189 s190 s191 s192 s193 s194 s195 s196 s197 s198 s199 s200 s201 s202 s203 s204 s205 s206 s207 s208 s209 s210 s211 s212 s213 s214 s215 : Value} :
    Code.wp Try.prog tailRsC (bodyPost Try.prog Try.f5 fun e w' => e = .returned (.bool true) ∧ Below w.heap.size w w') ⟨List.toArray ((.agg #[.int .i64 t.kind, .int .i64 t.idx, .slice a t.subs.length c]) :: .int .i64 u :: .int .i64 z :: .pointer (some ⟨w.heap.size, 0, none⟩) :: s4 :: s5 :: s6 :: .int .i64 (lamE u 0 t) :: .int .i64 (nmE t u z) :: .int .i64 (nmE t u z) :: .pointer (some ⟨P, 0, none⟩) :: .pointer (some ⟨P + 1, 0, none⟩) :: .int .i64 0 :: .int .i64 0 :: s14 :: s15 :: s16 :: s17 :: s18 :: s19 :: s20 :: s21 :: s22 :: s23 :: s24 :: s25 :: s26 :: s27 :: s28 :: s29 :: s30 :: s31 :: s32 :: s33 :: s34 :: s35 :: s36 :: s37 :: s38 :: s39 :: s40 :: s41 :: s42 :: s43 :: s44 :: s45 :: s46 :: s47 :: s48 :: s49 :: s50 :: s51 :: s52 :: s53 :: s54 :: s55 :: s56 :: s57 :: s58 :: s59 :: s60 :: s61 :: s62 :: s63 :: s64 :: s65 :: s66 :: s67 :: s68 :: s69 :: s70 :: s71 :: s72 :: s73 :: s74 :: s75 :: s76 :: s77 :: s78 :: s79 :: s80 :: s81 :: s82 :: s83 :: s84 :: s85 :: s86 :: s87 :: s88 :: s89 :: s90 :: s91 :: s92 :: s93 :: s94 :: s95 :: s96 :: s97 :: s98 :: s99 :: s100 :: s101 :: s102 :: s103 :: s104 :: s105 :: s106 :: s107 :: s108 :: s109 :: s110 :: s111 :: s112 :: s113 :: s114 :: s115 :: s116 :: s117 :: s118 :: s119 :: s120 :: s121 :: s122 :: s123 :: s124 :: s125 :: s126 :: s127 :: s128 :: s129 :: s130 :: s131 :: s132 :: s133 :: s134 :: s135 :: s136 :: s137 :: s138 :: s139 :: s140 :: s141 :: s142 :: s143 :: s144 :: s145 :: s146 :: s147 :: s148 :: s149 :: s150 :: s151 :: s152 :: s153 :: s154 :: s155 :: s156 :: s157 :: s158 :: s159 :: s160 :: s161 :: s162 :: s163 :: s164 :: s165 :: s166 :: s167 :: s168 :: s169 :: s170 :: s171 :: s172 :: s173 :: s174 :: s175 :: s176 :: s177 :: s178 :: s179 :: s180 :: s181 :: s182 :: s183 :: s184 :: s185 :: s186 :: s187 :: s188 :: s189 :: s190 :: s191 :: s192 :: s193 :: s194 :: s195 :: s196 :: s197 :: s198 :: s199 :: s200 :: s201 :: s202 :: s203 :: s204 :: s205 :: s206 :: s207 :: s208 :: s209 :: s210 :: s211 :: s212 :: s213 :: s214 :: s215 :: []), []⟩ wa := by
  conv => arg 2; whnf
  go_upto_if 68 with fail
  go_cut [8, 9, 12, 13] (fun o8 o9 o12 o13 we => o8 = .int .i64 (rF false t u z) ∧ o9 = .int .i64 (rF true t u z) ∧ o12 = .int .i64 (rN false t u z) ∧ o13 = .int .i64 (rN true t u z) ∧ LT t a c w we ∧ AnsD we P (rF false t u z) (rY false t z) ∧ AnsD we (P + 1) (rF true t u z) (rY true t z))
  case first =>
    by_cases hN : nmE t u z = 0
    · obtain ⟨h1, h2, h3⟩ := nm_ok hN
      have ez : z = (z.toNat : Int) := by omega
      have hle := lamE_ok h1
      have CE1 := hide (fun W (hW : LT t a c w W) => lamEnd_any u z.toNat t _ W _ (by omega) hle.1 hle.2.1 (by omega) (HMV.out W hW))
      have CE2 := hide (fun W (hW : LT t a c w W) => lamEndI_any u z.toNat t _ W _ (by omega) hle.1 hle.2.1 (by omega) (HMV.out W hW))
      rw [← ez] at CE1 CE2
      have HN := hide hN
      have hne : (nmE t u z == 0) = true := beq_iff_eq.2 hN
      clear hN h1 h2 h3 ez hle
      have c0 : wa.cell? ⟨w.heap.size, 0, none⟩ = some (.int .i64 t.kind) := L0.out.2.cell 0
      have c1 : wa.cell? ⟨w.heap.size, 1, none⟩ = some (.int .i64 t.idx) := L0.out.2.cell 1
      have c2 : wa.cell? ⟨w.heap.size, 2, none⟩ = some (.slice a t.subs.length c) := L0.out.2.cell 2
      go_wp2_with fail
      refine (CE1.out wa L0.out).mono ?_
      intro e w5 hp
      obtain ⟨k5, x5, a5, m5, c5, rfl, hb5, hc5⟩ := hp.parts HN.out
      have hz5 := hb5.size
      have hzz := hPz
      have L7 := hide (L0.out.later hb5)
      have K17 := hide (K10.out.below hb5 (by omega))
      have K27 := hide (K11.out.below hb5 (by omega))
      have AV1 : Hid (AnsV (((w5.setCell ⟨P, 0, none⟩ (.int .i64 k5)).setCell ⟨P, 1, none⟩ (.int .i64 x5)).setCell ⟨P, 2, none⟩ (.slice a5 m5 c5)) P (rF false t u z) (rY false t z) (fun b => b < w.heap.size ∨ P + 2 ≤ b)) := AnsV.put K17.out (by omega) (hc5.imp (fun h => ⟨h.1, h.2.1, h.2.2.1, h.2.2.2.1, h.2.2.2.2.mono fun b hb _ => by omega⟩) id)
      have L8 := hide (L7.out.set3 (P := P) hPw (.int .i64 k5) (.int .i64 x5) (.slice a5 m5 c5))
      have K28 := hide (blk_set3o K27.out (B := P) (by omega) (.int .i64 k5) (.int .i64 x5) (.slice a5 m5 c5))
      have q0 : w5.cell? ⟨P, 0, none⟩ = some (.int .i64 0) := K17.out.cell 0
      have q1 : w5.cell? ⟨P, 1, none⟩ = some (.int .i64 0) := K17.out.cell 1
      have q2 : w5.cell? ⟨P, 2, none⟩ = some (.slice none 0 0) := K17.out.cell 2
      have qf := K17.out.frozen
      have hz8 : (((w5.setCell ⟨P, 0, none⟩ (.int .i64 k5)).setCell ⟨P, 1, none⟩ (.int .i64 x5)).setCell ⟨P, 2, none⟩ (.slice a5 m5 c5)).heap.size = w5.heap.size := by simp [World.setCell]
      have HZ8 : Hid (P + 2 ≤ (((w5.setCell ⟨P, 0, none⟩ (.int .i64 k5)).setCell ⟨P, 1, none⟩ (.int .i64 x5)).setCell ⟨P, 2, none⟩ (.slice a5 m5 c5)).heap.size) := by unfold Hid; omega
      have d0 := L8.out.2.cell 0
      have d1 := L8.out.2.cell 1
      have d2 := L8.out.2.cell 2
      simp only [List.getElem?_toArray, List.getElem?_cons_succ, List.getElem?_cons_zero] at d0 d1 d2
      clear c0 c1 c2 hb5 hc5 hz8 hz5 hzz hp
      go_wp2_with fail
      generalize (((w5.setCell ⟨P, 0, none⟩ (.int .i64 k5)).setCell ⟨P, 1, none⟩ (.int .i64 x5)).setCell ⟨P, 2, none⟩ (.slice a5 m5 c5)) = w8 at *
      refine (CE2.out w8 L8.out).mono ?_
      intro e w9 hp
      obtain ⟨k9, x9, a9, m9, c9, rfl, hb9, hc9⟩ := hp.parts HN.out
      have hz9 := hb9.size
      have hzz := HZ8.out
      have L9 := hide (L8.out.later hb9)
      have K29 := hide (K28.out.below hb9 (by omega))
      have AV2 := hide ((AV1.out.later hb9).set3 (Q := P + 1) (by omega) (by omega) (.int .i64 k9) (.int .i64 x9) (.slice a9 m9 c9))
      have AV3 : Hid (AnsV (((w9.setCell ⟨P + 1, 0, none⟩ (.int .i64 k9)).setCell ⟨P + 1, 1, none⟩ (.int .i64 x9)).setCell ⟨P + 1, 2, none⟩ (.slice a9 m9 c9)) (P + 1) (rF true t u z) (rY true t z) (fun b => b < w.heap.size ∨ P + 2 ≤ b)) := AnsV.put K29.out (by omega) (hc9.imp (fun h => ⟨h.1, h.2.1, h.2.2.1, h.2.2.2.1, h.2.2.2.2.mono fun b hb _ => by omega⟩) id)
      have LA := hide (L9.out.set3 (P := P + 1) (by omega) (.int .i64 k9) (.int .i64 x9) (.slice a9 m9 c9))
      have r0 : w9.cell? ⟨P + 1, 0, none⟩ = some (.int .i64 0) := K29.out.cell 0
      have r1 : w9.cell? ⟨P + 1, 1, none⟩ = some (.int .i64 0) := K29.out.cell 1
      have r2 : w9.cell? ⟨P + 1, 2, none⟩ = some (.slice none 0 0) := K29.out.cell 2
      have rf := K29.out.frozen
      clear d0 d1 d2 q0 q1 q2 qf hb9 hc9 hz9 hzz hp
      go_wp2_with fail
      go_meet
      exact ⟨rfl, rfl, rfl, rfl, LA.out, AV2.out.toD, AV3.out.toD⟩
    · have hne : (nmE t u z == 0) = false := beq_eq_false_iff_ne.2 hN
      have ef : ∀ inn, rF inn t u z = nmE t u z := fun inn => by unfold rF; rw [if_neg hN]
      have en : ∀ inn, rN inn t u z = 0 := fun inn => by unfold rN; rw [ef, if_neg hN]
      have HEF := hide ef
      have HEN := hide en
      have HN := hide hN
      clear ef en hN
      go_wp2_with fail
      go_meet
      exact ⟨by rw [HEF.out], by rw [HEF.out], by rw [HEN.out], by rw [HEN.out], L0.out, Or.inr ⟨by rw [HEF.out]; exact HN.out, _, _, _, _, _, K10.out⟩, Or.inr ⟨by rw [HEF.out]; exact HN.out, _, _, _, _, _, K11.out⟩⟩
  obtain ⟨rfl, rfl, rfl, rfl, hl, hA1, hA2⟩ := hcut
  have LF := hide hl
  have A1 := hide hA1
  have A2 := hide hA2
  clear hl hA1 hA2
  go_step
  exact reduceD t a c u z w wc X0 HMV LF P A1 A2
#print axioms reduceC
end Go.Proofs.Ytoakclalhfngpaa

/- The law ReduceSays: what is wrong with what is given. -/
namespace Go.Proofs.Ytoakclalhfngpaa
open Go.RowKit Go.Shelf
set_option linter.unusedSimpArgs false
set_option linter.unusedVariables false
set_option maxRecDepth 8000

noncomputable def tailRsB : Code := seqFrom 6 ((Try.f5.body).getD .skip)
set_option maxHeartbeats 20000000 in
theorem reduceB (t : Lm) (a : Option Addr) (c : Nat) (u z : Int) (w wa : World) (X0 : Nat → Prop) (HMV : Hid (∀ W, LT t a c w W → MV W (fun b => X0 b ∧ b < w.heap.size) (.agg #[.int .i64 t.kind, .int .i64 t.idx, .slice a t.subs.length c]) t)) (L0 : Hid (LT t a c w wa))
    {s4 s5 s6 s8 s9 s10 s11 s12 s13 s14 s15 s16 s17 s18 s19 s20 s21 s22 s23 s24 s25 s26 s27 s28 s29 s30 s31 s32 s33 s34 s35 s36 s37 s38 s39 s40 s41 s42 s43 s44 s45 s46 s47 s48 s49 s50 s51 s52 s53 s54 s55 s56 s57 s58 s59 s60 s61 s62 s63 s64 s65 s66 s67 s68 s69 s70 s71 s72 s73 s74 s75 s76 s77 s78 s79 s80 s81 s82 s83 s84 s85 s86 s87 s88 s89 s90 s91 s92 s93 s94 s95 s96 s97 s98 s99 s100 s101 s102 s103 s104 s105 s106 s107 s108 s109 s110 s111 s112 s113 s114 s115 s116 s117 s118 s119 s120 s121 s122 s123 s124 s125 s126 s127 s128 s129 s130 s131 s132 s133 s134 s135 s136 s137 s138 s139 s140 s141 s142 s143 s144 s145 s146 s147 s148 s149 s150 s151 s152 s153 s154 s155 s156 s157 s158 s159 s160 s161 s162 s163 s164 s165 s166 s167 s168 s169 s170 s171 s172 s173 s174 s175 s176 s177 s178 s179 s180 s181 s182 s183 s184 s185 s186 s187 s188 s189 s190 s191 s192 s193 s194 s195 s196 s197 s198 s199 s200 s201 s202 s203 s204 s205 s206 s207 s208 s209 s210 s211 s212 s213 s214 s215 : Value} :
    Code.wp Try.prog tailRsB (bodyPost Try.prog Try.f5 fun e w' => e = .returned (.bool true) ∧ Below w.heap.size w w') ⟨List.toArray ((.agg #[.int .i64 t.kind, .int .i64 t.idx, .slice a t.subs.length c]) :: .int .i64 u :: .int .i64 z :: .pointer (some ⟨w.heap.size, 0, none⟩) :: s4 :: s5 :: s6 :: .int .i64 (lamE u 0 t) :: s8 :: s9 :: s10 :: s11 :: s12 :: s13 :: s14 :: s15 :: s16 :: s17 :: s18 :: s19 :: s20 :: s21 :: s22 :: s23 :: s24 :: s25 :: s26 :: s27 :: s28 :: s29 :: s30 :: s31 :: s32 :: s33 :: s34 :: s35 :: s36 :: s37 :: s38 :: s39 :: s40 :: s41 :: s42 :: s43 :: s44 :: s45 :: s46 :: s47 :: s48 :: s49 :: s50 :: s51 :: s52 :: s53 :: s54 :: s55 :: s56 :: s57 :: s58 :: s59 :: s60 :: s61 :: s62 :: s63 :: s64 :: s65 :: s66 :: s67 :: s68 :: s69 :: s70 :: s71 :: s72 :: s73 :: s74 :: s75 :: s76 :: s77 :: s78 :: s79 :: s80 :: s81 :: s82 :: s83 :: s84 :: s85 :: s86 :: s87 :: s88 :: s89 :: s90 :: s91 :: s92 :: s93 :: s94 :: s95 :: s96 :: s97 :: s98 :: s99 :: s100 :: s101 :: s102 :: s103 :: s104 :: s105 :: s106 :: s107 :: s108 :: s109 :: s110 :: s111 :: s112 :: s113 :: s114 :: s115 :: s116 :: s117 :: s118 :: s119 :: s120 :: s121 :: s122 :: s123 :: s124 :: s125 :: s126 :: s127 :: s128 :: s129 :: s130 :: s131 :: s132 :: s133 :: s134 :: s135 :: s136 :: s137 :: s138 :: s139 :: s140 :: s141 :: s142 :: s143 :: s144 :: s145 :: s146 :: s147 :: s148 :: s149 :: s150 :: s151 :: s152 :: s153 :: s154 :: s155 :: s156 :: s157 :: s158 :: s159 :: s160 :: s161 :: s162 :: s163 :: s164 :: s165 :: s166 :: s167 :: s168 :: s169 :: s170 :: s171 :: s172 :: s173 :: s174 :: s175 :: s176 :: s177 :: s178 :: s179 :: s180 :: s181 :: s182 :: s183 :: s184 :: s185 :: s186 :: s187 :: s188 :: s189 :: s190 :: s191 :: s192 :: s193 :: s194 :: s195 :: s196 :: s197 :: s198 :: s199 :: s200 :: s201 :: s202 :: s203 :: s204 :: s205 :: s206 :: s207 :: s208 :: s209 :: s210 :: s211 :: s212 :: s213 :: s214 :: s215 :: []), []⟩ wa := by
  conv => arg 2; whnf
  go_upto_region 7 with fail
  go_cut [63] (fun o wd => o = .bool (decide (lamE u 0 t = 0 ∧ (z < 0 ∨ 400 < z))) ∧ LT t a c w wd)
  case first =>
    by_cases hE : lamE u 0 t = 0
    · by_cases h0 : z < 0
      · have g1 : decide (z < 0) = true := decide_eq_true h0
        have hd : decide (lamE u 0 t = 0 ∧ (z < 0 ∨ 400 < z)) = true := decide_eq_true ⟨hE, Or.inl h0⟩
        have hne : (lamE u 0 t == 0) = true := beq_iff_eq.2 hE
        clear hE
        go_wp2_with fail
        go_meet
        exact ⟨by rw [hd], L0.out⟩
      · have g1 : decide (z < 0) = false := decide_eq_false h0
        by_cases h4 : z > 400
        · have g2 : decide (z > 400) = true := decide_eq_true h4
          have hd : decide (lamE u 0 t = 0 ∧ (z < 0 ∨ 400 < z)) = true := decide_eq_true ⟨hE, Or.inr h4⟩
          have hne : (lamE u 0 t == 0) = true := beq_iff_eq.2 hE
          clear hE
          go_wp2_with fail
          go_meet
          exact ⟨by rw [hd], L0.out⟩
        · have g2 : decide (z > 400) = false := decide_eq_false h4
          have hd : decide (lamE u 0 t = 0 ∧ (z < 0 ∨ 400 < z)) = false := decide_eq_false (by omega)
          have hne : (lamE u 0 t == 0) = true := beq_iff_eq.2 hE
          clear hE
          go_wp2_with fail
          go_meet
          exact ⟨by rw [hd], L0.out⟩
    · have hne : (lamE u 0 t == 0) = false := beq_eq_false_iff_ne.2 hE
      have hd : decide (lamE u 0 t = 0 ∧ (z < 0 ∨ 400 < z)) = false := decide_eq_false (fun h => hE h.1)
      go_wp2_with fail
      go_meet
      exact ⟨by rw [hd], L0.out⟩
  obtain ⟨rfl, hl4⟩ := hcut
  have L4 := hide hl4
  clear hl4 L0
  go_upto_if 63 with fail
  go_cut [8] (fun o wd => o = .int .i64 (nmE t u z) ∧ LT t a c w wd)
  case first =>
    by_cases hd : lamE u 0 t = 0 ∧ (z < 0 ∨ 400 < z)
    · rw [decide_eq_true hd]
      have HN : Hid (nmE t u z = 3) := by unfold Hid nmE; rw [if_pos hd.1, if_pos hd.2]
      go_wp2_with fail
      go_meet
      exact ⟨by rw [HN.out], L4.out⟩
    · rw [decide_eq_false hd]
      have HN : Hid (nmE t u z = lamE u 0 t) := by
        unfold Hid nmE
        by_cases hE : lamE u 0 t = 0
        · rw [if_pos hE, if_neg (fun h => hd ⟨hE, h⟩), hE]
        · rw [if_neg hE]
      go_wp2_with fail
      go_meet
      exact ⟨by rw [HN.out], L4.out⟩
  obtain ⟨rfl, hl5⟩ := hcut
  have L5 := hide hl5
  clear hl5 L4
  go_upto_region 13 with fail
  obtain ⟨wa', hwa'⟩ : ∃ wa', wa' = wc := ⟨_, rfl⟩
  subst hwa'
  have hLw := L5.out.lt
  have BZ : Hid (Below wa'.heap.size wa' ((wa'.alloc (.cells #[.int .i64 0, .int .i64 0, .slice none 0 0] 27)).alloc (.cells #[.int .i64 0, .int .i64 0, .slice none 0 0] 27))) := below2M _ _
  have K10 : Hid (Blk ((wa'.alloc (.cells #[.int .i64 0, .int .i64 0, .slice none 0 0] 27)).alloc (.cells #[.int .i64 0, .int .i64 0, .slice none 0 0] 27)) wa'.heap.size #[.int .i64 0, .int .i64 0, .slice none 0 0] 27) := (Blk.new wa' _ _).alloc _
  have K11 : Hid (Blk ((wa'.alloc (.cells #[.int .i64 0, .int .i64 0, .slice none 0 0] 27)).alloc (.cells #[.int .i64 0, .int .i64 0, .slice none 0 0] 27)) (wa'.heap.size + 1) #[.int .i64 0, .int .i64 0, .slice none 0 0] 27) := by
    have h := Blk.new (wa'.alloc (.cells #[.int .i64 0, .int .i64 0, .slice none 0 0] 27)) #[.int .i64 0, .int .i64 0, .slice none 0 0] 27
    unfold Hid
    simpa using h
  have hzZ : ((wa'.alloc (.cells #[.int .i64 0, .int .i64 0, .slice none 0 0] 27)).alloc (.cells #[.int .i64 0, .int .i64 0, .slice none 0 0] 27)).heap.size = wa'.heap.size + 2 := by simp
  have L6 := hide (L5.out.later BZ.out)
  generalize ((wa'.alloc (.cells #[.int .i64 0, .int .i64 0, .slice none 0 0] 27)).alloc (.cells #[.int .i64 0, .int .i64 0, .slice none 0 0] 27)) = wz at *
  obtain ⟨P, eP⟩ : ∃ P, P = wa'.heap.size := ⟨_, rfl⟩
  rw [← eP] at K10 K11
  simp only [← eP]
  have hPw : w.heap.size < P := by omega
  have hPz : wz.heap.size = P + 2 := by omega
  have HPz := hide hPz
  clear eP hzZ BZ L5 hPz hLw
  go_cut [13] (fun o we => o = .int .i64 0 ∧ LT t a c w we ∧ Blk we P #[.int .i64 0, .int .i64 0, .slice none 0 0] 27 ∧ Blk we (P + 1) #[.int .i64 0, .int .i64 0, .slice none 0 0] 27 ∧ P + 2 ≤ we.heap.size)
  case first =>
    go_wp2_with fail
    go_meet
    exact ⟨rfl, L6.out, K10.out, K11.out, by have := HPz.out; omega⟩
  obtain ⟨rfl, hl, hk1, hk2, hpz⟩ := hcut
  have LF := hide hl
  have KF1 := hide hk1
  have KF2 := hide hk2
  clear hl hk1 hk2
  go_step
  exact reduceC t a c u z w wc X0 HMV LF P KF1 KF2 hPw hpz
#print axioms reduceB
end Go.Proofs.Ytoakclalhfngpaa

/- The law ReduceSays. -/
namespace Go.Proofs.Ytoakclalhfngpaa
open Go.RowKit Go.Shelf
set_option linter.unusedSimpArgs false
set_option linter.unusedVariables false
set_option maxRecDepth 8000

set_option maxHeartbeats 20000000 in
theorem reduceSays_any (t : Lm) (v : Value) (u z : Int) (w : World) (X0 : Nat → Prop) (hv : MV w X0 v t) :
    Calls Try.prog 5 #[v, .int .i64 u, .int .i64 z] w fun e w' => e = .returned (.bool true) ∧ Below w.heap.size w w' := by
  obtain ⟨a, c, rfl, hs0⟩ := hv
  have HS : Hid (SlM w (fun b => X0 b ∧ b < w.heap.size) a t.subs) := hs0.mono fun b h1 h2 => ⟨h1, h2⟩
  have L0 : Hid (LT t a c w (w.alloc (.cells #[.int .i64 t.kind, .int .i64 t.idx, .slice a t.subs.length c] 27))) := ⟨(Below.refl _ _).alloc (Nat.le_refl _) _, Blk.new _ _ _⟩
  have HMV : Hid (∀ W, LT t a c w W → MV W (fun b => X0 b ∧ b < w.heap.size) (.agg #[.int .i64 t.kind, .int .i64 t.idx, .slice a t.subs.length c]) t) := fun W h => ⟨a, c, rfl, HS.out.later h.1⟩
  clear hs0 HS
  go_enter Try.func5, Try.ntmps5
  go_upto_region 1 with fail
  generalize (w.alloc (.cells #[.int .i64 t.kind, .int .i64 t.idx, .slice a t.subs.length c] 27)) = w0 at *
  go_cut [42] (fun o wc => ∃ b : Bool, o = .bool b ∧ (b = false → z ≤ 30 ∨ 400 < z) ∧ LT t a c w wc)
  case first =>
    have c0 : w0.cell? ⟨w.heap.size, 0, none⟩ = some (.int .i64 t.kind) := L0.out.2.cell 0
    have c1 : w0.cell? ⟨w.heap.size, 1, none⟩ = some (.int .i64 t.idx) := L0.out.2.cell 1
    have c2 : w0.cell? ⟨w.heap.size, 2, none⟩ = some (.slice a t.subs.length c) := L0.out.2.cell 2
    go_wp2_with fail
    refine (hugeLam_any t _ _ _ (HMV.out _ L0.out)).mono ?_
    rintro e w1 ⟨rfl, hb1⟩
    have L1 := hide (L0.out.later hb1)
    clear c0 c1 c2 hb1
    by_cases hh : 3000 < sizeM [t]
    · rw [decide_eq_true hh]
      go_wp2_with fail
      go_meet
      exact ⟨true, rfl, by simp, L1.out⟩
    · rw [decide_eq_false hh]
      by_cases h30 : z > 30
      · have g1 : decide (z > 30) = true := decide_eq_true h30
        by_cases h400 : z ≤ 400
        · have g2 : decide (z ≤ 400) = true := decide_eq_true h400
          go_wp2_with fail
          go_meet
          exact ⟨true, rfl, by simp, L1.out⟩
        · have g2 : decide (z ≤ 400) = false := decide_eq_false h400
          go_wp2_with fail
          go_meet
          exact ⟨false, rfl, fun _ => Or.inr (by omega), L1.out⟩
      · have g1 : decide (z > 30) = false := decide_eq_false h30
        go_wp2_with fail
        go_meet
        exact ⟨false, rfl, fun _ => Or.inl (by omega), L1.out⟩
  obtain ⟨b1, rfl, hz, hl1⟩ := hcut
  have L1 := hide hl1
  clear hl1 L0
  cases b1 with
  | true =>
    go_wp2_with fail
    go_ret
    exact ⟨rfl, L1.out.1⟩
  | false =>
  have HZ := hide (hz rfl)
  clear hz
  have c0 : wc.cell? ⟨w.heap.size, 0, none⟩ = some (.int .i64 t.kind) := L1.out.2.cell 0
  have c1 : wc.cell? ⟨w.heap.size, 1, none⟩ = some (.int .i64 t.idx) := L1.out.2.cell 1
  have c2 : wc.cell? ⟨w.heap.size, 2, none⟩ = some (.slice a t.subs.length c) := L1.out.2.cell 2
  go_wp2_with fail
  refine (lamMay_any t _ u 0 _ _ (HMV.out _ L1.out)).mono ?_
  rintro e w2 ⟨rfl, hb2⟩
  have L2 := hide (L1.out.later hb2)
  clear c0 c1 c2 hb2 L1
  go_upto_region 4 with fail
  go_cut [52] (fun o wc => ∃ b : Bool, o = .bool b ∧ LT t a c w wc)
  case first =>
    have c0 : w2.cell? ⟨w.heap.size, 0, none⟩ = some (.int .i64 t.kind) := L2.out.2.cell 0
    have c1 : w2.cell? ⟨w.heap.size, 1, none⟩ = some (.int .i64 t.idx) := L2.out.2.cell 1
    have c2 : w2.cell? ⟨w.heap.size, 2, none⟩ = some (.slice a t.subs.length c) := L2.out.2.cell 2
    by_cases hE : lamE u 0 t = 0
    · have hne : (lamE u 0 t == 0) = true := beq_iff_eq.2 hE
      clear hE
      go_wp2_with fail
      refine (lamSize_any t _ 40 _ _ (HMV.out _ L2.out) (by omega) (by omega)).mono ?_
      rintro e w3 ⟨rfl, hb3⟩
      have L3 := hide (L2.out.later hb3)
      clear hb3
      go_wp2_with fail
      go_meet
      exact ⟨_, rfl, L3.out⟩
    · have hne : (lamE u 0 t == 0) = false := beq_eq_false_iff_ne.2 hE
      go_wp2_with fail
      go_meet
      exact ⟨_, rfl, L2.out⟩
  obtain ⟨b1, rfl, hl3⟩ := hcut
  have L3 := hide hl3
  clear hl3 L2
  cases b1 with
  | true =>
    go_wp2_with fail
    go_ret
    exact ⟨rfl, L3.out.1⟩
  | false =>
  go_upto_if 52 with fail
  go_cut [] (fun wd => LT t a c w wd)
  case first =>
    go_wp2_with fail
    go_meet
    exact L3.out
  have L9 := hide hcut
  clear hcut
  go_step
  exact reduceB t a c u z w wc X0 HMV L9
#print axioms reduceSays_any
end Go.Proofs.Ytoakclalhfngpaa

/- The law ReduceMade. -/
namespace Go.Proofs.Ytoakclalhfngpaa
open Go.RowKit
theorem reduceMade_any (zs : List Int) (hr : ∀ z ∈ zs, Rng z) (y1 y2 y3 : Int) (h1 : Rng y1) (h2 : Rng y2) (h3 : Rng y3) (u : Value) (w : World) (X : Nat → Prop) (hu : PV w X u zs) :
    Calls Try.prog 3 #[u, .int .i64 y1, .int .i64 y2, .int .i64 y3] w fun e w' => e = .returned (.bool true) ∧ Below w.heap.size w w' :=
  reduceMade_of reduceSays_any zs hr y1 y2 y3 h1 h2 h3 u w X hu
#print axioms reduceMade_any
end Go.Proofs.Ytoakclalhfngpaa


/- Walks: reduce.Develop, reduce.Eta. -/
import Derived.Test.YtagidfoiemgfcaaGreatDoorDv3
import Derived.Test.YtagidfoiemgfcaaGreatDoorL27
import Derived.Test.YtagidfoiemgfcaaGreatDoorLn11
namespace Go.Proofs.YtagidfoiemgfcaaGreatDoor
open Go.RowKit Go.Shelf
set_option linter.unusedSimpArgs false
set_option linter.unusedVariables false
set_option maxRecDepth 8000

/-- An error, or a term that is all new. -/
def RtPost (f : Int) (y : Lm) (w : World) (e : Ending) (w' : World) : Prop :=
  Below w.heap.size w w' ∧ ((f = 0 ∧ ∃ a c, e = .returned (.tuple #[.agg #[.int .i64 y.kind, .int .i64 y.idx, .slice a y.subs.length c], .int .i64 0]) ∧ SlM w' (fun b => w.heap.size ≤ b) a y.subs) ∨ (f ≠ 0 ∧ e = .returned (.tuple #[.agg #[.int .i64 0, .int .i64 0, .slice none 0 0], .int .i64 f])))
theorem rt_end {w wz : World} {y : Lm} {a : Option Addr} {c R : Nat} (hR : w.heap.size ≤ R) (hb : Below w.heap.size w wz) (hs : SlM wz (fun b => w.heap.size ≤ b ∧ b ≠ R) a y.subs) (v0 v1 v2 : Value) :
    RtPost 0 y w (.returned (.tuple #[.agg #[.int .i64 y.kind, .int .i64 y.idx, .slice a y.subs.length c], .int .i64 0])) (((wz.setCell ⟨R, 0, none⟩ v0).setCell ⟨R, 1, none⟩ v1).setCell ⟨R, 2, none⟩ v2) := by
  refine ⟨bl_set3 hb R hR _ _ _, Or.inl ⟨rfl, a, c, rfl, (hs.kept fun q hq => ?_).mono fun b h _ => h.1⟩⟩
  rw [Below.heap_setCell _ _ _ _ (by simpa using hq.2), Below.heap_setCell _ _ _ _ (by simpa using hq.2), Below.heap_setCell _ _ _ _ (by simpa using hq.2)]
def dvE (t : Lm) (u : Int) : Int := if lamE u 0 t = 0 then (if devT 2001 t = none then 8 else 0) else lamE u 0 t
def dvY (t : Lm) : Lm := (devT 2001 t).getD ⟨0, 0, []⟩

set_option maxHeartbeats 2000000 in
theorem rDevelop_any (t : Lm) (u : Int) (v : Value) (w : World) (X : Nat → Prop) (hv : MV w X v t) :
    Calls Tryz.prog 11 #[v, .int .i64 u] w fun e w' => RtPost (dvE t u) (dvY t) w e w' := by
  obtain ⟨a, c, rfl, hs⟩ := hv
  have HB0 : Hid (Below w.heap.size w ((w.alloc (.cells #[.int .i64 t.kind, .int .i64 t.idx, .slice a t.subs.length c] 26)).alloc (.cells #[.int .i64 0, .int .i64 0, .slice none 0 0] 26))) := below2M _ _
  have HV : Hid (MV ((w.alloc (.cells #[.int .i64 t.kind, .int .i64 t.idx, .slice a t.subs.length c] 26)).alloc (.cells #[.int .i64 0, .int .i64 0, .slice none 0 0] 26)) (fun b => X b ∧ b < w.heap.size) (.agg #[.int .i64 t.kind, .int .i64 t.idx, .slice a t.subs.length c]) t) := ⟨a, c, rfl, (hs.mono (Y := fun b => X b ∧ b < w.heap.size) fun b h1 h2 => ⟨h1, h2⟩).later HB0.out⟩
  have HT : Hid (Blk ((w.alloc (.cells #[.int .i64 t.kind, .int .i64 t.idx, .slice a t.subs.length c] 26)).alloc (.cells #[.int .i64 0, .int .i64 0, .slice none 0 0] 26)) w.heap.size #[.int .i64 t.kind, .int .i64 t.idx, .slice a t.subs.length c] 26) := (Blk.new w _ _).alloc _
  have HR : Hid (Blk ((w.alloc (.cells #[.int .i64 t.kind, .int .i64 t.idx, .slice a t.subs.length c] 26)).alloc (.cells #[.int .i64 0, .int .i64 0, .slice none 0 0] 26)) (w.heap.size + 1) #[.int .i64 0, .int .i64 0, .slice none 0 0] 26) := by
    have h := Blk.new (w.alloc (.cells #[.int .i64 t.kind, .int .i64 t.idx, .slice a t.subs.length c] 26)) #[.int .i64 0, .int .i64 0, .slice none 0 0] 26
    unfold Hid
    simpa using h
  have hz0 : (((w.alloc (.cells #[.int .i64 t.kind, .int .i64 t.idx, .slice a t.subs.length c] 26)).alloc (.cells #[.int .i64 0, .int .i64 0, .slice none 0 0] 26))).heap.size = w.heap.size + 2 := by simp
  clear hs
  go_enter Tryz.func11, Tryz.ntmps11
  go_wp2_with fail
  refine (lCheck_any t _ u _ _ HV.out).mono ?_
  rintro e w1 ⟨rfl, hb1⟩
  have B9 := hide (HB0.out.trans (hb1.mono (by omega)))
  have R9 := hide (HR.out.below hb1 (by omega))
  have T9 := hide (HT.out.below hb1 (by omega))
  have V9 := hide (HV.out.later hb1)
  have hz1 : w.heap.size + 2 ≤ w1.heap.size := by have := hb1.size; omega
  clear hb1 hz0
  by_cases h : lamE u 0 t = 0
  · have hle := lamE_ok h
    have HDV := hide (develop_at 2001 t u (by omega) hle.1.1 (by omega) hle.2.1)
    have HE : Hid (dvE t u = if devT 2001 t = none then 8 else 0) := by unfold Hid dvE; rw [if_pos h]
    rw [h]
    have c0 : w1.cell? ⟨w.heap.size, 0, none⟩ = some (.int .i64 t.kind) := T9.out.cell 0
    have c1 : w1.cell? ⟨w.heap.size, 1, none⟩ = some (.int .i64 t.idx) := T9.out.cell 1
    have c2 : w1.cell? ⟨w.heap.size, 2, none⟩ = some (.slice a t.subs.length c) := T9.out.cell 2
    clear h hle
    go_wp2_with fail
    refine (HDV.out _ w1 _ V9.out).mono ?_
    rintro e w2 ⟨hb2, hcase⟩
    have hz2 : w.heap.size + 2 ≤ w2.heap.size := by have := hb2.size; omega
    have B2 := hide (B9.out.trans (hb2.mono (by omega)))
    have R2 := hide (R9.out.below hb2 (by omega))
    clear c0 c1 c2
    rcases hcase with ⟨t', a2, c2, hd, rfl, hs2⟩ | ⟨hd, k2, x2, a2, l2, c2, rfl⟩
    · have HZ : Hid (dvE t u = 0) := by unfold Hid; rw [HE.out, hd]; simp
      have HY : Hid (dvY t = t') := by unfold Hid dvY; rw [hd]; rfl
      have S2 : Hid (SlM w2 (fun b => w.heap.size ≤ b ∧ b ≠ w.heap.size + 1) a2 t'.subs) := hs2.mono fun b h _ => by omega
      have KA : Hid (Blk (w2.alloc (.cells #[.int .i64 t'.kind, .int .i64 t'.idx, .slice a2 t'.subs.length c2] 26)) w2.heap.size #[.int .i64 t'.kind, .int .i64 t'.idx, .slice a2 t'.subs.length c2] 26) := Blk.new _ _ _
      have RA := hide (R2.out.alloc (.cells #[.int .i64 t'.kind, .int .i64 t'.idx, .slice a2 t'.subs.length c2] 26))
      have BA := hide (B2.out.alloc (by omega) (.cells #[.int .i64 t'.kind, .int .i64 t'.idx, .slice a2 t'.subs.length c2] 26))
      have SA := hide (S2.out.later ((Below.refl _ _).alloc (Nat.le_refl _) (.cells #[.int .i64 t'.kind, .int .i64 t'.idx, .slice a2 t'.subs.length c2] 26)))
      have q0 := KA.out.cell 0
      have q1 := KA.out.cell 1
      have q2 := KA.out.cell 2
      have r0 := RA.out.cell 0
      have r1 := RA.out.cell 1
      have r2 := RA.out.cell 2
      have rf := RA.out.frozen
      simp only [List.getElem?_toArray, List.getElem?_cons_succ, List.getElem?_cons_zero] at q0 q1 q2 r0 r1 r2
      clear hd hs2 hb2
      go_wp2_with fail
      refine bodyPost_ret (v := .tuple #[.agg #[.int .i64 t'.kind, .int .i64 t'.idx, .slice a2 t'.subs.length c2], .int .i64 0]) (by simp [results, Tryz.results11, go_sem, World.cell?_setCell_same, World.cell?_setCell_other, r0, r1, r2]) rfl ?_
      rw [HY.out, HZ.out]
      exact rt_end (by omega) BA.out SA.out _ _ _
    · have HZ : Hid (dvE t u = 8) := by unfold Hid; rw [HE.out, hd]; simp
      have RA := hide (R2.out.alloc (.cells #[.int .i64 k2, .int .i64 x2, .slice a2 l2 c2] 26))
      have r0 := RA.out.cell 0
      have r1 := RA.out.cell 1
      have r2 := RA.out.cell 2
      have rf := RA.out.frozen
      simp only [List.getElem?_toArray, List.getElem?_cons_succ, List.getElem?_cons_zero] at r0 r1 r2
      have r0' : w2.cell? ⟨w.heap.size + 1, 0, none⟩ = some (.int .i64 0) := R2.out.cell 0
      have r1' : w2.cell? ⟨w.heap.size + 1, 1, none⟩ = some (.int .i64 0) := R2.out.cell 1
      have r2' : w2.cell? ⟨w.heap.size + 1, 2, none⟩ = some (.slice none 0 0) := R2.out.cell 2
      have rf' := R2.out.frozen
      have hl2 : w.heap.size + 1 < w2.heap.size := by omega
      have HBF : Hid (∀ o x0 x1 x2, Below w.heap.size w ((((w2.setCell ⟨w.heap.size + 1, 0, none⟩ x0).setCell ⟨w.heap.size + 1, 1, none⟩ x1).setCell ⟨w.heap.size + 1, 2, none⟩ x2).alloc o) ∧ Below w.heap.size w ((((w2.alloc o).setCell ⟨w.heap.size + 1, 0, none⟩ x0).setCell ⟨w.heap.size + 1, 1, none⟩ x1).setCell ⟨w.heap.size + 1, 2, none⟩ x2)) := fun o x0 x1 x2 => ⟨(bl_set3 B2.out _ (by omega) x0 x1 x2).alloc (by have := (bl_set3 B2.out (w.heap.size + 1) (by omega) x0 x1 x2).size; omega) o, bl_set3 (B2.out.alloc (by omega) o) _ (by omega) x0 x1 x2⟩
      clear hd hb2
      go_wp2_with fail
      refine bodyPost_ret (v := .tuple #[.agg #[.int .i64 0, .int .i64 0, .slice none 0 0], .int .i64 8]) (by simp [results, Tryz.results11, go_sem, World.cell?_setCell_same, World.cell?_setCell_other, r0, r1, r2, r0', r1', r2', hl2, World.cell?_alloc_old]) rfl ?_
      rw [HZ.out]
      exact ⟨by first | exact (HBF.out _ _ _ _).1 | exact (HBF.out _ _ _ _).2, Or.inr ⟨by decide, rfl⟩⟩
  · have HE : Hid (dvE t u = lamE u 0 t) := by unfold Hid dvE; rw [if_neg h]
    have HNE := hide h
    have hne : (lamE u 0 t == 0) = false := beq_eq_false_iff_ne.2 h
    have r0 : w1.cell? ⟨w.heap.size + 1, 0, none⟩ = some (.int .i64 0) := R9.out.cell 0
    have r1 : w1.cell? ⟨w.heap.size + 1, 1, none⟩ = some (.int .i64 0) := R9.out.cell 1
    have r2 : w1.cell? ⟨w.heap.size + 1, 2, none⟩ = some (.slice none 0 0) := R9.out.cell 2
    have rf := R9.out.frozen
    clear h
    go_wp2_with fail
    refine bodyPost_ret (v := .tuple #[.agg #[.int .i64 0, .int .i64 0, .slice none 0 0], .int .i64 (lamE u 0 t)]) (by simp [results, Tryz.results11, go_sem, World.cell?_setCell_same, World.cell?_setCell_other, r0, r1, r2]) rfl ?_
    rw [HE.out]
    exact ⟨bl_set3 B9.out _ (by omega) _ _ _, Or.inr ⟨HNE.out, rfl⟩⟩

end Go.Proofs.YtagidfoiemgfcaaGreatDoor

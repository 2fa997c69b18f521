/- Several texts in one. -/
import Derived.Test.YtfkjejpfhflanaaGreatDoorZITopWithoutOwn
import Derived.Test.YtfkjejpfhflanaaGreatDoorZOTopWithoutOwn
import Derived.Test.YtfkjejpfhflanaaGreatDoorLn4
import Derived.Test.YtfkjejpfhflanaaGreatDoorZTopWithoutOwn
import Derived.Test.YtfkjejpfhflanaaGreatDoorZHTopWithoutOwn
import Derived.Test.YtfkjejpfhflanaaGreatDoorLn11

/- Walks: the code's develop. -/
namespace Go.Proofs.YtfkjejpfhflanaaGreatDoor
open Go.RowKit Go.Shelf
set_option linter.unusedSimpArgs false
set_option linter.unusedVariables false
set_option maxRecDepth 8000

end Go.Proofs.YtfkjejpfhflanaaGreatDoor


/- Walks: the code's develop, to its end. -/
namespace Go.Proofs.YtfkjejpfhflanaaGreatDoor
open Go.RowKit Go.Shelf
set_option linter.unusedSimpArgs false
set_option linter.unusedVariables false
set_option maxRecDepth 8000

end Go.Proofs.YtfkjejpfhflanaaGreatDoor


/- Walks: reduce.Develop, reduce.Eta. -/
namespace Go.Proofs.YtfkjejpfhflanaaGreatDoor
open Go.RowKit Go.Shelf
set_option linter.unusedSimpArgs false
set_option linter.unusedVariables false
set_option maxRecDepth 8000

/-- An error, or a term that is all new. -/
def RtPost (f : Int) (y : Lm) (w : World) (e : Ending) (w' : World) : Prop :=
  Below w.heap.size w w' ∧ ((f = 0 ∧ ∃ a c, e = .returned (.tuple #[.agg #[.int .i64 y.kind, .int .i64 y.idx, .slice a y.subs.length c], .int .i64 0]) ∧ SlM w' (fun b => w.heap.size ≤ b) a y.subs) ∨ (f ≠ 0 ∧ e = .returned (.tuple #[.agg #[.int .i64 0, .int .i64 0, .slice none 0 0], .int .i64 f])))
theorem rt_end {w wz : World} {y : Lm} {a : Option Addr} {c R : Nat} (hR : w.heap.size ≤ R) (hb : Below w.heap.size w wz) (hs : SlM wz (fun b => w.heap.size ≤ b ∧ b ≠ R) a y.subs) (v0 v1 v2 : Value) :
    RtPost 0 y w (.returned (.tuple #[.agg #[.int .i64 y.kind, .int .i64 y.idx, .slice a y.subs.length c], .int .i64 0])) (((wz.setCell ⟨R, 0, none⟩ v0).setCell ⟨R, 1, none⟩ v1).setCell ⟨R, 2, none⟩ v2) := by
  refine ⟨bl_set3 hb R hR _ _ _, Or.inl ⟨rfl, a, c, rfl, (hs.kept fun q hq => ?_).mono fun b h _ => h.1⟩⟩
  rw [Below.heap_setCell _ _ _ _ (by simpa using hq.2), Below.heap_setCell _ _ _ _ (by simpa using hq.2), Below.heap_setCell _ _ _ _ (by simpa using hq.2)]
set_option maxHeartbeats 2000000 in
theorem rEta_any (t : Lm) (u : Int) (v : Value) (w : World) (X : Nat → Prop) (hv : MV w X v t) :
    Calls Tryz.prog 12 #[v, .int .i64 u] w fun e w' => RtPost (lamE u 0 t) (etaT t) w e w' := by
  obtain ⟨a, c, rfl, hs⟩ := hv
  have HB0 : Hid (Below w.heap.size w ((w.alloc (.cells #[.int .i64 t.kind, .int .i64 t.idx, .slice a t.subs.length c] 25)).alloc (.cells #[.int .i64 0, .int .i64 0, .slice none 0 0] 25))) := below2M _ _
  have HV : Hid (MV ((w.alloc (.cells #[.int .i64 t.kind, .int .i64 t.idx, .slice a t.subs.length c] 25)).alloc (.cells #[.int .i64 0, .int .i64 0, .slice none 0 0] 25)) (fun b => X b ∧ b < w.heap.size) (.agg #[.int .i64 t.kind, .int .i64 t.idx, .slice a t.subs.length c]) t) := ⟨a, c, rfl, (hs.mono (Y := fun b => X b ∧ b < w.heap.size) fun b h1 h2 => ⟨h1, h2⟩).later HB0.out⟩
  have HT : Hid (Blk ((w.alloc (.cells #[.int .i64 t.kind, .int .i64 t.idx, .slice a t.subs.length c] 25)).alloc (.cells #[.int .i64 0, .int .i64 0, .slice none 0 0] 25)) w.heap.size #[.int .i64 t.kind, .int .i64 t.idx, .slice a t.subs.length c] 25) := (Blk.new w _ _).alloc _
  have HR : Hid (Blk ((w.alloc (.cells #[.int .i64 t.kind, .int .i64 t.idx, .slice a t.subs.length c] 25)).alloc (.cells #[.int .i64 0, .int .i64 0, .slice none 0 0] 25)) (w.heap.size + 1) #[.int .i64 0, .int .i64 0, .slice none 0 0] 25) := by
    have h := Blk.new (w.alloc (.cells #[.int .i64 t.kind, .int .i64 t.idx, .slice a t.subs.length c] 25)) #[.int .i64 0, .int .i64 0, .slice none 0 0] 25
    unfold Hid
    simpa using h
  have hz0 : (((w.alloc (.cells #[.int .i64 t.kind, .int .i64 t.idx, .slice a t.subs.length c] 25)).alloc (.cells #[.int .i64 0, .int .i64 0, .slice none 0 0] 25))).heap.size = w.heap.size + 2 := by simp
  clear hs
  go_enter Tryz.func12, Tryz.ntmps12
  go_wp2_with fail
  refine (lCheck_any t _ u _ _ HV.out).mono ?_
  rintro e w1 ⟨rfl, hb1⟩
  have B9 := hide (HB0.out.trans (hb1.mono (by omega)))
  have R9 := hide (HR.out.below hb1 (by omega))
  have T9 := hide (HT.out.below hb1 (by omega))
  have V9 := hide (HV.out.later hb1)
  have hz1 : w.heap.size + 2 ≤ w1.heap.size := by have := hb1.size; omega
  clear hb1 hz0
  by_cases h : lamE u 0 t = 0
  · have hle := lamE_ok h
    have HZ0 := hide h
    have HDV := hide (eta_any t _ w1 _ V9.out (by omega) (bnd_of_err _ _ _ hle.1.1 (by omega) (by omega) hle.2.1) (sh_of_err _ _ _ hle.2.1))
    rw [h]
    have c0 : w1.cell? ⟨w.heap.size, 0, none⟩ = some (.int .i64 t.kind) := T9.out.cell 0
    have c1 : w1.cell? ⟨w.heap.size, 1, none⟩ = some (.int .i64 t.idx) := T9.out.cell 1
    have c2 : w1.cell? ⟨w.heap.size, 2, none⟩ = some (.slice a t.subs.length c) := T9.out.cell 2
    clear h hle
    go_wp2_with fail
    refine HDV.out.mono ?_
    rintro e w2 ⟨a2, c9, rfl, hs2, hb2⟩
    have hz2 : w.heap.size + 2 ≤ w2.heap.size := by have := hb2.size; omega
    have B2 := hide (B9.out.trans (hb2.mono (by omega)))
    have R2 := hide (R9.out.below hb2 (by omega))
    have S2 : Hid (SlM w2 (fun b => w.heap.size ≤ b ∧ b ≠ w.heap.size + 1) a2 (etaT t).subs) := hs2.mono fun b h _ => by omega
    have r0 : w2.cell? ⟨w.heap.size + 1, 0, none⟩ = some (.int .i64 0) := R2.out.cell 0
    have r1 : w2.cell? ⟨w.heap.size + 1, 1, none⟩ = some (.int .i64 0) := R2.out.cell 1
    have r2 : w2.cell? ⟨w.heap.size + 1, 2, none⟩ = some (.slice none 0 0) := R2.out.cell 2
    have rf := R2.out.frozen
    clear c0 c1 c2 hs2 hb2
    go_wp2_with fail
    refine bodyPost_ret (v := .tuple #[.agg #[.int .i64 (etaT t).kind, .int .i64 (etaT t).idx, .slice a2 (etaT t).subs.length c9], .int .i64 0]) (by simp [results, Tryz.results12, go_sem, World.cell?_setCell_same, World.cell?_setCell_other, r0, r1, r2]) rfl ?_
    rw [HZ0.out]
    exact rt_end (by omega) B2.out S2.out _ _ _
  · have HNE := hide h
    have hne : (lamE u 0 t == 0) = false := beq_eq_false_iff_ne.2 h
    have r0 : w1.cell? ⟨w.heap.size + 1, 0, none⟩ = some (.int .i64 0) := R9.out.cell 0
    have r1 : w1.cell? ⟨w.heap.size + 1, 1, none⟩ = some (.int .i64 0) := R9.out.cell 1
    have r2 : w1.cell? ⟨w.heap.size + 1, 2, none⟩ = some (.slice none 0 0) := R9.out.cell 2
    have rf := R9.out.frozen
    clear h
    go_wp2_with fail
    refine bodyPost_ret (v := .tuple #[.agg #[.int .i64 0, .int .i64 0, .slice none 0 0], .int .i64 (lamE u 0 t)]) (by simp [results, Tryz.results12, go_sem, World.cell?_setCell_same, World.cell?_setCell_other, r0, r1, r2]) rfl ?_
    exact ⟨bl_set3 B9.out _ (by omega) _ _ _, Or.inr ⟨HNE.out, rfl⟩⟩
end Go.Proofs.YtfkjejpfhflanaaGreatDoor

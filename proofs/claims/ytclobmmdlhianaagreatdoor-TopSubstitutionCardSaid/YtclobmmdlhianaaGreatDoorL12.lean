/- Walks: lambda.Put. -/
import Derived.Test.YtclobmmdlhianaaGreatDoorL10
import Derived.Test.YtclobmmdlhianaaGreatDoorL11
namespace Go.Proofs.YtclobmmdlhianaaGreatDoor
open Go.RowKit
set_option linter.unusedSimpArgs false
set_option linter.unusedVariables false
set_option maxRecDepth 8000

/-- What lambda.Put says. -/
def putE (t z : Lm) (u : Int) : Int := if u < 0 ∨ 40 ≤ u then 10 else if lamE (u + 1) 0 t ≠ 0 then lamE (u + 1) 0 t else if lamE u 0 z ≠ 0 then lamE u 0 z else if 2000 < sizeM [insT z 0 t] then 8 else 0
theorem lamE_zero {u : Int} {t : Lm} (h : lamE u 0 t = 0) : sizeM [t] ≤ 200 ∧ BndM [t] ∧ LfM [t] := by
  unfold lamE at h
  split at h
  · cases h
  · split at h
    · cases h
    · rename_i h1 h2
      exact ⟨by omega, bnd_of_err [t] u 0 (by omega) (by omega) (by omega) h, lf_of_err [t] u 0 h⟩
/-- What lambda.Put answers. -/
def LPutPost (w : World) (t z : Lm) (u : Int) (e : Ending) (w' : World) : Prop :=
  Below w.heap.size w w' ∧ ((putE t z u = 0 ∧ ∃ a c, e = .returned (.tuple #[.agg #[.int .i64 (insT z 0 t).kind, .int .i64 (insT z 0 t).idx, .slice a (insT z 0 t).subs.length c], .int .i64 0]) ∧ SlM w' (fun b => w.heap.size ≤ b) a (insT z 0 t).subs) ∨ (putE t z u ≠ 0 ∧ e = .returned (.tuple #[.agg #[.int .i64 0, .int .i64 0, .slice none 0 0], .int .i64 (putE t z u)])))

set_option maxHeartbeats 1000000 in
theorem lPut_any (t z : Lm) (v x : Value) (u : Int) (w : World) (X : Nat → Prop) (hv : MV w X v t) (hx : MV w X x z) :
    Calls Tryz.prog 6 #[v, x, .int .i64 u] w fun e w' => LPutPost w t z u e w' := by
  obtain ⟨a, c, rfl, hs⟩ := hv
  obtain ⟨az, cz, rfl, hsz⟩ := hx
  have HS := hide hs
  have HZ := hide hsz
  clear hs hsz
  have B3 : Hid (Below w.heap.size w (((w.alloc (.cells #[.int .i64 t.kind, .int .i64 t.idx, .slice a t.subs.length c] 25)).alloc (.cells #[.int .i64 z.kind, .int .i64 z.idx, .slice az z.subs.length cz] 25)).alloc (.cells #[.int .i64 0, .int .i64 0, .slice none 0 0] 25))) := (((Below.refl w.heap.size w).alloc (Nat.le_refl _) (.cells #[.int .i64 t.kind, .int .i64 t.idx, .slice a t.subs.length c] 25)).alloc (by simp) (.cells #[.int .i64 z.kind, .int .i64 z.idx, .slice az z.subs.length cz] 25)).alloc (by simp; omega) (.cells #[.int .i64 0, .int .i64 0, .slice none 0 0] 25)
  have R3 : Hid (Blk (((w.alloc (.cells #[.int .i64 t.kind, .int .i64 t.idx, .slice a t.subs.length c] 25)).alloc (.cells #[.int .i64 z.kind, .int .i64 z.idx, .slice az z.subs.length cz] 25)).alloc (.cells #[.int .i64 0, .int .i64 0, .slice none 0 0] 25)) (w.heap.size + 1 + 1) #[.int .i64 0, .int .i64 0, .slice none 0 0] 25) := by
    have h := Blk.new ((w.alloc (.cells #[.int .i64 t.kind, .int .i64 t.idx, .slice a t.subs.length c] 25)).alloc (.cells #[.int .i64 z.kind, .int .i64 z.idx, .slice az z.subs.length cz] 25)) #[.int .i64 0, .int .i64 0, .slice none 0 0] 25
    simp only [World.size_alloc] at h
    exact h
  by_cases hu0 : u < 0
  · have HE : Hid (putE t z u = 10) := by unfold Hid putE; simp [hu0]
    go_enter Tryz.func6, Tryz.ntmps6
    go_wp2_with fail
    refine bodyPost_ret (v := .tuple #[.agg #[.int .i64 0, .int .i64 0, .slice none 0 0], .int .i64 10]) (by simp [results, Tryz.results6, go_sem, World.cell?_setCell_same, World.cell?_setCell_other, World.cell?_alloc_old]) rfl ?_
    exact ⟨B3.out, Or.inr ⟨by rw [HE.out]; decide, by rw [HE.out]⟩⟩
  · by_cases hu1 : 40 ≤ u
    · have HE : Hid (putE t z u = 10) := by unfold Hid putE; simp [hu1]
      go_enter Tryz.func6, Tryz.ntmps6
      go_wp2_with fail
      refine bodyPost_ret (v := .tuple #[.agg #[.int .i64 0, .int .i64 0, .slice none 0 0], .int .i64 10]) (by simp [results, Tryz.results6, go_sem, World.cell?_setCell_same, World.cell?_setCell_other, World.cell?_alloc_old]) rfl ?_
      exact ⟨B3.out, Or.inr ⟨by rw [HE.out]; decide, by rw [HE.out]⟩⟩
    · have hw1 : IntKind.i64.wrap (u + 1) = u + 1 := by rw [IntKind.wrap_i64]; omega
      have HU : Hid (¬ (u < 0 ∨ 40 ≤ u)) := by unfold Hid; omega
      go_enter Tryz.func6, Tryz.ntmps6
      go_wp2_with fail
      refine (lCheck_any t _ (u + 1) _ X ⟨a, c, rfl, HS.out.later B3.out⟩).mono ?_
      rintro e w4 ⟨rfl, hb4⟩
      have B4 := hide (B3.out.trans (hb4.mono (by simp; omega)))
      have R4 := hide (R3.out.below hb4 R3.out.lt)
      have XBK : Hid (Blk w4 (w.heap.size + 1) #[.int .i64 z.kind, .int .i64 z.idx, .slice az z.subs.length cz] 25) := by
        have h := ((Blk.new (w.alloc (.cells #[.int .i64 t.kind, .int .i64 t.idx, .slice a t.subs.length c] 25)) #[.int .i64 z.kind, .int .i64 z.idx, .slice az z.subs.length cz] 25).alloc (.cells #[.int .i64 0, .int .i64 0, .slice none 0 0] 25)).below hb4 (by simp)
        simp only [World.size_alloc] at h
        exact h
      have TBK : Hid (Blk w4 w.heap.size #[.int .i64 t.kind, .int .i64 t.idx, .slice a t.subs.length c] 25) := (((Blk.new w #[.int .i64 t.kind, .int .i64 t.idx, .slice a t.subs.length c] 25).alloc (.cells #[.int .i64 z.kind, .int .i64 z.idx, .slice az z.subs.length cz] 25)).alloc (.cells #[.int .i64 0, .int .i64 0, .slice none 0 0] 25)).below hb4 (by simp; omega)
      clear hb4 B3 R3
      have r0 : w4.cell? ⟨w.heap.size + 1 + 1, 0, none⟩ = some (.int .i64 0) := R4.out.cell 0
      have r1 : w4.cell? ⟨w.heap.size + 1 + 1, 1, none⟩ = some (.int .i64 0) := R4.out.cell 1
      have r2 : w4.cell? ⟨w.heap.size + 1 + 1, 2, none⟩ = some (.slice none 0 0) := R4.out.cell 2
      have rf := R4.out.frozen
      have hRl := R4.out.lt
      have x0 : w4.cell? ⟨w.heap.size + 1, 0, none⟩ = some (.int .i64 z.kind) := XBK.out.cell 0
      have x1 : w4.cell? ⟨w.heap.size + 1, 1, none⟩ = some (.int .i64 z.idx) := XBK.out.cell 1
      have x2 : w4.cell? ⟨w.heap.size + 1, 2, none⟩ = some (.slice az z.subs.length cz) := XBK.out.cell 2
      by_cases hne : lamE (u + 1) 0 t = 0
      case neg =>
        have HE : Hid (putE t z u = lamE (u + 1) 0 t) := by unfold Hid putE; rw [if_neg HU.out, if_pos hne]
        have hnb : (lamE (u + 1) 0 t == 0) = false := by simpa using hne
        go_wp2_with fail
        refine bodyPost_ret (v := .tuple #[.agg #[.int .i64 0, .int .i64 0, .slice none 0 0], .int .i64 (lamE (u + 1) 0 t)]) (by simp [results, Tryz.results6, go_sem, World.cell?_setCell_same, World.cell?_setCell_other, World.cell?_alloc_old, r0, r1, r2, hRl]) rfl ?_
        exact ⟨((((B4.out).setCell (by simp; omega) _).setCell (by simp; omega) _).setCell (by simp; omega) _), Or.inr ⟨by rw [HE.out]; exact hne, by rw [HE.out]⟩⟩
      case pos =>
        have HT0 := hide hne
        rw [hne]
        clear hne
        go_wp2_with fail
        refine (lCheck_any z _ u _ X ⟨az, cz, rfl, HZ.out.later B4.out⟩).mono ?_
        rintro e w5 ⟨rfl, hb5⟩
        have B5 := hide (B4.out.trans (hb5.mono B4.out.size))
        have R5 := hide (R4.out.below hb5 R4.out.lt)
        have TBK5 := hide (TBK.out.below hb5 TBK.out.lt)
        have XBK5 := hide (XBK.out.below hb5 XBK.out.lt)
        clear hb5 B4 R4 TBK XBK r0 r1 r2 rf hRl x0 x1 x2
        have r0 : w5.cell? ⟨w.heap.size + 1 + 1, 0, none⟩ = some (.int .i64 0) := R5.out.cell 0
        have r1 : w5.cell? ⟨w.heap.size + 1 + 1, 1, none⟩ = some (.int .i64 0) := R5.out.cell 1
        have r2 : w5.cell? ⟨w.heap.size + 1 + 1, 2, none⟩ = some (.slice none 0 0) := R5.out.cell 2
        have rf := R5.out.frozen
        have hRl := R5.out.lt
        have x0 : w5.cell? ⟨w.heap.size + 1, 0, none⟩ = some (.int .i64 z.kind) := XBK5.out.cell 0
        have x1 : w5.cell? ⟨w.heap.size + 1, 1, none⟩ = some (.int .i64 z.idx) := XBK5.out.cell 1
        have x2 : w5.cell? ⟨w.heap.size + 1, 2, none⟩ = some (.slice az z.subs.length cz) := XBK5.out.cell 2
        have t0 : w5.cell? ⟨w.heap.size, 0, none⟩ = some (.int .i64 t.kind) := TBK5.out.cell 0
        have t1 : w5.cell? ⟨w.heap.size, 1, none⟩ = some (.int .i64 t.idx) := TBK5.out.cell 1
        have t2 : w5.cell? ⟨w.heap.size, 2, none⟩ = some (.slice a t.subs.length c) := TBK5.out.cell 2
        by_cases hne : lamE u 0 z = 0
        case neg =>
          have HE : Hid (putE t z u = lamE u 0 z) := by unfold Hid putE; rw [if_neg HU.out, if_neg (by simpa using HT0.out), if_pos hne]
          have hnb : (lamE u 0 z == 0) = false := by simpa using hne
          go_wp2_with fail
          refine bodyPost_ret (v := .tuple #[.agg #[.int .i64 0, .int .i64 0, .slice none 0 0], .int .i64 (lamE u 0 z)]) (by simp [results, Tryz.results6, go_sem, World.cell?_setCell_same, World.cell?_setCell_other, World.cell?_alloc_old, r0, r1, r2, hRl]) rfl ?_
          exact ⟨((((B5.out).setCell (by simp; omega) _).setCell (by simp; omega) _).setCell (by simp; omega) _), Or.inr ⟨by rw [HE.out]; exact hne, by rw [HE.out]⟩⟩
        case pos =>
          have HZ0 := hide hne
          rw [hne]
          clear hne
          go_wp2_with fail
          refine (bPut_any t z _ _ _ X ⟨a, c, rfl, HS.out.later B5.out⟩ ⟨az, cz, rfl, HZ.out.later B5.out⟩ (by have := (lamE_zero HT0.out).1; omega) (lamE_zero HT0.out).2.1 (lamE_zero HT0.out).2.2 (by have := (lamE_zero HZ0.out).1; omega) (lamE_zero HZ0.out).2.1 (lamE_zero HZ0.out).2.2).mono ?_
          rintro e w6 ⟨hb6, hcase⟩
          have B6 := hide (B5.out.trans (hb6.mono B5.out.size))
          have R6 := hide (R5.out.below hb6 R5.out.lt)
          have hsz5 := B5.out.size
          have hsz6 := hb6.size
          have hlt5 := R5.out.lt
          clear hb6 B5 R5 TBK5 XBK5 r0 r1 r2 rf hRl x0 x1 x2 t0 t1 t2
          have r0 : w6.cell? ⟨w.heap.size + 1 + 1, 0, none⟩ = some (.int .i64 0) := R6.out.cell 0
          have r1 : w6.cell? ⟨w.heap.size + 1 + 1, 1, none⟩ = some (.int .i64 0) := R6.out.cell 1
          have r2 : w6.cell? ⟨w.heap.size + 1 + 1, 2, none⟩ = some (.slice none 0 0) := R6.out.cell 2
          have rf := R6.out.frozen
          have hRl := R6.out.lt
          rcases hcase with ⟨hle, a6, c6, rfl, hs6⟩ | ⟨hgt, rfl⟩
          · have HE : Hid (putE t z u = 0) := by unfold Hid putE; rw [if_neg HU.out, if_neg (by simpa using HT0.out), if_neg (by simpa using HZ0.out), if_neg (by omega)]
            have S6 := hide (hs6.mono (Y := fun b => w5.heap.size ≤ b ∧ b < w6.heap.size) fun b h1 h2 => ⟨h1, h2⟩)
            clear hs6 hle
            go_wp2_with fail
            refine bodyPost_ret (v := .tuple #[.agg #[.int .i64 (insT z 0 t).kind, .int .i64 (insT z 0 t).idx, .slice a6 (insT z 0 t).subs.length c6], .int .i64 0]) (by simp [results, Tryz.results6, go_sem, World.cell?_setCell_same, World.cell?_setCell_other, World.cell?_alloc_old, r0, r1, r2, hRl]) rfl ?_
            refine ⟨((((B6.out).setCell (by simp; omega) _).setCell (by simp; omega) _).setCell (by simp; omega) _).alloc (by have := B6.out.size; simpa [World.setCell] using this) _, Or.inl ⟨HE.out, a6, c6, rfl, (S6.out.kept fun b hb => ?_).mono fun b hb _ => by omega⟩⟩
            have hbl := hb.2
            rw [Below.heap_alloc _ _ _ (by simpa [World.setCell] using hbl), Below.heap_setCell _ _ _ _ (by simp; omega), Below.heap_setCell _ _ _ _ (by simp; omega), Below.heap_setCell _ _ _ _ (by simp; omega)]
          · have HE : Hid (putE t z u = 8) := by unfold Hid putE; rw [if_neg HU.out, if_neg (by simpa using HT0.out), if_neg (by simpa using HZ0.out), if_pos hgt]
            clear hgt
            go_wp2_with fail
            refine bodyPost_ret (v := .tuple #[.agg #[.int .i64 0, .int .i64 0, .slice none 0 0], .int .i64 8]) (by simp [results, Tryz.results6, go_sem, World.cell?_setCell_same, World.cell?_setCell_other, World.cell?_alloc_old, r0, r1, r2, hRl]) rfl ?_
            exact ⟨(((((B6.out).setCell (by simp; omega) _).setCell (by simp; omega) _).setCell (by simp; omega) _)).alloc (by have := B6.out.size; simpa [World.setCell] using this) _, Or.inr ⟨by rw [HE.out]; decide, by rw [HE.out]⟩⟩
end Go.Proofs.YtclobmmdlhianaaGreatDoor

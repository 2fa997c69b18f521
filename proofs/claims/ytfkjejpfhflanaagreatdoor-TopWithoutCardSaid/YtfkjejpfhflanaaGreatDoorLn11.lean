/- Walks: the program's normal form. -/
import Derived.Test.YtfkjejpfhflanaaGreatDoorLn9
import Derived.Test.YtfkjejpfhflanaaGreatDoorZBTopWithoutOwn
namespace Go.Proofs.YtfkjejpfhflanaaGreatDoor
open Go.RowKit
set_option linter.unusedSimpArgs false
set_option linter.unusedVariables false
set_option maxRecDepth 8000

theorem lamE_ok {u : Int} {t : Lm} (h : lamE u 0 t = 0) : (0 ≤ u ∧ u ≤ 40) ∧ errM u 0 [t] = 0 ∧ sizeM [t] ≤ 200 := by
  unfold lamE at h
  split at h
  · cases h
  · split at h
    · cases h
    · exact ⟨by omega, h, by omega⟩

set_option maxHeartbeats 2000000 in
theorem rRun_ok (t : Lm) (u : Int) (m : Nat) (hm : m ≤ 400) (hE : lamE u 0 t = 0) (v : Value) (w : World) (X : Nat → Prop) (hv : MV w X v t) :
    Calls Tryz.prog 22 #[v, .int .i64 u, .int .i64 (m : Int), .func (.func 23) #[] #[]] w fun e w' => RnPost false m t X w e w' := by
  obtain ⟨a, c, rfl, hs⟩ := hv
  have HB0 : Hid (Below w.heap.size w ((w.alloc (.cells #[.int .i64 t.kind, .int .i64 t.idx, .slice a t.subs.length c] 25)).alloc (.cells #[.int .i64 0, .int .i64 0, .slice none 0 0] 25))) := below2M _ _
  have HV : Hid (MV ((w.alloc (.cells #[.int .i64 t.kind, .int .i64 t.idx, .slice a t.subs.length c] 25)).alloc (.cells #[.int .i64 0, .int .i64 0, .slice none 0 0] 25)) (fun b => X b ∧ b < w.heap.size) (.agg #[.int .i64 t.kind, .int .i64 t.idx, .slice a t.subs.length c]) t) := ⟨a, c, rfl, (hs.mono (Y := fun b => X b ∧ b < w.heap.size) fun b h1 h2 => ⟨h1, h2⟩).later HB0.out⟩
  have HT : Hid (Blk ((w.alloc (.cells #[.int .i64 t.kind, .int .i64 t.idx, .slice a t.subs.length c] 25)).alloc (.cells #[.int .i64 0, .int .i64 0, .slice none 0 0] 25)) w.heap.size #[.int .i64 t.kind, .int .i64 t.idx, .slice a t.subs.length c] 25) := (Blk.new w _ _).alloc _
  have HR : Hid (Blk ((w.alloc (.cells #[.int .i64 t.kind, .int .i64 t.idx, .slice a t.subs.length c] 25)).alloc (.cells #[.int .i64 0, .int .i64 0, .slice none 0 0] 25)) (w.heap.size + 1) #[.int .i64 0, .int .i64 0, .slice none 0 0] 25) := by
    have h := Blk.new (w.alloc (.cells #[.int .i64 t.kind, .int .i64 t.idx, .slice a t.subs.length c] 25)) #[.int .i64 0, .int .i64 0, .slice none 0 0] 25
    unfold Hid
    simpa using h
  have hz0 : (((w.alloc (.cells #[.int .i64 t.kind, .int .i64 t.idx, .slice a t.subs.length c] 25)).alloc (.cells #[.int .i64 0, .int .i64 0, .slice none 0 0] 25))).heap.size = w.heap.size + 2 := by simp
  clear hs
  have HE := hide hE
  have gm : decide ((m : Int) < 0) = false := decide_eq_false (by omega)
  have gm2 : decide ((m : Int) > 400) = false := decide_eq_false (by omega)
  clear hE
  go_enter Tryz.func22, Tryz.ntmps22
  go_wp2_with fail
  refine (lCheck_any t _ u _ _ HV.out).mono ?_
  rintro e w1 ⟨rfl, hb1⟩
  rw [HE.out]
  have B1 := hide (HB0.out.trans (hb1.mono (by omega)))
  have T1 := HT.out.below hb1 (by omega)
  have R1 := hide (HR.out.below hb1 (by omega))
  have hw1 : w.heap.size + 2 ≤ w1.heap.size := by have := hb1.size; omega
  have V1 := hide (HV.out.later hb1)
  have c0 : w1.cell? ⟨w.heap.size, 0, none⟩ = some (.int .i64 t.kind) := T1.cell 0
  have c1 : w1.cell? ⟨w.heap.size, 1, none⟩ = some (.int .i64 t.idx) := T1.cell 1
  have c2 : w1.cell? ⟨w.heap.size, 2, none⟩ = some (.slice a t.subs.length c) := T1.cell 2
  clear hb1 T1 hz0
  go_wp2_with fail
  refine (bRun_any u m t _ w1 _ hm (lamE_ok HE.out).1 (lamE_ok HE.out).2.1 (by have := (lamE_ok HE.out).2.2; omega) V1.out).mono ?_
  rintro e w9 ⟨hb9, hcase⟩
  have B9 := hide (B1.out.trans (hb9.mono (by omega)))
  have R9 := hide (R1.out.below hb9 (by omega))
  have hw9 : w1.heap.size ≤ w9.heap.size := hb9.size
  have r0 : w9.cell? ⟨w.heap.size + 1, 0, none⟩ = some (.int .i64 0) := R9.out.cell 0
  have r1 : w9.cell? ⟨w.heap.size + 1, 1, none⟩ = some (.int .i64 0) := R9.out.cell 1
  have r2 : w9.cell? ⟨w.heap.size + 1, 2, none⟩ = some (.slice none 0 0) := R9.out.cell 2
  have rf := R9.out.frozen
  clear hb9 c0 c1 c2
  rcases hcase with ⟨h0, a9, c9, rfl, hs9⟩ | ⟨h0, rfl⟩
  · have S9 : Hid (SlM w9 (fun b => (X b ∧ b < w.heap.size) ∨ w.heap.size + 2 ≤ b) a9 (endM false m t).2.1.subs) := hs9.mono fun b hb _ => hb.imp (fun h => h.1) fun h => by omega
    have H0 := hide h0
    clear hs9 h0
    go_wp2_with fail
    refine bodyPost_ret (v := .tuple #[.agg #[.int .i64 (endM false m t).2.1.kind, .int .i64 (endM false m t).2.1.idx, .slice a9 (endM false m t).2.1.subs.length c9], .int .i64 ((endM false m t).2.2 : Int), .int .i64 0]) (by simp [results, Tryz.results22, go_sem, World.cell?_setCell_same, World.cell?_setCell_other, r0, r1, r2]) rfl ?_
    refine ⟨bl_set3 B9.out _ (by omega) _ _ _, Or.inl ⟨H0.out, a9, c9, rfl, (S9.out.kept fun b hb => ?_).mono fun b hb _ => hb.imp id fun h => by omega⟩⟩
    have hne : b ≠ w.heap.size + 1 := by rcases hb with hb | hb <;> omega
    rw [Below.heap_setCell _ _ _ _ (by simpa using hne), Below.heap_setCell _ _ _ _ (by simpa using hne), Below.heap_setCell _ _ _ _ (by simpa using hne)]
  · have H0 := hide h0
    clear h0
    go_wp2_with fail
    refine bodyPost_ret (v := .tuple #[.agg #[.int .i64 0, .int .i64 0, .slice none 0 0], .int .i64 0, .int .i64 (endM false m t).1]) (by simp [results, Tryz.results22, go_sem, World.cell?_setCell_same, World.cell?_setCell_other, r0, r1, r2]) rfl ?_
    exact ⟨bl_set3 B9.out _ (by omega) _ _ _, Or.inr ⟨H0.out, rfl⟩⟩

set_option maxHeartbeats 2000000 in
theorem normal_ok (t : Lm) (u : Int) (m : Nat) (hm : m ≤ 400) (hE : lamE u 0 t = 0) (v : Value) (w : World) (X : Nat → Prop) (hv : MV w X v t) :
    Calls Tryz.prog 11 #[v, .int .i64 u, .int .i64 (m : Int)] w fun e w' => RnPost false m t X w e w' := by
  obtain ⟨a, c, rfl, hs⟩ := hv
  have HB0 : Hid (Below w.heap.size w ((w.alloc (.cells #[.int .i64 t.kind, .int .i64 t.idx, .slice a t.subs.length c] 25)).alloc (.cells #[.int .i64 0, .int .i64 0, .slice none 0 0] 25))) := below2M _ _
  have HV : Hid (MV ((w.alloc (.cells #[.int .i64 t.kind, .int .i64 t.idx, .slice a t.subs.length c] 25)).alloc (.cells #[.int .i64 0, .int .i64 0, .slice none 0 0] 25)) (fun b => X b ∧ b < w.heap.size) (.agg #[.int .i64 t.kind, .int .i64 t.idx, .slice a t.subs.length c]) t) := ⟨a, c, rfl, (hs.mono (Y := fun b => X b ∧ b < w.heap.size) fun b h1 h2 => ⟨h1, h2⟩).later HB0.out⟩
  have HT : Hid (Blk ((w.alloc (.cells #[.int .i64 t.kind, .int .i64 t.idx, .slice a t.subs.length c] 25)).alloc (.cells #[.int .i64 0, .int .i64 0, .slice none 0 0] 25)) w.heap.size #[.int .i64 t.kind, .int .i64 t.idx, .slice a t.subs.length c] 25) := (Blk.new w _ _).alloc _
  have HR : Hid (Blk ((w.alloc (.cells #[.int .i64 t.kind, .int .i64 t.idx, .slice a t.subs.length c] 25)).alloc (.cells #[.int .i64 0, .int .i64 0, .slice none 0 0] 25)) (w.heap.size + 1) #[.int .i64 0, .int .i64 0, .slice none 0 0] 25) := by
    have h := Blk.new (w.alloc (.cells #[.int .i64 t.kind, .int .i64 t.idx, .slice a t.subs.length c] 25)) #[.int .i64 0, .int .i64 0, .slice none 0 0] 25
    unfold Hid
    simpa using h
  have hz0 : (((w.alloc (.cells #[.int .i64 t.kind, .int .i64 t.idx, .slice a t.subs.length c] 25)).alloc (.cells #[.int .i64 0, .int .i64 0, .slice none 0 0] 25))).heap.size = w.heap.size + 2 := by simp
  clear hs
  have HE := hide hE
  clear hE
  go_enter Tryz.func11, Tryz.ntmps11
  go_wp2_with fail
  refine (rRun_ok t u m hm HE.out _ _ _ HV.out).mono ?_
  rintro e w9 ⟨hb9, hcase⟩
  have B9 := hide (HB0.out.trans (hb9.mono (by omega)))
  have R9 := hide (HR.out.below hb9 (by omega))
  have hw9 : w.heap.size + 2 ≤ w9.heap.size := by have := hb9.size; omega
  have r0 : w9.cell? ⟨w.heap.size + 1, 0, none⟩ = some (.int .i64 0) := R9.out.cell 0
  have r1 : w9.cell? ⟨w.heap.size + 1, 1, none⟩ = some (.int .i64 0) := R9.out.cell 1
  have r2 : w9.cell? ⟨w.heap.size + 1, 2, none⟩ = some (.slice none 0 0) := R9.out.cell 2
  have rf := R9.out.frozen
  clear hb9
  rw [hz0] at hcase
  clear hz0
  rcases hcase with ⟨h0, a9, c9, rfl, hs9⟩ | ⟨h0, rfl⟩
  · have S9 : Hid (SlM w9 (fun b => (X b ∧ b < w.heap.size) ∨ w.heap.size + 2 ≤ b) a9 (endM false m t).2.1.subs) := hs9.mono fun b hb _ => hb.imp (fun h => h.1) fun h => by omega
    have H0 := hide h0
    clear hs9 h0
    go_wp2_with fail
    refine bodyPost_ret (v := .tuple #[.agg #[.int .i64 (endM false m t).2.1.kind, .int .i64 (endM false m t).2.1.idx, .slice a9 (endM false m t).2.1.subs.length c9], .int .i64 ((endM false m t).2.2 : Int), .int .i64 0]) (by simp [results, Tryz.results11, go_sem, World.cell?_setCell_same, World.cell?_setCell_other, r0, r1, r2]) rfl ?_
    refine ⟨bl_set3 B9.out _ (by omega) _ _ _, Or.inl ⟨H0.out, a9, c9, rfl, (S9.out.kept fun b hb => ?_).mono fun b hb _ => hb.imp id fun h => by omega⟩⟩
    have hne : b ≠ w.heap.size + 1 := by rcases hb with hb | hb <;> omega
    rw [Below.heap_setCell _ _ _ _ (by simpa using hne), Below.heap_setCell _ _ _ _ (by simpa using hne), Below.heap_setCell _ _ _ _ (by simpa using hne)]
  · have H0 := hide h0
    clear h0
    go_wp2_with fail
    refine bodyPost_ret (v := .tuple #[.agg #[.int .i64 0, .int .i64 0, .slice none 0 0], .int .i64 0, .int .i64 (endM false m t).1]) (by simp [results, Tryz.results11, go_sem, World.cell?_setCell_same, World.cell?_setCell_other, r0, r1, r2]) rfl ?_
    exact ⟨bl_set3 B9.out _ (by omega) _ _ _, Or.inr ⟨H0.out, rfl⟩⟩
end Go.Proofs.YtfkjejpfhflanaaGreatDoor

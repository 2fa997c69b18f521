import Derived.Test.YthnncjgjmohinaaGreatDoorZInferMadeOwn
import Derived.Test.YthnncjgjmohinaaGreatDoorZCInferMadeOwn
import Derived.Test.YthnncjgjmohinaaGreatDoorIf16
import Derived.Laws.EntriesVeiled
namespace Go.Proofs.YthnncjgjmohinaaGreatDoor
open Go.RowKit
set_option linter.unusedSimpArgs false
set_option linter.unusedVariables false
set_option maxRecDepth 8000
theorem infoYt : (Tryz.prog.info? 30).map (fun i => (i.zero, i.size, i.bytes)) = some (some (.agg #[.int .i64 0, .slice none 0 0]), 2, 32) := by kernel_rfl
theorem infoBl : (Tryz.prog.info? 4).map (fun i => (i.zero, i.size, i.bytes)) = some (some (.bool false), 1, 1) := by kernel_rfl
theorem make_types : ∃ cs : Array Value, cs.size = 4002 ∧ ∀ w, (Instr.makeSlice 28 (.int .i64 2001) (.int .i64 2001)).run Tryz.prog w = .ok (.slice (some ⟨w.heap.size, 0, none⟩) 2001 2001) (w.alloc (.cells cs 30)) := by
 obtain ⟨i0, hi, hz0, hz1, hz2⟩ := info_parts infoYt
 refine ⟨madeCells (Value.agg #[.int .i64 0, .slice none 0 0]).cells (2001 * i0.size), by rw [size_madeCells, hz1], fun w => ?_⟩
 have hr := run_make (P := Tryz.prog) w 28 30 i0 _ Tryz.underlying28 hi hz0 .i64 .i64 2001 2001 (by omega) (by omega) (by rw [hz2]; omega) (by omega)
 simpa using hr
theorem make_knowns : ∃ cs : Array Value, (cs.size = 2001 ∧ ∀ n : Nat, n < 2001 → cs[n]? = some (.bool false)) ∧ ∀ w, (Instr.makeSlice 89 (.int .i64 2001) (.int .i64 2001)).run Tryz.prog w = .ok (.slice (some ⟨w.heap.size, 0, none⟩) 2001 2001) (w.alloc (.cells cs 4)) := by
 obtain ⟨i0, hi, hz0, hz1, hz2⟩ := info_parts infoBl
 refine ⟨madeCells (Value.bool false).cells (2001 * i0.size), ⟨by rw [size_madeCells, hz1, Nat.mul_one], fun n hn => ?_⟩, fun w => ?_⟩
 ·rw [hz1, Nat.mul_one]
  simp [madeCells, Value.cells, hn, Nat.mod_one]
 have hr := run_make (P := Tryz.prog) w 89 4 i0 _ Tryz.underlying89 hi hz0 .i64 .i64 2001 2001 (by omega) (by omega) (by rw [hz2]; omega) (by omega)
 simpa using hr
set_option maxHeartbeats 4000000 in
theorem isCase_any (p t : Ty) (v u : Value) (w : World) (Z X : Nat → Prop) (hsh : shY [p]) (hv : YV w Z v p) (hu : YV w X u t) :
  Calls Tryz.prog 53 #[v, u] w fun e w' => e = .returned (.bool (caB p t)) ∧ Below w.heap.size w w' := by
 have HV := hide (hv.mono (Y := fun b => b < w.heap.size) fun b h1 h2 => h2)
 have HU := hide (hu.mono (Y := fun b => b < w.heap.size) fun b h1 h2 => h2)
 obtain ⟨a, c, rfl, -⟩ := hv
 obtain ⟨a', c', rfl, -⟩ := hu
 have B2 : Hid (Below w.heap.size w ((w.alloc (.cells #[.int .i64 p.base, .slice a p.subs.length c] 30)).alloc (.cells #[.int .i64 t.base, .slice a' t.subs.length c'] 30))) := ((Below.refl _ _).alloc (Nat.le_refl _) _).alloc (by simp) _
 have A2 : Hid (Blk ((w.alloc (.cells #[.int .i64 p.base, .slice a p.subs.length c] 30)).alloc (.cells #[.int .i64 t.base, .slice a' t.subs.length c'] 30)) w.heap.size #[.int .i64 p.base, .slice a p.subs.length c] 30) := (Blk.new _ _ _).alloc _
 have C2 : Hid (Blk ((w.alloc (.cells #[.int .i64 p.base, .slice a p.subs.length c] 30)).alloc (.cells #[.int .i64 t.base, .slice a' t.subs.length c'] 30)) (w.heap.size + 1) #[.int .i64 t.base, .slice a' t.subs.length c'] 30) := by have h := Blk.new (w.alloc (.cells #[.int .i64 p.base, .slice a p.subs.length c] 30)) #[.int .i64 t.base, .slice a' t.subs.length c'] 30; rw [World.size_alloc] at h; exact h
 have hn2 : (((w.alloc (.cells #[.int .i64 p.base, .slice a p.subs.length c] 30)).alloc (.cells #[.int .i64 t.base, .slice a' t.subs.length c'] 30))).heap.size = w.heap.size + 2 := by simp
 go_enter Tryz.func53, Tryz.ntmps53
 go_upto_region 1 with fail
 generalize ((w.alloc (.cells #[.int .i64 p.base, .slice a p.subs.length c] 30)).alloc (.cells #[.int .i64 t.base, .slice a' t.subs.length c'] 30)) = w2 at *
 have hmm := @run_makeMap Tryz.prog
 go_upto_region 4 with fail
 have hn2' : w2.heap.size = w.heap.size + 2 := hn2
 have B5 : Hid (Below w2.heap.size w2 (((w2.alloc (.map #[] 0)).alloc (.cells #[.map (some (w.heap.size + 2))] 110)).alloc (.cells #[(.func (.func 68) #[] #[.pointer (some ⟨w.heap.size + 2 + 1, 0, none⟩), .pointer (some ⟨w.heap.size + 2 + 1 + 1, 0, none⟩)])] 66))) := (((Below.refl _ _).alloc (Nat.le_refl _) _).alloc (by simp) _).alloc (by simp; omega) _
 have M5 : Hid (CsM (((w2.alloc (.map #[] 0)).alloc (.cells #[.map (some (w.heap.size + 2))] 110)).alloc (.cells #[(.func (.func 68) #[] #[.pointer (some ⟨w.heap.size + 2 + 1, 0, none⟩), .pointer (some ⟨w.heap.size + 2 + 1 + 1, 0, none⟩)])] 66)) (w.heap.size + 2) (fun b => b < w.heap.size) []) := by
  refine ⟨[], ?_, trivial⟩
  have h := MapI.new w2
  rw [hn2'] at h
  have h3 : MapI ((w2.alloc (.map #[] 0)).alloc (.cells #[.map (some (w.heap.size + 2))] 110)) (w.heap.size + 2) [] := h.below ((Below.refl _ _).alloc (Nat.le_refl _) _) h.lt
  exact h3.below ((Below.refl _ _).alloc (Nat.le_refl _) _) h3.lt
 have F5 : Hid (Fit (((w2.alloc (.map #[] 0)).alloc (.cells #[.map (some (w.heap.size + 2))] 110)).alloc (.cells #[(.func (.func 68) #[] #[.pointer (some ⟨w.heap.size + 2 + 1, 0, none⟩), .pointer (some ⟨w.heap.size + 2 + 1 + 1, 0, none⟩)])] 66)) (w.heap.size + 2 + 1) (w.heap.size + 2 + 1 + 1) (w.heap.size + 2)) := by
  refine ⟨?_, ?_, by omega, by omega⟩
  ·have h := Blk.new (w2.alloc (.map #[] 0)) #[.map (some (w.heap.size + 2))] 110
   rw [World.size_alloc, hn2'] at h
   exact h.alloc _
  ·have h := Blk.new ((w2.alloc (.map #[] 0)).alloc (.cells #[.map (some (w.heap.size + 2))] 110)) #[(.func (.func 68) #[] #[.pointer (some ⟨w.heap.size + 2 + 1, 0, none⟩), .pointer (some ⟨w.heap.size + 2 + 1 + 1, 0, none⟩)])] 66
   rw [World.size_alloc, World.size_alloc, hn2'] at h
   exact h
 have A5 := hide (A2.out.below B5.out A2.out.lt)
 have C5 := hide (C2.out.below B5.out C2.out.lt)
 clear hn2' hmm
 generalize (((w2.alloc (.map #[] 0)).alloc (.cells #[.map (some (w.heap.size + 2))] 110)).alloc (.cells #[(.func (.func 68) #[] #[.pointer (some ⟨w.heap.size + 2 + 1, 0, none⟩), .pointer (some ⟨w.heap.size + 2 + 1 + 1, 0, none⟩)])] 66)) = w5 at *
 have f0 : w5.cell? ⟨w.heap.size + 2 + 1 + 1, 0, none⟩ = some (.func (.func 68) #[] #[.pointer (some ⟨w.heap.size + 2 + 1, 0, none⟩), .pointer (some ⟨w.heap.size + 2 + 1 + 1, 0, none⟩)]) := F5.out.f.cell 0
 have r0 := A5.out.c0
 have r1 := A5.out.c1
 have s0 := C5.out.c0
 have s1 := C5.out.c1
 go_wp2_with fail
 refine (fits_any _ _ _ p t [] _ _ w5 (fun b => b < w.heap.size) (fun b => b < w.heap.size) hsh ((HV.out.later B2.out).later B5.out) ((HU.out.later B2.out).later B5.out) (fun b hb => by omega) (fun b hb => by omega) M5.out F5.out).mono ?_
 rintro e w6 ⟨rfl, -, he6⟩
 have B6 : Hid (Below w.heap.size w w6) := (B2.out.trans (B5.out.mono B2.out.size)).trans (he6.below (Nat.le_trans B2.out.size B5.out.size) (fun b hb => by omega))
 clear he6 f0 r0 r1 s0 s1
 go_wp2_with fail
 go_ret
 exact ⟨rfl, B6.out⟩
set_option maxHeartbeats 4000000 in
theorem caseOf_any (p t : Ty) (v u : Value) (w : World) (Z X : Nat → Prop) (hsh : shY [p]) (hbs : bsY [p]) (hv : YV w Z v p) (hu : YV w X u t) :
  Calls Tryz.prog 28 #[v, u] w fun e w' => e = .returned (.bool (caB p t)) ∧ Below w.heap.size w w' := by
 have HV := hide (hv.mono (Y := fun b => b < w.heap.size) fun b h1 h2 => h2)
 have HU := hide (hu.mono (Y := fun b => b < w.heap.size) fun b h1 h2 => h2)
 obtain ⟨a, c, rfl, -⟩ := hv
 obtain ⟨a', c', rfl, -⟩ := hu
 have B2 : Hid (Below w.heap.size w ((w.alloc (.cells #[.int .i64 p.base, .slice a p.subs.length c] 30)).alloc (.cells #[.int .i64 t.base, .slice a' t.subs.length c'] 30))) := ((Below.refl _ _).alloc (Nat.le_refl _) _).alloc (by simp) _
 have A2 : Hid (Blk ((w.alloc (.cells #[.int .i64 p.base, .slice a p.subs.length c] 30)).alloc (.cells #[.int .i64 t.base, .slice a' t.subs.length c'] 30)) w.heap.size #[.int .i64 p.base, .slice a p.subs.length c] 30) := (Blk.new _ _ _).alloc _
 have C2 : Hid (Blk ((w.alloc (.cells #[.int .i64 p.base, .slice a p.subs.length c] 30)).alloc (.cells #[.int .i64 t.base, .slice a' t.subs.length c'] 30)) (w.heap.size + 1) #[.int .i64 t.base, .slice a' t.subs.length c'] 30) := by have h := Blk.new (w.alloc (.cells #[.int .i64 p.base, .slice a p.subs.length c] 30)) #[.int .i64 t.base, .slice a' t.subs.length c'] 30; rw [World.size_alloc] at h; exact h
 have hn2 : Hid ((((w.alloc (.cells #[.int .i64 p.base, .slice a p.subs.length c] 30)).alloc (.cells #[.int .i64 t.base, .slice a' t.subs.length c'] 30))).heap.size = w.heap.size + 2) := by unfold Hid; simp
 obtain ⟨ct, hct, hmt⟩ := make_types
 obtain ⟨ck, hck, hmk⟩ := make_knowns
 have HCT := hide hct
 have HCK := hide hck
 clear hct hck
 go_enter Tryz.func28, Tryz.ntmps28
 go_upto_region 1 with fail
 generalize ((w.alloc (.cells #[.int .i64 p.base, .slice a p.subs.length c] 30)).alloc (.cells #[.int .i64 t.base, .slice a' t.subs.length c'] 30)) = w2 at *
 have kd : Blk w2.drew w.heap.size #[.int .i64 p.base, .slice a p.subs.length c] 30 ∧ Blk w2.drew (w.heap.size + 1) #[.int .i64 t.base, .slice a' t.subs.length c'] 30 := ⟨A2.out, C2.out⟩
 refine wp_region_held_drew (S := fun w' => Blk w' w.heap.size #[.int .i64 p.base, .slice a p.subs.length c] 30 ∧ Blk w' (w.heap.size + 1) #[.int .i64 t.base, .slice a' t.subs.length c'] 30) (by kernel_rfl) kd (fun hHeld => ?_)
 refine tkq (v := ?_) 0 rfl ?_ ?_
 rotate_left
 ·intro w' hSw
  have y0 : w'.cell? ⟨w.heap.size, 0, none⟩ = some (.int .i64 p.base) := hSw.1.cell 0
  have y1 : w'.cell? ⟨w.heap.size, 1, none⟩ = some (.slice a p.subs.length c) := hSw.1.cell 1
  have y2 : w'.cell? ⟨w.heap.size + 1, 0, none⟩ = some (.int .i64 t.base) := hSw.2.cell 0
  have y3 : w'.cell? ⟨w.heap.size + 1, 1, none⟩ = some (.slice a' t.subs.length c') := hSw.2.cell 1
  go_simp <;> with_reducible rfl
 try simp only [Act.put, sq]
 refine tkq (v := ?_) 1 rfl ?_ ?_
 rotate_left
 ·intro w' hSw
  have y0 : w'.cell? ⟨w.heap.size, 0, none⟩ = some (.int .i64 p.base) := hSw.1.cell 0
  have y1 : w'.cell? ⟨w.heap.size, 1, none⟩ = some (.slice a p.subs.length c) := hSw.1.cell 1
  have y2 : w'.cell? ⟨w.heap.size + 1, 0, none⟩ = some (.int .i64 t.base) := hSw.2.cell 0
  have y3 : w'.cell? ⟨w.heap.size + 1, 1, none⟩ = some (.slice a' t.subs.length c') := hSw.2.cell 1
  go_simp <;> with_reducible rfl
 try simp only [Act.put, sq]
 refine wpAnyH_ready (rs := [2, 3]) (by kernel_rfl) (by simp) ?_
 refine AllReadyH.cons rfl (fun K hK => ?_) (AllReadyH.cons rfl (fun K hK => ?_) AllReadyH.nil)
 ·go_simp
  rw [hn2.out]
  refine hK.out _ _ (by exact ⟨kd.1.alloc _, kd.2.alloc _⟩) (fun hHeld => ?_)
  clear hK K
  try simp only [Act.put, sq]
  refine rdq 3 rfl fun K hK => ?_
  go_simp
  try rw [hn2.out]
  refine hK.out _ _ (by exact ⟨(kd.1.alloc _).alloc _, (kd.2.alloc _).alloc _⟩) (fun hHeld => ?_)
  clear hK K
  try simp only [Act.put, sq]
  have B4 : Hid (Below w2.heap.size w2 ((w2.alloc (.cells ct 30)).alloc (.cells ck 4)).drew) := (((Below.refl _ _).alloc (Nat.le_refl _) _).alloc (by simp) _).drew
  have b1 := Blk.new w2  ct 30
  have b2 := Blk.new (w2.alloc (.cells ct 30))  ck 4
  rw [show w2.heap.size = w.heap.size + 2 from hn2.out] at b1
  rw [World.size_alloc, show w2.heap.size = w.heap.size + 2 from hn2.out] at b2
  have R4 : Hid (HvR ((w2.alloc (.cells ct 30)).alloc (.cells ck 4)).drew (w.heap.size + 2) (w.heap.size + 2 + 1) (fun b => b < w.heap.size) []) := ⟨ct, ck, b1.alloc _, b2, HCT.out, HCK.out.1, fun n hn => HCK.out.2 n hn, fun n y _ hy => by simp [lkY] at hy⟩
  have k4 : Blk ((w2.alloc (.cells ct 30)).alloc (.cells ck 4)).drew w.heap.size #[.int .i64 p.base, .slice a p.subs.length c] 30 ∧ Blk ((w2.alloc (.cells ct 30)).alloc (.cells ck 4)).drew (w.heap.size + 1) #[.int .i64 t.base, .slice a' t.subs.length c'] 30 := ⟨(kd.1.alloc _).alloc _, (kd.2.alloc _).alloc _⟩
  clear b1 b2 hmt hmk
  generalize ((w2.alloc (.cells ct 30)).alloc (.cells ck 4)).drew = w4 at *
  refine rdq 4 rfl fun K hK => ?_
  go_simp
  go_at_call 52
  refine (typeCase_any ((w.heap.size + 2)) ((w.heap.size + 2 + 1)) (by omega) p t [] _ _ w4 (fun b => b < w.heap.size) (fun b => b < w.heap.size) hsh hbs ((HV.out.later B2.out).later B4.out) ((HU.out.later B2.out).later B4.out) (fun b hb => by omega) (fun b hb => by omega) R4.out).mono ?_
  rintro e w6 ⟨rfl, -, he6⟩
  have B6 : Hid (Below w.heap.size w w6) := (B2.out.trans (B4.out.mono B2.out.size)).trans (he6.below (Nat.le_trans B2.out.size B4.out.size) (fun b hb => by omega))
  have k6 : Blk w6 w.heap.size #[.int .i64 p.base, .slice a p.subs.length c] 30 ∧ Blk w6 (w.heap.size + 1) #[.int .i64 t.base, .slice a' t.subs.length c'] 30 := ⟨k4.1.exq he6 (by omega), k4.2.exq he6 (by omega)⟩
  clear he6
  go_simp
  refine hK.out _ _ (by exact k6) (fun hHeld => ?_)
  clear hK K
  try simp only [Act.put, sq]
  refine tkq (v := ?_) 5 rfl ?_ ?_
  rotate_left
  ·intro w' hSw
   go_simp <;> with_reducible rfl
  try simp only [Act.put, sq]
  refine wpAnyH_done (by kernel_rfl) ?_ _
  go_wp2_with fail
  go_ret
  exact ⟨rfl, B6.out⟩
 ·go_simp
  rw [hn2.out]
  refine hK.out _ _ (by exact ⟨kd.1.alloc _, kd.2.alloc _⟩) (fun hHeld => ?_)
  clear hK K
  try simp only [Act.put, sq]
  refine rdq 2 rfl fun K hK => ?_
  go_simp
  try rw [hn2.out]
  refine hK.out _ _ (by exact ⟨(kd.1.alloc _).alloc _, (kd.2.alloc _).alloc _⟩) (fun hHeld => ?_)
  clear hK K
  try simp only [Act.put, sq]
  have B4 : Hid (Below w2.heap.size w2 ((w2.alloc (.cells ck 4)).alloc (.cells ct 30)).drew) := (((Below.refl _ _).alloc (Nat.le_refl _) _).alloc (by simp) _).drew
  have b1 := Blk.new w2  ck 4
  have b2 := Blk.new (w2.alloc (.cells ck 4))  ct 30
  rw [show w2.heap.size = w.heap.size + 2 from hn2.out] at b1
  rw [World.size_alloc, show w2.heap.size = w.heap.size + 2 from hn2.out] at b2
  have R4 : Hid (HvR ((w2.alloc (.cells ck 4)).alloc (.cells ct 30)).drew (w.heap.size + 2 + 1) (w.heap.size + 2) (fun b => b < w.heap.size) []) := ⟨ct, ck, b2, b1.alloc _, HCT.out, HCK.out.1, fun n hn => HCK.out.2 n hn, fun n y _ hy => by simp [lkY] at hy⟩
  have k4 : Blk ((w2.alloc (.cells ck 4)).alloc (.cells ct 30)).drew w.heap.size #[.int .i64 p.base, .slice a p.subs.length c] 30 ∧ Blk ((w2.alloc (.cells ck 4)).alloc (.cells ct 30)).drew (w.heap.size + 1) #[.int .i64 t.base, .slice a' t.subs.length c'] 30 := ⟨(kd.1.alloc _).alloc _, (kd.2.alloc _).alloc _⟩
  clear b1 b2 hmt hmk
  generalize ((w2.alloc (.cells ck 4)).alloc (.cells ct 30)).drew = w4 at *
  refine rdq 4 rfl fun K hK => ?_
  go_simp
  go_at_call 52
  refine (typeCase_any ((w.heap.size + 2 + 1)) ((w.heap.size + 2)) (by omega) p t [] _ _ w4 (fun b => b < w.heap.size) (fun b => b < w.heap.size) hsh hbs ((HV.out.later B2.out).later B4.out) ((HU.out.later B2.out).later B4.out) (fun b hb => by omega) (fun b hb => by omega) R4.out).mono ?_
  rintro e w6 ⟨rfl, -, he6⟩
  have B6 : Hid (Below w.heap.size w w6) := (B2.out.trans (B4.out.mono B2.out.size)).trans (he6.below (Nat.le_trans B2.out.size B4.out.size) (fun b hb => by omega))
  have k6 : Blk w6 w.heap.size #[.int .i64 p.base, .slice a p.subs.length c] 30 ∧ Blk w6 (w.heap.size + 1) #[.int .i64 t.base, .slice a' t.subs.length c'] 30 := ⟨k4.1.exq he6 (by omega), k4.2.exq he6 (by omega)⟩
  clear he6
  go_simp
  refine hK.out _ _ (by exact k6) (fun hHeld => ?_)
  clear hK K
  try simp only [Act.put, sq]
  refine tkq (v := ?_) 5 rfl ?_ ?_
  rotate_left
  ·intro w' hSw
   go_simp <;> with_reducible rfl
  try simp only [Act.put, sq]
  refine wpAnyH_done (by kernel_rfl) ?_ _
  go_wp2_with fail
  go_ret
  exact ⟨rfl, B6.out⟩
end Go.Proofs.YthnncjgjmohinaaGreatDoor

import Derived.Test.YthnncjgjmohinaaGreatDoorL11
import Derived.Test.YthnncjgjmohinaaGreatDoorZInferMadeOwn
import Derived.Test.YthnncjgjmohinaaGreatDoorZBInferMadeOwn
import Derived.Deep.RegionWith
namespace Go.Proofs.YthnncjgjmohinaaGreatDoor
open Go.RowKit
set_option linter.unusedSimpArgs false
set_option linter.unusedVariables false
set_option maxRecDepth 8000
set_option maxHeartbeats 1000000 in
theorem varQ_any (x : Int) (w : World) : Calls Tryz.prog 31 #[.int .i64 x] w fun e w' => e = .returned (.agg #[.int .i64 1, .int .i64 x, .slice none 0 0]) ∧ Below w.heap.size w w' := by
 go_enter Tryz.func31, Tryz.ntmps31
 go_wp2_with fail
 refine bodyPost_ret (v := .agg #[.int .i64 1, .int .i64 x, .slice none 0 0]) (by simp [results, Tryz.results31, go_sem, World.cell?_setCell_same, World.cell?_setCell_other]) rfl ?_
 exact ⟨rfl, by first | exact Below.refl _ _ | exact (Below.refl _ _).alloc (Nat.le_refl _) _⟩
set_option maxHeartbeats 1000000 in
theorem appQ_any (f x : Lm) (fv xv : Value) (w : World) (X : Nat → Prop) (hf : MV w X fv f) (hx : MV w X xv x) :
  Calls Tryz.prog 33 #[fv, xv] w fun e w' => ∃ a c, e = .returned (.agg #[.int .i64 3, .int .i64 0, .slice a 2 c]) ∧ SlM w' (fun b => X b ∨ w.heap.size ≤ b) a [f, x] ∧ Below w.heap.size w w' := by
 obtain ⟨af, cf, rfl, hs⟩ := hf
 obtain ⟨ax, cx, rfl, hs2⟩ := hx
 have HS := hide hs
 have HS2 := hide hs2
 clear hs hs2
 have HB : Hid (Below w.heap.size w ((((w.alloc (.cells #[.int .i64 f.kind, .int .i64 f.idx, .slice af f.subs.length cf] 25)).alloc (.cells #[.int .i64 x.kind, .int .i64 x.idx, .slice ax x.subs.length cx] 25)).alloc (.cells #[.int .i64 3, .int .i64 0, .slice (some ⟨w.heap.size + 1 + 1 + 1, 0, none⟩) 2 2] 25)).alloc (.cells #[.int .i64 f.kind, .int .i64 f.idx, .slice af f.subs.length cf, .int .i64 x.kind, .int .i64 x.idx, .slice ax x.subs.length cx] 25))) := (((below2M _ _).alloc (by simp; omega) _).alloc (by simp; omega) _)
 have q0 : Blk ((((w.alloc (.cells #[.int .i64 f.kind, .int .i64 f.idx, .slice af f.subs.length cf] 25)).alloc (.cells #[.int .i64 x.kind, .int .i64 x.idx, .slice ax x.subs.length cx] 25)).alloc (.cells #[.int .i64 3, .int .i64 0, .slice (some ⟨w.heap.size + 1 + 1 + 1, 0, none⟩) 2 2] 25)).alloc (.cells #[.int .i64 f.kind, .int .i64 f.idx, .slice af f.subs.length cf, .int .i64 x.kind, .int .i64 x.idx, .slice ax x.subs.length cx] 25)) (w.heap.size + 1 + 1) #[.int .i64 3, .int .i64 0, .slice (some ⟨w.heap.size + 1 + 1 + 1, 0, none⟩) 2 2] 25 := by
  have h := (Blk.new ((w.alloc (.cells #[.int .i64 f.kind, .int .i64 f.idx, .slice af f.subs.length cf] 25)).alloc (.cells #[.int .i64 x.kind, .int .i64 x.idx, .slice ax x.subs.length cx] 25)) #[.int .i64 3, .int .i64 0, .slice (some ⟨w.heap.size + 1 + 1 + 1, 0, none⟩) 2 2] 25).alloc (.cells #[.int .i64 f.kind, .int .i64 f.idx, .slice af f.subs.length cf, .int .i64 x.kind, .int .i64 x.idx, .slice ax x.subs.length cx] 25)
  simpa using h
 have HQ : Hid (Blk ((((w.alloc (.cells #[.int .i64 f.kind, .int .i64 f.idx, .slice af f.subs.length cf] 25)).alloc (.cells #[.int .i64 x.kind, .int .i64 x.idx, .slice ax x.subs.length cx] 25)).alloc (.cells #[.int .i64 3, .int .i64 0, .slice (some ⟨w.heap.size + 1 + 1 + 1, 0, none⟩) 2 2] 25)).alloc (.cells #[.int .i64 f.kind, .int .i64 f.idx, .slice af f.subs.length cf, .int .i64 x.kind, .int .i64 x.idx, .slice ax x.subs.length cx] 25)) (w.heap.size + 1 + 1 + 1) #[.int .i64 f.kind, .int .i64 f.idx, .slice af f.subs.length cf, .int .i64 x.kind, .int .i64 x.idx, .slice ax x.subs.length cx] 25) := by
  have h := Blk.new (((w.alloc (.cells #[.int .i64 f.kind, .int .i64 f.idx, .slice af f.subs.length cf] 25)).alloc (.cells #[.int .i64 x.kind, .int .i64 x.idx, .slice ax x.subs.length cx] 25)).alloc (.cells #[.int .i64 3, .int .i64 0, .slice (some ⟨w.heap.size + 1 + 1 + 1, 0, none⟩) 2 2] 25)) #[.int .i64 f.kind, .int .i64 f.idx, .slice af f.subs.length cf, .int .i64 x.kind, .int .i64 x.idx, .slice ax x.subs.length cx] 25
  unfold Hid
  simpa using h
 have c0 := q0.cell 0
 have c1 := q0.cell 1
 have c2 := q0.cell 2
 simp only [List.getElem?_toArray, List.getElem?_cons_succ, List.getElem?_cons_zero] at c0 c1 c2
 clear q0
 go_enter Tryz.func33, Tryz.ntmps33
 go_wp2_with fail
 refine bodyPost_ret (v := .agg #[.int .i64 3, .int .i64 0, .slice (some ⟨w.heap.size + 1 + 1 + 1, 0, none⟩) 2 2]) (by simp [results, Tryz.results33, go_sem, c0, c1, c2]) rfl ?_
 refine ⟨_, _, rfl, ⟨by simp, Or.inr ⟨_, _, rfl, ?_⟩⟩, HB.out⟩
 have h1 : SlM ((((w.alloc (.cells #[.int .i64 f.kind, .int .i64 f.idx, .slice af f.subs.length cf] 25)).alloc (.cells #[.int .i64 x.kind, .int .i64 x.idx, .slice ax x.subs.length cx] 25)).alloc (.cells #[.int .i64 3, .int .i64 0, .slice (some ⟨w.heap.size + 1 + 1 + 1, 0, none⟩) 2 2] 25)).alloc (.cells #[.int .i64 f.kind, .int .i64 f.idx, .slice af f.subs.length cf, .int .i64 x.kind, .int .i64 x.idx, .slice ax x.subs.length cx] 25)) (fun b => X b ∨ w.heap.size ≤ b) af f.subs := (HS.out.later HB.out).mono fun b h _ => Or.inl h
 have h2 : SlM ((((w.alloc (.cells #[.int .i64 f.kind, .int .i64 f.idx, .slice af f.subs.length cf] 25)).alloc (.cells #[.int .i64 x.kind, .int .i64 x.idx, .slice ax x.subs.length cx] 25)).alloc (.cells #[.int .i64 3, .int .i64 0, .slice (some ⟨w.heap.size + 1 + 1 + 1, 0, none⟩) 2 2] 25)).alloc (.cells #[.int .i64 f.kind, .int .i64 f.idx, .slice af f.subs.length cf, .int .i64 x.kind, .int .i64 x.idx, .slice ax x.subs.length cx] 25)) (fun b => X b ∨ w.heap.size ≤ b) ax x.subs := (HS2.out.later HB.out).mono fun b h _ => Or.inl h
 obtain ⟨kf, xf, lf⟩ := f
 obtain ⟨kx, xx, lx⟩ := x
 simp only [LiesM]
 exact ⟨Or.inr (by omega), HQ.out.cell 0, HQ.out.cell 1, ⟨af, cf, HQ.out.cell 2, h1⟩, Or.inr (by omega), HQ.out.cell 3, HQ.out.cell 4, ⟨ax, cx, HQ.out.cell 5, h2⟩, trivial⟩
set_option maxHeartbeats 1000000 in
theorem funQ_any (x : Lm) (xv : Value) (w : World) (X : Nat → Prop) (hx : MV w X xv x) :
  Calls Tryz.prog 30 #[xv] w fun e w' => ∃ a c, e = .returned (.agg #[.int .i64 2, .int .i64 0, .slice a 1 c]) ∧ SlM w' (fun b => X b ∨ w.heap.size ≤ b) a [x] ∧ Below w.heap.size w w' := by
 obtain ⟨ax, cx, rfl, hs2⟩ := hx
 have HS2 := hide hs2
 clear hs2
 have HB : Hid (Below w.heap.size w (((w.alloc (.cells #[.int .i64 x.kind, .int .i64 x.idx, .slice ax x.subs.length cx] 25)).alloc (.cells #[.int .i64 2, .int .i64 0, .slice (some ⟨w.heap.size + 1 + 1, 0, none⟩) 1 1] 25)).alloc (.cells #[.int .i64 x.kind, .int .i64 x.idx, .slice ax x.subs.length cx] 25))) := (below2M _ _).alloc (by simp; omega) _
 have q0 : Blk (((w.alloc (.cells #[.int .i64 x.kind, .int .i64 x.idx, .slice ax x.subs.length cx] 25)).alloc (.cells #[.int .i64 2, .int .i64 0, .slice (some ⟨w.heap.size + 1 + 1, 0, none⟩) 1 1] 25)).alloc (.cells #[.int .i64 x.kind, .int .i64 x.idx, .slice ax x.subs.length cx] 25)) (w.heap.size + 1) #[.int .i64 2, .int .i64 0, .slice (some ⟨w.heap.size + 1 + 1, 0, none⟩) 1 1] 25 := by
  have h := (Blk.new (w.alloc (.cells #[.int .i64 x.kind, .int .i64 x.idx, .slice ax x.subs.length cx] 25)) #[.int .i64 2, .int .i64 0, .slice (some ⟨w.heap.size + 1 + 1, 0, none⟩) 1 1] 25).alloc (.cells #[.int .i64 x.kind, .int .i64 x.idx, .slice ax x.subs.length cx] 25)
  simpa using h
 have HQ : Hid (Blk (((w.alloc (.cells #[.int .i64 x.kind, .int .i64 x.idx, .slice ax x.subs.length cx] 25)).alloc (.cells #[.int .i64 2, .int .i64 0, .slice (some ⟨w.heap.size + 1 + 1, 0, none⟩) 1 1] 25)).alloc (.cells #[.int .i64 x.kind, .int .i64 x.idx, .slice ax x.subs.length cx] 25)) (w.heap.size + 1 + 1) #[.int .i64 x.kind, .int .i64 x.idx, .slice ax x.subs.length cx] 25) := by
  have h := Blk.new ((w.alloc (.cells #[.int .i64 x.kind, .int .i64 x.idx, .slice ax x.subs.length cx] 25)).alloc (.cells #[.int .i64 2, .int .i64 0, .slice (some ⟨w.heap.size + 1 + 1, 0, none⟩) 1 1] 25)) #[.int .i64 x.kind, .int .i64 x.idx, .slice ax x.subs.length cx] 25
  unfold Hid
  simpa using h
 have c0 := q0.cell 0
 have c1 := q0.cell 1
 have c2 := q0.cell 2
 simp only [List.getElem?_toArray, List.getElem?_cons_succ, List.getElem?_cons_zero] at c0 c1 c2
 clear q0
 go_enter Tryz.func30, Tryz.ntmps30
 go_wp2_with fail
 refine bodyPost_ret (v := .agg #[.int .i64 2, .int .i64 0, .slice (some ⟨w.heap.size + 1 + 1, 0, none⟩) 1 1]) (by simp [results, Tryz.results30, go_sem, c0, c1, c2]) rfl ?_
 refine ⟨_, _, rfl, ⟨by simp, Or.inr ⟨_, _, rfl, ?_⟩⟩, HB.out⟩
 have h2 : SlM (((w.alloc (.cells #[.int .i64 x.kind, .int .i64 x.idx, .slice ax x.subs.length cx] 25)).alloc (.cells #[.int .i64 2, .int .i64 0, .slice (some ⟨w.heap.size + 1 + 1, 0, none⟩) 1 1] 25)).alloc (.cells #[.int .i64 x.kind, .int .i64 x.idx, .slice ax x.subs.length cx] 25)) (fun b => X b ∨ w.heap.size ≤ b) ax x.subs := (HS2.out.later HB.out).mono fun b h _ => Or.inl h
 obtain ⟨kx, xx, lx⟩ := x
 simp only [LiesM]
 exact ⟨Or.inr (by omega), HQ.out.cell 0, HQ.out.cell 1, ⟨ax, cx, HQ.out.cell 2, h2⟩, trivial⟩
end Go.Proofs.YthnncjgjmohinaaGreatDoor

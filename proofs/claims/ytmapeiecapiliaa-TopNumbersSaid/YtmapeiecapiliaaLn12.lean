
/- Walks: numerals are made. -/
import Derived.Test.YtmapeiecapiliaaLn9c
import Derived.Deep.RegionWith
namespace Go.Proofs.Ytmapeiecapiliaa
open Go.RowKit
set_option linter.unusedSimpArgs false
set_option linter.unusedVariables false
set_option maxRecDepth 8000

/-- So many times. -/
def itM : Nat → Lm
  | 0 => ⟨1, 0, []⟩
  | n + 1 => ⟨3, 0, [⟨1, 1, []⟩, itM n]⟩
def NuI (w : World) (P k : Nat) (wr : World) : Prop :=
  ∃ (a1 : Option Addr) (c1 : Nat), Below w.heap.size w wr ∧ Blk wr w.heap.size #[.int .i64 0, .int .i64 0, .slice none 0 0] 25 ∧ Blk wr P #[.int .i64 (itM k).kind, .int .i64 (itM k).idx, .slice a1 (itM k).subs.length c1] 25 ∧ SlM wr (fun b => w.heap.size + 1 ≤ b ∧ b ≠ P) a1 (itM k).subs

theorem boundL_any (x : Int) (w : World) : Calls Try.prog 14 #[.int .i64 x] w fun e w' => e = .returned (.agg #[.int .i64 1, .int .i64 x, .slice none 0 0]) ∧ Below w.heap.size w w' := by
  go_enter Try.func14, Try.ntmps14
  go_wp2_with fail
  refine bodyPost_ret (v := .agg #[.int .i64 1, .int .i64 x, .slice none 0 0]) (by simp [results, Try.results14, go_sem, World.cell?_setCell_same, World.cell?_setCell_other]) rfl ?_
  exact ⟨rfl, by first | exact Below.refl _ _ | exact (Below.refl _ _).alloc (Nat.le_refl _) _⟩

theorem varR_any (x : Int) (w : World) : Calls Try.prog 9 #[.int .i64 x] w fun e w' => e = .returned (.agg #[.int .i64 1, .int .i64 x, .slice none 0 0]) ∧ Below w.heap.size w w' := by
  go_enter Try.func9, Try.ntmps9
  go_wp2_with fail
  refine bodyPost_ret (v := .agg #[.int .i64 1, .int .i64 x, .slice none 0 0]) (by simp [results, Try.results9, go_sem, World.cell?_setCell_same, World.cell?_setCell_other]) rfl ?_
  exact ⟨rfl, by first | exact Below.refl _ _ | exact (Below.refl _ _).alloc (Nat.le_refl _) _⟩

set_option maxHeartbeats 1000000 in
theorem appliedL_any (f x : Lm) (fv xv : Value) (w : World) (X : Nat → Prop) (hf : MV w X fv f) (hx : MV w X xv x) :
    Calls Try.prog 15 #[fv, xv] w fun e w' => ∃ a c, e = .returned (.agg #[.int .i64 3, .int .i64 0, .slice a 2 c]) ∧ SlM w' (fun b => X b ∨ w.heap.size ≤ b) a [f, x] ∧ Below w.heap.size w w' := by
  obtain ⟨af, cf, rfl, hs⟩ := hf
  obtain ⟨ax, cx, rfl, hs2⟩ := hx
  have HS := hide hs
  have HS2 := hide hs2
  clear hs hs2
  have HB : Hid (Below w.heap.size w ((((w.alloc (.cells #[.int .i64 f.kind, .int .i64 f.idx, .slice af f.subs.length cf] 25)).alloc (.cells #[.int .i64 x.kind, .int .i64 x.idx, .slice ax x.subs.length cx] 25)).alloc (.cells #[.int .i64 3, .int .i64 0, .slice (some ⟨w.heap.size + 1 + 1 + 1, 0, none⟩) 2 2] 25)).alloc (.cells #[.int .i64 f.kind, .int .i64 f.idx, .slice af f.subs.length cf, .int .i64 x.kind, .int .i64 x.idx, .slice ax x.subs.length cx] 25))) := (((below2M _ _).alloc (by simp; omega) _).alloc (by simp; omega) _)
  have q0 : Blk ((((w.alloc (.cells #[.int .i64 f.kind, .int .i64 f.idx, .slice af f.subs.length cf] 25)).alloc (.cells #[.int .i64 x.kind, .int .i64 x.idx, .slice ax x.subs.length cx] 25)).alloc (.cells #[.int .i64 3, .int .i64 0, .slice (some ⟨w.heap.size + 1 + 1 + 1, 0, none⟩) 2 2] 25)).alloc (.cells #[.int .i64 f.kind, .int .i64 f.idx, .slice af f.subs.length cf, .int .i64 x.kind, .int .i64 x.idx, .slice ax x.subs.length cx] 25)) (w.heap.size + 1 + 1) #[.int .i64 3, .int .i64 0, .slice (some ⟨w.heap.size + 1 + 1 + 1, 0, none⟩) 2 2] 25 := by
    have h := (Blk.new ((w.alloc (.cells #[.int .i64 f.kind, .int .i64 f.idx, .slice af f.subs.length cf] 25)).alloc (.cells #[.int .i64 x.kind, .int .i64 x.idx, .slice ax x.subs.length cx] 25)) #[.int .i64 3, .int .i64 0, .slice (some ⟨w.heap.size + 1 + 1 + 1, 0, none⟩) 2 2] 25).alloc (.cells #[.int .i64 f.kind, .int .i64 f.idx, .slice af f.subs.length cf, .int .i64 x.kind, .int .i64 x.idx, .slice ax x.subs.length cx] 25)
    simpa using h
  have HQ : Hid (Blk ((((w.alloc (.cells #[.int .i64 f.kind, .int .i64 f.idx, .slice af f.subs.length cf] 25)).alloc (.cells #[.int .i64 x.kind, .int .i64 x.idx, .slice ax x.subs.length cx] 25)).alloc (.cells #[.int .i64 3, .int .i64 0, .slice (some ⟨w.heap.size + 1 + 1 + 1, 0, none⟩) 2 2] 25)).alloc (.cells #[.int .i64 f.kind, .int .i64 f.idx, .slice af f.subs.length cf, .int .i64 x.kind, .int .i64 x.idx, .slice ax x.subs.length cx] 25)) (w.heap.size + 1 + 1 + 1) #[.int .i64 f.kind, .int .i64 f.idx, .slice af f.subs.length cf, .int .i64 x.kind, .int .i64 x.idx, .slice ax x.subs.length cx] 25) := by
    have h := Blk.new (((w.alloc (.cells #[.int .i64 f.kind, .int .i64 f.idx, .slice af f.subs.length cf] 25)).alloc (.cells #[.int .i64 x.kind, .int .i64 x.idx, .slice ax x.subs.length cx] 25)).alloc (.cells #[.int .i64 3, .int .i64 0, .slice (some ⟨w.heap.size + 1 + 1 + 1, 0, none⟩) 2 2] 25)) #[.int .i64 f.kind, .int .i64 f.idx, .slice af f.subs.length cf, .int .i64 x.kind, .int .i64 x.idx, .slice ax x.subs.length cx] 25
    unfold Hid
    simpa using h
  have c0 := q0.cell 0
  have c1 := q0.cell 1
  have c2 := q0.cell 2
  simp only [List.getElem?_toArray, List.getElem?_cons_succ, List.getElem?_cons_zero] at c0 c1 c2
  clear q0
  go_enter Try.func15, Try.ntmps15
  go_wp2_with fail
  refine bodyPost_ret (v := .agg #[.int .i64 3, .int .i64 0, .slice (some ⟨w.heap.size + 1 + 1 + 1, 0, none⟩) 2 2]) (by simp [results, Try.results15, go_sem, c0, c1, c2]) rfl ?_
  refine ⟨_, _, rfl, ⟨by simp, Or.inr ⟨_, _, rfl, ?_⟩⟩, HB.out⟩
  have h1 : SlM ((((w.alloc (.cells #[.int .i64 f.kind, .int .i64 f.idx, .slice af f.subs.length cf] 25)).alloc (.cells #[.int .i64 x.kind, .int .i64 x.idx, .slice ax x.subs.length cx] 25)).alloc (.cells #[.int .i64 3, .int .i64 0, .slice (some ⟨w.heap.size + 1 + 1 + 1, 0, none⟩) 2 2] 25)).alloc (.cells #[.int .i64 f.kind, .int .i64 f.idx, .slice af f.subs.length cf, .int .i64 x.kind, .int .i64 x.idx, .slice ax x.subs.length cx] 25)) (fun b => X b ∨ w.heap.size ≤ b) af f.subs := (HS.out.later HB.out).mono fun b h _ => Or.inl h
  have h2 : SlM ((((w.alloc (.cells #[.int .i64 f.kind, .int .i64 f.idx, .slice af f.subs.length cf] 25)).alloc (.cells #[.int .i64 x.kind, .int .i64 x.idx, .slice ax x.subs.length cx] 25)).alloc (.cells #[.int .i64 3, .int .i64 0, .slice (some ⟨w.heap.size + 1 + 1 + 1, 0, none⟩) 2 2] 25)).alloc (.cells #[.int .i64 f.kind, .int .i64 f.idx, .slice af f.subs.length cf, .int .i64 x.kind, .int .i64 x.idx, .slice ax x.subs.length cx] 25)) (fun b => X b ∨ w.heap.size ≤ b) ax x.subs := (HS2.out.later HB.out).mono fun b h _ => Or.inl h
  obtain ⟨kf, xf, lf⟩ := f
  obtain ⟨kx, xx, lx⟩ := x
  simp only [LiesM]
  exact ⟨Or.inr (by omega), HQ.out.cell 0, HQ.out.cell 1, ⟨af, cf, HQ.out.cell 2, h1⟩, Or.inr (by omega), HQ.out.cell 3, HQ.out.cell 4, ⟨ax, cx, HQ.out.cell 5, h2⟩, trivial⟩

set_option maxHeartbeats 1000000 in
theorem appR_any (f x : Lm) (fv xv : Value) (w : World) (X : Nat → Prop) (hf : MV w X fv f) (hx : MV w X xv x) :
    Calls Try.prog 7 #[fv, xv] w fun e w' => ∃ a c, e = .returned (.agg #[.int .i64 3, .int .i64 0, .slice a 2 c]) ∧ SlM w' (fun b => X b ∨ w.heap.size ≤ b) a [f, x] ∧ Below w.heap.size w w' := by
  obtain ⟨af, cf, rfl, hs⟩ := hf
  obtain ⟨ax, cx, rfl, hs2⟩ := hx
  have HS := hide hs
  have HS2 := hide hs2
  clear hs hs2
  have HB : Hid (Below w.heap.size w ((((w.alloc (.cells #[.int .i64 f.kind, .int .i64 f.idx, .slice af f.subs.length cf] 25)).alloc (.cells #[.int .i64 x.kind, .int .i64 x.idx, .slice ax x.subs.length cx] 25)).alloc (.cells #[.int .i64 3, .int .i64 0, .slice (some ⟨w.heap.size + 1 + 1 + 1, 0, none⟩) 2 2] 25)).alloc (.cells #[.int .i64 f.kind, .int .i64 f.idx, .slice af f.subs.length cf, .int .i64 x.kind, .int .i64 x.idx, .slice ax x.subs.length cx] 25))) := (((below2M _ _).alloc (by simp; omega) _).alloc (by simp; omega) _)
  have q0 : Blk ((((w.alloc (.cells #[.int .i64 f.kind, .int .i64 f.idx, .slice af f.subs.length cf] 25)).alloc (.cells #[.int .i64 x.kind, .int .i64 x.idx, .slice ax x.subs.length cx] 25)).alloc (.cells #[.int .i64 3, .int .i64 0, .slice (some ⟨w.heap.size + 1 + 1 + 1, 0, none⟩) 2 2] 25)).alloc (.cells #[.int .i64 f.kind, .int .i64 f.idx, .slice af f.subs.length cf, .int .i64 x.kind, .int .i64 x.idx, .slice ax x.subs.length cx] 25)) (w.heap.size + 1 + 1) #[.int .i64 3, .int .i64 0, .slice (some ⟨w.heap.size + 1 + 1 + 1, 0, none⟩) 2 2] 25 := by
    have h := (Blk.new ((w.alloc (.cells #[.int .i64 f.kind, .int .i64 f.idx, .slice af f.subs.length cf] 25)).alloc (.cells #[.int .i64 x.kind, .int .i64 x.idx, .slice ax x.subs.length cx] 25)) #[.int .i64 3, .int .i64 0, .slice (some ⟨w.heap.size + 1 + 1 + 1, 0, none⟩) 2 2] 25).alloc (.cells #[.int .i64 f.kind, .int .i64 f.idx, .slice af f.subs.length cf, .int .i64 x.kind, .int .i64 x.idx, .slice ax x.subs.length cx] 25)
    simpa using h
  have HQ : Hid (Blk ((((w.alloc (.cells #[.int .i64 f.kind, .int .i64 f.idx, .slice af f.subs.length cf] 25)).alloc (.cells #[.int .i64 x.kind, .int .i64 x.idx, .slice ax x.subs.length cx] 25)).alloc (.cells #[.int .i64 3, .int .i64 0, .slice (some ⟨w.heap.size + 1 + 1 + 1, 0, none⟩) 2 2] 25)).alloc (.cells #[.int .i64 f.kind, .int .i64 f.idx, .slice af f.subs.length cf, .int .i64 x.kind, .int .i64 x.idx, .slice ax x.subs.length cx] 25)) (w.heap.size + 1 + 1 + 1) #[.int .i64 f.kind, .int .i64 f.idx, .slice af f.subs.length cf, .int .i64 x.kind, .int .i64 x.idx, .slice ax x.subs.length cx] 25) := by
    have h := Blk.new (((w.alloc (.cells #[.int .i64 f.kind, .int .i64 f.idx, .slice af f.subs.length cf] 25)).alloc (.cells #[.int .i64 x.kind, .int .i64 x.idx, .slice ax x.subs.length cx] 25)).alloc (.cells #[.int .i64 3, .int .i64 0, .slice (some ⟨w.heap.size + 1 + 1 + 1, 0, none⟩) 2 2] 25)) #[.int .i64 f.kind, .int .i64 f.idx, .slice af f.subs.length cf, .int .i64 x.kind, .int .i64 x.idx, .slice ax x.subs.length cx] 25
    unfold Hid
    simpa using h
  have c0 := q0.cell 0
  have c1 := q0.cell 1
  have c2 := q0.cell 2
  simp only [List.getElem?_toArray, List.getElem?_cons_succ, List.getElem?_cons_zero] at c0 c1 c2
  clear q0
  go_enter Try.func7, Try.ntmps7
  go_wp2_with fail
  refine bodyPost_ret (v := .agg #[.int .i64 3, .int .i64 0, .slice (some ⟨w.heap.size + 1 + 1 + 1, 0, none⟩) 2 2]) (by simp [results, Try.results7, go_sem, c0, c1, c2]) rfl ?_
  refine ⟨_, _, rfl, ⟨by simp, Or.inr ⟨_, _, rfl, ?_⟩⟩, HB.out⟩
  have h1 : SlM ((((w.alloc (.cells #[.int .i64 f.kind, .int .i64 f.idx, .slice af f.subs.length cf] 25)).alloc (.cells #[.int .i64 x.kind, .int .i64 x.idx, .slice ax x.subs.length cx] 25)).alloc (.cells #[.int .i64 3, .int .i64 0, .slice (some ⟨w.heap.size + 1 + 1 + 1, 0, none⟩) 2 2] 25)).alloc (.cells #[.int .i64 f.kind, .int .i64 f.idx, .slice af f.subs.length cf, .int .i64 x.kind, .int .i64 x.idx, .slice ax x.subs.length cx] 25)) (fun b => X b ∨ w.heap.size ≤ b) af f.subs := (HS.out.later HB.out).mono fun b h _ => Or.inl h
  have h2 : SlM ((((w.alloc (.cells #[.int .i64 f.kind, .int .i64 f.idx, .slice af f.subs.length cf] 25)).alloc (.cells #[.int .i64 x.kind, .int .i64 x.idx, .slice ax x.subs.length cx] 25)).alloc (.cells #[.int .i64 3, .int .i64 0, .slice (some ⟨w.heap.size + 1 + 1 + 1, 0, none⟩) 2 2] 25)).alloc (.cells #[.int .i64 f.kind, .int .i64 f.idx, .slice af f.subs.length cf, .int .i64 x.kind, .int .i64 x.idx, .slice ax x.subs.length cx] 25)) (fun b => X b ∨ w.heap.size ≤ b) ax x.subs := (HS2.out.later HB.out).mono fun b h _ => Or.inl h
  obtain ⟨kf, xf, lf⟩ := f
  obtain ⟨kx, xx, lx⟩ := x
  simp only [LiesM]
  exact ⟨Or.inr (by omega), HQ.out.cell 0, HQ.out.cell 1, ⟨af, cf, HQ.out.cell 2, h1⟩, Or.inr (by omega), HQ.out.cell 3, HQ.out.cell 4, ⟨ax, cx, HQ.out.cell 5, h2⟩, trivial⟩

set_option maxHeartbeats 1000000 in
theorem binderL_any (x : Lm) (xv : Value) (w : World) (X : Nat → Prop) (hx : MV w X xv x) :
    Calls Try.prog 16 #[xv] w fun e w' => ∃ a c, e = .returned (.agg #[.int .i64 2, .int .i64 0, .slice a 1 c]) ∧ SlM w' (fun b => X b ∨ w.heap.size ≤ b) a [x] ∧ Below w.heap.size w w' := by
  obtain ⟨ax, cx, rfl, hs2⟩ := hx
  have HS2 := hide hs2
  clear hs2
  have HB : Hid (Below w.heap.size w (((w.alloc (.cells #[.int .i64 x.kind, .int .i64 x.idx, .slice ax x.subs.length cx] 25)).alloc (.cells #[.int .i64 2, .int .i64 0, .slice (some ⟨w.heap.size + 1 + 1, 0, none⟩) 1 1] 25)).alloc (.cells #[.int .i64 x.kind, .int .i64 x.idx, .slice ax x.subs.length cx] 25))) := (below2M _ _).alloc (by simp; omega) _
  have q0 : Blk (((w.alloc (.cells #[.int .i64 x.kind, .int .i64 x.idx, .slice ax x.subs.length cx] 25)).alloc (.cells #[.int .i64 2, .int .i64 0, .slice (some ⟨w.heap.size + 1 + 1, 0, none⟩) 1 1] 25)).alloc (.cells #[.int .i64 x.kind, .int .i64 x.idx, .slice ax x.subs.length cx] 25)) (w.heap.size + 1) #[.int .i64 2, .int .i64 0, .slice (some ⟨w.heap.size + 1 + 1, 0, none⟩) 1 1] 25 := by
    have h := (Blk.new (w.alloc (.cells #[.int .i64 x.kind, .int .i64 x.idx, .slice ax x.subs.length cx] 25)) #[.int .i64 2, .int .i64 0, .slice (some ⟨w.heap.size + 1 + 1, 0, none⟩) 1 1] 25).alloc (.cells #[.int .i64 x.kind, .int .i64 x.idx, .slice ax x.subs.length cx] 25)
    simpa using h
  have HQ : Hid (Blk (((w.alloc (.cells #[.int .i64 x.kind, .int .i64 x.idx, .slice ax x.subs.length cx] 25)).alloc (.cells #[.int .i64 2, .int .i64 0, .slice (some ⟨w.heap.size + 1 + 1, 0, none⟩) 1 1] 25)).alloc (.cells #[.int .i64 x.kind, .int .i64 x.idx, .slice ax x.subs.length cx] 25)) (w.heap.size + 1 + 1) #[.int .i64 x.kind, .int .i64 x.idx, .slice ax x.subs.length cx] 25) := by
    have h := Blk.new ((w.alloc (.cells #[.int .i64 x.kind, .int .i64 x.idx, .slice ax x.subs.length cx] 25)).alloc (.cells #[.int .i64 2, .int .i64 0, .slice (some ⟨w.heap.size + 1 + 1, 0, none⟩) 1 1] 25)) #[.int .i64 x.kind, .int .i64 x.idx, .slice ax x.subs.length cx] 25
    unfold Hid
    simpa using h
  have c0 := q0.cell 0
  have c1 := q0.cell 1
  have c2 := q0.cell 2
  simp only [List.getElem?_toArray, List.getElem?_cons_succ, List.getElem?_cons_zero] at c0 c1 c2
  clear q0
  go_enter Try.func16, Try.ntmps16
  go_wp2_with fail
  refine bodyPost_ret (v := .agg #[.int .i64 2, .int .i64 0, .slice (some ⟨w.heap.size + 1 + 1, 0, none⟩) 1 1]) (by simp [results, Try.results16, go_sem, c0, c1, c2]) rfl ?_
  refine ⟨_, _, rfl, ⟨by simp, Or.inr ⟨_, _, rfl, ?_⟩⟩, HB.out⟩
  have h2 : SlM (((w.alloc (.cells #[.int .i64 x.kind, .int .i64 x.idx, .slice ax x.subs.length cx] 25)).alloc (.cells #[.int .i64 2, .int .i64 0, .slice (some ⟨w.heap.size + 1 + 1, 0, none⟩) 1 1] 25)).alloc (.cells #[.int .i64 x.kind, .int .i64 x.idx, .slice ax x.subs.length cx] 25)) (fun b => X b ∨ w.heap.size ≤ b) ax x.subs := (HS2.out.later HB.out).mono fun b h _ => Or.inl h
  obtain ⟨kx, xx, lx⟩ := x
  simp only [LiesM]
  exact ⟨Or.inr (by omega), HQ.out.cell 0, HQ.out.cell 1, ⟨ax, cx, HQ.out.cell 2, h2⟩, trivial⟩

set_option maxHeartbeats 1000000 in
theorem funR_any (x : Lm) (xv : Value) (w : World) (X : Nat → Prop) (hx : MV w X xv x) :
    Calls Try.prog 6 #[xv] w fun e w' => ∃ a c, e = .returned (.agg #[.int .i64 2, .int .i64 0, .slice a 1 c]) ∧ SlM w' (fun b => X b ∨ w.heap.size ≤ b) a [x] ∧ Below w.heap.size w w' := by
  obtain ⟨ax, cx, rfl, hs2⟩ := hx
  have HS2 := hide hs2
  clear hs2
  have HB : Hid (Below w.heap.size w (((w.alloc (.cells #[.int .i64 x.kind, .int .i64 x.idx, .slice ax x.subs.length cx] 25)).alloc (.cells #[.int .i64 2, .int .i64 0, .slice (some ⟨w.heap.size + 1 + 1, 0, none⟩) 1 1] 25)).alloc (.cells #[.int .i64 x.kind, .int .i64 x.idx, .slice ax x.subs.length cx] 25))) := (below2M _ _).alloc (by simp; omega) _
  have q0 : Blk (((w.alloc (.cells #[.int .i64 x.kind, .int .i64 x.idx, .slice ax x.subs.length cx] 25)).alloc (.cells #[.int .i64 2, .int .i64 0, .slice (some ⟨w.heap.size + 1 + 1, 0, none⟩) 1 1] 25)).alloc (.cells #[.int .i64 x.kind, .int .i64 x.idx, .slice ax x.subs.length cx] 25)) (w.heap.size + 1) #[.int .i64 2, .int .i64 0, .slice (some ⟨w.heap.size + 1 + 1, 0, none⟩) 1 1] 25 := by
    have h := (Blk.new (w.alloc (.cells #[.int .i64 x.kind, .int .i64 x.idx, .slice ax x.subs.length cx] 25)) #[.int .i64 2, .int .i64 0, .slice (some ⟨w.heap.size + 1 + 1, 0, none⟩) 1 1] 25).alloc (.cells #[.int .i64 x.kind, .int .i64 x.idx, .slice ax x.subs.length cx] 25)
    simpa using h
  have HQ : Hid (Blk (((w.alloc (.cells #[.int .i64 x.kind, .int .i64 x.idx, .slice ax x.subs.length cx] 25)).alloc (.cells #[.int .i64 2, .int .i64 0, .slice (some ⟨w.heap.size + 1 + 1, 0, none⟩) 1 1] 25)).alloc (.cells #[.int .i64 x.kind, .int .i64 x.idx, .slice ax x.subs.length cx] 25)) (w.heap.size + 1 + 1) #[.int .i64 x.kind, .int .i64 x.idx, .slice ax x.subs.length cx] 25) := by
    have h := Blk.new ((w.alloc (.cells #[.int .i64 x.kind, .int .i64 x.idx, .slice ax x.subs.length cx] 25)).alloc (.cells #[.int .i64 2, .int .i64 0, .slice (some ⟨w.heap.size + 1 + 1, 0, none⟩) 1 1] 25)) #[.int .i64 x.kind, .int .i64 x.idx, .slice ax x.subs.length cx] 25
    unfold Hid
    simpa using h
  have c0 := q0.cell 0
  have c1 := q0.cell 1
  have c2 := q0.cell 2
  simp only [List.getElem?_toArray, List.getElem?_cons_succ, List.getElem?_cons_zero] at c0 c1 c2
  clear q0
  go_enter Try.func6, Try.ntmps6
  go_wp2_with fail
  refine bodyPost_ret (v := .agg #[.int .i64 2, .int .i64 0, .slice (some ⟨w.heap.size + 1 + 1, 0, none⟩) 1 1]) (by simp [results, Try.results6, go_sem, c0, c1, c2]) rfl ?_
  refine ⟨_, _, rfl, ⟨by simp, Or.inr ⟨_, _, rfl, ?_⟩⟩, HB.out⟩
  have h2 : SlM (((w.alloc (.cells #[.int .i64 x.kind, .int .i64 x.idx, .slice ax x.subs.length cx] 25)).alloc (.cells #[.int .i64 2, .int .i64 0, .slice (some ⟨w.heap.size + 1 + 1, 0, none⟩) 1 1] 25)).alloc (.cells #[.int .i64 x.kind, .int .i64 x.idx, .slice ax x.subs.length cx] 25)) (fun b => X b ∨ w.heap.size ≤ b) ax x.subs := (HS2.out.later HB.out).mono fun b h _ => Or.inl h
  obtain ⟨kx, xx, lx⟩ := x
  simp only [LiesM]
  exact ⟨Or.inr (by omega), HQ.out.cell 0, HQ.out.cell 1, ⟨ax, cx, HQ.out.cell 2, h2⟩, trivial⟩


set_option maxHeartbeats 4000000 in
theorem numeralL_any (n : Nat) (hn : n ≤ 1000) (w : World) :
    Calls Try.prog 11 #[.int .i64 (n : Int)] w fun e w' => ∃ a c, e = .returned (.agg #[.int .i64 2, .int .i64 0, .slice a 1 c]) ∧ SlM w' (fun b => w.heap.size ≤ b) a [⟨2, 0, [itM n]⟩] ∧ Below w.heap.size w w' := by
  go_enter Try.func11, Try.ntmps11
  go_wp2_with fail
  refine (boundL_any _ _).mono ?_
  rintro e w1 ⟨rfl, hb1⟩
  have B1 := hide (((Below.refl w.heap.size w).alloc (Nat.le_refl _) (.cells #[.int .i64 0, .int .i64 0, .slice none 0 0] 25)).trans (hb1.mono (by simp)))
  have R1 := hide ((Blk.new w #[.int .i64 0, .int .i64 0, .slice none 0 0] 25).below hb1 (by simp))
  have hlt1 : w.heap.size < w1.heap.size := R1.out.lt
  have I0 : Hid (NuI w w1.heap.size 0 (w1.alloc (.cells #[.int .i64 1, .int .i64 0, .slice none 0 0] 25))) := ⟨none, 0, B1.out.alloc B1.out.size _, R1.out.alloc _, Blk.new _ _ _, ⟨by simp [itM], Or.inl rfl⟩⟩
  clear hb1 B1 R1
  go_wp2_with fail
  generalize (w1.alloc (.cells #[.int .i64 1, .int .i64 0, .slice none 0 0] 25)) = w2 at *
  have HPW : Hid (w.heap.size < w1.heap.size) := hlt1
  generalize w1.heap.size = P at *
  go_loopw [6] (fun i wr => ∃ k : Nat, k ≤ n ∧ i = .int .i64 (k : Int) ∧ NuI w P k wr) (fun i wr => n - (intOf i).toNat)
  case atStart => exact ⟨0, Nat.zero_le _, rfl, I0.out⟩
  case round =>
    obtain ⟨k, hk, rfl, a1, c1, hb, hR, hP, hs⟩ := hrel
    have HBW := hide hb
    have HR := hide hR
    have HP := hide hP
    have HS := hide hs
    have hPl : P < wr.heap.size := hP.lt
    clear hb hR hP hs
    by_cases hlt : k < n
    · have hlt2 : (k : Int) < (n : Int) := by omega
      go_wp2_with fail
      have KP : Hid (∀ w', Below wr.heap.size wr w' → w'.cell? ⟨P, 0, none⟩ = some (.int .i64 (itM k).kind) ∧ w'.cell? ⟨P, 1, none⟩ = some (.int .i64 (itM k).idx) ∧ w'.cell? ⟨P, 2, none⟩ = some (.slice a1 (itM k).subs.length c1)) := fun w' hb => ⟨(HP.out.below hb hPl).cell 0, (HP.out.below hb hPl).cell 1, (HP.out.below hb hPl).cell 2⟩
      have s0 := (KP.out _ (Below.refl _ _)).1
      have s1 := (KP.out _ (Below.refl _ _)).2.1
      have s2 := (KP.out _ (Below.refl _ _)).2.2
      go_region_with (first
          | (go_at_call 14; refine (boundL_any _ _).mono ?_; rintro e w4 ⟨rfl, hb4⟩; have k4 : Below wr.heap.size wr w4 := ((Below.refl wr.heap.size wr).drew).trans hb4; have z0 := (KP.out _ k4).1; have z1 := (KP.out _ k4).2.1; have z2 := (KP.out _ k4).2.2; have S4 := hide (HS.out.later k4); clear hb4)
          | (go_at_call 15; refine (appliedL_any ⟨1, 1, []⟩ (itM k) _ _ _ (fun b => w.heap.size + 1 ≤ b ∧ b ≠ P) (by exact ⟨none, 0, rfl, ⟨by simp, Or.inl rfl⟩⟩) (by exact ⟨a1, c1, rfl, S4.out⟩)).mono ?_; rintro e w5 ⟨a5, c5, rfl, hs5, hb5⟩; have k5 := k4.trans (hb5.mono k4.size); have h45 := k4.size; have S5 : Hid (SlM w5 (fun b => w.heap.size + 1 ≤ b ∧ b ≠ P) a5 [⟨1, 1, []⟩, itM k]) := hs5.mono fun b h _ => h.elim id fun h => ⟨by omega, by omega⟩; have P5 := hide (HP.out.below k5 hPl); have K5 := hide k5; have p0 : w5.cell? ⟨P, 0, none⟩ = some (.int .i64 (itM k).kind) := P5.out.cell 0; have p1 : w5.cell? ⟨P, 1, none⟩ = some (.int .i64 (itM k).idx) := P5.out.cell 1; have p2 : w5.cell? ⟨P, 2, none⟩ = some (.slice a1 (itM k).subs.length c1) := P5.out.cell 2; have pf := P5.out.frozen; clear hs5 hb5))
      all_goals
        have HI : Hid (NuI w P (k + 1) (((w5.setCell ⟨P, 0, none⟩ (.int .i64 3)).setCell ⟨P, 1, none⟩ (.int .i64 0)).setCell ⟨P, 2, none⟩ (.slice a5 2 c5))) := by
          have hRP : w.heap.size ≠ P := by have := HPW.out; omega
          refine ⟨a5, c5, ((HBW.out.trans (K5.out.mono HBW.out.size)).setCell (p := ⟨P, 0, none⟩) (by simp; have := HPW.out; omega) _ |>.setCell (p := ⟨P, 1, none⟩) (by simp; have := HPW.out; omega) _).setCell (p := ⟨P, 2, none⟩) (by simp; have := HPW.out; omega) _, blk_set3o (HR.out.below K5.out HR.out.lt) hRP _ _ _, blk_set3 P5.out _ _ _, S5.out.kept fun b hb => ?_⟩
          have hne := hb.2
          rw [Below.heap_setCell _ _ _ _ (by simpa using hne), Below.heap_setCell _ _ _ _ (by simpa using hne), Below.heap_setCell _ _ _ _ (by simpa using hne)]
        clear p0 p1 p2 pf
        go_wp2_with fail
        go_roundw
      all_goals first
        | exact ⟨k + 1, by omega, by go_num, HI.out⟩
        | (simp [intOf]; omega)
    · have hkn : k = n := by omega
      subst hkn
      have p0 : wr.cell? ⟨P, 0, none⟩ = some (.int .i64 (itM k).kind) := HP.out.cell 0
      have p1 : wr.cell? ⟨P, 1, none⟩ = some (.int .i64 (itM k).idx) := HP.out.cell 1
      have p2 : wr.cell? ⟨P, 2, none⟩ = some (.slice a1 (itM k).subs.length c1) := HP.out.cell 2
      go_wp2_with fail
      refine (binderL_any (itM k) _ _ (fun b => w.heap.size + 1 ≤ b ∧ b ≠ P) (by exact ⟨a1, c1, rfl, HS.out⟩)).mono ?_
      rintro e w4 ⟨a4, c4, rfl, hs4, hb4⟩
      have S4 : Hid (SlM w4 (fun b => w.heap.size + 1 ≤ b) a4 [itM k]) := hs4.mono fun b h _ => h.elim And.left fun h => by have := HPW.out; omega
      have B4 := hide (HBW.out.trans (hb4.mono HBW.out.size))
      have R4 := hide (HR.out.below hb4 HR.out.lt)
      clear hs4 hb4 p0 p1 p2
      go_wp2_with fail
      refine (binderL_any ⟨2, 0, [itM k]⟩ _ _ (fun b => w.heap.size + 1 ≤ b) (by exact ⟨a4, c4, rfl, S4.out⟩)).mono ?_
      rintro e w5 ⟨a5, c5, rfl, hs5, hb5⟩
      have hRl := R4.out.lt
      have S5 : Hid (SlM w5 (fun b => w.heap.size + 1 ≤ b) a5 [⟨2, 0, [itM k]⟩]) := hs5.mono fun b h _ => h.elim id fun h => by omega
      have B5 := hide (B4.out.trans (hb5.mono B4.out.size))
      have R5 := hide (R4.out.below hb5 R4.out.lt)
      have r0 : w5.cell? ⟨w.heap.size, 0, none⟩ = some (.int .i64 0) := R5.out.cell 0
      have r1 : w5.cell? ⟨w.heap.size, 1, none⟩ = some (.int .i64 0) := R5.out.cell 1
      have r2 : w5.cell? ⟨w.heap.size, 2, none⟩ = some (.slice none 0 0) := R5.out.cell 2
      have rf := R5.out.frozen
      clear hs5 hb5
      go_wp2_with fail
      refine bodyPost_ret (v := .agg #[.int .i64 2, .int .i64 0, .slice a5 1 c5]) (by simp [results, Try.results11, go_sem, World.cell?_setCell_same, World.cell?_setCell_other, r0, r1, r2]) rfl ?_
      refine ⟨a5, c5, rfl, (S5.out.kept fun b hb => ?_).mono fun b hb _ => by omega, ((B5.out.setCell (p := ⟨w.heap.size, 0, none⟩) (by simp) _).setCell (p := ⟨w.heap.size, 1, none⟩) (by simp) _).setCell (p := ⟨w.heap.size, 2, none⟩) (by simp) _⟩
      have hne : b ≠ w.heap.size := by omega
      rw [Below.heap_setCell _ _ _ _ (by simpa using hne), Below.heap_setCell _ _ _ _ (by simpa using hne), Below.heap_setCell _ _ _ _ (by simpa using hne)]

#print axioms numeralL_any
end Go.Proofs.Ytmapeiecapiliaa

/- Several texts in one. -/
import Derived.Test.YtmapeiecapiliaaLn9c
import Derived.Deep.RegionWith
import Derived.Test.YtmapeiecapiliaaL11
import Derived.Test.YtmapeiecapiliaaLn1
import Derived.BigQuiet
import Derived.Test.YtmapeiecapiliaaLn10
import Derived.Test.YtmapeiecapiliaaLn11
import Derived.Test.YtmapeiecapiliaaL3
import Derived.Test.YtmapeiecapiliaaLp
import Derived.Test.YtmapeiecapiliaaRows
import Derived.ProofKit

/- Walks: numerals are made. -/
namespace Go.Proofs.Ytmapeiecapiliaa
open Go.RowKit
set_option linter.unusedSimpArgs false
set_option linter.unusedVariables false
set_option maxRecDepth 8000

/-- So many times. -/
def itM : Nat → Lm
  | 0 => ⟨1, 0, []⟩
  | n + 1 => ⟨3, 0, [⟨1, 1, []⟩, itM n]⟩
def NuI (w : World) (P k : Nat) (wr : World) : Prop :=
  ∃ (a1 : Option Addr) (c1 : Nat), Below w.heap.size w wr ∧ Blk wr w.heap.size #[.int .i64 0, .int .i64 0, .slice none 0 0] 25 ∧ Blk wr P #[.int .i64 (itM k).kind, .int .i64 (itM k).idx, .slice a1 (itM k).subs.length c1] 25 ∧ SlM wr (fun b => w.heap.size + 1 ≤ b ∧ b ≠ P) a1 (itM k).subs

theorem boundL_any (x : Int) (w : World) : Calls Try.prog 14 #[.int .i64 x] w fun e w' => e = .returned (.agg #[.int .i64 1, .int .i64 x, .slice none 0 0]) ∧ Below w.heap.size w w' := by
  go_enter Try.func14, Try.ntmps14
  go_wp2_with fail
  refine bodyPost_ret (v := .agg #[.int .i64 1, .int .i64 x, .slice none 0 0]) (by simp [results, Try.results14, go_sem, World.cell?_setCell_same, World.cell?_setCell_other]) rfl ?_
  exact ⟨rfl, by first | exact Below.refl _ _ | exact (Below.refl _ _).alloc (Nat.le_refl _) _⟩

theorem varR_any (x : Int) (w : World) : Calls Try.prog 9 #[.int .i64 x] w fun e w' => e = .returned (.agg #[.int .i64 1, .int .i64 x, .slice none 0 0]) ∧ Below w.heap.size w w' := by
  go_enter Try.func9, Try.ntmps9
  go_wp2_with fail
  refine bodyPost_ret (v := .agg #[.int .i64 1, .int .i64 x, .slice none 0 0]) (by simp [results, Try.results9, go_sem, World.cell?_setCell_same, World.cell?_setCell_other]) rfl ?_
  exact ⟨rfl, by first | exact Below.refl _ _ | exact (Below.refl _ _).alloc (Nat.le_refl _) _⟩

set_option maxHeartbeats 1000000 in
theorem appliedL_any (f x : Lm) (fv xv : Value) (w : World) (X : Nat → Prop) (hf : MV w X fv f) (hx : MV w X xv x) :
    Calls Try.prog 15 #[fv, xv] w fun e w' => ∃ a c, e = .returned (.agg #[.int .i64 3, .int .i64 0, .slice a 2 c]) ∧ SlM w' (fun b => X b ∨ w.heap.size ≤ b) a [f, x] ∧ Below w.heap.size w w' := by
  obtain ⟨af, cf, rfl, hs⟩ := hf
  obtain ⟨ax, cx, rfl, hs2⟩ := hx
  have HS := hide hs
  have HS2 := hide hs2
  clear hs hs2
  have HB : Hid (Below w.heap.size w ((((w.alloc (.cells #[.int .i64 f.kind, .int .i64 f.idx, .slice af f.subs.length cf] 25)).alloc (.cells #[.int .i64 x.kind, .int .i64 x.idx, .slice ax x.subs.length cx] 25)).alloc (.cells #[.int .i64 3, .int .i64 0, .slice (some ⟨w.heap.size + 1 + 1 + 1, 0, none⟩) 2 2] 25)).alloc (.cells #[.int .i64 f.kind, .int .i64 f.idx, .slice af f.subs.length cf, .int .i64 x.kind, .int .i64 x.idx, .slice ax x.subs.length cx] 25))) := (((below2M _ _).alloc (by simp; omega) _).alloc (by simp; omega) _)
  have q0 : Blk ((((w.alloc (.cells #[.int .i64 f.kind, .int .i64 f.idx, .slice af f.subs.length cf] 25)).alloc (.cells #[.int .i64 x.kind, .int .i64 x.idx, .slice ax x.subs.length cx] 25)).alloc (.cells #[.int .i64 3, .int .i64 0, .slice (some ⟨w.heap.size + 1 + 1 + 1, 0, none⟩) 2 2] 25)).alloc (.cells #[.int .i64 f.kind, .int .i64 f.idx, .slice af f.subs.length cf, .int .i64 x.kind, .int .i64 x.idx, .slice ax x.subs.length cx] 25)) (w.heap.size + 1 + 1) #[.int .i64 3, .int .i64 0, .slice (some ⟨w.heap.size + 1 + 1 + 1, 0, none⟩) 2 2] 25 := by
    have h := (Blk.new ((w.alloc (.cells #[.int .i64 f.kind, .int .i64 f.idx, .slice af f.subs.length cf] 25)).alloc (.cells #[.int .i64 x.kind, .int .i64 x.idx, .slice ax x.subs.length cx] 25)) #[.int .i64 3, .int .i64 0, .slice (some ⟨w.heap.size + 1 + 1 + 1, 0, none⟩) 2 2] 25).alloc (.cells #[.int .i64 f.kind, .int .i64 f.idx, .slice af f.subs.length cf, .int .i64 x.kind, .int .i64 x.idx, .slice ax x.subs.length cx] 25)
    simpa using h
  have HQ : Hid (Blk ((((w.alloc (.cells #[.int .i64 f.kind, .int .i64 f.idx, .slice af f.subs.length cf] 25)).alloc (.cells #[.int .i64 x.kind, .int .i64 x.idx, .slice ax x.subs.length cx] 25)).alloc (.cells #[.int .i64 3, .int .i64 0, .slice (some ⟨w.heap.size + 1 + 1 + 1, 0, none⟩) 2 2] 25)).alloc (.cells #[.int .i64 f.kind, .int .i64 f.idx, .slice af f.subs.length cf, .int .i64 x.kind, .int .i64 x.idx, .slice ax x.subs.length cx] 25)) (w.heap.size + 1 + 1 + 1) #[.int .i64 f.kind, .int .i64 f.idx, .slice af f.subs.length cf, .int .i64 x.kind, .int .i64 x.idx, .slice ax x.subs.length cx] 25) := by
    have h := Blk.new (((w.alloc (.cells #[.int .i64 f.kind, .int .i64 f.idx, .slice af f.subs.length cf] 25)).alloc (.cells #[.int .i64 x.kind, .int .i64 x.idx, .slice ax x.subs.length cx] 25)).alloc (.cells #[.int .i64 3, .int .i64 0, .slice (some ⟨w.heap.size + 1 + 1 + 1, 0, none⟩) 2 2] 25)) #[.int .i64 f.kind, .int .i64 f.idx, .slice af f.subs.length cf, .int .i64 x.kind, .int .i64 x.idx, .slice ax x.subs.length cx] 25
    unfold Hid
    simpa using h
  have c0 := q0.cell 0
  have c1 := q0.cell 1
  have c2 := q0.cell 2
  simp only [List.getElem?_toArray, List.getElem?_cons_succ, List.getElem?_cons_zero] at c0 c1 c2
  clear q0
  go_enter Try.func15, Try.ntmps15
  go_wp2_with fail
  refine bodyPost_ret (v := .agg #[.int .i64 3, .int .i64 0, .slice (some ⟨w.heap.size + 1 + 1 + 1, 0, none⟩) 2 2]) (by simp [results, Try.results15, go_sem, c0, c1, c2]) rfl ?_
  refine ⟨_, _, rfl, ⟨by simp, Or.inr ⟨_, _, rfl, ?_⟩⟩, HB.out⟩
  have h1 : SlM ((((w.alloc (.cells #[.int .i64 f.kind, .int .i64 f.idx, .slice af f.subs.length cf] 25)).alloc (.cells #[.int .i64 x.kind, .int .i64 x.idx, .slice ax x.subs.length cx] 25)).alloc (.cells #[.int .i64 3, .int .i64 0, .slice (some ⟨w.heap.size + 1 + 1 + 1, 0, none⟩) 2 2] 25)).alloc (.cells #[.int .i64 f.kind, .int .i64 f.idx, .slice af f.subs.length cf, .int .i64 x.kind, .int .i64 x.idx, .slice ax x.subs.length cx] 25)) (fun b => X b ∨ w.heap.size ≤ b) af f.subs := (HS.out.later HB.out).mono fun b h _ => Or.inl h
  have h2 : SlM ((((w.alloc (.cells #[.int .i64 f.kind, .int .i64 f.idx, .slice af f.subs.length cf] 25)).alloc (.cells #[.int .i64 x.kind, .int .i64 x.idx, .slice ax x.subs.length cx] 25)).alloc (.cells #[.int .i64 3, .int .i64 0, .slice (some ⟨w.heap.size + 1 + 1 + 1, 0, none⟩) 2 2] 25)).alloc (.cells #[.int .i64 f.kind, .int .i64 f.idx, .slice af f.subs.length cf, .int .i64 x.kind, .int .i64 x.idx, .slice ax x.subs.length cx] 25)) (fun b => X b ∨ w.heap.size ≤ b) ax x.subs := (HS2.out.later HB.out).mono fun b h _ => Or.inl h
  obtain ⟨kf, xf, lf⟩ := f
  obtain ⟨kx, xx, lx⟩ := x
  simp only [LiesM]
  exact ⟨Or.inr (by omega), HQ.out.cell 0, HQ.out.cell 1, ⟨af, cf, HQ.out.cell 2, h1⟩, Or.inr (by omega), HQ.out.cell 3, HQ.out.cell 4, ⟨ax, cx, HQ.out.cell 5, h2⟩, trivial⟩

set_option maxHeartbeats 1000000 in
theorem appR_any (f x : Lm) (fv xv : Value) (w : World) (X : Nat → Prop) (hf : MV w X fv f) (hx : MV w X xv x) :
    Calls Try.prog 7 #[fv, xv] w fun e w' => ∃ a c, e = .returned (.agg #[.int .i64 3, .int .i64 0, .slice a 2 c]) ∧ SlM w' (fun b => X b ∨ w.heap.size ≤ b) a [f, x] ∧ Below w.heap.size w w' := by
  obtain ⟨af, cf, rfl, hs⟩ := hf
  obtain ⟨ax, cx, rfl, hs2⟩ := hx
  have HS := hide hs
  have HS2 := hide hs2
  clear hs hs2
  have HB : Hid (Below w.heap.size w ((((w.alloc (.cells #[.int .i64 f.kind, .int .i64 f.idx, .slice af f.subs.length cf] 25)).alloc (.cells #[.int .i64 x.kind, .int .i64 x.idx, .slice ax x.subs.length cx] 25)).alloc (.cells #[.int .i64 3, .int .i64 0, .slice (some ⟨w.heap.size + 1 + 1 + 1, 0, none⟩) 2 2] 25)).alloc (.cells #[.int .i64 f.kind, .int .i64 f.idx, .slice af f.subs.length cf, .int .i64 x.kind, .int .i64 x.idx, .slice ax x.subs.length cx] 25))) := (((below2M _ _).alloc (by simp; omega) _).alloc (by simp; omega) _)
  have q0 : Blk ((((w.alloc (.cells #[.int .i64 f.kind, .int .i64 f.idx, .slice af f.subs.length cf] 25)).alloc (.cells #[.int .i64 x.kind, .int .i64 x.idx, .slice ax x.subs.length cx] 25)).alloc (.cells #[.int .i64 3, .int .i64 0, .slice (some ⟨w.heap.size + 1 + 1 + 1, 0, none⟩) 2 2] 25)).alloc (.cells #[.int .i64 f.kind, .int .i64 f.idx, .slice af f.subs.length cf, .int .i64 x.kind, .int .i64 x.idx, .slice ax x.subs.length cx] 25)) (w.heap.size + 1 + 1) #[.int .i64 3, .int .i64 0, .slice (some ⟨w.heap.size + 1 + 1 + 1, 0, none⟩) 2 2] 25 := by
    have h := (Blk.new ((w.alloc (.cells #[.int .i64 f.kind, .int .i64 f.idx, .slice af f.subs.length cf] 25)).alloc (.cells #[.int .i64 x.kind, .int .i64 x.idx, .slice ax x.subs.length cx] 25)) #[.int .i64 3, .int .i64 0, .slice (some ⟨w.heap.size + 1 + 1 + 1, 0, none⟩) 2 2] 25).alloc (.cells #[.int .i64 f.kind, .int .i64 f.idx, .slice af f.subs.length cf, .int .i64 x.kind, .int .i64 x.idx, .slice ax x.subs.length cx] 25)
    simpa using h
  have HQ : Hid (Blk ((((w.alloc (.cells #[.int .i64 f.kind, .int .i64 f.idx, .slice af f.subs.length cf] 25)).alloc (.cells #[.int .i64 x.kind, .int .i64 x.idx, .slice ax x.subs.length cx] 25)).alloc (.cells #[.int .i64 3, .int .i64 0, .slice (some ⟨w.heap.size + 1 + 1 + 1, 0, none⟩) 2 2] 25)).alloc (.cells #[.int .i64 f.kind, .int .i64 f.idx, .slice af f.subs.length cf, .int .i64 x.kind, .int .i64 x.idx, .slice ax x.subs.length cx] 25)) (w.heap.size + 1 + 1 + 1) #[.int .i64 f.kind, .int .i64 f.idx, .slice af f.subs.length cf, .int .i64 x.kind, .int .i64 x.idx, .slice ax x.subs.length cx] 25) := by
    have h := Blk.new (((w.alloc (.cells #[.int .i64 f.kind, .int .i64 f.idx, .slice af f.subs.length cf] 25)).alloc (.cells #[.int .i64 x.kind, .int .i64 x.idx, .slice ax x.subs.length cx] 25)).alloc (.cells #[.int .i64 3, .int .i64 0, .slice (some ⟨w.heap.size + 1 + 1 + 1, 0, none⟩) 2 2] 25)) #[.int .i64 f.kind, .int .i64 f.idx, .slice af f.subs.length cf, .int .i64 x.kind, .int .i64 x.idx, .slice ax x.subs.length cx] 25
    unfold Hid
    simpa using h
  have c0 := q0.cell 0
  have c1 := q0.cell 1
  have c2 := q0.cell 2
  simp only [List.getElem?_toArray, List.getElem?_cons_succ, List.getElem?_cons_zero] at c0 c1 c2
  clear q0
  go_enter Try.func7, Try.ntmps7
  go_wp2_with fail
  refine bodyPost_ret (v := .agg #[.int .i64 3, .int .i64 0, .slice (some ⟨w.heap.size + 1 + 1 + 1, 0, none⟩) 2 2]) (by simp [results, Try.results7, go_sem, c0, c1, c2]) rfl ?_
  refine ⟨_, _, rfl, ⟨by simp, Or.inr ⟨_, _, rfl, ?_⟩⟩, HB.out⟩
  have h1 : SlM ((((w.alloc (.cells #[.int .i64 f.kind, .int .i64 f.idx, .slice af f.subs.length cf] 25)).alloc (.cells #[.int .i64 x.kind, .int .i64 x.idx, .slice ax x.subs.length cx] 25)).alloc (.cells #[.int .i64 3, .int .i64 0, .slice (some ⟨w.heap.size + 1 + 1 + 1, 0, none⟩) 2 2] 25)).alloc (.cells #[.int .i64 f.kind, .int .i64 f.idx, .slice af f.subs.length cf, .int .i64 x.kind, .int .i64 x.idx, .slice ax x.subs.length cx] 25)) (fun b => X b ∨ w.heap.size ≤ b) af f.subs := (HS.out.later HB.out).mono fun b h _ => Or.inl h
  have h2 : SlM ((((w.alloc (.cells #[.int .i64 f.kind, .int .i64 f.idx, .slice af f.subs.length cf] 25)).alloc (.cells #[.int .i64 x.kind, .int .i64 x.idx, .slice ax x.subs.length cx] 25)).alloc (.cells #[.int .i64 3, .int .i64 0, .slice (some ⟨w.heap.size + 1 + 1 + 1, 0, none⟩) 2 2] 25)).alloc (.cells #[.int .i64 f.kind, .int .i64 f.idx, .slice af f.subs.length cf, .int .i64 x.kind, .int .i64 x.idx, .slice ax x.subs.length cx] 25)) (fun b => X b ∨ w.heap.size ≤ b) ax x.subs := (HS2.out.later HB.out).mono fun b h _ => Or.inl h
  obtain ⟨kf, xf, lf⟩ := f
  obtain ⟨kx, xx, lx⟩ := x
  simp only [LiesM]
  exact ⟨Or.inr (by omega), HQ.out.cell 0, HQ.out.cell 1, ⟨af, cf, HQ.out.cell 2, h1⟩, Or.inr (by omega), HQ.out.cell 3, HQ.out.cell 4, ⟨ax, cx, HQ.out.cell 5, h2⟩, trivial⟩

set_option maxHeartbeats 1000000 in
theorem binderL_any (x : Lm) (xv : Value) (w : World) (X : Nat → Prop) (hx : MV w X xv x) :
    Calls Try.prog 16 #[xv] w fun e w' => ∃ a c, e = .returned (.agg #[.int .i64 2, .int .i64 0, .slice a 1 c]) ∧ SlM w' (fun b => X b ∨ w.heap.size ≤ b) a [x] ∧ Below w.heap.size w w' := by
  obtain ⟨ax, cx, rfl, hs2⟩ := hx
  have HS2 := hide hs2
  clear hs2
  have HB : Hid (Below w.heap.size w (((w.alloc (.cells #[.int .i64 x.kind, .int .i64 x.idx, .slice ax x.subs.length cx] 25)).alloc (.cells #[.int .i64 2, .int .i64 0, .slice (some ⟨w.heap.size + 1 + 1, 0, none⟩) 1 1] 25)).alloc (.cells #[.int .i64 x.kind, .int .i64 x.idx, .slice ax x.subs.length cx] 25))) := (below2M _ _).alloc (by simp; omega) _
  have q0 : Blk (((w.alloc (.cells #[.int .i64 x.kind, .int .i64 x.idx, .slice ax x.subs.length cx] 25)).alloc (.cells #[.int .i64 2, .int .i64 0, .slice (some ⟨w.heap.size + 1 + 1, 0, none⟩) 1 1] 25)).alloc (.cells #[.int .i64 x.kind, .int .i64 x.idx, .slice ax x.subs.length cx] 25)) (w.heap.size + 1) #[.int .i64 2, .int .i64 0, .slice (some ⟨w.heap.size + 1 + 1, 0, none⟩) 1 1] 25 := by
    have h := (Blk.new (w.alloc (.cells #[.int .i64 x.kind, .int .i64 x.idx, .slice ax x.subs.length cx] 25)) #[.int .i64 2, .int .i64 0, .slice (some ⟨w.heap.size + 1 + 1, 0, none⟩) 1 1] 25).alloc (.cells #[.int .i64 x.kind, .int .i64 x.idx, .slice ax x.subs.length cx] 25)
    simpa using h
  have HQ : Hid (Blk (((w.alloc (.cells #[.int .i64 x.kind, .int .i64 x.idx, .slice ax x.subs.length cx] 25)).alloc (.cells #[.int .i64 2, .int .i64 0, .slice (some ⟨w.heap.size + 1 + 1, 0, none⟩) 1 1] 25)).alloc (.cells #[.int .i64 x.kind, .int .i64 x.idx, .slice ax x.subs.length cx] 25)) (w.heap.size + 1 + 1) #[.int .i64 x.kind, .int .i64 x.idx, .slice ax x.subs.length cx] 25) := by
    have h := Blk.new ((w.alloc (.cells #[.int .i64 x.kind, .int .i64 x.idx, .slice ax x.subs.length cx] 25)).alloc (.cells #[.int .i64 2, .int .i64 0, .slice (some ⟨w.heap.size + 1 + 1, 0, none⟩) 1 1] 25)) #[.int .i64 x.kind, .int .i64 x.idx, .slice ax x.subs.length cx] 25
    unfold Hid
    simpa using h
  have c0 := q0.cell 0
  have c1 := q0.cell 1
  have c2 := q0.cell 2
  simp only [List.getElem?_toArray, List.getElem?_cons_succ, List.getElem?_cons_zero] at c0 c1 c2
  clear q0
  go_enter Try.func16, Try.ntmps16
  go_wp2_with fail
  refine bodyPost_ret (v := .agg #[.int .i64 2, .int .i64 0, .slice (some ⟨w.heap.size + 1 + 1, 0, none⟩) 1 1]) (by simp [results, Try.results16, go_sem, c0, c1, c2]) rfl ?_
  refine ⟨_, _, rfl, ⟨by simp, Or.inr ⟨_, _, rfl, ?_⟩⟩, HB.out⟩
  have h2 : SlM (((w.alloc (.cells #[.int .i64 x.kind, .int .i64 x.idx, .slice ax x.subs.length cx] 25)).alloc (.cells #[.int .i64 2, .int .i64 0, .slice (some ⟨w.heap.size + 1 + 1, 0, none⟩) 1 1] 25)).alloc (.cells #[.int .i64 x.kind, .int .i64 x.idx, .slice ax x.subs.length cx] 25)) (fun b => X b ∨ w.heap.size ≤ b) ax x.subs := (HS2.out.later HB.out).mono fun b h _ => Or.inl h
  obtain ⟨kx, xx, lx⟩ := x
  simp only [LiesM]
  exact ⟨Or.inr (by omega), HQ.out.cell 0, HQ.out.cell 1, ⟨ax, cx, HQ.out.cell 2, h2⟩, trivial⟩

set_option maxHeartbeats 1000000 in
theorem funR_any (x : Lm) (xv : Value) (w : World) (X : Nat → Prop) (hx : MV w X xv x) :
    Calls Try.prog 6 #[xv] w fun e w' => ∃ a c, e = .returned (.agg #[.int .i64 2, .int .i64 0, .slice a 1 c]) ∧ SlM w' (fun b => X b ∨ w.heap.size ≤ b) a [x] ∧ Below w.heap.size w w' := by
  obtain ⟨ax, cx, rfl, hs2⟩ := hx
  have HS2 := hide hs2
  clear hs2
  have HB : Hid (Below w.heap.size w (((w.alloc (.cells #[.int .i64 x.kind, .int .i64 x.idx, .slice ax x.subs.length cx] 25)).alloc (.cells #[.int .i64 2, .int .i64 0, .slice (some ⟨w.heap.size + 1 + 1, 0, none⟩) 1 1] 25)).alloc (.cells #[.int .i64 x.kind, .int .i64 x.idx, .slice ax x.subs.length cx] 25))) := (below2M _ _).alloc (by simp; omega) _
  have q0 : Blk (((w.alloc (.cells #[.int .i64 x.kind, .int .i64 x.idx, .slice ax x.subs.length cx] 25)).alloc (.cells #[.int .i64 2, .int .i64 0, .slice (some ⟨w.heap.size + 1 + 1, 0, none⟩) 1 1] 25)).alloc (.cells #[.int .i64 x.kind, .int .i64 x.idx, .slice ax x.subs.length cx] 25)) (w.heap.size + 1) #[.int .i64 2, .int .i64 0, .slice (some ⟨w.heap.size + 1 + 1, 0, none⟩) 1 1] 25 := by
    have h := (Blk.new (w.alloc (.cells #[.int .i64 x.kind, .int .i64 x.idx, .slice ax x.subs.length cx] 25)) #[.int .i64 2, .int .i64 0, .slice (some ⟨w.heap.size + 1 + 1, 0, none⟩) 1 1] 25).alloc (.cells #[.int .i64 x.kind, .int .i64 x.idx, .slice ax x.subs.length cx] 25)
    simpa using h
  have HQ : Hid (Blk (((w.alloc (.cells #[.int .i64 x.kind, .int .i64 x.idx, .slice ax x.subs.length cx] 25)).alloc (.cells #[.int .i64 2, .int .i64 0, .slice (some ⟨w.heap.size + 1 + 1, 0, none⟩) 1 1] 25)).alloc (.cells #[.int .i64 x.kind, .int .i64 x.idx, .slice ax x.subs.length cx] 25)) (w.heap.size + 1 + 1) #[.int .i64 x.kind, .int .i64 x.idx, .slice ax x.subs.length cx] 25) := by
    have h := Blk.new ((w.alloc (.cells #[.int .i64 x.kind, .int .i64 x.idx, .slice ax x.subs.length cx] 25)).alloc (.cells #[.int .i64 2, .int .i64 0, .slice (some ⟨w.heap.size + 1 + 1, 0, none⟩) 1 1] 25)) #[.int .i64 x.kind, .int .i64 x.idx, .slice ax x.subs.length cx] 25
    unfold Hid
    simpa using h
  have c0 := q0.cell 0
  have c1 := q0.cell 1
  have c2 := q0.cell 2
  simp only [List.getElem?_toArray, List.getElem?_cons_succ, List.getElem?_cons_zero] at c0 c1 c2
  clear q0
  go_enter Try.func6, Try.ntmps6
  go_wp2_with fail
  refine bodyPost_ret (v := .agg #[.int .i64 2, .int .i64 0, .slice (some ⟨w.heap.size + 1 + 1, 0, none⟩) 1 1]) (by simp [results, Try.results6, go_sem, c0, c1, c2]) rfl ?_
  refine ⟨_, _, rfl, ⟨by simp, Or.inr ⟨_, _, rfl, ?_⟩⟩, HB.out⟩
  have h2 : SlM (((w.alloc (.cells #[.int .i64 x.kind, .int .i64 x.idx, .slice ax x.subs.length cx] 25)).alloc (.cells #[.int .i64 2, .int .i64 0, .slice (some ⟨w.heap.size + 1 + 1, 0, none⟩) 1 1] 25)).alloc (.cells #[.int .i64 x.kind, .int .i64 x.idx, .slice ax x.subs.length cx] 25)) (fun b => X b ∨ w.heap.size ≤ b) ax x.subs := (HS2.out.later HB.out).mono fun b h _ => Or.inl h
  obtain ⟨kx, xx, lx⟩ := x
  simp only [LiesM]
  exact ⟨Or.inr (by omega), HQ.out.cell 0, HQ.out.cell 1, ⟨ax, cx, HQ.out.cell 2, h2⟩, trivial⟩


set_option maxHeartbeats 4000000 in
theorem numeralL_any (n : Nat) (hn : n ≤ 1000) (w : World) :
    Calls Try.prog 11 #[.int .i64 (n : Int)] w fun e w' => ∃ a c, e = .returned (.agg #[.int .i64 2, .int .i64 0, .slice a 1 c]) ∧ SlM w' (fun b => w.heap.size ≤ b) a [⟨2, 0, [itM n]⟩] ∧ Below w.heap.size w w' := by
  go_enter Try.func11, Try.ntmps11
  go_wp2_with fail
  refine (boundL_any _ _).mono ?_
  rintro e w1 ⟨rfl, hb1⟩
  have B1 := hide (((Below.refl w.heap.size w).alloc (Nat.le_refl _) (.cells #[.int .i64 0, .int .i64 0, .slice none 0 0] 25)).trans (hb1.mono (by simp)))
  have R1 := hide ((Blk.new w #[.int .i64 0, .int .i64 0, .slice none 0 0] 25).below hb1 (by simp))
  have hlt1 : w.heap.size < w1.heap.size := R1.out.lt
  have I0 : Hid (NuI w w1.heap.size 0 (w1.alloc (.cells #[.int .i64 1, .int .i64 0, .slice none 0 0] 25))) := ⟨none, 0, B1.out.alloc B1.out.size _, R1.out.alloc _, Blk.new _ _ _, ⟨by simp [itM], Or.inl rfl⟩⟩
  clear hb1 B1 R1
  go_wp2_with fail
  generalize (w1.alloc (.cells #[.int .i64 1, .int .i64 0, .slice none 0 0] 25)) = w2 at *
  have HPW : Hid (w.heap.size < w1.heap.size) := hlt1
  generalize w1.heap.size = P at *
  go_loopw [6] (fun i wr => ∃ k : Nat, k ≤ n ∧ i = .int .i64 (k : Int) ∧ NuI w P k wr) (fun i wr => n - (intOf i).toNat)
  case atStart => exact ⟨0, Nat.zero_le _, rfl, I0.out⟩
  case round =>
    obtain ⟨k, hk, rfl, a1, c1, hb, hR, hP, hs⟩ := hrel
    have HBW := hide hb
    have HR := hide hR
    have HP := hide hP
    have HS := hide hs
    have hPl : P < wr.heap.size := hP.lt
    clear hb hR hP hs
    by_cases hlt : k < n
    · have hlt2 : (k : Int) < (n : Int) := by omega
      go_wp2_with fail
      have KP : Hid (∀ w', Below wr.heap.size wr w' → w'.cell? ⟨P, 0, none⟩ = some (.int .i64 (itM k).kind) ∧ w'.cell? ⟨P, 1, none⟩ = some (.int .i64 (itM k).idx) ∧ w'.cell? ⟨P, 2, none⟩ = some (.slice a1 (itM k).subs.length c1)) := fun w' hb => ⟨(HP.out.below hb hPl).cell 0, (HP.out.below hb hPl).cell 1, (HP.out.below hb hPl).cell 2⟩
      have s0 := (KP.out _ (Below.refl _ _)).1
      have s1 := (KP.out _ (Below.refl _ _)).2.1
      have s2 := (KP.out _ (Below.refl _ _)).2.2
      go_region_with (first
          | (go_at_call 14; refine (boundL_any _ _).mono ?_; rintro e w4 ⟨rfl, hb4⟩; have k4 : Below wr.heap.size wr w4 := ((Below.refl wr.heap.size wr).drew).trans hb4; have z0 := (KP.out _ k4).1; have z1 := (KP.out _ k4).2.1; have z2 := (KP.out _ k4).2.2; have S4 := hide (HS.out.later k4); clear hb4)
          | (go_at_call 15; refine (appliedL_any ⟨1, 1, []⟩ (itM k) _ _ _ (fun b => w.heap.size + 1 ≤ b ∧ b ≠ P) (by exact ⟨none, 0, rfl, ⟨by simp, Or.inl rfl⟩⟩) (by exact ⟨a1, c1, rfl, S4.out⟩)).mono ?_; rintro e w5 ⟨a5, c5, rfl, hs5, hb5⟩; have k5 := k4.trans (hb5.mono k4.size); have h45 := k4.size; have S5 : Hid (SlM w5 (fun b => w.heap.size + 1 ≤ b ∧ b ≠ P) a5 [⟨1, 1, []⟩, itM k]) := hs5.mono fun b h _ => h.elim id fun h => ⟨by omega, by omega⟩; have P5 := hide (HP.out.below k5 hPl); have K5 := hide k5; have p0 : w5.cell? ⟨P, 0, none⟩ = some (.int .i64 (itM k).kind) := P5.out.cell 0; have p1 : w5.cell? ⟨P, 1, none⟩ = some (.int .i64 (itM k).idx) := P5.out.cell 1; have p2 : w5.cell? ⟨P, 2, none⟩ = some (.slice a1 (itM k).subs.length c1) := P5.out.cell 2; have pf := P5.out.frozen; clear hs5 hb5))
      all_goals
        have HI : Hid (NuI w P (k + 1) (((w5.setCell ⟨P, 0, none⟩ (.int .i64 3)).setCell ⟨P, 1, none⟩ (.int .i64 0)).setCell ⟨P, 2, none⟩ (.slice a5 2 c5))) := by
          have hRP : w.heap.size ≠ P := by have := HPW.out; omega
          refine ⟨a5, c5, ((HBW.out.trans (K5.out.mono HBW.out.size)).setCell (p := ⟨P, 0, none⟩) (by simp; have := HPW.out; omega) _ |>.setCell (p := ⟨P, 1, none⟩) (by simp; have := HPW.out; omega) _).setCell (p := ⟨P, 2, none⟩) (by simp; have := HPW.out; omega) _, blk_set3o (HR.out.below K5.out HR.out.lt) hRP _ _ _, blk_set3 P5.out _ _ _, S5.out.kept fun b hb => ?_⟩
          have hne := hb.2
          rw [Below.heap_setCell _ _ _ _ (by simpa using hne), Below.heap_setCell _ _ _ _ (by simpa using hne), Below.heap_setCell _ _ _ _ (by simpa using hne)]
        clear p0 p1 p2 pf
        go_wp2_with fail
        go_roundw
      all_goals first
        | exact ⟨k + 1, by omega, by go_num, HI.out⟩
        | (simp [intOf]; omega)
    · have hkn : k = n := by omega
      subst hkn
      have p0 : wr.cell? ⟨P, 0, none⟩ = some (.int .i64 (itM k).kind) := HP.out.cell 0
      have p1 : wr.cell? ⟨P, 1, none⟩ = some (.int .i64 (itM k).idx) := HP.out.cell 1
      have p2 : wr.cell? ⟨P, 2, none⟩ = some (.slice a1 (itM k).subs.length c1) := HP.out.cell 2
      go_wp2_with fail
      refine (binderL_any (itM k) _ _ (fun b => w.heap.size + 1 ≤ b ∧ b ≠ P) (by exact ⟨a1, c1, rfl, HS.out⟩)).mono ?_
      rintro e w4 ⟨a4, c4, rfl, hs4, hb4⟩
      have S4 : Hid (SlM w4 (fun b => w.heap.size + 1 ≤ b) a4 [itM k]) := hs4.mono fun b h _ => h.elim And.left fun h => by have := HPW.out; omega
      have B4 := hide (HBW.out.trans (hb4.mono HBW.out.size))
      have R4 := hide (HR.out.below hb4 HR.out.lt)
      clear hs4 hb4 p0 p1 p2
      go_wp2_with fail
      refine (binderL_any ⟨2, 0, [itM k]⟩ _ _ (fun b => w.heap.size + 1 ≤ b) (by exact ⟨a4, c4, rfl, S4.out⟩)).mono ?_
      rintro e w5 ⟨a5, c5, rfl, hs5, hb5⟩
      have hRl := R4.out.lt
      have S5 : Hid (SlM w5 (fun b => w.heap.size + 1 ≤ b) a5 [⟨2, 0, [itM k]⟩]) := hs5.mono fun b h _ => h.elim id fun h => by omega
      have B5 := hide (B4.out.trans (hb5.mono B4.out.size))
      have R5 := hide (R4.out.below hb5 R4.out.lt)
      have r0 : w5.cell? ⟨w.heap.size, 0, none⟩ = some (.int .i64 0) := R5.out.cell 0
      have r1 : w5.cell? ⟨w.heap.size, 1, none⟩ = some (.int .i64 0) := R5.out.cell 1
      have r2 : w5.cell? ⟨w.heap.size, 2, none⟩ = some (.slice none 0 0) := R5.out.cell 2
      have rf := R5.out.frozen
      clear hs5 hb5
      go_wp2_with fail
      refine bodyPost_ret (v := .agg #[.int .i64 2, .int .i64 0, .slice a5 1 c5]) (by simp [results, Try.results11, go_sem, World.cell?_setCell_same, World.cell?_setCell_other, r0, r1, r2]) rfl ?_
      refine ⟨a5, c5, rfl, (S5.out.kept fun b hb => ?_).mono fun b hb _ => by omega, ((B5.out.setCell (p := ⟨w.heap.size, 0, none⟩) (by simp) _).setCell (p := ⟨w.heap.size, 1, none⟩) (by simp) _).setCell (p := ⟨w.heap.size, 2, none⟩) (by simp) _⟩
      have hne : b ≠ w.heap.size := by omega
      rw [Below.heap_setCell _ _ _ _ (by simpa using hne), Below.heap_setCell _ _ _ _ (by simpa using hne), Below.heap_setCell _ _ _ _ (by simpa using hne)]

#print axioms numeralL_any
end Go.Proofs.Ytmapeiecapiliaa


/- Walks: whether two lambda terms are the same; whether one is a number. -/
namespace Go.Proofs.Ytmapeiecapiliaa
open Go.RowKit
set_option linter.unusedSimpArgs false
set_option linter.unusedVariables false
set_option maxRecDepth 8000

end Go.Proofs.Ytmapeiecapiliaa

/- Plain: whether a lambda term is a number. Walks: as the program finds it. -/
namespace Go.Proofs.Ytmapeiecapiliaa
open Go.RowKit
set_option linter.unusedSimpArgs false
set_option linter.unusedVariables false
set_option maxRecDepth 8000

def isB (t : Lm) (i : Int) : Bool := decide (t.kind = 1) && decide (t.idx = i)
def hdM (t : Lm) : Lm := t.subs[0]?.getD t
def nxT (t : Lm) : Lm := t.subs[1]?.getD t
def goB (t : Lm) : Bool := decide (t.kind = 3) && isB (hdM t) 1
/-- How often it is done, and what is left. -/
def spM : Nat → Lm → Nat × Lm
  | 0, t => (0, t)
  | n + 1, t => if goB t = true then ((spM n (nxT t)).1 + 1, (spM n (nxT t)).2) else (0, t)
def valM (t : Lm) : Option Nat := if t.kind = 2 then (if (hdM t).kind = 2 then (if isB (spM (sizeM [hdM (hdM t)]) (hdM (hdM t))).2 0 = true then some (spM (sizeM [hdM (hdM t)]) (hdM (hdM t))).1 else none) else if isB (hdM t) 0 = true then some 1 else none) else none
theorem spM_stop {n : Nat} {t : Lm} (h : goB t = false) : spM n t = (0, t) := by cases n <;> simp [spM, h]
structure OnSp (b : Lm) (k : Nat) (r : Lm) : Prop where
  sz : sizeM [r] + k ≤ sizeM [b]
  sh : ShM [r]
  e1 : (spM (sizeM [b]) b).1 = (spM (sizeM [b] - k) r).1 + k
  e2 : (spM (sizeM [b]) b).2 = (spM (sizeM [b] - k) r).2
theorem OnSp.start {b : Lm} (h : ShM [b]) : OnSp b 0 b := ⟨by omega, h, by simp, by simp⟩
theorem OnSp.fin {b r : Lm} {k : Nat} (h : OnSp b k r) (hg : goB r = false) : (spM (sizeM [b]) b).1 = k ∧ (spM (sizeM [b]) b).2 = r := by
  have h1 := h.e1
  have h2 := h.e2
  rw [spM_stop hg] at h1 h2
  exact ⟨by simpa using h1, h2⟩
theorem OnSp.on {b f z : Lm} {k : Nat} {x : Int} (h : OnSp b k ⟨3, x, [f, z]⟩) (hg : goB ⟨3, x, [f, z]⟩ = true) : OnSp b (k + 1) z := by
  have h0 := h.sz
  have e : sizeM [(⟨3, x, [f, z]⟩ : Lm)] = 1 + (sizeM [f] + sizeM [z]) := by rw [sizeM_one]; have := sizeM_append [f] [z]; simp at this; omega
  have hf := sizeM_posL f
  have hz := sizeM_posL z
  have en : sizeM [b] - k = (sizeM [b] - (k + 1)) + 1 := by omega
  have h1 := h.e1
  have h2 := h.e2
  have nx : nxT ⟨3, x, [f, z]⟩ = z := rfl
  rw [en, spM, if_pos hg, nx] at h1 h2
  exact ⟨by omega, ShM.at (l := [f, z]) 1 (by simp) ((ShM_cons 3 x [f, z] []).1 h.sh).2.1, by rw [h1]; simp only; omega, h2⟩
theorem sh_one {x : Int} {l : List Lm} (h : ShM [⟨2, x, l⟩]) : ∃ b, l = [b] ∧ ShM [b] := by
  obtain ⟨h1, h2, _⟩ := (ShM_cons 2 x l []).1 h
  have h3 : l.length = 1 := by rw [h1]; rfl
  match l, h3 with
  | [b], _ => exact ⟨b, rfl, h2⟩
theorem sh_two {x : Int} {l : List Lm} (h : ShM [⟨3, x, l⟩]) : ∃ f z, l = [f, z] := by
  obtain ⟨h1, h2, _⟩ := (ShM_cons 3 x l []).1 h
  have h3 : l.length = 2 := by rw [h1]; rfl
  match l, h3 with
  | [f, z], _ => exact ⟨f, z, rfl⟩
theorem isB_yes {t : Lm} {i : Int} : isB t i = true ↔ t.kind = 1 ∧ t.idx = i := by simp [isB]

set_option maxHeartbeats 1000000 in
theorem isBound_any (t : Lm) (i : Int) (v : Value) (w : World) (X : Nat → Prop) (hv : MV w X v t) :
    Calls Try.prog 19 #[v, .int .i64 i] w fun e w' => e = .returned (.bool (isB t i)) ∧ Below w.heap.size w w' := by
  obtain ⟨a, c, rfl, hs⟩ := hv
  clear hs
  by_cases h1 : t.kind = 1
  · have e1 : (t.kind == 1) = true := by simp [h1]
    by_cases h2 : t.idx = i
    · have e2 : (t.idx == i) = true := by simp [h2]
      have HR : Hid (isB t i = true) := isB_yes.2 ⟨h1, h2⟩
      clear h1 h2
      go_enter Try.func19, Try.ntmps19
      go_wp2_with fail
      go_ret
      exact ⟨ret_boolM HR.out.symm, (Below.refl _ _).alloc (Nat.le_refl _) _⟩
    · have e2 : (t.idx == i) = false := beq_eq_false_iff_ne.2 h2
      have HR : Hid (isB t i = false) := by unfold Hid isB; simp [h2]
      clear h1 h2
      go_enter Try.func19, Try.ntmps19
      go_wp2_with fail
      go_ret
      exact ⟨ret_boolM HR.out.symm, (Below.refl _ _).alloc (Nat.le_refl _) _⟩
  · have e1 : (t.kind == 1) = false := beq_eq_false_iff_ne.2 h1
    have HR : Hid (isB t i = false) := by unfold Hid isB; simp [h1]
    clear h1
    go_enter Try.func19, Try.ntmps19
    go_wp2_with fail
    go_ret
    exact ⟨ret_boolM HR.out.symm, (Below.refl _ _).alloc (Nat.le_refl _) _⟩

def VlPost (t : Lm) (w : World) (e : Ending) (w' : World) : Prop :=
  Below w.heap.size w w' ∧ ∃ (n : Int) (q : Bool), e = .returned (.tuple #[.int .i64 n, .bool q]) ∧ (q = true → ∃ k : Nat, valM t = some k ∧ n = (k : Int)) ∧ (q = false → valM t = none)
def VlI (b : Lm) (w : World) (X : Nat → Prop) (i : Value) (wr : World) : Prop :=
  ∃ (k : Nat) (r : Lm) (a : Option Addr) (c : Nat), i = .int .i64 (k : Int) ∧ OnSp b k r ∧ Below w.heap.size w wr ∧ Blk wr w.heap.size #[.int .i64 r.kind, .int .i64 r.idx, .slice a r.subs.length c] 25 ∧ SlM wr (fun b => X b ∧ b < w.heap.size) a r.subs

set_option maxHeartbeats 4000000 in
theorem value_any (t : Lm) (hsh : ShM [t]) (hz : sizeM [t] ≤ 2000) (v : Value) (w : World) (X : Nat → Prop) (hv : MV w X v t) :
    Calls Try.prog 13 #[v] w fun e w' => VlPost t w e w' := by
  obtain ⟨k0, x0, l0⟩ := t
  obtain ⟨a, c, rfl, hs⟩ := hv
  dsimp only at hs ⊢
  by_cases h2 : k0 = 2
  case neg =>
    have e1 : (k0 == 2) = false := beq_eq_false_iff_ne.2 h2
    have e2 : (k0 != 2) = true := by simp [bne, e1]
    have HV : Hid (valM ⟨k0, x0, l0⟩ = none) := by unfold Hid valM; rw [if_neg h2]
    clear hs h2
    go_enter Try.func13, Try.ntmps13
    go_wp2_with fail
    refine bodyPost_ret (v := .tuple #[.int .i64 0, .bool false]) (by simp [results, Try.results13, go_sem]) rfl ?_
    exact ⟨(Below.refl _ _).alloc (Nat.le_refl _) _, 0, false, rfl, by simp, fun _ => HV.out⟩
  subst h2
  obtain ⟨t1, rfl, hsh1⟩ := sh_one hsh
  obtain ⟨B, o, a1, c1, rfl, hXB, d0, d1, d2, hs1⟩ := slM_one hs
  have hBw : B < w.heap.size := cell_ltM d0
  have hz1 : sizeM [t1] ≤ 2000 := by rw [sizeM_one] at hz; omega
  have HS1 := hide hs1
  have hh : hdM ⟨2, x0, [t1]⟩ = t1 := rfl
  have HHD := hide hh
  clear hs hs1 hh hz
  obtain ⟨k1, x1, l1⟩ := t1
  simp only [List.length_cons, List.length_nil, Nat.zero_add]
  dsimp only at d0 d1 d2
  by_cases h2 : k1 = 2
  case neg =>
    have e1 : (k1 == 2) = false := beq_eq_false_iff_ne.2 h2
    have e2 : (k1 != 2) = true := by simp [bne, e1]
    have HV : Hid (valM ⟨2, x0, [⟨k1, x1, l1⟩]⟩ = if isB ⟨k1, x1, l1⟩ 0 = true then some 1 else none) := by unfold Hid valM; rw [if_pos rfl, HHD.out, if_neg h2]
    have HBB : Hid (Below w.heap.size w (w.alloc (.cells #[.int .i64 k1, .int .i64 x1, .slice a1 l1.length c1] 25))) := (Below.refl _ _).alloc (Nat.le_refl _) _
    clear h2
    go_enter Try.func13, Try.ntmps13
    go_wp2_with fail
    refine (isBound_any ⟨k1, x1, l1⟩ 0 _ _ X (by exact ⟨a1, c1, rfl, HS1.out.later HBB.out⟩)).mono ?_
    rintro e w1 ⟨rfl, hb1⟩
    have HB1 := hide (HBB.out.trans (hb1.mono (by simp)))
    clear hb1
    cases hq : isB ⟨k1, x1, l1⟩ 0 with
    | true =>
      have HV2 : Hid (valM ⟨2, x0, [⟨k1, x1, l1⟩]⟩ = some 1) := by unfold Hid; rw [HV.out, hq]; rfl
      clear hq
      go_wp2_with fail
      refine bodyPost_ret (v := .tuple #[.int .i64 1, .bool true]) (by simp [results, Try.results13, go_sem]) rfl ?_
      exact ⟨HB1.out, 1, true, rfl, fun _ => ⟨1, HV2.out, rfl⟩, by simp⟩
    | false =>
      have HV2 : Hid (valM ⟨2, x0, [⟨k1, x1, l1⟩]⟩ = none) := by unfold Hid; rw [HV.out, hq]; rfl
      clear hq
      go_wp2_with fail
      refine bodyPost_ret (v := .tuple #[.int .i64 1, .bool false]) (by simp [results, Try.results13, go_sem]) rfl ?_
      exact ⟨HB1.out, 1, false, rfl, by simp, fun _ => HV2.out⟩
  subst h2
  obtain ⟨b, rfl, hshb⟩ := sh_one hsh1
  obtain ⟨B1, o1, a2, c2, rfl, hXB1, g0, g1, g2, hs2⟩ := slM_one HS1.out
  have hB1w : B1 < w.heap.size := cell_ltM g0
  have hzb : sizeM [b] ≤ 2000 := by rw [sizeM_one] at hz1; omega
  have HV : Hid (valM ⟨2, x0, [⟨2, x1, [b]⟩]⟩ = if isB (spM (sizeM [b]) b).2 0 = true then some (spM (sizeM [b]) b).1 else none) := by
    unfold Hid valM
    rw [if_pos rfl, HHD.out, if_pos rfl]
    rfl
  have I0 : Hid (VlI b w X (.int .i64 ((0 : Nat) : Int)) (w.alloc (.cells #[.int .i64 b.kind, .int .i64 b.idx, .slice a2 b.subs.length c2] 25))) := ⟨0, b, a2, c2, rfl, OnSp.start hshb, (Below.refl _ _).alloc (Nat.le_refl _) _, Blk.new _ _ _, (hs2.mono (Y := fun b => X b ∧ b < w.heap.size) fun b h1 h2 => ⟨h1, h2⟩).later ((Below.refl _ _).alloc (Nat.le_refl _) _)⟩
  have nB : B ≠ w.heap.size := by omega
  have nB1 : B1 ≠ w.heap.size := by omega
  simp only [List.length_cons, List.length_nil, Nat.zero_add] at *
  clear hs2 HS1 HHD hsh hsh1 hz1
  go_enter Try.func13, Try.ntmps13
  go_wp2_with fail
  clear d0 d1 d2 g0 g1 g2
  go_loopw [4] (fun i wr => VlI b w X i wr) (fun i wr => sizeM [b] - (intOf i).toNat)
  case atStart => exact I0.out
  case round =>
    obtain ⟨k, r, ar, cr, rfl, hon, hb, hT, hsr⟩ := hrel
    have HON := hide hon
    have HBW := hide hb
    have HT := hide hT
    have HSR := hide hsr
    have hkb : k ≤ 2000 := by have := hon.sz; omega
    have hk2 : sizeM [r] + k ≤ sizeM [b] := hon.sz
    have hrp := sizeM_posL r
    have c0 : wr.cell? ⟨w.heap.size, 0, none⟩ = some (.int .i64 r.kind) := hT.cell 0
    have c1' : wr.cell? ⟨w.heap.size, 1, none⟩ = some (.int .i64 r.idx) := hT.cell 1
    have c2' : wr.cell? ⟨w.heap.size, 2, none⟩ = some (.slice ar r.subs.length cr) := hT.cell 2
    have cf := hT.frozen
    have FIN : Hid (goB r = false → ∀ w' , Below wr.heap.size wr w' → ∀ q, q = isB r 0 → VlPost ⟨2, x0, [⟨2, x1, [b]⟩]⟩ w (.returned (.tuple #[.int .i64 (k : Int), .bool q])) w') := fun hg w' hb' q hq => by
      obtain ⟨f1, f2⟩ := HON.out.fin hg
      refine ⟨HBW.out.trans (hb'.mono HBW.out.size), k, q, rfl, fun h => ⟨k, ?_, rfl⟩, fun h => ?_⟩
      · rw [HV.out, f2, ← hq, h, f1]; rfl
      · rw [HV.out, f2, ← hq, h]; rfl
    clear hon hb hT hsr I0
    by_cases h3 : r.kind = 3
    · obtain ⟨kr, xr, lr⟩ := r
      simp only at h3
      subst h3
      obtain ⟨f, z, rfl⟩ := sh_two HON.out.sh
      obtain ⟨B2, o2, a3, c3, a4, c4, rfl, hXB2, d0, d1, d2, d3, d4, d5, hs3, hs4⟩ := slM_cells HSR.out
      have HS3 := hide hs3
      have HS4 := hide hs4
      have hB2 : B2 < w.heap.size := hXB2.2
      have hB2r : B2 < wr.heap.size := by have := HBW.out.size; omega
      have nB2 : B2 ≠ w.heap.size := by omega
      have HGO : Hid (goB ⟨3, xr, [f, z]⟩ = isB f 1) := by unfold Hid goB; simp [hdM]
      clear hs3 hs4
      simp only [List.length_cons, List.length_nil, Nat.zero_add, Nat.reduceAdd] at *
      go_wp2_with fail
      refine (isBound_any f 1 _ _ _ (by exact ⟨a3, c3, rfl, HS3.out⟩)).mono ?_
      rintro e w1 ⟨rfl, hb1⟩
      have T1 := hide (HT.out.below hb1 HT.out.lt)
      have HB1 := hide hb1
      have p0 : w1.cell? ⟨w.heap.size, 0, none⟩ = some (.int .i64 3) := T1.out.cell 0
      have p1 : w1.cell? ⟨w.heap.size, 1, none⟩ = some (.int .i64 xr) := T1.out.cell 1
      have p2 : w1.cell? ⟨w.heap.size, 2, none⟩ = some (.slice (some ⟨B2, o2, none⟩) 2 cr) := T1.out.cell 2
      have pf := T1.out.frozen
      have z0 : w1.cell? ⟨B2, o2 + 3, none⟩ = some (.int .i64 z.kind) := (hb1.cell (p := ⟨B2, o2 + 3, none⟩) hB2r).trans d3
      have z1 : w1.cell? ⟨B2, o2 + 4, none⟩ = some (.int .i64 z.idx) := (hb1.cell (p := ⟨B2, o2 + 4, none⟩) hB2r).trans d4
      have z2 : w1.cell? ⟨B2, o2 + 5, none⟩ = some (.slice a4 z.subs.length c4) := (hb1.cell (p := ⟨B2, o2 + 5, none⟩) hB2r).trans d5
      clear hb1 c0 c1' c2' cf d0 d1 d2 d3 d4 d5
      cases hq : isB f 1 with
      | true =>
        have HO2 := hide (HON.out.on (by rw [HGO.out, hq]))
        have HI : Hid (VlI b w X (.int .i64 ((k + 1 : Nat) : Int)) (((w1.setCell ⟨w.heap.size, 0, none⟩ (.int .i64 z.kind)).setCell ⟨w.heap.size, 1, none⟩ (.int .i64 z.idx)).setCell ⟨w.heap.size, 2, none⟩ (.slice a4 z.subs.length c4))) := by
          refine ⟨k + 1, z, a4, c4, rfl, HO2.out, bl_set3 (HBW.out.trans (HB1.out.mono HBW.out.size)) _ (Nat.le_refl _) _ _ _, blk_set3 T1.out _ _ _, (HS4.out.later HB1.out).kept fun b hb => ?_⟩
          have hne : b ≠ w.heap.size := by have := hb.2; omega
          rw [Below.heap_setCell _ _ _ _ (by simpa using hne), Below.heap_setCell _ _ _ _ (by simpa using hne), Below.heap_setCell _ _ _ _ (by simpa using hne)]
        clear hq
        go_wp2_with fail
        go_roundw
        case rel => exact (by go_num : Value.int IntKind.i64 ((k : Int) + 1) = .int .i64 ((k + 1 : Nat) : Int)) ▸ HI.out
        case measure => simp [intOf]; omega
      | false =>
        have hgf : goB ⟨3, xr, [f, z]⟩ = false := by rw [HGO.out, hq]
        have HGF := hide hgf
        clear hq hgf z0 z1 z2
        go_wp2_with fail
        refine (isBound_any ⟨3, xr, [f, z]⟩ 0 _ _ _ (by exact ⟨some ⟨B2, o2, none⟩, cr, rfl, HSR.out.later HB1.out⟩)).mono ?_
        rintro e w3 ⟨rfl, hb3⟩
        have HB3 := hide (HB1.out.trans (hb3.mono HB1.out.size))
        clear hb3
        go_wp2_with fail
        refine bodyPost_ret (v := .tuple #[.int .i64 (k : Int), .bool (isB ⟨3, xr, [f, z]⟩ 0)]) (by simp [results, Try.results13, go_sem]) rfl ?_
        exact FIN.out HGF.out _ HB3.out _ rfl
    · have e3 : (r.kind == 3) = false := beq_eq_false_iff_ne.2 h3
      have HGF : Hid (goB r = false) := by unfold Hid goB; simp [h3]
      clear h3
      go_wp2_with fail
      refine (isBound_any r 0 _ _ _ (by exact ⟨ar, cr, rfl, HSR.out⟩)).mono ?_
      rintro e w3 ⟨rfl, hb3⟩
      have HB3 := hide hb3
      clear hb3
      go_wp2_with fail
      refine bodyPost_ret (v := .tuple #[.int .i64 (k : Int), .bool (isB r 0)]) (by simp [results, Try.results13, go_sem]) rfl ?_
      exact FIN.out HGF.out _ HB3.out _ rfl
#print axioms value_any
end Go.Proofs.Ytmapeiecapiliaa


/- Walks: whether a lambda term is a number, as the document says. -/
namespace Go.Proofs.Ytmapeiecapiliaa
open Go.RowKit
set_option linter.unusedSimpArgs false
set_option linter.unusedVariables false
set_option maxRecDepth 8000

theorem ret_intN {a b : Int} (h : a = b) : Ending.returned (.int .i64 a) = .returned (.int .i64 b) := by rw [h]
theorem isB_is {u m : Int} {t : Lm} (he : errM u m [t] = 0) (i : Int) : isB t i = true ↔ t = ⟨1, i, []⟩ := by
  obtain ⟨k, x, l⟩ := t
  rw [isB_yes]
  constructor
  · rintro ⟨h1, h2⟩
    simp only at h1 h2
    subst h1; subst h2
    have := (knE_zero.1 (err_one0.1 he).1).2.1
    have hl : l = [] := List.length_eq_zero_iff.1 (by rw [this]; rfl)
    rw [hl]
  · intro e
    cases e
    exact ⟨rfl, rfl⟩
theorem err_idx0 {u m x : Int} {l : List Lm} (he : errM u m [⟨2, x, l⟩] = 0) : x = 0 := by
  have := (knE_zero.1 (err_one0.1 he).1).2.2
  simp [mostK] at this
  omega
def valZ (t : Lm) : Int := match valM t with | some n => (n : Int) | none => -1
structure VdS (b : Lm) (u : Int) (w : World) (X : Nat → Prop) (P k : Nat) (r : Lm) (a : Option Addr) (c : Nat) (wr : World) : Prop where
  on : OnSp b k r
  er : ∃ u', errM u' 0 [r] = 0
  bl : Below w.heap.size w wr
  bk : Blk wr P #[.int .i64 r.kind, .int .i64 r.idx, .slice a r.subs.length c] 25
  sl : SlM wr (fun b => X b ∧ b < w.heap.size) a r.subs

end Go.Proofs.Ytmapeiecapiliaa

/- Walks: numerals and values; the law LongNumbers. -/
namespace Go.Proofs.Ytmapeiecapiliaa
open Go.RowKit
set_option linter.unusedSimpArgs false
set_option linter.unusedVariables false
set_option maxRecDepth 8000

theorem end_good (inn : Bool) (u : Int) (hu : 0 ≤ u) (m : Nat) : ∀ t : Lm, errM u 0 [t] = 0 → sizeM [t] ≤ 2000 → errM u 0 [(endM inn m t).2.1] = 0 ∧ sizeM [(endM inn m t).2.1] ≤ 2000 := by
  induction m with
  | zero =>
    intro t he hz
    unfold endM
    split <;> exact ⟨he, hz⟩
  | succ m ih =>
    intro t he hz
    unfold endM
    split
    · split
      · exact ⟨he, hz⟩
      · rename_i h
        exact ih _ (err_stp inn 0 2001 t u hu he) (by omega)
    · exact ⟨he, hz⟩
/-- The number of what a term comes to, or an error. -/
def vlR (t : Lm) (m : Nat) : Int × Int := if (endM false m t).1 = 0 then (if valZ (endM false m t).2.1 < 0 then (0, 2) else (valZ (endM false m t).2.1, 0)) else (0, (endM false m t).1)
theorem valZ_some {t : Lm} {k : Nat} (h : valM t = some k) : valZ t = (k : Int) := by unfold valZ; rw [h]
theorem valZ_none {t : Lm} (h : valM t = none) : valZ t = -1 := by unfold valZ; rw [h]

set_option maxHeartbeats 1000000 in
theorem number_bad (n : Int) (hn : n < 0 ∨ 40 < n) (w : World) :
    Calls Try.prog 5 #[.int .i64 n] w fun e w' => e = .returned (.tuple #[.agg #[.int .i64 0, .int .i64 0, .slice none 0 0], .int .i64 10]) ∧ Below w.heap.size w w' := by
  by_cases hneg : n < 0
  · have g1 : decide (n < 0) = true := decide_eq_true hneg
    go_enter Try.func5, Try.ntmps5
    go_wp2_with fail
    refine bodyPost_ret (v := .tuple #[.agg #[.int .i64 0, .int .i64 0, .slice none 0 0], .int .i64 10]) (by simp [results, Try.results5, go_sem]) rfl ?_
    exact ⟨rfl, (Below.refl _ _).alloc (Nat.le_refl _) _⟩
  · have g1 : decide (n < 0) = false := decide_eq_false hneg
    have g2 : decide (n > 40) = true := decide_eq_true (by omega)
    go_enter Try.func5, Try.ntmps5
    go_wp2_with fail
    refine bodyPost_ret (v := .tuple #[.agg #[.int .i64 0, .int .i64 0, .slice none 0 0], .int .i64 10]) (by simp [results, Try.results5, go_sem]) rfl ?_
    exact ⟨rfl, (Below.refl _ _).alloc (Nat.le_refl _) _⟩
set_option maxHeartbeats 1000000 in
theorem number_ok (n : Nat) (hn : n ≤ 40) (w : World) :
    Calls Try.prog 5 #[.int .i64 (n : Int)] w fun e w' => ∃ a c, e = .returned (.tuple #[.agg #[.int .i64 2, .int .i64 0, .slice a 1 c], .int .i64 0]) ∧ SlM w' (fun b => w.heap.size ≤ b) a [⟨2, 0, [itM n]⟩] ∧ Below w.heap.size w w' := by
  have g1 : decide ((n : Int) < 0) = false := decide_eq_false (by omega)
  have g2 : decide ((n : Int) > 40) = false := decide_eq_false (by omega)
  go_enter Try.func5, Try.ntmps5
  go_wp2_with fail
  refine (numeralL_any n (by omega) _).mono ?_
  rintro e w1 ⟨a1, c1, rfl, hs1, hb1⟩
  have B1 := hide (((Below.refl w.heap.size w).alloc (Nat.le_refl _) (.cells #[.int .i64 0, .int .i64 0, .slice none 0 0] 25)).trans (hb1.mono (by simp)))
  have R1 := hide ((Blk.new w #[.int .i64 0, .int .i64 0, .slice none 0 0] 25).below hb1 (by simp))
  have S1 : Hid (SlM w1 (fun b => w.heap.size + 1 ≤ b) a1 [⟨2, 0, [itM n]⟩]) := hs1.mono fun b h _ => by simp at h; omega
  have r0 : w1.cell? ⟨w.heap.size, 0, none⟩ = some (.int .i64 0) := R1.out.cell 0
  have r1 : w1.cell? ⟨w.heap.size, 1, none⟩ = some (.int .i64 0) := R1.out.cell 1
  have r2 : w1.cell? ⟨w.heap.size, 2, none⟩ = some (.slice none 0 0) := R1.out.cell 2
  have rf := R1.out.frozen
  clear hs1 hb1
  go_wp2_with fail
  refine bodyPost_ret (v := .tuple #[.agg #[.int .i64 2, .int .i64 0, .slice a1 1 c1], .int .i64 0]) (by simp [results, Try.results5, go_sem, World.cell?_setCell_same, World.cell?_setCell_other, r0, r1, r2]) rfl ?_
  refine ⟨a1, c1, rfl, (S1.out.kept fun b hb => ?_).mono fun b hb _ => by omega, bl_set3 B1.out _ (Nat.le_refl _) _ _ _⟩
  have hne : b ≠ w.heap.size := by omega
  rw [Below.heap_setCell _ _ _ _ (by simpa using hne), Below.heap_setCell _ _ _ _ (by simpa using hne), Below.heap_setCell _ _ _ _ (by simpa using hne)]

set_option maxHeartbeats 1000000 in
theorem lValue_err (t : Lm) (z : Int) (hz : nmE t 0 z ≠ 0) (v : Value) (w : World) (X : Nat → Prop) (hv : MV w X v t) :
    Calls Try.prog 10 #[v, .int .i64 z] w fun e w' => e = .returned (.tuple #[.int .i64 0, .int .i64 (nmE t 0 z)]) ∧ Below w.heap.size w w' := by
  obtain ⟨a, c, rfl, hs⟩ := hv
  have HB0 : Hid (Below w.heap.size w (w.alloc (.cells #[.int .i64 t.kind, .int .i64 t.idx, .slice a t.subs.length c] 25))) := (Below.refl _ _).alloc (Nat.le_refl _) _
  have HV : Hid (MV (w.alloc (.cells #[.int .i64 t.kind, .int .i64 t.idx, .slice a t.subs.length c] 25)) X (.agg #[.int .i64 t.kind, .int .i64 t.idx, .slice a t.subs.length c]) t) := ⟨a, c, rfl, hs.later HB0.out⟩
  have HZ := hide hz
  have hzb : (nmE t 0 z == 0) = false := beq_eq_false_iff_ne.2 hz
  have hzn : (nmE t 0 z != 0) = true := by simp [bne, hzb]
  clear hs hz
  go_enter Try.func10, Try.ntmps10
  go_wp2_with fail
  refine (normal_err t 0 z HZ.out _ _ _ HV.out).mono ?_
  rintro e w1 ⟨rfl, hb1⟩
  have B1 := hide ((HB0.out.trans (hb1.mono (by simp))).alloc (by have := hb1.size; simp at this; omega) (.cells #[.int .i64 0, .int .i64 0, .slice none 0 0] 25))
  clear hb1
  obtain ⟨q, hq⟩ : ∃ q, nmE t 0 z = q := ⟨_, rfl⟩
  have HQ := hide hq
  rw [hq] at hzb hzn ⊢
  clear hq HZ
  go_wp2_with fail
  refine bodyPost_ret (v := .tuple #[.int .i64 0, .int .i64 q]) (by simp [results, Try.results10, go_sem]) rfl ?_
  exact ⟨by rw [HQ.out], B1.out⟩

set_option maxHeartbeats 2000000 in
theorem lValue_ok (t : Lm) (m : Nat) (hm : m ≤ 400) (hE : lamE 0 0 t = 0) (v : Value) (w : World) (X : Nat → Prop) (hv : MV w X v t) :
    Calls Try.prog 10 #[v, .int .i64 (m : Int)] w fun e w' => e = .returned (.tuple #[.int .i64 (vlR t m).1, .int .i64 (vlR t m).2]) ∧ Below w.heap.size w w' := by
  obtain ⟨a, c, rfl, hs⟩ := hv
  have HB0 : Hid (Below w.heap.size w (w.alloc (.cells #[.int .i64 t.kind, .int .i64 t.idx, .slice a t.subs.length c] 25))) := (Below.refl _ _).alloc (Nat.le_refl _) _
  have HV : Hid (MV (w.alloc (.cells #[.int .i64 t.kind, .int .i64 t.idx, .slice a t.subs.length c] 25)) X (.agg #[.int .i64 t.kind, .int .i64 t.idx, .slice a t.subs.length c]) t) := ⟨a, c, rfl, hs.later HB0.out⟩
  have HE := hide hE
  have HG := hide (end_good false 0 (Int.le_refl 0) m t (lamE_ok hE).2.1 (by have := (lamE_ok hE).2.2; omega))
  have HVL : Hid (vlR t m = if (endM false m t).1 = 0 then (if valZ (endM false m t).2.1 < 0 then (0, 2) else (valZ (endM false m t).2.1, 0)) else (0, (endM false m t).1)) := rfl
  clear hs hE
  go_enter Try.func10, Try.ntmps10
  go_wp2_with fail
  refine (normal_ok t 0 m hm HE.out _ _ _ HV.out).mono ?_
  rintro e w1 ⟨hb1, hcase⟩
  have B1 := hide (HB0.out.trans (hb1.mono (by simp)))
  clear hb1
  rcases hcase with ⟨h0, ay, cy, rfl, hs1⟩ | ⟨h0, rfl⟩
  · have HV2 : Hid (vlR t m = if valZ (endM false m t).2.1 < 0 then (0, 2) else (valZ (endM false m t).2.1, 0)) := by unfold Hid; rw [HVL.out, if_pos h0]
    clear h0 HVL
    obtain ⟨y, hy⟩ : ∃ y, (endM false m t).2.1 = y := ⟨_, rfl⟩
    obtain ⟨k9, hk9⟩ : ∃ k9, (endM false m t).2.2 = k9 := ⟨_, rfl⟩
    rw [hy] at HV2 hs1 HG ⊢
    rw [hk9]
    have S1 := hide (hs1.later ((Below.refl _ _).alloc (Nat.le_refl _) (.cells #[.int .i64 y.kind, .int .i64 y.idx, .slice ay y.subs.length cy] 25)))
    have B2 := hide (B1.out.alloc B1.out.size (.cells #[.int .i64 y.kind, .int .i64 y.idx, .slice ay y.subs.length cy] 25))
    have Y1 := Blk.new w1 #[.int .i64 y.kind, .int .i64 y.idx, .slice ay y.subs.length cy] 25
    have y0 := Y1.cell 0
    have y1 := Y1.cell 1
    have y2 := Y1.cell 2
    simp only [List.getElem?_toArray, List.getElem?_cons_succ, List.getElem?_cons_zero] at y0 y1 y2
    clear hs1 Y1 hy hk9
    go_wp2_with fail
    clear y0 y1 y2
    generalize (w1.alloc (.cells #[.int .i64 y.kind, .int .i64 y.idx, .slice ay y.subs.length cy] 25)) = w2 at *
    refine (value_any y (sh_of_err _ _ _ HG.out.1) HG.out.2 _ _ _ ⟨ay, cy, rfl, S1.out⟩).mono ?_
    rintro e w3 ⟨hb3, n, q, rfl, hq1, hq2⟩
    have B3 := hide (B2.out.trans (hb3.mono B2.out.size))
    clear hb3
    cases q with
    | true =>
      obtain ⟨kk, h1, h2⟩ := hq1 rfl
      have HV3 : Hid (vlR t m = ((kk : Int), 0)) := by unfold Hid; rw [HV2.out, valZ_some h1, if_neg (by omega)]
      subst h2
      clear hq1 hq2 h1
      go_wp2_with fail
      refine bodyPost_ret (v := .tuple #[.int .i64 (kk : Int), .int .i64 0]) (by simp [results, Try.results10, go_sem]) rfl ?_
      exact ⟨by rw [HV3.out], B3.out⟩
    | false =>
      have HV3 : Hid (vlR t m = (0, 2)) := by unfold Hid; rw [HV2.out, valZ_none (hq2 rfl), if_pos (by omega)]
      clear hq1 hq2
      go_wp2_with fail
      refine bodyPost_ret (v := .tuple #[.int .i64 0, .int .i64 2]) (by simp [results, Try.results10, go_sem]) rfl ?_
      exact ⟨by rw [HV3.out], B3.out⟩
  · have HV2 : Hid (vlR t m = (0, (endM false m t).1)) := by unfold Hid; rw [HVL.out, if_neg h0]
    have B2 := hide (B1.out.alloc B1.out.size (.cells #[.int .i64 0, .int .i64 0, .slice none 0 0] 25))
    obtain ⟨q, hq⟩ : ∃ q, (endM false m t).1 = q := ⟨_, rfl⟩
    rw [hq] at HV2 h0 ⊢
    have hqb : (q == 0) = false := beq_eq_false_iff_ne.2 h0
    have hqn : (q != 0) = true := by simp [bne, hqb]
    clear h0 hq HVL
    go_wp2_with fail
    refine bodyPost_ret (v := .tuple #[.int .i64 0, .int .i64 q]) (by simp [results, Try.results10, go_sem]) rfl ?_
    exact ⟨by rw [HV2.out], B2.out⟩
#print axioms lValue_ok
#print axioms number_ok
end Go.Proofs.Ytmapeiecapiliaa

/- Plain: lambda terms that are worked out by counting: sums, products and powers of numerals. -/
namespace Go.Proofs.Ytmapeiecapiliaa
open Go.RowKit
set_option linter.unusedSimpArgs false
set_option linter.unusedVariables false
set_option maxRecDepth 8000

inductive LX where
  | v (i : Nat)
  | l (b : LX)
  | a (f x : LX)
def LX.sz : LX → Nat
  | .v _ => 1
  | .l b => 1 + b.sz
  | .a f x => 1 + (f.sz + x.sz)
def LX.hig (y : Nat) : Nat → LX → LX
  | c, .v i => if i < c then .v i else .v (i + y)
  | c, .l b => .l (b.hig y (c + 1))
  | c, .a f x => .a (f.hig y c) (x.hig y c)
def LX.ins : LX → LX → Nat → LX
  | .v i, z, d => if i < d then .v i else if i = d then z.hig d 0 else .v (i - 1)
  | .l b, z, d => .l (b.ins z (d + 1))
  | .a f x, z, d => .a (f.ins z d) (x.ins z d)
def LX.isl : LX → Bool
  | .l _ => true
  | _ => false
def LX.st : LX → Bool
  | .v _ => false
  | .l b => b.st
  | .a f x => f.isl || f.st || x.st
def LX.bod : LX → LX
  | .l b => b
  | t => t
def LX.stp : LX → LX
  | .v i => .v i
  | .l b => .l b.stp
  | .a f x => if f.isl then f.bod.ins x 0 else if f.st then .a f.stp x else .a f x.stp
def LX.fin : Nat → LX → Nat × LX
  | 0, t => if t.st then (9, t) else (0, t)
  | k + 1, t => if t.st then (if 2000 < t.stp.sz then (8, t) else LX.fin k t.stp) else (0, t)
def LX.one : LX → Bool
  | .v i => i == 1
  | _ => false
def LX.spn : LX → Nat × LX
  | .a f x => if f.one then (x.spn.1 + 1, x.spn.2) else (0, .a f x)
  | t => (0, t)
def LX.it : Nat → LX
  | 0 => .v 0
  | n + 1 => .a (.v 1) (LX.it n)
def LX.zer : LX → Bool
  | .v i => i == 0
  | _ => false
def LX.val : LX → Option Nat
  | .l (.l b) => if b.spn.2.zer then some b.spn.1 else none
  | .l b => if b.zer then some 1 else none
  | _ => none
def numX (n : Nat) : LX := .l (.l (.it n))
def plusX (m n : Nat) : LX := .l (.l (.a (.a ((numX m).hig 2 0) (.v 1)) (.a (.a ((numX n).hig 2 0) (.v 1)) (.v 0))))
def timesX (m n : Nat) : LX := .l (.a ((numX m).hig 1 0) (.a ((numX n).hig 1 0) (.v 0)))
def powerX (m n : Nat) : LX := .a (numX n) (numX m)
def resX (t : LX) : Nat × Option Nat := ((t.fin 400).1, (t.fin 400).2.val)
theorem t1X : ∀ m, m < 5 → ∀ n, n < 4 → resX (plusX m n) = (0, some (m + n)) := by decide +kernel
theorem t2X : ∀ m, m < 5 → ∀ n, n < 4 → resX (timesX m n) = (0, some (m * n)) := by decide +kernel
theorem t3X : ∀ m, m < 5 → ∀ n, n < 4 → ((resX (powerX m n)).1 = 9 ∨ resX (powerX m n) = (0, some (m ^ n))) := by decide +kernel
/-- Nothing is bound from outside. -/
def LX.ok : LX → Nat → Bool
  | .v i, u => decide (i < u)
  | .l b, u => b.ok (u + 1)
  | .a f x, u => f.ok u && x.ok u
theorem t4X : ∀ m, m < 5 → ∀ n, n < 4 → ((plusX m n).ok 0 = true ∧ (timesX m n).ok 0 = true ∧ (powerX m n).ok 0 = true) ∧ ((plusX m n).sz ≤ 200 ∧ (timesX m n).sz ≤ 200 ∧ (powerX m n).sz ≤ 200) := by decide +kernel
theorem t5X : ∀ m, m < 5 → (numX m).ok 0 = true ∧ (numX m).sz ≤ 200 := by decide +kernel
/-- The lambda term that it is. -/
def LX.m : LX → Lm
  | .v i => ⟨1, (i : Int), []⟩
  | .l b => ⟨2, 0, [b.m]⟩
  | .a f x => ⟨3, 0, [f.m, x.m]⟩
theorem szM_two (f x : Lm) : sizeM [f, x] = sizeM [f] + sizeM [x] := sizeM_append [f] [x]
theorem m_sz : ∀ t : LX, sizeM [t.m] = t.sz
  | .v i => by simp [LX.m, sizeM, LX.sz]
  | .l b => by rw [LX.m, sizeM_one, m_sz b]; rfl
  | .a f x => by rw [LX.m, sizeM_one, szM_two, m_sz f, m_sz x]; rfl
theorem m_ok : ∀ (t : LX) (u : Nat), t.ok u = true → errM (u : Int) 0 [t.m] = 0
  | .v i, u, h => by
    have h1 : i < u := by simpa [LX.ok] using h
    exact err_one0.2 ⟨knE_zero.2 ⟨by omega, rfl, by omega, by show (i : Int) < mostK _ _ 1; simp [mostK]; omega⟩, by simp [errM]⟩
  | .l b, u, h => by
    have h1 := m_ok b (u + 1) h
    refine err_one0.2 ⟨knE_zero.2 ⟨by omega, rfl, by omega, by simp [mostK]⟩, ?_⟩
    have e : deepK (u : Int) 2 = ((u + 1 : Nat) : Int) := by simp [deepK]
    rw [e]; exact h1
  | .a f x, u, h => by
    have h2 : f.ok u = true ∧ x.ok u = true := by simpa [LX.ok] using h
    refine err_one0.2 ⟨knE_zero.2 ⟨by omega, rfl, by omega, by simp [mostK]⟩, ?_⟩
    have e : deepK (u : Int) 3 = (u : Int) := by simp [deepK]
    rw [e]
    exact err_two0.2 ⟨m_ok f u h2.1, m_ok x u h2.2⟩
theorem higT_one (y d x : Int) : higT y d ⟨1, x, []⟩ = if x < d then ⟨1, x, []⟩ else ⟨1, x + y, []⟩ := by
  unfold higT
  by_cases h : x < d <;> simp [h]
theorem higT_two (y d x : Int) (l : List Lm) : higT y d ⟨2, x, l⟩ = ⟨2, x, l.map (higT y (d + 1))⟩ := by
  rw [← higM_map]
  unfold higT
  simp [deepK]
theorem higT_three (y d x : Int) (l : List Lm) : higT y d ⟨3, x, l⟩ = ⟨3, x, l.map (higT y d)⟩ := by
  rw [← higM_map]
  unfold higT
  simp [deepK]
theorem insT_one (z : Lm) (d x : Int) : insT z d ⟨1, x, []⟩ = if x < d then ⟨1, x, []⟩ else if x = d then higT d 0 z else ⟨1, x - 1, []⟩ := by
  unfold insT
  by_cases h : x < d <;> simp [h]
theorem insT_two (z : Lm) (d x : Int) (l : List Lm) : insT z d ⟨2, x, l⟩ = ⟨2, x, l.map (insT z (d + 1))⟩ := by
  rw [← insM_map]
  unfold insT
  simp [deepK]
theorem insT_three (z : Lm) (d x : Int) (l : List Lm) : insT z d ⟨3, x, l⟩ = ⟨3, x, l.map (insT z d)⟩ := by
  rw [← insM_map]
  unfold insT
  simp [deepK]
theorem m_hig (y : Nat) : ∀ (t : LX) (c : Nat), higT (y : Int) (c : Int) t.m = (t.hig y c).m
  | .v i, c => by
    rw [LX.m, higT_one, LX.hig]
    by_cases h : i < c
    · have h' : (i : Int) < (c : Int) := by omega
      rw [if_pos h', if_pos h]; rfl
    · have h' : ¬ (i : Int) < (c : Int) := by omega
      rw [if_neg h', if_neg h]; simp [LX.m]
  | .l b, c => by
    have h1 := m_hig y b (c + 1)
    have e : (((c + 1 : Nat)) : Int) = (c : Int) + 1 := by omega
    rw [e] at h1
    rw [LX.m, higT_two, LX.hig, LX.m, List.map_cons, h1, List.map_nil]
  | .a f x, c => by
    rw [LX.m, higT_three, LX.hig, LX.m, List.map_cons, m_hig y f c, List.map_cons, m_hig y x c, List.map_nil]
theorem m_ins (z : LX) : ∀ (t : LX) (d : Nat), insT z.m (d : Int) t.m = (t.ins z d).m
  | .v i, d => by
    rw [LX.m, insT_one, LX.ins]
    by_cases h : i < d
    · have h' : (i : Int) < (d : Int) := by omega
      rw [if_pos h', if_pos h]; rfl
    · have h' : ¬ (i : Int) < (d : Int) := by omega
      rw [if_neg h', if_neg h]
      by_cases h2 : i = d
      · have h2' : (i : Int) = (d : Int) := by omega
        rw [if_pos h2', if_pos h2]
        exact m_hig d z 0
      · have h2' : ¬ (i : Int) = (d : Int) := by omega
        rw [if_neg h2', if_neg h2, LX.m]
        have : ((i : Int) - 1) = ((i - 1 : Nat) : Int) := by omega
        rw [this]
  | .l b, d => by
    have h1 := m_ins z b (d + 1)
    have e : (((d + 1 : Nat)) : Int) = (d : Int) + 1 := by omega
    rw [e] at h1
    rw [LX.m, insT_two, LX.ins, LX.m, List.map_cons, h1, List.map_nil]
  | .a f x, d => by
    rw [LX.m, insT_three, LX.ins, LX.m, List.map_cons, m_ins z f d, List.map_cons, m_ins z x d, List.map_nil]
theorem m_isl (t : LX) : decide (t.m.kind = 2) = t.isl := by cases t <;> simp [LX.m, LX.isl]
theorem m_rdx (f x : LX) : rdxT (LX.a f x).m = f.isl := by
  rw [← m_isl]
  simp [rdxT, LX.m]
theorem stM_two (f x : Lm) : stepM [f, x] = (stepM [f] || stepM [x]) := stepM_append [f] [x]
theorem m_st : ∀ t : LX, stepM [t.m] = t.st
  | .v i => by simp [LX.m, stepM, LX.st, rdxT]
  | .l b => by
    rw [LX.m, stepM_one, m_st b]
    simp [rdxT, LX.st]
  | .a f x => by
    have h := m_rdx f x
    rw [LX.m] at h ⊢
    rw [stepM_one, h, stM_two, m_st f, m_st x]
    simp [LX.st, Bool.or_assoc]
theorem m_stp : ∀ (n : Nat) (t : LX), t.sz ≤ n → t.st = true → stpT false n t.m = t.stp.m
  | 0, t, h, _ => by cases t <;> simp [LX.sz] at h
  | n + 1, .v i, _, hs => by simp [LX.st] at hs
  | n + 1, .l b, h, hs => by
    have hb : b.st = true := hs
    have h1 := m_stp n b (by simp [LX.sz] at h; omega) hb
    have e : hereT false (⟨2, 0, [b.m]⟩ : Lm) = false := by simp [hereT, rdxT]
    rw [LX.m, stpT, e, if_neg (by simp)]
    have h2 : stepM [b.m] = true := by rw [m_st]; exact hb
    simp [repF, h2, h1, LX.stp, LX.m]
  | n + 1, .a f x, h, hs => by
    have hz : f.sz + x.sz ≤ n := by simp [LX.sz] at h; omega
    have hr := m_rdx f x
    rw [LX.m] at hr
    have e : hereT false (⟨3, 0, [f.m, x.m]⟩ : Lm) = f.isl := by rw [hereT, hr]; simp
    rw [LX.m, stpT, e]
    cases hi : f.isl with
    | true =>
      cases f with
      | v i => simp [LX.isl] at hi
      | a g y => simp [LX.isl] at hi
      | l b =>
        rw [if_pos rfl]
        have := m_ins x b 0
        simp only [LX.m, conT, LX.stp, hi, if_true, LX.bod]
        simpa using this
    | false =>
      rw [if_neg (by simp)]
      have hs2 : f.st = true ∨ x.st = true := by simpa [LX.st, hi] using hs
      cases hf : f.st with
      | true =>
        have h1 := m_stp n f (by omega) hf
        have h2 : stepM [f.m] = true := by rw [m_st]; exact hf
        simp [repF, h2, h1, LX.stp, LX.m, hi, hf]
      | false =>
        have hx : x.st = true := by rcases hs2 with h | h; (rw [hf] at h; cases h); exact h
        have h1 := m_stp n x (by omega) hx
        have h2 : stepM [f.m] = false := by rw [m_st]; exact hf
        have h3 : stepM [x.m] = true := by rw [m_st]; exact hx
        simp [repF, h2, h3, h1, LX.stp, LX.m, hi, hf]
theorem m_fin : ∀ (k : Nat) (t : LX), t.sz ≤ 2000 → (endM false k t.m).1 = ((t.fin k).1 : Int) ∧ (endM false k t.m).2.1 = (t.fin k).2.m
  | 0, t, h => by
    rw [endM, m_st, LX.fin]
    cases t.st <;> simp
  | k + 1, t, h => by
    rw [endM, m_st, LX.fin]
    cases hs : t.st with
    | false => simp
    | true =>
      rw [if_pos rfl, if_pos rfl, m_stp 2001 t (by omega) hs, m_sz]
      by_cases h2 : 2000 < t.stp.sz
      · rw [if_pos h2, if_pos h2]; simp
      · rw [if_neg h2, if_neg h2]
        exact m_fin k t.stp (by omega)
theorem m_isB (t : LX) (i : Nat) : isB t.m (i : Int) = match t with | .v j => j == i | _ => false := by
  cases t with
  | v j =>
    simp only [isB, LX.m]
    by_cases h : j = i
    · simp [h]
    · have : ¬ ((j : Int) = (i : Int)) := by omega
      simp [this, h]
  | l b => simp [isB, LX.m]
  | a f x => simp [isB, LX.m]
theorem m_one (t : LX) : isB t.m 1 = t.one := by
  have := m_isB t 1
  cases t <;> simpa [LX.one] using this
theorem m_zer (t : LX) : isB t.m 0 = t.zer := by
  have := m_isB t 0
  cases t <;> simpa [LX.zer] using this
theorem m_spn : ∀ (n : Nat) (t : LX), t.sz ≤ n → spM n t.m = (t.spn.1, t.spn.2.m)
  | 0, t, h => by cases t <;> simp [LX.sz] at h
  | n + 1, .v i, _ => by rw [spM_stop (by simp [goB, LX.m])]; simp [LX.spn]
  | n + 1, .l b, _ => by rw [spM_stop (by simp [goB, LX.m])]; simp [LX.spn]
  | n + 1, .a f x, h => by
    have hg : goB (LX.a f x).m = f.one := by rw [← m_one]; simp [goB, LX.m, hdM]
    cases ho : f.one with
    | true =>
      have h1 := m_spn n x (by simp [LX.sz] at h; omega)
      have nx : nxT (LX.a f x).m = x.m := rfl
      rw [spM, hg, ho, if_pos rfl, nx, h1]
      simp [LX.spn, ho]
    | false =>
      rw [spM_stop (by rw [hg]; exact ho)]
      simp [LX.spn, ho]
theorem m_val (t : LX) : valM t.m = t.val := by
  cases t with
  | v i => simp [valM, LX.m, LX.val]
  | a f x => simp [valM, LX.m, LX.val]
  | l b =>
    have h1 : hdM (LX.l b).m = b.m := rfl
    unfold valM
    rw [h1]
    have h0 : (LX.l b).m.kind = 2 := rfl
    rw [if_pos h0]
    cases b with
    | v i =>
      rw [if_neg (by simp [LX.m]), m_zer]
      rfl
    | a f x =>
      rw [if_neg (by simp [LX.m]), m_zer]
      rfl
    | l c =>
      have h2 : hdM (LX.l c).m = c.m := rfl
      have h3 : (LX.l c).m.kind = 2 := rfl
      rw [if_pos h3, h2, m_sz, m_spn c.sz c (Nat.le_refl _), m_zer]
      rfl
theorem vlR_ok {t : LX} {k : Nat} (hz : t.sz ≤ 2000) (h : resX t = (0, some k)) : vlR t.m 400 = ((k : Int), 0) := by
  obtain ⟨h1, h2⟩ := m_fin 400 t hz
  unfold resX at h
  simp only [Prod.mk.injEq] at h
  unfold vlR
  have e0 : (((t.fin 400).1 : Nat) : Int) = 0 := by rw [h.1]; rfl
  rw [h1, if_pos e0, h2]
  have : valZ (t.fin 400).2.m = (k : Int) := valZ_some (by rw [m_val]; exact h.2)
  rw [this, if_neg (by omega)]
theorem vlR_nine {t : LX} (hz : t.sz ≤ 2000) (h : (resX t).1 = 9) : vlR t.m 400 = (0, 9) := by
  obtain ⟨h1, h2⟩ := m_fin 400 t hz
  unfold resX at h
  simp only at h
  unfold vlR
  have e0 : ¬ (((t.fin 400).1 : Nat) : Int) = 0 := by rw [h]; decide
  rw [h1, if_neg e0, h]
  rfl
theorem itM_it : ∀ n : Nat, itM n = (LX.it n).m
  | 0 => rfl
  | n + 1 => by rw [itM, itM_it n]; rfl
theorem lamE_X {t : LX} (ho : t.ok 0 = true) (hz : t.sz ≤ 200) : lamE 0 0 t.m = 0 := by
  unfold lamE
  rw [if_neg (by omega), m_sz, if_neg (by omega)]
  exact m_ok t 0 ho
#print axioms vlR_ok
#print axioms m_val
end Go.Proofs.Ytmapeiecapiliaa

/- Walks: a number below another one. -/
namespace Go.Proofs.Ytmapeiecapiliaa
open Go.RowKit
set_option linter.unusedSimpArgs false
set_option linter.unusedVariables false
set_option maxRecDepth 8000

theorem mod_natK {x : Int} (hx : 0 ≤ x) {n : Nat} (hn : 0 < n) : ∃ k : Nat, x % (n : Int) = k ∧ k < n := by
  have h1 := Int.emod_nonneg x (b := (n : Int)) (by omega)
  have h2 := Int.emod_lt_of_pos x (b := (n : Int)) (by omega)
  exact ⟨(x % (n : Int)).toNat, by omega, by omega⟩
theorem pickK_any (c : Int) (n : Nat) (hn : 0 < n) (hn2 : n ≤ 2000000) (hc : -9223372036854775808 ≤ c ∧ c ≤ 9223372036854775807) (w : World) :
    Calls Try.prog 4 #[.int .i64 c, .int .i64 (n : Int)] w fun e w' => ∃ k : Nat, e = .returned (.int .i64 (k : Int)) ∧ k < n ∧ w' = w := by
  go_enter Try.func4, Try.ntmps4
  by_cases h : c < 0
  · go_wp2_with fail
    go_ret
    obtain ⟨k, hk, hkn⟩ := mod_natK (x := -(c + 1)) (by omega) hn
    refine ⟨k, ?_, hkn, rfl⟩
    have h1 : -(c + 1).tmod (n : Int) = k := by rw [← Int.neg_tmod, Int.tmod_eq_emod_of_nonneg (by omega)]; exact hk
    simp [h1]
  · go_wp2_with fail
    go_ret
    obtain ⟨k, hk, hkn⟩ := mod_natK (x := c) (by omega) hn
    exact ⟨k, by simp [hk], hkn, rfl⟩
#print axioms pickK_any
end Go.Proofs.Ytmapeiecapiliaa

/- Walks: terms made of numerals. -/
namespace Go.Proofs.Ytmapeiecapiliaa
open Go.RowKit
set_option linter.unusedSimpArgs false
set_option linter.unusedVariables false
set_option maxRecDepth 8000

/-- A lambda term that may be doesn't lie where an empty one lies. -/
theorem liesM_ne {w : World} {P T : Nat} (hP : Blk w P #[.int .i64 0, .int .i64 0, .slice none 0 0] T) (m : Int) (l : List Lm) : ∀ (X : Nat → Prop) (u : Int) (b o : Nat), errM u m l = 0 → LiesM w X b o l → LiesM w (fun b => X b ∧ b ≠ P) b o l := by
  induction l using Lm.indL with
  | h0 => intro X u b o _ _; simp [LiesM]
  | h k x l r ihl ihr =>
    intro X u b o he hl
    obtain ⟨h1, h2⟩ := err_two0.1 he
    obtain ⟨h3, h4⟩ := err_one0.1 h1
    have hk := (knE_zero.1 h3).1
    simp only [LiesM] at hl ⊢
    obtain ⟨hx, c0, c1, ⟨a, c, c2, hlen, hor⟩, hr⟩ := hl
    have hne : b ≠ P := by
      intro e
      subst e
      have h := hP.cell o
      rw [c0] at h
      match o, h with
      | 0, h => simp at h; omega
      | 1, h => simp at h; omega
      | 2, h => simp at h
      | o + 3, h => simp at h
    refine ⟨⟨hx, hne⟩, c0, c1, ⟨a, c, c2, hlen, ?_⟩, ihr X u b (o + 3) h2 hr⟩
    rcases hor with h | ⟨b', o', e, h⟩
    · exact Or.inl h
    · exact Or.inr ⟨b', o', e, ihl X _ b' o' h4 h⟩
theorem slM_ne {w : World} {P T : Nat} (hP : Blk w P #[.int .i64 0, .int .i64 0, .slice none 0 0] T) {X : Nat → Prop} {a : Option Addr} {l : List Lm} {u m : Int} (he : errM u m l = 0) (h : SlM w X a l) : SlM w (fun b => X b ∧ b ≠ P) a l := by
  obtain ⟨hl, h | ⟨b, o, e, h⟩⟩ := h
  · exact ⟨hl, Or.inl h⟩
  · exact ⟨hl, Or.inr ⟨b, o, e, liesM_ne hP m l X u b o he h⟩⟩
theorem slM_set {w : World} {P T : Nat} (hP : Blk w P #[.int .i64 0, .int .i64 0, .slice none 0 0] T) {a : Option Addr} {l : List Lm} {u m : Int} (he : errM u m l = 0) (h : SlM w (fun _ => True) a l) (x0 x1 x2 : Value) : SlM (((w.setCell ⟨P, 0, none⟩ x0).setCell ⟨P, 1, none⟩ x1).setCell ⟨P, 2, none⟩ x2) (fun _ => True) a l := by
  refine ((slM_ne hP he h).kept fun b hb => ?_).mono fun _ _ _ => trivial
  have hne := hb.2
  rw [Below.heap_setCell _ _ _ _ (by simpa using hne), Below.heap_setCell _ _ _ _ (by simpa using hne), Below.heap_setCell _ _ _ _ (by simpa using hne)]
theorem subsL {x : Lm} {u m : Int} (h : errM u m [x] = 0) : ∃ u', errM u' m x.subs = 0 := by
  obtain ⟨k, i, l⟩ := x
  exact ⟨_, (err_one0.1 h).2⟩
theorem subsX {t : LX} (ho : t.ok 0 = true) : ∃ u, errM u 0 t.m.subs = 0 := by
  exact subsL (m_ok t 0 ho)
theorem hgN_any (k y : Nat) (hk : k < 5) (hy : y ≤ 2) (a : Option Addr) (c : Nat) (w : World) (X : Nat → Prop) (hs : SlM w X a [(LX.l (LX.it k)).m]) :
    Calls Try.prog 8 #[.agg #[.int .i64 2, .int .i64 0, .slice a 1 c], .int .i64 (y : Int), .int .i64 0] w fun e w' => ∃ a' c', e = .returned (.agg #[.int .i64 2, .int .i64 0, .slice a' 1 c']) ∧ SlM w' (fun _ => True) a' [(LX.l ((LX.it k).hig y 2)).m] ∧ Below w.heap.size w w' := by
  have h5 := t5X k hk
  have he := m_ok _ _ h5.1
  have hz := m_sz (numX k)
  have h := higher_any (y : Int) (by omega) (by omega) (numX k).m (.agg #[.int .i64 2, .int .i64 0, .slice a 1 c]) 0 w X ⟨a, c, rfl, hs⟩ (by omega) (by rw [hz]; have := h5.2; omega) (bnd_of_err _ _ _ (by omega) (by rw [hz]; have := h5.2; omega) (by omega) he)
  have e1 : higT (y : Int) 0 (numX k).m = ((numX k).hig y 0).m := m_hig y (numX k) 0
  rw [e1] at h
  refine h.mono ?_
  rintro e w' ⟨a', c', rfl, h1, h2⟩
  exact ⟨a', c', rfl, h1.mono fun _ _ _ => trivial, h2⟩
theorem appX_any (f x : LX) (fv xv : Value) (w : World) (hf : MV w (fun _ => True) fv f.m) (hx : MV w (fun _ => True) xv x.m) :
    Calls Try.prog 7 #[fv, xv] w fun e w' => ∃ a c, e = .returned (.agg #[.int .i64 3, .int .i64 0, .slice a 2 c]) ∧ SlM w' (fun _ => True) a [f.m, x.m] ∧ Below w.heap.size w w' := by
  refine (appR_any f.m x.m fv xv w _ hf hx).mono ?_
  rintro e w' ⟨a', c', rfl, h1, h2⟩
  exact ⟨a', c', rfl, h1.mono fun _ _ _ => trivial, h2⟩
theorem funX_any (x : LX) (xv : Value) (w : World) (hx : MV w (fun _ => True) xv x.m) :
    Calls Try.prog 6 #[xv] w fun e w' => ∃ a c, e = .returned (.agg #[.int .i64 2, .int .i64 0, .slice a 1 c]) ∧ SlM w' (fun _ => True) a [x.m] ∧ Below w.heap.size w w' := by
  refine (funR_any x.m xv w _ hx).mono ?_
  rintro e w' ⟨a', c', rfl, h1, h2⟩
  exact ⟨a', c', rfl, h1.mono fun _ _ _ => trivial, h2⟩
theorem numX_any (k : Nat) (hk : k < 5) (w : World) :
    Calls Try.prog 5 #[.int .i64 (k : Int)] w fun e w' => ∃ a c, e = .returned (.tuple #[.agg #[.int .i64 2, .int .i64 0, .slice a 1 c], .int .i64 0]) ∧ SlM w' (fun _ => True) a [(LX.l (LX.it k)).m] ∧ Below w.heap.size w w' := by
  refine (number_ok k (by omega) w).mono ?_
  rintro e w' ⟨a', c', rfl, h1, h2⟩
  rw [itM_it] at h1
  exact ⟨a', c', rfl, h1.mono fun _ _ _ => trivial, h2⟩
theorem bl_setA {w W : World} (h : Below w.heap.size w W) (j : Nat) (hj : w.heap.size ≤ j) (u u' u'' : Value) : Below w.heap.size w (((W.setCell ⟨j, 0, none⟩ u).setCell ⟨j, 1, none⟩ u').setCell ⟨j, 2, none⟩ u'') :=
  ((h.setCell (p := ⟨j, 0, none⟩) (by simpa using hj) _).setCell (p := ⟨j, 1, none⟩) (by simpa using hj) _).setCell (p := ⟨j, 2, none⟩) (by simpa using hj) _
/-- A term that was made. -/
def MkX (t : LX) (wA : World) (s : Value) (wc : World) : Prop :=
  ∃ (P k : Nat) (a : Option Addr) (c : Nat), s = .pointer (some ⟨P, 0, none⟩) ∧ wA.heap.size ≤ P ∧ Blk wc P #[.int .i64 t.m.kind, .int .i64 t.m.idx, .slice a t.m.subs.length c] 25 ∧ SlM wc (fun _ => True) a t.m.subs ∧ Below wA.heap.size wA wc
theorem mkX_last {t : LX} {wA w1 : World} {a : Option Addr} {c : Nat} (k : Below wA.heap.size wA w1) (hs : SlM w1 (fun _ => True) a t.m.subs) :
    MkX t wA (.pointer (some ⟨w1.heap.size, 0, none⟩)) (w1.alloc (.cells #[.int .i64 t.m.kind, .int .i64 t.m.idx, .slice a t.m.subs.length c] 25)) :=
  ⟨_, 0, a, c, rfl, k.size, Blk.new _ _ _, hs.later ((Below.refl _ _).alloc (Nat.le_refl _) _), k.alloc k.size _⟩
theorem mkX_first {t : LX} (ho : t.ok 0 = true) {wA w1 : World} {a : Option Addr} {c P : Nat} (hPA : wA.heap.size ≤ P) (hP : Blk w1 P #[.int .i64 0, .int .i64 0, .slice none 0 0] 25) (k : Below wA.heap.size wA w1) (hs : SlM w1 (fun _ => True) a t.m.subs) :
    MkX t wA (.pointer (some ⟨P, 0, none⟩)) (((w1.setCell ⟨P, 0, none⟩ (.int .i64 t.m.kind)).setCell ⟨P, 1, none⟩ (.int .i64 t.m.idx)).setCell ⟨P, 2, none⟩ (.slice a t.m.subs.length c)) := by
  obtain ⟨u, hu⟩ := subsX ho
  exact ⟨P, 0, a, c, rfl, hPA, blk_set3 hP _ _ _, slM_set hP hu hs _ _ _, bl_setA k P hPA _ _ _⟩
#print axioms mkX_first
end Go.Proofs.Ytmapeiecapiliaa

/- A number as it is read before the call, with its bounds. -/
namespace Go.Proofs.Ytmapeiecapiliaa
open Go.ChangeShapes Go.WideShapes Go.ChangeAt Go.RowKit
set_option linter.unusedSimpArgs false
set_option linter.unusedVariables false
set_option maxRecDepth 8000

def RngI (z : Int) : Prop := -9223372036854775808 ≤ z ∧ z ≤ 9223372036854775807
theorem rng_wfI {n : Int} (h : (Lit.int .i64 n).wf = true) : RngI n := by
  have h1 : IntKind.i64.min = -9223372036854775808 := by decide
  have h2 : IntKind.i64.max = 9223372036854775807 := by decide
  simp only [Lit.wf, h1, h2, Bool.and_eq_true, decide_eq_true_eq] at h
  exact h

theorem open_int {H : Type} {enc : TypeId × Value → H} {w : World} {sp : Nat → Bool} {held : Bool} {r : Reach} {b0 : Nat} {v : Value} {d : DataW H} {p : List MemPlace} (hv : Value.okWide Try.prog w r b0 3 v) (h : DataW.Trod enc Try.prog w 0 sp held 3 v d p) : ∃ z, v = .int .i64 z ∧ RngI z := by
  obtain ⟨z, rfl⟩ := okWide_int Try.underlying3 hv
  obtain ⟨fuel, hf⟩ := h
  obtain ⟨z', e3, _, hwf⟩ := DataW.trod_int Try.underlying3 hf
  simp [Value.cells] at e3
  subst e3
  exact ⟨_, rfl, rng_wfI hwf⟩

#print axioms open_int
end Go.Proofs.Ytmapeiecapiliaa

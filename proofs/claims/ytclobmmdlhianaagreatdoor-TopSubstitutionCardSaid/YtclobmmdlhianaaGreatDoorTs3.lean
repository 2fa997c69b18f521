/- Walks: the two nearest that are bound from outside, the other way round. -/
import Derived.Test.YtclobmmdlhianaaGreatDoorTs1
import Derived.Test.YtclobmmdlhianaaGreatDoorLf0
namespace Go.Proofs.YtclobmmdlhianaaGreatDoor
open Go.RowKit
set_option linter.unusedSimpArgs false
set_option linter.unusedVariables false
set_option maxRecDepth 8000

theorem bnd_mv2 {t : Lm} (he : errM 3 0 [t] = 0) (hz : sizeM [t] ≤ 1000) : BndM [higT 2 2 t] ∧ sizeM [higT 2 2 t] = sizeM [t] := by
  have h := err_higT (m := 0) (u := 1) (c := 2) (y := 2) (t := t) (by omega) (by omega) (by omega) (by simpa using he)
  have hs : sizeM [higT 2 2 t] = sizeM [t] := higT_size (lf_of_err _ _ _ he)
  exact ⟨bnd_of_err _ _ 0 (by omega) (by rw [hs]; omega) (by omega) h, hs⟩

set_option maxHeartbeats 4000000 in
theorem swapped_any (t : Lm) (he : errM 3 0 [t] = 0) (hz : sizeM [t] ≤ 1000) (v : Value) (w : World) (X : Nat → Prop) (hv : MV w X v t) :
    Calls Tryz.prog 7 #[v] w fun e w' => ∃ a c, e = .returned (.agg #[.int .i64 (swpT t).kind, .int .i64 (swpT t).idx, .slice a (swpT t).subs.length c]) ∧ SlM w' (fun _ => True) a (swpT t).subs ∧ Below w.heap.size w w' := by
  obtain ⟨a, c, rfl, hs⟩ := hv
  have HS := hide hs
  clear hs
  have HBM := hide (bnd_mv2 he hz)
  have HBT := hide (bnd_of_err [t] 3 0 (by omega) (by omega) (by omega) he)
  have B2 : Hid (Below w.heap.size w ((w.alloc (.cells #[.int .i64 t.kind, .int .i64 t.idx, .slice a t.subs.length c] 25)).alloc (.cells #[.int .i64 0, .int .i64 0, .slice none 0 0] 25))) := ((Below.refl _ _).alloc (Nat.le_refl _) _).alloc (by simp) _
  have R2 : Hid (Blk ((w.alloc (.cells #[.int .i64 t.kind, .int .i64 t.idx, .slice a t.subs.length c] 25)).alloc (.cells #[.int .i64 0, .int .i64 0, .slice none 0 0] 25)) (w.heap.size + 1) #[.int .i64 0, .int .i64 0, .slice none 0 0] 25) := by
    have h := Blk.new (w.alloc (.cells #[.int .i64 t.kind, .int .i64 t.idx, .slice a t.subs.length c] 25)) #[.int .i64 0, .int .i64 0, .slice none 0 0] 25
    rw [World.size_alloc] at h
    exact h
  have HS2 := hide (((HS.out.mono (Y := fun b => b < w.heap.size) fun b _ h2 => h2).below B2.out (fun b h _ => h)).mono (Y := fun b => b < w.heap.size) fun b h _ => h)
  go_enter Tryz.func7, Tryz.ntmps7
  go_wp2_with fail
  have hz2 : ((w.alloc (.cells #[.int .i64 t.kind, .int .i64 t.idx, .slice a t.subs.length c] 25)).alloc (.cells #[.int .i64 0, .int .i64 0, .slice none 0 0] 25)).heap.size = w.heap.size + 2 := by simp
  generalize ((w.alloc (.cells #[.int .i64 t.kind, .int .i64 t.idx, .slice a t.subs.length c] 25)).alloc (.cells #[.int .i64 0, .int .i64 0, .slice none 0 0] 25)) = w2 at *
  refine (higher_any 2 (by omega) (by omega) t _ 2 _ (fun b => b < w.heap.size) ⟨a, c, rfl, by exact HS2.out⟩ (by omega) (by omega) HBT.out).mono ?_
  rintro e w3 ⟨ah, ch, rfl, hs, hb⟩
  have hz3 := hb.size
  have B3 := hide (B2.out.trans (hb.mono (by omega)))
  have R3 := hide (R2.out.below hb R2.out.lt)
  have S3 := hide (hs.mono (Y := fun b => b ≠ w.heap.size + 1) fun b h _ => by rcases h with h | h; exact Nat.ne_of_lt (by have := h.1; omega); omega)
  clear hs hb B2 R2 HS2
  go_wp2_with fail
  refine (varQ_any 1 _).mono ?_
  rintro e w4 ⟨rfl, hb⟩
  have hz4 := hb.size
  have B4 := hide (B3.out.trans (hb.mono B3.out.size))
  have R4 := hide (R3.out.below hb R3.out.lt)
  have S4 := hide (S3.out.later hb)
  clear hb B3 R3 S3
  go_wp2_with fail
  refine (varQ_any 0 _).mono ?_
  rintro e w5 ⟨rfl, hb⟩
  have hz5 := hb.size
  have B5 := hide (B4.out.trans (hb.mono B4.out.size))
  have R5 := hide (R4.out.below hb R4.out.lt)
  have S5 := hide (S4.out.later hb)
  clear hb B4 R4 S4
  have B6 : Hid (Below w.heap.size w (w5.alloc (.cells #[.int .i64 1, .int .i64 1, .slice none 0 0, .int .i64 1, .int .i64 0, .slice none 0 0] 25))) := B5.out.alloc B5.out.size _
  have R6 := hide (R5.out.alloc (.cells #[.int .i64 1, .int .i64 1, .slice none 0 0, .int .i64 1, .int .i64 0, .slice none 0 0] 25))
  have S6 := hide (S5.out.later ((Below.refl _ _).alloc (Nat.le_refl _) (.cells #[.int .i64 1, .int .i64 1, .slice none 0 0, .int .i64 1, .int .i64 0, .slice none 0 0] 25)))
  have K6 := hide (Blk.new w5 #[.int .i64 1, .int .i64 1, .slice none 0 0, .int .i64 1, .int .i64 0, .slice none 0 0] 25)
  have L6 : Hid (SlM (w5.alloc (.cells #[.int .i64 1, .int .i64 1, .slice none 0 0, .int .i64 1, .int .i64 0, .slice none 0 0] 25)) (fun b => b ≠ w.heap.size + 1) (some ⟨w5.heap.size, 0, none⟩) [⟨1, 1, []⟩, ⟨1, 0, []⟩]) := by
    have hne : w5.heap.size ≠ w.heap.size + 1 := by omega
    refine ⟨by simp, Or.inr ⟨_, _, rfl, ?_⟩⟩
    simp only [LiesM]
    exact ⟨hne, K6.out.cell 0, K6.out.cell 1, ⟨none, 0, K6.out.cell 2, ⟨by simp, Or.inl trivial⟩⟩, hne, K6.out.cell 3, K6.out.cell 4, ⟨none, 0, K6.out.cell 5, ⟨by simp, Or.inl trivial⟩⟩, trivial⟩
  have hz6 : (w5.alloc (.cells #[.int .i64 1, .int .i64 1, .slice none 0 0, .int .i64 1, .int .i64 0, .slice none 0 0] 25)).heap.size = w5.heap.size + 1 := by simp
  have hr0 := R5.out.lt
  clear K6 S5 R5
  go_wp2_with fail
  generalize (w5.alloc (.cells #[.int .i64 1, .int .i64 1, .slice none 0 0, .int .i64 1, .int .i64 0, .slice none 0 0] 25)) = w6 at *
  have hb2 : ∀ z ∈ ([⟨1, 1, []⟩, ⟨1, 0, []⟩] : List Lm), sizeM [z] ≤ 100000 ∧ BndM [z] := by
    intro z hz'
    simp only [List.mem_cons, List.not_mem_nil, or_false] at hz'
    rcases hz' with rfl | rfl <;> simp [sizeM, BndM]
  refine (insteadL_any [⟨1, 1, []⟩, ⟨1, 0, []⟩] _ _ (by simp) hb2 (higT 2 2 t) _ 0 _ (fun b => b ≠ w.heap.size + 1) ⟨ah, ch, rfl, by exact S6.out⟩ (by exact L6.out) (by omega) (by rw [HBM.out.2]; omega) HBM.out.1).mono ?_
  rintro e w7 ⟨as', cs', rfl, hs, hb⟩
  have HSW : Hid (insLT [⟨1, 1, []⟩, ⟨1, 0, []⟩] 0 (higT 2 2 t) = swpT t) := rfl
  rw [HSW.out] at hs ⊢
  have B7 := hide (B6.out.trans (hb.mono B6.out.size))
  have R7 := hide (R6.out.below hb R6.out.lt)
  have S7 := hide (hs.mono (Y := fun b => b ≠ w.heap.size + 1) fun b h _ => by rcases h with h | h; exact h.1; omega)
  clear hs hb hb2 B6 R6 S6 L6 B5
  have r0 : w7.cell? ⟨w.heap.size + 1, 0, none⟩ = some (.int .i64 0) := R7.out.cell 0
  have r1 : w7.cell? ⟨w.heap.size + 1, 1, none⟩ = some (.int .i64 0) := R7.out.cell 1
  have r2 : w7.cell? ⟨w.heap.size + 1, 2, none⟩ = some (.slice none 0 0) := R7.out.cell 2
  have rf := R7.out.frozen
  have hRl : w.heap.size + 1 < w7.heap.size := R7.out.lt
  go_wp2_with fail
  refine bodyPost_ret (v := .agg #[.int .i64 (swpT t).kind, .int .i64 (swpT t).idx, .slice as' (swpT t).subs.length cs']) (by simp [results, Tryz.results7, go_sem, World.cell?_setCell_same, World.cell?_setCell_other, r0, r1, r2, hRl]) rfl ?_
  refine ⟨as', cs', rfl, (S7.out.kept fun b hb => ?_).mono fun _ _ _ => trivial, ((B7.out.setCell (by simp) _).setCell (by simp) _).setCell (by simp) _⟩
  rw [Below.heap_setCell _ _ _ _ (by simpa using hb), Below.heap_setCell _ _ _ _ (by simpa using hb), Below.heap_setCell _ _ _ _ (by simpa using hb)]
end Go.Proofs.YtclobmmdlhianaaGreatDoor

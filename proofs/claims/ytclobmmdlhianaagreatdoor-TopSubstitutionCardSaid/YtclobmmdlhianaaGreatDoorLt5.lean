/- Walks: writing into a Builder that is part of a writer, with all else as it was. -/
import Derived.Test.YtclobmmdlhianaaGreatDoorW20
import Derived.Test.YtclobmmdlhianaaGreatDoorShelf
import Derived.Test.YtclobmmdlhianaaGreatDoorZDTopSubstitutionOwn
namespace Go.Proofs.YtclobmmdlhianaaGreatDoor
open Go.RowKit
set_option linter.unusedSimpArgs false
set_option linter.unusedVariables false

theorem Tryz.liesWriter : liesAt Tryz.prog Tryz.prog.depth 85 (3 / Tryz.prog.cellsOf 85) 0 83 1 = true := by kernel_rfl

/-- A writer in block b, its bytes in a row of its own. -/
def Wrt (w : World) (B b : Nat) (fv : Value) (bs : List Value) (v : Value) : Prop :=
  B ≤ b ∧ (∃ p, (p = .pointer none ∨ p = .pointer (some ⟨b, 0, none⟩)) ∧ w.heap[b]? = some (.cells #[p, v, fv] 85 (0, 0))) ∧ w.ownsRow B 5 1 v bs.length bs

theorem wt_ne {w : World} {B b : Nat} {fv : Value} {bs : List Value} {v : Value} (h : Wrt w B b fv bs v) : v.ownBlock ≠ some b := by
  obtain ⟨_, ⟨p, _, hb⟩, hown⟩ := h
  exact Lib.ownBlock_ne hown hb (by decide)

set_option maxHeartbeats 1000000 in
set_option maxRecDepth 100000 in
theorem copyCheckW_any (B b : Nat) (fv : Value) (bs : List Value) (v : Value) (w : World) (h : Wrt w B b fv bs v) :
    Calls Tryz.prog 80 #[.pointer (some ⟨b, 0, none⟩)] w fun e w' => e = .returned (.tuple #[]) ∧ w'.heap[b]? = some (.cells #[.pointer (some ⟨b, 0, none⟩), v, fv] 85 (0, 0)) ∧ w'.ownsRow B 5 1 v bs.length bs ∧ BFr w w' b v v := by
  obtain ⟨j, hj, hjs⟩ := Option.map_eq_some_iff.1 Tryz.sizeBuilder
  have hne := wt_ne h
  obtain ⟨hB, ⟨p, hp, hbk⟩, hown⟩ := h
  have h0 : w.cell? ⟨b, 0, none⟩ = some p := by rw [Lib.cell_of_heap hbk]; rfl
  have hsh : w.shape? b = some (85, 3) := by simp [World.shape?, hbk]
  have hfz : w.frozen? ⟨b, 0, none⟩ = false := Lib.frozen_of_heap hbk 0
  rcases hp with rfl | rfl
  · have HF : Hid ((w.setCell ⟨b, 0, none⟩ (.pointer (some ⟨b, 0, none⟩))).heap[b]? = some (.cells #[.pointer (some ⟨b, 0, none⟩), v, fv] 85 (0, 0)) ∧ (w.setCell ⟨b, 0, none⟩ (.pointer (some ⟨b, 0, none⟩))).ownsRow B 5 1 v bs.length bs ∧ BFr w (w.setCell ⟨b, 0, none⟩ (.pointer (some ⟨b, 0, none⟩))) b v v) := by
      refine ⟨by simp [World.setCell, Array.getElem?_modify, hbk], ?_, rfl, rfl, rfl, by simp [World.setCell], fun k hk hkb _ => Below.heap_setCell _ _ _ _ (by simpa using hkb), fun _ h => Or.inl h⟩
      refine hown.kept (w' := w.setCell ⟨b, 0, none⟩ (.pointer (some ⟨b, 0, none⟩))) (row := some b) ⟨rfl, rfl, rfl, by simp [World.setCell], fun k hk hkb => Below.heap_setCell _ _ _ _ (by simp at hkb; simpa using hkb)⟩ (Or.inr hne)
    have HOWN := hide hown
    clear hown
    go_enter Tryz.func80, Tryz.ntmps80
    go_wp2_with fail
    rw [Lib.run_to_unsafe w ⟨b, 0, none⟩ Tryz.underlying80 Tryz.underlying114 hj (by rw [hjs]; decide) hsh (Nat.zero_lt_succ 2)]
    simp only [Result.andThen]
    rw [Oper.upon_value]
    go_wp2_with fail
    rw [run_callFunc_extern Tryz.func84 (by kernel_rfl) (by kernel_rfl) (by kernel_rfl) (e := Extern.AbiNoEscape.same) (by kernel_rfl)]
    rw [Lib.run_noEscape]
    simp only [Result.andThen]
    rw [Oper.upon_value]
    go_wp2_with fail
    rw [Lib.run_from_unsafe w ⟨b, 0, none⟩ Tryz.underlying114 Tryz.underlying80 hj hsh Tryz.liesWriter]
    simp only [Result.andThen]
    rw [Oper.upon_value]
    go_wp2_with fail
    go_end0
    exact ⟨rfl, HF.out⟩
  · have HOWN := hide hown
    go_enter Tryz.func80, Tryz.ntmps80
    go_wp2_with fail
    rw [Lib.run_neq_ptr_same w _ Tryz.underlying80 hj]
    go_wp2_with fail
    go_end0
    exact ⟨rfl, hbk, HOWN.out, BFr.refl _ _ _⟩

/-- Behind an append and the store of its slice. -/
theorem wt_put {w w2 : World} {B b : Nat} {fv : Value} {bs bs' : List Value} {v v' : Value} (hB : B ≤ b) (hBw : B ≤ w.heap.size) (hbk : w.heap[b]? = some (.cells #[.pointer (some ⟨b, 0, none⟩), v, fv] 85 (0, 0))) (hown : w.ownsRow B 5 1 v bs.length bs) (hown' : w2.ownsRow B 5 1 v' bs'.length bs') (hg : w.grownBy w2 v.ownBlock)
    (hat : ∀ k, v'.ownBlock = some k → v.ownBlock = some k ∨ w.heap.size ≤ k) : Wrt (w2.setCell ⟨b, 1, none⟩ v') B b fv bs' v' ∧ BFr w (w2.setCell ⟨b, 1, none⟩ v') b v v' := by
  have hne : v.ownBlock ≠ some b := Lib.ownBlock_ne hown hbk (by decide)
  have hlt := bd_lt hbk
  have hb2 : w2.heap[b]? = some (.cells #[.pointer (some ⟨b, 0, none⟩), v, fv] 85 (0, 0)) := by rw [hg.block b hlt (fun e => hne e.symm)]; exact hbk
  have hne' : v'.ownBlock ≠ some b := Lib.ownBlock_ne hown' hb2 (by decide)
  refine ⟨⟨hB, ⟨_, Or.inr rfl, by simp [World.setCell, Array.getElem?_modify, hb2]⟩, ?_⟩, hg.os, hg.tape, hg.output, by simp [World.setCell]; exact hg.size, fun k hk hkb hv => ?_, hat⟩
  · exact hown'.kept (w' := w2.setCell ⟨b, 1, none⟩ v') (row := some b) ⟨rfl, rfl, rfl, by simp [World.setCell], fun k hk hkb => Below.heap_setCell _ _ _ _ (by simp at hkb; simpa using hkb)⟩ (Or.inr hne')
  · rw [Below.heap_setCell _ _ _ _ (by simpa using hkb)]; exact hg.block k hk hv

set_option maxHeartbeats 1000000 in
set_option maxRecDepth 100000 in
theorem writeByteW_any (B b : Nat) (fv : Value) (bs : List Value) (v : Value) (c : Int) (w : World) (h : Wrt w B b fv bs v) (hlen : bs.length ≤ 1000000000) (hBw : B ≤ w.heap.size) :
    Calls Tryz.prog 68 #[.pointer (some ⟨b, 0, none⟩), .int .u8 c] w fun e w' => e = .returned .nilIface ∧ ∃ v', Wrt w' B b fv (bs ++ [.int .u8 c]) v' ∧ BFr w w' b v v' := by
  obtain ⟨i0, hi, hz0, hz1, hz2⟩ := info_parts Tryz.infoByte
  have hB := h.1
  have H := hide h
  clear h
  go_enter Tryz.func68, Tryz.ntmps68
  go_wp2_with (go_at_call 80; refine (copyCheckW_any B b fv bs v _ H.out).mono ?_)
  rintro e w1 ⟨rfl, hbk, hown, hfr⟩
  have c0 : w1.cell? ⟨b, 0, none⟩ = some (.pointer (some ⟨b, 0, none⟩)) := by rw [Lib.cell_of_heap hbk]; rfl
  have c1 : w1.cell? ⟨b, 1, none⟩ = some v := by rw [Lib.cell_of_heap hbk]; rfl
  have hlt := bd_lt hbk
  have hne : v.ownBlock ≠ some b := Lib.ownBlock_ne hown hbk (by decide)
  have hBw1 : B ≤ w1.heap.size := Nat.le_trans hBw hfr.2.2.2.1
  obtain ⟨g, cap, w2, hr2, hown2, hg2, hat2, _⟩ := run_append_lies (P := Tryz.prog) (w := w1.alloc (.cells #[.int .u8 c] 5)) 81 81 B 5 i0 _ 1 1 Tryz.underlying81 hi hz0 hz1 hz2 rfl (by decide) v bs.length bs (hown.alloc _)
    ⟨w1.heap.size, 0, none⟩ 1 1 [.int .u8 c] rfl (cell_one_new _ _ _) (fun x hx => by simp at hx; subst hx; rfl) (by decide) (by unfold maxLen; omega) (by omega) (by simp; omega) _ rfl
  have hg3 : w1.grownBy w2 v.ownBlock := grown_trans (grown_of_below ((Below.refl _ _).alloc (Nat.le_refl _) _) v.ownBlock) hg2 (fun k hk => Or.inl hk)
  have HPUT := hide (wt_put (bs' := bs ++ [.int .u8 c]) hB hBw1 hbk hown (by simpa using hown2) hg3 (fun k hk => by
    simp [Value.ownBlock] at hk
    subst hk
    rcases hat2 with e | e
    · exact Or.inl e
    · right; simp at e; omega))
  have hb2 : w2.heap[b]? = some (.cells #[.pointer (some ⟨b, 0, none⟩), v, fv] 85 (0, 0)) := by rw [hg3.block b hlt (fun e => hne e.symm)]; exact hbk
  have d0 : w2.cell? ⟨b, 0, none⟩ = some (.pointer (some ⟨b, 0, none⟩)) := by rw [Lib.cell_of_heap hb2]; rfl
  have d1 : w2.cell? ⟨b, 1, none⟩ = some v := by rw [Lib.cell_of_heap hb2]; rfl
  have f1 : w2.frozen? ⟨b, 1, none⟩ = false := Lib.frozen_of_heap hb2 1
  have HR := hide hr2
  have HFR := hide hfr
  clear hr2 hown hown2 hg2 hg3 hat2 hbk hfr hb2
  go_wp2_with (at_builtin; refine wpList_append_eq rfl _ _ _ _ rfl rfl rfl HR.out ?_)
  go_ret
  exact ⟨rfl, _, HPUT.out.1, HFR.out.trans HPUT.out.2⟩

set_option maxHeartbeats 1000000 in
set_option maxRecDepth 100000 in
theorem writeStringW_any (B b : Nat) (fv : Value) (bs : List Value) (v : Value) (s : ByteArray) (w : World) (h : Wrt w B b fv bs v) (hlen : bs.length + s.size ≤ 1000000000) (hBw : B ≤ w.heap.size) :
    Calls Tryz.prog 66 #[.pointer (some ⟨b, 0, none⟩), .string s] w fun e w' => e = .returned (.tuple #[.int .i64 s.size, .nilIface]) ∧ ∃ v', Wrt w' B b fv (bs ++ Lib.strCells s) v' ∧ BFr w w' b v v' := by
  obtain ⟨i0, hi, hz0, hz1, hz2⟩ := info_parts Tryz.infoByte
  have hB := h.1
  have H := hide h
  clear h
  go_enter Tryz.func66, Tryz.ntmps66
  go_wp2_with (go_at_call 80; refine (copyCheckW_any B b fv bs v _ H.out).mono ?_)
  rintro e w1 ⟨rfl, hbk, hown, hfr⟩
  have c0 : w1.cell? ⟨b, 0, none⟩ = some (.pointer (some ⟨b, 0, none⟩)) := by rw [Lib.cell_of_heap hbk]; rfl
  have c1 : w1.cell? ⟨b, 1, none⟩ = some v := by rw [Lib.cell_of_heap hbk]; rfl
  have hlt := bd_lt hbk
  have hne : v.ownBlock ≠ some b := Lib.ownBlock_ne hown hbk (by decide)
  have hBw1 : B ≤ w1.heap.size := Nat.le_trans hBw hfr.2.2.2.1
  obtain ⟨v2, w2, hr2, hown2, hg2, hnil2⟩ := Lib.run_append_own_string (P := Tryz.prog) w1 B 81 9 81 5 i0 Tryz.underlying81 Tryz.underlying9 hi hz0 hz1 hz2 v bs.length bs hown s (by unfold maxLen; omega) (by omega) hBw1
  have hat := str_at hown (by omega) hr2 hnil2
  have HPUT := hide (wt_put (bs' := bs ++ Lib.strCells s) hB hBw1 hbk hown (by simpa [Lib.strCells_length] using hown2) hg2 hat)
  have hb2 : w2.heap[b]? = some (.cells #[.pointer (some ⟨b, 0, none⟩), v, fv] 85 (0, 0)) := by rw [hg2.block b hlt (fun e => hne e.symm)]; exact hbk
  have d0 : w2.cell? ⟨b, 0, none⟩ = some (.pointer (some ⟨b, 0, none⟩)) := by rw [Lib.cell_of_heap hb2]; rfl
  have d1 : w2.cell? ⟨b, 1, none⟩ = some v := by rw [Lib.cell_of_heap hb2]; rfl
  have f1 : w2.frozen? ⟨b, 1, none⟩ = false := Lib.frozen_of_heap hb2 1
  obtain ⟨ao, n', cap, rfl⟩ : ∃ ao n' cap, v2 = .slice ao n' cap := by
    rcases hown2.2 with ⟨hv, _⟩ | ⟨g, cap, cur, hv, _⟩
    · exact ⟨_, _, _, hv⟩
    · exact ⟨_, _, _, hv⟩
  have HR := hide hr2
  have HFR := hide hfr
  clear hr2 hown hown2 hg2 hat hnil2 hbk hfr hb2
  go_wp2_with (at_builtin; refine wpList_append_eq rfl _ _ _ _ rfl rfl rfl HR.out ?_)
  go_ret2
  exact ⟨rfl, _, HPUT.out.1, HFR.out.trans HPUT.out.2⟩

set_option maxHeartbeats 2000000 in
set_option maxRecDepth 100000 in
/-- What was written, where that is something. -/
theorem stringW_any (B b : Nat) (fv v : Value) (l : List UInt8) (w : World) (h : Wrt w B b fv (Lib.byteCells l) v) (h0 : l ≠ []) :
    Calls Tryz.prog 52 #[.pointer (some ⟨b, 0, none⟩)] w fun e w' => e = .returned (.string ⟨l.toArray⟩) ∧ Below B w w' := by
  obtain ⟨hB, ⟨p, hp, hbk⟩, hown⟩ := h
  have hl0 : l.length ≠ 0 := by simpa using h0
  rw [Lib.byteCells_length] at hown
  obtain ⟨g, cap, cur, rfl, hbg, hg, hnc, hcm, hcs, htake⟩ : ∃ g cap cur, v = .slice (some ⟨g, 0, none⟩) l.length cap ∧ B ≤ g ∧ w.heap[g]? = some (.cells cur 5 (0, 0)) ∧ l.length ≤ cap ∧ cap ≤ maxLen ∧ cur.size = cap * 1 ∧ cur.toList.take (l.length * 1) = Lib.byteCells l := by
    rcases hown.2 with ⟨_, hz⟩ | ⟨g, cap, cur, hv, r⟩
    · exact absurd hz hl0
    · exact ⟨g, cap, cur, hv, r⟩
  have c1 : w.drew.cell? ⟨b, 1, none⟩ = some (.slice (some ⟨g, 0, none⟩) l.length cap) := by
    have : w.drew.heap[b]? = some (.cells #[p, .slice (some ⟨g, 0, none⟩) l.length cap, fv] 85 (0, 0)) := hbk
    rw [Lib.cell_of_heap this]; rfl
  have hSD : (Builtin.unsafeSliceData_ #[81] 104 #[.slice (some ⟨g, 0, none⟩) l.length cap]).run Tryz.prog w.drew = .ok (.pointer (some ⟨g, 0, none⟩)) w.drew :=
    Lib.run_unsafeSliceData_row _ _ _ _ _ _ (by omega)
  have hUS : (Builtin.unsafeString_ #[104, 3] 9 #[.pointer (some ⟨g, 0, none⟩), .int .i64 l.length]).run Tryz.prog w.drew = .ok (.string ⟨l.toArray⟩) (w.drew.freeze ⟨g, 0, none⟩ l.length) := by
    refine Lib.run_unsafeString_row w.drew 104 3 9 5 Tryz.underlying104 (by kernel_rfl) g cur.size (by have hg' : w.drew.heap[g]? = some (.cells cur 5 (0, 0)) := hg; simp [World.shape?, hg']) l h0 (by omega) (by unfold maxLen at hcm; omega) ?_
    intro j x hx
    have := hown.cells (g := g) rfl j (.int .u8 x.toNat) (by simp [Lib.byteCells, hx])
    exact this
  have mixed : Tryz.prog.follows .mixedOrders = true := by kernel_rfl
  clear hown htake hg
  go_enter Tryz.func52, Tryz.ntmps52
  go_wp2
  go_region_o
  all_goals (go_wp2; go_ret; exact ⟨rfl, Lib.below_freeze (Below.drew (Below.refl B w)) (p := ⟨g, 0, none⟩) hbg _⟩)
end Go.Proofs.YtclobmmdlhianaaGreatDoor

/- Several texts in one. -/
import Derived.Test.YtfkjejpfhflanaaGreatDoorZTopWithoutOwn
import Derived.Lib.Builder
import Derived.Lib.AppendStr
import Derived.Deep.AppendSrc
import Derived.Test.YtfkjejpfhflanaaGreatDoorShelf
import Derived.Test.YtfkjejpfhflanaaGreatDoorZDTopWithoutOwn
import Derived.Test.YtfkjejpfhflanaaGreatDoorL4
import Derived.Laws.OwnMore
import Derived.Lib.AppendIntMem
import Derived.Lib.AtoiBound
import Derived.Lib.ItoaLen
import Derived.Test.YtfkjejpfhflanaaGreatDoorZCTopWithoutOwn
import Derived.RangeFuncNested
import Derived.RangeFuncBound
import Derived.RangeFuncCalls
import Derived.RangeFuncLeaves
import Derived.RangeFuncWrites
import Derived.Shelf.Abstract
import Derived.Shelf.RegionOpen
import Derived.OwnWalkIn
import Derived.TacticsInMore
import Derived.LoopNIn
import Derived.LoopIn
/- Walks: writing into a Builder, with all else as it was. -/
namespace Go.Proofs.YtfkjejpfhflanaaGreatDoor
open Go.RowKit
set_option linter.unusedSimpArgs false
set_option linter.unusedVariables false

theorem Tryz.infoByte : (Tryz.prog.info? 5).map (fun i => (i.zero, i.size, i.bytes)) = some (some (.int .u8 0), 1, 1) := by kernel_rfl
theorem Tryz.sizeBuilder : (Tryz.prog.info? 96).map (·.size) = some 2 := by kernel_rfl
/-- What a write leaves alone. -/
def BFr (w w' : World) (b : Nat) (v v' : Value) : Prop :=
  w'.os = w.os ∧ w'.tape = w.tape ∧ w'.output = w.output ∧ w.heap.size ≤ w'.heap.size ∧ (∀ k, k < w.heap.size → k ≠ b → some k ≠ v.ownBlock → w'.heap[k]? = w.heap[k]?) ∧ (∀ k, v'.ownBlock = some k → v.ownBlock = some k ∨ w.heap.size ≤ k)

theorem BFr.refl (w : World) (b : Nat) (v : Value) : BFr w w b v v := ⟨rfl, rfl, rfl, Nat.le_refl _, fun _ _ _ _ => rfl, fun _ h => Or.inl h⟩
theorem BFr.trans {w w1 w2 : World} {b : Nat} {v v1 v2 : Value} (h : BFr w w1 b v v1) (h1 : BFr w1 w2 b v1 v2) : BFr w w2 b v v2 := by
  obtain ⟨a1, a2, a3, a4, a5, a6⟩ := h
  obtain ⟨c1, c2, c3, c4, c5, c6⟩ := h1
  refine ⟨c1.trans a1, c2.trans a2, c3.trans a3, Nat.le_trans a4 c4, fun k hk hb hv => ?_, fun k hk => ?_⟩
  · refine (c5 k (Nat.lt_of_lt_of_le hk a4) hb (fun e => ?_)).trans (a5 k hk hb hv)
    rcases a6 k e.symm with h | h
    · exact hv h.symm
    · omega
  · rcases c6 k hk with h | h
    · exact a6 k h
    · exact Or.inr (Nat.le_trans a4 h)
theorem BFr.of_below {w w' : World} (hb : Below w.heap.size w w') (b : Nat) (v : Value) : BFr w w' b v v := ⟨hb.os, hb.tape, hb.output, hb.size, fun k hk _ _ => hb.block k hk, fun _ h => Or.inl h⟩

theorem bd_lt {w : World} {b : Nat} {o : Obj} (h : w.heap[b]? = some o) : b < w.heap.size := by
  apply Classical.byContradiction
  intro hn
  rw [Array.getElem?_eq_none (by omega)] at h; cases h

/-- Where the row lies behind an append of a text's bytes. -/
theorem str_at {w w' : World} {B : Nat} {v v' : Value} {n : Nat} {xs : List Value} {s : ByteArray} {ty : TypeId} (hown : w.ownsRow B 5 1 v n xs) (hsm : n + s.size ≤ 2000000000) (hr : (Builtin.append_ #[94, 9] ty #[v, .string s]).run Tryz.prog w = .ok v' w')
    (hnil : v' = .slice none 0 0 ↔ v = .slice none 0 0 ∧ s.size = 0) : ∀ k, v'.ownBlock = some k → v.ownBlock = some k ∨ w.heap.size ≤ k := by
  obtain ⟨i0, hi, hz0, hz1, hz2⟩ := info_parts Tryz.infoByte
  have hsrc : Src Tryz.prog i0.size 9 (.string s) s.size (byteCells s) w := by rw [hz1]; exact Src.ofString w Tryz.underlying9 s
  have hlx := hown.1
  intro k hk
  rcases hown.2 with ⟨rfl, rfl⟩ | ⟨g, cap, cur, rfl, hBg, hh, hnc, hcm, hcs, htk⟩
  · by_cases h0 : s.size = 0
    · have := hnil.2 ⟨rfl, h0⟩
      rw [this] at hk; cases hk
    · have hg := run_append_grow_src (P := Tryz.prog) w 94 9 ty 5 i0 (.int .u8 0) Tryz.underlying94 hi hz0 none 0 0 [] (by simpa using run_firstCells_none w.drew i0.size 0 0 0) (.string s) s.size (byteCells s) hsrc (by omega) (by omega) (by rw [hz2]; have := growslice_fits (need := 0 + s.size) (old := 0) (bytes := 1) (by omega) (by omega); omega)
      rw [hr] at hg
      simp only [Result.ok.injEq] at hg
      rw [hg.1] at hk
      simp [Value.ownBlock] at hk
      right; omega
  · by_cases hroom : n + s.size ≤ cap
    · have hc : ∀ j, j < (byteCells s).length → (w.cell? ⟨g, 0 + n * i0.size + j, none⟩).isSome = true := fun j hj => by
        rw [byteCells_length] at hj
        rw [Lib.cell_of_heap hh, hz1]
        simp; omega
      have hf : ∀ j, j < (byteCells s).length → w.frozen? ⟨g, 0 + n * i0.size + j, none⟩ = false := fun j hj => Lib.frozen_of_heap hh _
      have hg := run_append_room_src (P := Tryz.prog) w 94 9 ty 5 i0 Tryz.underlying94 hi g 0 n cap (.string s) s.size (byteCells s) hsrc hroom hc hf
      rw [hr] at hg
      simp only [Result.ok.injEq] at hg
      rw [hg.1] at hk
      simp [Value.ownBlock] at hk
      left; simp [Value.ownBlock, hk]
    · have hfc := run_firstCells_some (P := Tryz.prog) w.drew i0.size n ⟨g, 0, none⟩ n cap xs (by rw [hz1]; exact hlx) (fun j u hj => by have := hown.cells (g := g) rfl j u hj; simpa using this)
      have hg := run_append_grow_src (P := Tryz.prog) w 94 9 ty 5 i0 (.int .u8 0) Tryz.underlying94 hi hz0 (some ⟨g, 0, none⟩) n cap xs hfc (.string s) s.size (byteCells s) hsrc (by omega) (by omega) (by rw [hz2]; have := growslice_fits (need := n + s.size) (old := cap) (bytes := 1) (by omega) (by omega); omega)
      rw [hr] at hg
      simp only [Result.ok.injEq] at hg
      rw [hg.1] at hk
      simp [Value.ownBlock] at hk
      right; omega

end Go.Proofs.YtfkjejpfhflanaaGreatDoor

/- Walks: writing into a Builder that is part of a writer, with all else as it was. -/
namespace Go.Proofs.YtfkjejpfhflanaaGreatDoor
open Go.RowKit
set_option linter.unusedSimpArgs false
set_option linter.unusedVariables false

theorem Tryz.liesWriter : liesAt Tryz.prog Tryz.prog.depth 98 (3 / Tryz.prog.cellsOf 98) 0 96 1 = true := by kernel_rfl

/-- A writer in block b, its bytes in a row of its own. -/
def Wrt (w : World) (B b : Nat) (fv : Value) (bs : List Value) (v : Value) : Prop :=
  B ≤ b ∧ (∃ p, (p = .pointer none ∨ p = .pointer (some ⟨b, 0, none⟩)) ∧ w.heap[b]? = some (.cells #[p, v, fv] 98 (0, 0))) ∧ w.ownsRow B 5 1 v bs.length bs

theorem wt_ne {w : World} {B b : Nat} {fv : Value} {bs : List Value} {v : Value} (h : Wrt w B b fv bs v) : v.ownBlock ≠ some b := by
  obtain ⟨_, ⟨p, _, hb⟩, hown⟩ := h
  exact Lib.ownBlock_ne hown hb (by decide)

set_option maxHeartbeats 1000000 in
set_option maxRecDepth 100000 in
theorem copyCheckW_any (B b : Nat) (fv : Value) (bs : List Value) (v : Value) (w : World) (h : Wrt w B b fv bs v) :
    Calls Tryz.prog 109 #[.pointer (some ⟨b, 0, none⟩)] w fun e w' => e = .returned (.tuple #[]) ∧ w'.heap[b]? = some (.cells #[.pointer (some ⟨b, 0, none⟩), v, fv] 98 (0, 0)) ∧ w'.ownsRow B 5 1 v bs.length bs ∧ BFr w w' b v v := by
  obtain ⟨j, hj, hjs⟩ := Option.map_eq_some_iff.1 Tryz.sizeBuilder
  have hne := wt_ne h
  obtain ⟨hB, ⟨p, hp, hbk⟩, hown⟩ := h
  have h0 : w.cell? ⟨b, 0, none⟩ = some p := by rw [Lib.cell_of_heap hbk]; rfl
  have hsh : w.shape? b = some (98, 3) := by simp [World.shape?, hbk]
  have hfz : w.frozen? ⟨b, 0, none⟩ = false := Lib.frozen_of_heap hbk 0
  rcases hp with rfl | rfl
  · have HF : Hid ((w.setCell ⟨b, 0, none⟩ (.pointer (some ⟨b, 0, none⟩))).heap[b]? = some (.cells #[.pointer (some ⟨b, 0, none⟩), v, fv] 98 (0, 0)) ∧ (w.setCell ⟨b, 0, none⟩ (.pointer (some ⟨b, 0, none⟩))).ownsRow B 5 1 v bs.length bs ∧ BFr w (w.setCell ⟨b, 0, none⟩ (.pointer (some ⟨b, 0, none⟩))) b v v) := by
      refine ⟨by simp [World.setCell, Array.getElem?_modify, hbk], ?_, rfl, rfl, rfl, by simp [World.setCell], fun k hk hkb _ => Below.heap_setCell _ _ _ _ (by simpa using hkb), fun _ h => Or.inl h⟩
      refine hown.kept (w' := w.setCell ⟨b, 0, none⟩ (.pointer (some ⟨b, 0, none⟩))) (row := some b) ⟨rfl, rfl, rfl, by simp [World.setCell], fun k hk hkb => Below.heap_setCell _ _ _ _ (by simp at hkb; simpa using hkb)⟩ (Or.inr hne)
    have HOWN := hide hown
    clear hown
    go_enter Tryz.func109, Tryz.ntmps109
    go_wp2_with fail
    rw [Lib.run_to_unsafe w ⟨b, 0, none⟩ Tryz.underlying93 Tryz.underlying151 hj (by rw [hjs]; decide) hsh (Nat.zero_lt_succ 2)]
    simp only [Result.andThen]
    rw [Oper.upon_value]
    go_wp2_with fail
    rw [run_callFunc_extern Tryz.func120 (by kernel_rfl) (by kernel_rfl) (by kernel_rfl) (e := Extern.AbiNoEscape.same) (by kernel_rfl)]
    rw [Lib.run_noEscape]
    simp only [Result.andThen]
    rw [Oper.upon_value]
    go_wp2_with fail
    rw [Lib.run_from_unsafe w ⟨b, 0, none⟩ Tryz.underlying151 Tryz.underlying93 hj hsh Tryz.liesWriter]
    simp only [Result.andThen]
    rw [Oper.upon_value]
    go_wp2_with fail
    go_end0
    exact ⟨rfl, HF.out⟩
  · have HOWN := hide hown
    go_enter Tryz.func109, Tryz.ntmps109
    go_wp2_with fail
    rw [Lib.run_neq_ptr_same w _ Tryz.underlying93 hj]
    go_wp2_with fail
    go_end0
    exact ⟨rfl, hbk, HOWN.out, BFr.refl _ _ _⟩

/-- Behind an append and the store of its slice. -/
theorem wt_put {w w2 : World} {B b : Nat} {fv : Value} {bs bs' : List Value} {v v' : Value} (hB : B ≤ b) (hBw : B ≤ w.heap.size) (hbk : w.heap[b]? = some (.cells #[.pointer (some ⟨b, 0, none⟩), v, fv] 98 (0, 0))) (hown : w.ownsRow B 5 1 v bs.length bs) (hown' : w2.ownsRow B 5 1 v' bs'.length bs') (hg : w.grownBy w2 v.ownBlock)
    (hat : ∀ k, v'.ownBlock = some k → v.ownBlock = some k ∨ w.heap.size ≤ k) : Wrt (w2.setCell ⟨b, 1, none⟩ v') B b fv bs' v' ∧ BFr w (w2.setCell ⟨b, 1, none⟩ v') b v v' := by
  have hne : v.ownBlock ≠ some b := Lib.ownBlock_ne hown hbk (by decide)
  have hlt := bd_lt hbk
  have hb2 : w2.heap[b]? = some (.cells #[.pointer (some ⟨b, 0, none⟩), v, fv] 98 (0, 0)) := by rw [hg.block b hlt (fun e => hne e.symm)]; exact hbk
  have hne' : v'.ownBlock ≠ some b := Lib.ownBlock_ne hown' hb2 (by decide)
  refine ⟨⟨hB, ⟨_, Or.inr rfl, by simp [World.setCell, Array.getElem?_modify, hb2]⟩, ?_⟩, hg.os, hg.tape, hg.output, by simp [World.setCell]; exact hg.size, fun k hk hkb hv => ?_, hat⟩
  · exact hown'.kept (w' := w2.setCell ⟨b, 1, none⟩ v') (row := some b) ⟨rfl, rfl, rfl, by simp [World.setCell], fun k hk hkb => Below.heap_setCell _ _ _ _ (by simp at hkb; simpa using hkb)⟩ (Or.inr hne')
  · rw [Below.heap_setCell _ _ _ _ (by simpa using hkb)]; exact hg.block k hk hv

set_option maxHeartbeats 1000000 in
set_option maxRecDepth 100000 in
theorem writeByteW_any (B b : Nat) (fv : Value) (bs : List Value) (v : Value) (c : Int) (w : World) (h : Wrt w B b fv bs v) (hlen : bs.length ≤ 1000000000) (hBw : B ≤ w.heap.size) :
    Calls Tryz.prog 89 #[.pointer (some ⟨b, 0, none⟩), .int .u8 c] w fun e w' => e = .returned .nilIface ∧ ∃ v', Wrt w' B b fv (bs ++ [.int .u8 c]) v' ∧ BFr w w' b v v' := by
  obtain ⟨i0, hi, hz0, hz1, hz2⟩ := info_parts Tryz.infoByte
  have hB := h.1
  have H := hide h
  clear h
  go_enter Tryz.func89, Tryz.ntmps89
  go_wp2_with (go_at_call 109; refine (copyCheckW_any B b fv bs v _ H.out).mono ?_)
  rintro e w1 ⟨rfl, hbk, hown, hfr⟩
  have c0 : w1.cell? ⟨b, 0, none⟩ = some (.pointer (some ⟨b, 0, none⟩)) := by rw [Lib.cell_of_heap hbk]; rfl
  have c1 : w1.cell? ⟨b, 1, none⟩ = some v := by rw [Lib.cell_of_heap hbk]; rfl
  have hlt := bd_lt hbk
  have hne : v.ownBlock ≠ some b := Lib.ownBlock_ne hown hbk (by decide)
  have hBw1 : B ≤ w1.heap.size := Nat.le_trans hBw hfr.2.2.2.1
  obtain ⟨g, cap, w2, hr2, hown2, hg2, hat2, _⟩ := run_append_lies (P := Tryz.prog) (w := w1.alloc (.cells #[.int .u8 c] 5)) 94 94 B 5 i0 _ 1 1 Tryz.underlying94 hi hz0 hz1 hz2 rfl (by decide) v bs.length bs (hown.alloc _)
    ⟨w1.heap.size, 0, none⟩ 1 1 [.int .u8 c] rfl (cell_one_new _ _ _) (fun x hx => by simp at hx; subst hx; rfl) (by decide) (by unfold maxLen; omega) (by omega) (by simp; omega) _ rfl
  have hg3 : w1.grownBy w2 v.ownBlock := grown_trans (grown_of_below ((Below.refl _ _).alloc (Nat.le_refl _) _) v.ownBlock) hg2 (fun k hk => Or.inl hk)
  have HPUT := hide (wt_put (bs' := bs ++ [.int .u8 c]) hB hBw1 hbk hown (by simpa using hown2) hg3 (fun k hk => by
    simp [Value.ownBlock] at hk
    subst hk
    rcases hat2 with e | e
    · exact Or.inl e
    · right; simp at e; omega))
  have hb2 : w2.heap[b]? = some (.cells #[.pointer (some ⟨b, 0, none⟩), v, fv] 98 (0, 0)) := by rw [hg3.block b hlt (fun e => hne e.symm)]; exact hbk
  have d0 : w2.cell? ⟨b, 0, none⟩ = some (.pointer (some ⟨b, 0, none⟩)) := by rw [Lib.cell_of_heap hb2]; rfl
  have d1 : w2.cell? ⟨b, 1, none⟩ = some v := by rw [Lib.cell_of_heap hb2]; rfl
  have f1 : w2.frozen? ⟨b, 1, none⟩ = false := Lib.frozen_of_heap hb2 1
  have HR := hide hr2
  have HFR := hide hfr
  clear hr2 hown hown2 hg2 hg3 hat2 hbk hfr hb2
  go_wp2_with (at_builtin; refine wpList_append_eq rfl _ _ _ _ rfl rfl rfl HR.out ?_)
  go_ret
  exact ⟨rfl, _, HPUT.out.1, HFR.out.trans HPUT.out.2⟩

set_option maxHeartbeats 1000000 in
set_option maxRecDepth 100000 in
theorem writeStringW_any (B b : Nat) (fv : Value) (bs : List Value) (v : Value) (s : ByteArray) (w : World) (h : Wrt w B b fv bs v) (hlen : bs.length + s.size ≤ 1000000000) (hBw : B ≤ w.heap.size) :
    Calls Tryz.prog 87 #[.pointer (some ⟨b, 0, none⟩), .string s] w fun e w' => e = .returned (.tuple #[.int .i64 s.size, .nilIface]) ∧ ∃ v', Wrt w' B b fv (bs ++ Lib.strCells s) v' ∧ BFr w w' b v v' := by
  obtain ⟨i0, hi, hz0, hz1, hz2⟩ := info_parts Tryz.infoByte
  have hB := h.1
  have H := hide h
  clear h
  go_enter Tryz.func87, Tryz.ntmps87
  go_wp2_with (go_at_call 109; refine (copyCheckW_any B b fv bs v _ H.out).mono ?_)
  rintro e w1 ⟨rfl, hbk, hown, hfr⟩
  have c0 : w1.cell? ⟨b, 0, none⟩ = some (.pointer (some ⟨b, 0, none⟩)) := by rw [Lib.cell_of_heap hbk]; rfl
  have c1 : w1.cell? ⟨b, 1, none⟩ = some v := by rw [Lib.cell_of_heap hbk]; rfl
  have hlt := bd_lt hbk
  have hne : v.ownBlock ≠ some b := Lib.ownBlock_ne hown hbk (by decide)
  have hBw1 : B ≤ w1.heap.size := Nat.le_trans hBw hfr.2.2.2.1
  obtain ⟨v2, w2, hr2, hown2, hg2, hnil2⟩ := Lib.run_append_own_string (P := Tryz.prog) w1 B 94 9 94 5 i0 Tryz.underlying94 Tryz.underlying9 hi hz0 hz1 hz2 v bs.length bs hown s (by unfold maxLen; omega) (by omega) hBw1
  have hat := str_at hown (by omega) hr2 hnil2
  have HPUT := hide (wt_put (bs' := bs ++ Lib.strCells s) hB hBw1 hbk hown (by simpa [Lib.strCells_length] using hown2) hg2 hat)
  have hb2 : w2.heap[b]? = some (.cells #[.pointer (some ⟨b, 0, none⟩), v, fv] 98 (0, 0)) := by rw [hg2.block b hlt (fun e => hne e.symm)]; exact hbk
  have d0 : w2.cell? ⟨b, 0, none⟩ = some (.pointer (some ⟨b, 0, none⟩)) := by rw [Lib.cell_of_heap hb2]; rfl
  have d1 : w2.cell? ⟨b, 1, none⟩ = some v := by rw [Lib.cell_of_heap hb2]; rfl
  have f1 : w2.frozen? ⟨b, 1, none⟩ = false := Lib.frozen_of_heap hb2 1
  obtain ⟨ao, n', cap, rfl⟩ : ∃ ao n' cap, v2 = .slice ao n' cap := by
    rcases hown2.2 with ⟨hv, _⟩ | ⟨g, cap, cur, hv, _⟩
    · exact ⟨_, _, _, hv⟩
    · exact ⟨_, _, _, hv⟩
  have HR := hide hr2
  have HFR := hide hfr
  clear hr2 hown hown2 hg2 hat hnil2 hbk hfr hb2
  go_wp2_with (at_builtin; refine wpList_append_eq rfl _ _ _ _ rfl rfl rfl HR.out ?_)
  go_ret2
  exact ⟨rfl, _, HPUT.out.1, HFR.out.trans HPUT.out.2⟩

set_option maxHeartbeats 2000000 in
set_option maxRecDepth 100000 in
/-- What was written, where that is something. -/
theorem stringW_any (B b : Nat) (fv v : Value) (l : List UInt8) (w : World) (h : Wrt w B b fv (Lib.byteCells l) v) (h0 : l ≠ []) :
    Calls Tryz.prog 67 #[.pointer (some ⟨b, 0, none⟩)] w fun e w' => e = .returned (.string ⟨l.toArray⟩) ∧ Below B w w' := by
  obtain ⟨hB, ⟨p, hp, hbk⟩, hown⟩ := h
  have hl0 : l.length ≠ 0 := by simpa using h0
  rw [Lib.byteCells_length] at hown
  obtain ⟨g, cap, cur, rfl, hbg, hg, hnc, hcm, hcs, htake⟩ : ∃ g cap cur, v = .slice (some ⟨g, 0, none⟩) l.length cap ∧ B ≤ g ∧ w.heap[g]? = some (.cells cur 5 (0, 0)) ∧ l.length ≤ cap ∧ cap ≤ maxLen ∧ cur.size = cap * 1 ∧ cur.toList.take (l.length * 1) = Lib.byteCells l := by
    rcases hown.2 with ⟨_, hz⟩ | ⟨g, cap, cur, hv, r⟩
    · exact absurd hz hl0
    · exact ⟨g, cap, cur, hv, r⟩
  have c1 : w.drew.cell? ⟨b, 1, none⟩ = some (.slice (some ⟨g, 0, none⟩) l.length cap) := by
    have : w.drew.heap[b]? = some (.cells #[p, .slice (some ⟨g, 0, none⟩) l.length cap, fv] 98 (0, 0)) := hbk
    rw [Lib.cell_of_heap this]; rfl
  have hSD : (Builtin.unsafeSliceData_ #[94] 121 #[.slice (some ⟨g, 0, none⟩) l.length cap]).run Tryz.prog w.drew = .ok (.pointer (some ⟨g, 0, none⟩)) w.drew :=
    Lib.run_unsafeSliceData_row _ _ _ _ _ _ (by omega)
  have hUS : (Builtin.unsafeString_ #[121, 3] 9 #[.pointer (some ⟨g, 0, none⟩), .int .i64 l.length]).run Tryz.prog w.drew = .ok (.string ⟨l.toArray⟩) (w.drew.freeze ⟨g, 0, none⟩ l.length) := by
    refine Lib.run_unsafeString_row w.drew 121 3 9 5 Tryz.underlying121 (by kernel_rfl) g cur.size (by have hg' : w.drew.heap[g]? = some (.cells cur 5 (0, 0)) := hg; simp [World.shape?, hg']) l h0 (by omega) (by unfold maxLen at hcm; omega) ?_
    intro j x hx
    have := hown.cells (g := g) rfl j (.int .u8 x.toNat) (by simp [Lib.byteCells, hx])
    exact this
  have mixed : Tryz.prog.follows .mixedOrders = true := by kernel_rfl
  clear hown htake hg
  go_enter Tryz.func67, Tryz.ntmps67
  go_wp2
  go_region_o
  all_goals (go_wp2; go_ret; exact ⟨rfl, Lib.below_freeze (Below.drew (Below.refl B w)) (p := ⟨g, 0, none⟩) hbg _⟩)
end Go.Proofs.YtfkjejpfhflanaaGreatDoor


/- Walks: the text of a lambda term, as the document writes it. -/
namespace Go.Proofs.YtfkjejpfhflanaaGreatDoor
open Go.RowKit
set_option linter.unusedSimpArgs false
set_option linter.unusedVariables false
set_option maxRecDepth 8000

theorem cell_is {w w' : World} {p : Addr} {v : Value} (h : w.cell? p = some v) (hb : Below w.heap.size w w') : w'.cell? p = some v := by
  have hlt : p.block < w.heap.size := by
    apply Classical.byContradiction
    intro hn
    have : w.cell? p = none := by
      unfold World.cell?
      rw [Array.getElem?_eq_none (by omega)]
    rw [this] at h; cases h
  rw [hb.cell hlt]; exact h
theorem str_cat (a b : List UInt8) : (⟨a.toArray⟩ : ByteArray) ++ ⟨b.toArray⟩ = ⟨(a ++ b).toArray⟩ := by
  apply ByteArray.ext
  simp

end Go.Proofs.YtfkjejpfhflanaaGreatDoor

/- Walks: the text of a lambda term, as the program writes it. -/
namespace Go.Proofs.YtfkjejpfhflanaaGreatDoor
open Go.RowKit
set_option linter.unusedSimpArgs false
set_option linter.unusedVariables false
set_option maxRecDepth 8000

/-- The library's table of powers, whatever is done from block B on. -/
def Tb (B : Nat) (w : World) : Prop := Lib.TabBelow Tryz.prog B w "internal/strconv.uint64pow10" .u64 Lib.pow10Tab
theorem Tb.on {B : Nat} {w w1 : World} (h : Tb B w) (hb : Below B w w1) : Tb B w1 := Lib.TabBelow.on h hb
theorem Wrt.lt {w : World} {B b : Nat} {fv : Value} {bs : List Value} {v : Value} (h : Wrt w B b fv bs v) : b < w.heap.size := by
  obtain ⟨_, ⟨p, _, hb⟩, _⟩ := h
  exact bd_lt hb
theorem Wrt.later {w w' : World} {B b : Nat} {fv : Value} {bs : List Value} {v : Value} (h : Wrt w B b fv bs v) (hb : Below w.heap.size w w') : Wrt w' B b fv bs v := by
  have hlt := h.lt
  obtain ⟨hB, ⟨p, hp, hbk⟩, hown⟩ := h
  exact ⟨hB, ⟨p, hp, by rw [hb.block b hlt]; exact hbk⟩, hown.kept (row := some w.heap.size) ⟨hb.os, hb.tape, hb.output, hb.size, fun k hk _ => hb.block k hk⟩ (Or.inr fun e => by have := (hown.lt _ e).2; omega)⟩
theorem Wrt.alloc {w : World} {B b : Nat} {fv : Value} {bs : List Value} {v : Value} (h : Wrt w B b fv bs v) (o : Obj) : Wrt (w.alloc o) B b fv bs v := h.later ((Below.refl _ _).alloc (Nat.le_refl _) o)
theorem Wrt.cell {w : World} {B b : Nat} {fv : Value} {bs : List Value} {v : Value} (h : Wrt w B b fv bs v) : w.cell? ⟨b, 2, none⟩ = some fv := by
  obtain ⟨_, ⟨p, _, hb⟩, _⟩ := h
  rw [Lib.cell_of_heap hb]; rfl
theorem Wrt.fr {w w' : World} {B b : Nat} {fv : Value} {bs : List Value} {v v' : Value} (h : Wrt w B b fv bs v) (hf : BFr w w' b v v') (hB : B ≤ w.heap.size) : Below B w w' := by
  obtain ⟨f1, f2, f3, f4, f5, f6⟩ := hf
  refine ⟨f1, f2, f3, f4, fun k hk => f5 k (by omega) (by have := h.1; omega) (fun e => ?_)⟩
  have := (h.2.2.lt _ e.symm).1
  omega
theorem Wrt.box {w : World} {B b : Nat} {fv : Value} {bs : List Value} {v : Value} (h : Wrt w B b fv bs v) : w.heap.size ≠ b ∧ some w.heap.size ≠ v.ownBlock := by
  refine ⟨by have := h.lt; omega, fun e => ?_⟩
  have := (h.2.2.lt _ e.symm).2; omega
/-- A block of one's own, kept where something is written. -/
theorem blk_bfr {w w' : World} {b k T : Nat} {q q' : Value} {cs : Array Value} (h : Blk w k cs T) (hf : BFr w w' b q q') (hk : k ≠ b) (hq : some k ≠ q.ownBlock) : Blk w' k cs T := by
  unfold Blk at *; rw [hf.2.2.2.2.1 k (Blk.lt h) hk hq]; exact h
theorem own_bfr {w w' : World} {b k : Nat} {q q' : Value} (hf : BFr w w' b q q') (hk : k < w.heap.size) (hq : some k ≠ q.ownBlock) : some k ≠ q'.ownBlock := fun e => by
  rcases hf.2.2.2.2.2 _ e.symm with h1 | h1
  · exact hq h1.symm
  · omega
theorem MV.bfr {w w' : World} {X : Nat → Prop} {v : Value} {t : Lm} {B : Nat} (h : MV w X v t) (hb : Below B w w') (hX : ∀ x, X x → x < B) : MV w' X v t := h.below hb (fun b hb _ => hX b hb)
theorem LV.bfr {w w' : World} {Y : Nat → Prop} {v : Value} {l : List ByteArray} {B : Nat} (h : LV Value.string w Y v l) (hb : Below B w w') (hX : ∀ x, Y x → x < B) : LV Value.string w' Y v l := h.below hb (fun b hb _ => hX b hb)
theorem bc_str (pre : List UInt8) (s : ByteArray) : Lib.byteCells pre ++ Lib.strCells s = Lib.byteCells (pre ++ s.data.toList) := by simp [Lib.byteCells, Lib.strCells]
theorem bc_one (pre : List UInt8) (c : UInt8) : Lib.byteCells pre ++ [.int .u8 c.toNat] = Lib.byteCells (pre ++ [c]) := by simp [Lib.byteCells]

theorem itoa_any (n B : Nat) (hn : n ≤ 1000000) (w : World) (hT : Tb B w) : Calls Tryz.prog 33 #[.int .i64 n] w fun e w' => e = .returned (.string ⟨(Lib.decDigits n).toArray⟩) ∧ Below w.heap.size w w' := by
  refine (Tryz.strconv_Itoa n (by omega) (by omega) w hT.here).mono ?_
  rintro e w' ⟨rfl, k, os, rfl⟩
  refine ⟨?_, Lib.below_grow _ _ (Nat.le_refl _) _ _⟩
  have : Lib.itoa (n : Int) = Lib.decDigits n := by simp [Lib.itoa]
  rw [this]

set_option maxHeartbeats 1000000 in
theorem wname_any (fr : List ByteArray) (B b : Nat) (fa : Option Addr) (fc : Nat) (bs : List Value) (v : Value) (k : Int) (w : World) (Y : Nat → Prop) (h : Wrt w B b (.slice fa fr.length fc) bs v) (hf : LV Value.string w Y (.slice fa fr.length fc) fr) (hT : Tb B w) (hk0 : -(fr.length : Int) ≤ k) (hk1 : k ≤ 1000) (hl : fr.length ≤ 1000) :
    Calls Tryz.prog 88 #[.pointer (some ⟨b, 0, none⟩), .int .i64 k] w fun e w' => e = .returned (.string ⟨(nmAt fr k).toArray⟩) ∧ Below w.heap.size w w' := by
  have hc := h.cell
  by_cases hk : k < 0
  · obtain ⟨a2, c2, e2, ⟨_, hc2⟩, h3⟩ := hf
    simp at e2
    obtain ⟨rfl, rfl⟩ := e2
    obtain ⟨m, hm⟩ : ∃ m : Nat, (m : Int) = fr.length + k := ⟨(fr.length + k).toNat, by omega⟩
    have hml : m < fr.length := by omega
    obtain ⟨bn, on, rfl, hY, hcells⟩ := h3.resolve_left (fun h => by rw [h] at hml; simp at hml)
    have hcell := hcells m hml
    have HE : Hid ((fr[m]).data.toList = nmAt fr k) := by
      unfold Hid nmAt
      rw [if_pos hk, show ((fr.length : Int) + k).toNat = m from by omega, List.getElem?_eq_getElem hml]
      rfl
    generalize nmAt fr k = R at HE ⊢
    generalize fr[m] = S at HE hcell
    have hidx : (fr.length : Int) + k = (m : Int) := by omega
    have hidx2 : (m : Int) < (fr.length : Int) := by omega
    have hlI : (fr.length : Int) ≤ 1000 := by omega
    have dc : ∀ n, (w.drewN n).cell? ⟨b, 2, none⟩ = some (.slice (some ⟨bn, on, none⟩) fr.length fc) := fun n => hc
    have dm : ∀ n, (w.drewN n).cell? ⟨bn, on + m, none⟩ = some (.string S) := fun n => hcell
    clear hcells h3 hm hml h hT
    generalize fr.length = L at *
    go_enter Tryz.func88, Tryz.ntmps88
    go_wp2_with fail
    go_quiet (fail)
    go_wp2_with fail
    go_ret
    exact ⟨ret_strL (by rw [HE.out]), below_drewN (Below.refl _ _) _⟩
  · obtain ⟨m, rfl⟩ : ∃ m : Nat, k = (m : Int) := ⟨k.toNat, by omega⟩
    have HE : Hid (120 :: Lib.decDigits m = nmAt fr (m : Int)) := by unfold Hid nmAt; rw [if_neg hk]; simp
    generalize nmAt fr (m : Int) = R at HE ⊢
    have hdl : (Lib.decDigits m).length ≤ 1001 := by have := dec_len m; omega
    have HT := hide hT
    clear h hf hT
    go_enter Tryz.func88, Tryz.ntmps88
    go_wp2_with fail
    refine (itoa_any m B (by omega) _ HT.out).mono ?_
    rintro e w1 ⟨rfl, hb1⟩
    have HB1 := hide hb1
    clear hb1
    go_wp2_with fail
    go_ret
    exact ⟨ret_strL (by rw [← HE.out]; simp), HB1.out⟩

/-- What writing one lambda term does. -/
def WT (fr : List ByteArray) (t : Lm) : Prop := ∀ (d : Nat) (v q0 : Value) (pre : List UInt8) (B b : Nat) (fa : Option Addr) (fc : Nat) (w : World) (X Y : Nat → Prop), errM (fr.length + d) 0 [t] = 0 → d + sizeM [t] ≤ 500 → MV w X v t → (∀ x, X x → x < B) → LV Value.string w Y (.slice fa fr.length fc) fr → (∀ x, Y x → x < B) →
    Wrt w B b (.slice fa fr.length fc) (Lib.byteCells pre) q0 → B ≤ w.heap.size → Tb B w → pre.length + (ltx fr d t).length ≤ 900000000 →
    Calls Tryz.prog 66 #[.pointer (some ⟨b, 0, none⟩), v, .int .i64 d] w fun e w' => e = .returned (.tuple #[]) ∧ ∃ q, Wrt w' B b (.slice fa fr.length fc) (Lib.byteCells (pre ++ ltx fr d t)) q ∧ BFr w w' b q0 q

set_option maxHeartbeats 2000000 in
theorem wpiece_any (fr : List ByteArray) (t : Lm) (hwt : WT fr t) (br : Bool) : ∀ (d : Nat) (v q0 : Value) (pre : List UInt8) (B b : Nat) (fa : Option Addr) (fc : Nat) (w : World) (X Y : Nat → Prop), errM (fr.length + d) 0 [t] = 0 → d + sizeM [t] ≤ 500 → MV w X v t → (∀ x, X x → x < B) → LV Value.string w Y (.slice fa fr.length fc) fr → (∀ x, Y x → x < B) →
    Wrt w B b (.slice fa fr.length fc) (Lib.byteCells pre) q0 → B ≤ w.heap.size → Tb B w → pre.length + (brk br (ltx fr d t)).length ≤ 900000000 →
    Calls Tryz.prog 90 #[.pointer (some ⟨b, 0, none⟩), v, .int .i64 d, .bool br] w fun e w' => e = .returned (.tuple #[]) ∧ ∃ q, Wrt w' B b (.slice fa fr.length fc) (Lib.byteCells (pre ++ brk br (ltx fr d t))) q ∧ BFr w w' b q0 q := by
  intro d v q0 pre B b fa fc w X Y he hd hv hX hn hY hw hB hT hlen
  have HWT := hide hwt
  clear hwt
  obtain ⟨a, c, rfl, hs⟩ := hv
  have hv : MV w X (.agg #[.int .i64 t.kind, .int .i64 t.idx, .slice a t.subs.length c]) t := ⟨a, c, rfl, hs⟩
  have HV := hide hv
  have HN := hide hn
  have HT := hide hT
  have hbox := hw.box
  have K0 := hide (Blk.new w #[.int .i64 t.kind, .int .i64 t.idx, .slice a t.subs.length c] 25)
  have HB0 : Hid (Below w.heap.size w (w.alloc (.cells #[.int .i64 t.kind, .int .i64 t.idx, .slice a t.subs.length c] 25))) := (Below.refl _ _).alloc (Nat.le_refl _) _
  have HW0 := hide (hw.alloc (.cells #[.int .i64 t.kind, .int .i64 t.idx, .slice a t.subs.length c] 25))
  have HF0 := hide (BFr.of_below HB0.out b q0)
  clear hv hs hn hT hw
  have t0 : ∀ (w' : World), Blk w' w.heap.size #[.int .i64 t.kind, .int .i64 t.idx, .slice a t.subs.length c] 25 → w'.cell? ⟨w.heap.size, 0, none⟩ = some (.int .i64 t.kind) ∧ w'.cell? ⟨w.heap.size, 1, none⟩ = some (.int .i64 t.idx) ∧ w'.cell? ⟨w.heap.size, 2, none⟩ = some (.slice a t.subs.length c) := fun w' h => ⟨h.cell 0, h.cell 1, h.cell 2⟩
  have T0 := hide t0
  clear t0
  cases br with
  | false =>
    have HE : Hid (brk false (ltx fr d t) = ltx fr d t) := by unfold Hid brk; simp
    rw [HE.out] at hlen
    generalize brk false (ltx fr d t) = R at HE ⊢
    obtain ⟨k0, k1, k2⟩ := T0.out _ K0.out
    go_enter Tryz.func90, Tryz.ntmps90
    go_wp2_with fail
    refine (HWT.out d _ q0 pre B b fa fc _ X Y he hd (by exact HV.out.later HB0.out) hX (by exact HN.out.later HB0.out) hY (by exact HW0.out) (by simp; omega) (HT.out.on (HB0.out.mono hB)) hlen).mono ?_
    rintro e w1 ⟨rfl, q1, hw1, hf1⟩
    have HW1 := hide hw1
    have HF1 := hide (HF0.out.trans hf1)
    clear hw1 hf1
    go_wp2_with fail
    refine bodyPost_ret (v := .tuple #[]) (by simp [results, Tryz.results90, go_sem]) rfl ?_
    exact ⟨rfl, q1, by rw [HE.out]; exact HW1.out, HF1.out⟩
  | true =>
    have HE : Hid (brk true (ltx fr d t) = 40 :: (ltx fr d t ++ [41])) := by unfold Hid brk; simp
    rw [HE.out] at hlen
    simp only [List.length_cons, List.length_append, List.length_nil] at hlen
    generalize brk true (ltx fr d t) = R at HE ⊢
    go_enter Tryz.func90, Tryz.ntmps90
    go_wp2_with fail
    refine (writeByteW_any B b _ _ q0 40 _ (by exact HW0.out) (by rw [Lib.byteCells_length]; omega) (by simp; omega)).mono ?_
    rintro e w1 ⟨rfl, q1, hw1, hf1⟩
    have HW1 : Hid (Wrt w1 B b (.slice fa fr.length fc) (Lib.byteCells (pre ++ [40])) q1) := by unfold Hid; rw [← bc_one]; exact hw1
    have HB1 := hide ((HB0.out.mono hB).trans (HW0.out.fr hf1 (by simp; omega)))
    have K1 := hide (blk_bfr K0.out hf1 hbox.1 hbox.2)
    have ho1 := own_bfr hf1 K0.out.lt hbox.2
    have HF1 := hide (HF0.out.trans hf1)
    have hs1 := HB1.out.size
    clear hw1 hf1
    obtain ⟨k0, k1, k2⟩ := T0.out _ K1.out
    go_wp2_with fail
    refine (HWT.out d _ q1 (pre ++ [40]) B b fa fc _ X Y he hd (by exact HV.out.bfr HB1.out hX) hX (by exact HN.out.bfr HB1.out hY) hY (by exact HW1.out) (by omega) (HT.out.on HB1.out) (by simp; omega)).mono ?_
    rintro e w2 ⟨rfl, q2, hw2, hf2⟩
    have HW2 := hide hw2
    have HF2 := hide (HF1.out.trans hf2)
    have hs2 := (HW1.out.fr hf2 (by omega)).size
    clear hw2 hf2 k0 k1 k2
    go_wp2_with fail
    refine (writeByteW_any B b _ _ q2 41 _ (by exact HW2.out) (by rw [Lib.byteCells_length]; simp; omega) (by omega)).mono ?_
    rintro e w3 ⟨rfl, q3, hw3, hf3⟩
    have HW3 : Hid (Wrt w3 B b (.slice fa fr.length fc) (Lib.byteCells (pre ++ [40] ++ ltx fr d t ++ [41])) q3) := by unfold Hid; rw [← bc_one]; exact hw3
    have HF3 := hide (HF2.out.trans hf3)
    clear hw3 hf3
    go_wp2_with fail
    go_end0
    exact ⟨rfl, q3, by rw [HE.out]; simpa using HW3.out, HF3.out⟩
end Go.Proofs.YtfkjejpfhflanaaGreatDoor

/- A stub. -/

/- Walks: which names are constants'. -/
namespace Go.Proofs.YtfkjejpfhflanaaGreatDoor
open Go.RowKit
set_option linter.unusedSimpArgs false
set_option linter.unusedVariables false
set_option maxRecDepth 8000

def dec2 (k : Nat) : List UInt8 := if k < 10 then [UInt8.ofNat (48 + k)] else [UInt8.ofNat (48 + k / 10), UInt8.ofNat (48 + k % 10)]
theorem dec2_is {k : Nat} (h : k < 100) : Lib.decDigits k = dec2 k := by
  unfold dec2
  by_cases h1 : k < 10
  · rw [if_pos h1, dec_small h1]
  · rw [if_neg h1, dec_great h1, dec_small (n := k / 10) (by omega), dec_small (n := k % 10) (by omega)]
    rfl
theorem atoi_dec2 : ∀ k, k < 40 → Lib.atoi (dec2 k) = some (k : Int) := by decide
theorem dec2_inj : ∀ k, k < 40 → ∀ j, j < 40 → dec2 k = dec2 j → k = j := by decide

theorem conN_some {n : ByteArray} {k : Nat} (h : conN n = some k) : k < 40 ∧ n.data.toList = 99 :: Lib.decDigits k := by
  unfold conN at h
  have h1 := List.find?_some h
  have h2 := List.mem_of_find?_eq_some h
  exact ⟨by simpa using h2, by simpa using h1⟩
theorem conN_is {n : ByteArray} {k : Nat} (hk : k < 40) (h : n.data.toList = 99 :: Lib.decDigits k) : conN n = some k := by
  cases hc : conN n with
  | none =>
    unfold conN at hc
    rw [List.find?_eq_none] at hc
    exact absurd h (by simpa using hc k (by simpa using hk))
  | some j =>
    obtain ⟨h1, h2⟩ := conN_some hc
    rw [h2] at h
    simp only [List.cons.injEq, true_and] at h
    rw [dec2_is (by omega), dec2_is (by omega)] at h
    rw [dec2_inj j h1 k hk h]

/-- What the library tells of a name that is no number behind its first sign: an error that is there. -/
def Tse (B : Nat) (w : World) : Prop := ∃ tp p, ∀ w', Below B w w' → w'.var? Tryz.prog "strconv.ErrSyntax" = some #[.iface tp p]
theorem Tse.on {B : Nat} {w w1 : World} (h : Tse B w) (hb : Below B w w1) : Tse B w1 := by
  obtain ⟨tp, p, h⟩ := h
  exact ⟨tp, p, fun w' h' => h w' (hb.trans h')⟩
theorem Tse.raise {B B' : Nat} {w w' : World} (h : Tse B w) (hb : Below B w w') (hle : B ≤ B') : Tse B' w' := by
  obtain ⟨tp, p, h⟩ := h
  exact ⟨tp, p, fun w'' h2 => h w'' (hb.trans (h2.mono hle))⟩

theorem name_sz {s : ByteArray} (h : nameB s = true) : 1 ≤ s.size ∧ s.size ≤ 8 := by
  simp [nameB] at h
  omega
theorem tail_list (s : ByteArray) (h : 1 ≤ s.size) : ∃ c, s.data.toList = c :: (s.extract 1 s.size).data.toList := by
  have h1 : (s.extract 1 s.size).data.toList = s.data.toList.drop 1 := by
    rw [ByteArray.data_extract, Array.toList_extract]
    simp [List.extract]
    have : s.data.size = s.size := rfl
    rw [List.take_of_length_le (by simp)]
  rw [h1]
  cases hl : s.data.toList with
  | nil =>
    have : s.data.toList.length = s.size := by rw [Array.length_toList]; rfl
    rw [hl] at this; simp at this; omega
  | cons c r => exact ⟨c, by simp⟩

theorem con_tail {s : ByteArray} {c0 : UInt8} {k : Nat} (hc0 : s.data.toList = c0 :: (s.extract 1 s.size).data.toList) (h : conN s = some k) : Lib.atoi (s.extract 1 s.size).data.toList = some (k : Int) := by
  obtain ⟨h1, h2⟩ := conN_some h
  rw [hc0] at h2
  simp only [List.cons.injEq] at h2
  rw [h2.2, dec2_is (by omega)]
  exact atoi_dec2 k h1
theorem neg_name {s : ByteArray} (hn : nameB s = true) {r : List UInt8} (h : s.data.toList = 99 :: 45 :: r) : False := by
  have hz := name_sz hn
  have hl : s.size = s.data.toList.length := by rw [Array.length_toList]; rfl
  rw [h] at hl
  simp at hl
  have h1 : byteAt s 1 = 45 := by
    unfold byteAt
    rw [dif_pos (by omega)]
    have h2 : s[1]'(by omega) = 45 := by
      have h3 : s.data.toList[1]? = some 45 := by rw [h]; rfl
      rw [Array.getElem?_toList] at h3
      exact (Array.getElem?_eq_some_iff.1 h3).2
    rw [h2]; rfl
  simp [nameB] at hn
  have h4 := hn.2
  unfold alnTo at h4
  rw [List.all_eq_true] at h4
  have h5 := h4 1 (by simp; omega)
  rw [h1] at h5
  revert h5
  decide

set_option maxHeartbeats 1000000 in
theorem constant_any (s : ByteArray) (hn : nameB s = true) (B : Nat) (w : World) (hT : Tb B w) (hS : Tse B w) (hB : B ≤ w.heap.size) :
    Calls Tryz.prog 108 #[.string s] w fun e w' => (∃ n : Int, e = .returned (.tuple #[.int .i64 n, .bool (conN s).isSome]) ∧ ∀ k, conN s = some k → n = k) ∧ Below w.heap.size w w' := by
  have hz := name_sz hn
  obtain ⟨c0, hc0⟩ := tail_list s hz.1
  have hez : (s.extract 1 s.size).size ≤ 18 := by rw [ByteArray.size_extract]; omega
  have HT := hide hT
  have HS := hide hS
  have hsz : (1 : Int) ≤ (s.size : Int) := by omega
  go_enter Tryz.func108, Tryz.ntmps108
  go_wp2_with fail
  cases ha : Lib.atoi (s.extract 1 s.size).data.toList with
  | none =>
    have HC : Hid (conN s = none) := by
      cases hc : conN s with
      | none => rfl
      | some k => rw [con_tail hc0 hc] at ha; cases ha
    obtain ⟨tp, p, hvar⟩ := HS.out
    refine (Tryz.strconv_Atoi_err_var _ hez ha tp p _ (hvar _ (Below.refl _ _))).mono ?_
    rintro e w1 ⟨N, rfl, hN, hNb, hb1⟩
    have HB1 := hide hb1
    clear hb1 hNb hvar
    go_wp2_with fail
    go_ret2
    exact ⟨⟨0, by rw [HC.out]; rfl, fun k hk => by rw [HC.out] at hk; cases hk⟩, HB1.out⟩
  | some n =>
    have hbd := Lib.atoi_bound ha (by have : (s.extract 1 s.size).data.toList.length = (s.extract 1 s.size).size := by rw [Array.length_toList]; rfl
                                      omega)
    refine (Tryz.strconv_Atoi _ n hez ha _).mono ?_
    rintro e w1 ⟨rfl, t, hw1⟩
    have HB1 : Hid (Below w.heap.size w w1) := by unfold Hid; rw [hw1]; exact Lib.bytesWorld_below _ _ _
    clear hw1
    have HA := hide ha
    clear ha
    by_cases h40 : n < 40
    · have hit : (Lib.itoa n).length ≤ 1000 := by
        have := Lib.itoa_length_le n (by omega) (by omega)
        omega
      go_wp2_with fail
      refine (Tryz.strconv_Itoa n (by omega) (by omega) _ (HT.out.on (HB1.out.mono hB)).here).mono ?_
      rintro e w2 ⟨rfl, k2, os2, hw2⟩
      have HB2 : Hid (Below w.heap.size w w2) := by unfold Hid; rw [hw2]; exact HB1.out.trans (Lib.below_grow _ _ HB1.out.size _ _)
      clear hw2
      have hcat : (⟨#[99]⟩ : ByteArray) ++ ⟨(Lib.itoa n).toArray⟩ = ⟨(99 :: Lib.itoa n).toArray⟩ := str_cat [99] (Lib.itoa n)
      have HCE : Hid ((s.toList == 99 :: Lib.itoa n) = (conN s).isSome ∧ ∀ k, conN s = some k → n = k) := by
        refine ⟨?_, fun k hk => ?_⟩
        · rw [Bool.eq_iff_iff]
          constructor
          · intro h
            have h1 : s.toList = 99 :: Lib.itoa n := by simpa using h
            have h2 : s.data.toList = 99 :: Lib.itoa n := by rw [← ByteArray.toList_eq]; exact h1
            by_cases hneg : n < 0
            · rw [Lib.itoa, if_pos hneg] at h2
              exact (neg_name hn h2).elim
            · rw [Lib.itoa, if_neg hneg] at h2
              rw [conN_is (k := n.toNat) (by omega) h2]; rfl
          · intro h
            obtain ⟨k, hk⟩ := Option.isSome_iff_exists.1 h
            have h1 := con_tail hc0 hk
            rw [HA.out] at h1
            obtain ⟨h2, h3⟩ := conN_some hk
            have h4 : n = (k : Int) := Option.some.inj h1
            have h5 : s.toList = 99 :: Lib.itoa n := by rw [ByteArray.toList_eq, h3, h4]; simp [Lib.itoa]
            simpa using h5
        · have h1 := con_tail hc0 hk
          rw [HA.out] at h1
          exact Option.some.inj h1
      clear hc0
      go_wp2_with fail
      go_ret2
      exact ⟨⟨n, by rw [← HCE.out.1]; rfl, HCE.out.2⟩, HB2.out⟩
    · have HC : Hid (conN s = none) := by
        cases hc : conN s with
        | none => rfl
        | some k =>
          have h1 := con_tail hc0 hc
          rw [HA.out] at h1
          have h4 : n = (k : Int) := Option.some.inj h1
          have := (conN_some hc).1
          omega
      go_wp2_with fail
      go_ret2
      exact ⟨⟨n, by rw [HC.out]; rfl, fun k hk => by rw [HC.out] at hk; cases hk⟩, HB1.out⟩
end Go.Proofs.YtfkjejpfhflanaaGreatDoor

/- Walks: names gone through from the last on. -/
namespace Go.Proofs.YtfkjejpfhflanaaGreatDoor
open Go.RowKit Go.Shelf
attribute [local go_sem] Oper.semAt_some
set_option linter.unusedSimpArgs false
set_option linter.unusedVariables false
set_option maxRecDepth 8000

set_option maxHeartbeats 1000000 in
theorem backN_any (v : Value) (w : World) (hv : ∃ a k c, v = .slice a k c) :
    Calls Tryz.prog 107 #[v] w fun e w' => e = .returned (.func (.func 119) #[] #[.pointer (some ⟨w.heap.size, 0, none⟩)]) ∧ w' = w.alloc (.cells #[v] 65) := by
  obtain ⟨a, k, c, rfl⟩ := hv
  go_enter Tryz.func107, Tryz.ntmps107
  go_wp2_with fail
  go_ret
  exact ⟨rfl, rfl⟩

set_option maxHeartbeats 1000000 in
theorem back1N_any (nm : List ByteArray) (l Bn b o c : Nat) (a : Option Addr) (ha : nm = [] ∨ a = some ⟨b, o, none⟩) (hl : nm.length ≤ 1000000) (J : Nat → World → Prop) (Jx : World → Prop)
    (hJ : ∀ k W, J k W → W.cell? ⟨Bn, 0, none⟩ = some (.slice a nm.length c) ∧ ∀ i (h : i < nm.length), W.cell? ⟨b, o + i, none⟩ = some (.string nm[i]))
    (hY : ∀ n k (hk : k < nm.length) W, J (k + 1) W → YieldAt Fence.wide n Tryz.prog l #[.int .i64 (k : Int), .string nm[k]] W fun e W' => ∃ s, e = .returned (.bool s) ∧ ((s = true ∧ J k W') ∨ (s = false ∧ Jx W')))
    (W : World) (h0 : J nm.length W) :
    Calls Tryz.prog 119 #[.func (.yield l) #[] #[], .pointer (some ⟨Bn, 0, none⟩)] W fun e W' => (∃ v, e = .returned v) ∧ (J 0 W' ∨ Jx W') := by
  have HJ := hide hJ
  have HY := hide hY
  clear hJ hY
  have c0 := (HJ.out _ _ h0).1
  refine (callsIn_wide (n := 3)).1 ?_
  refine callsIn_of_wp Tryz.func119 rfl trivial ?_ rfl
  simp only [Tryz.ntmps119, List.size_toArray, List.length_cons, List.length_nil, Nat.reduceAdd, Nat.reduceSub, Array.replicate_succ, Array.replicate_zero, List.push_toArray, List.append_toArray, List.nil_append, List.cons_append]
  gi_wp2
  gi_loopw [3] (fun i wr => ∃ k : Nat, k ≤ nm.length ∧ i = .int .i64 ((k : Int) - 1) ∧ J k wr) (fun i wr => (intOf i + 1).toNat)
  case atStart => exact ⟨nm.length, Nat.le_refl _, by go_num, h0⟩
  case round =>
    obtain ⟨k, hk, rfl, hJk⟩ := hrel
    cases k with
    | zero =>
      gi_wp2
      go_end0
      exact ⟨⟨_, rfl⟩, .inl hJk⟩
    | succ k =>
      have hkk : ((k + 1 : Nat) : Int) - 1 = k := by omega
      rw [hkk]
      obtain rfl : a = some ⟨b, o, none⟩ := ha.resolve_left (fun e => by rw [e] at hk; simp at hk)
      obtain ⟨d0, d1⟩ := HJ.out _ _ hJk
      have d2 := d1 k (by omega)
      have hkl : (k : Int) < (nm.length : Int) := by omega
      obtain ⟨fn, tmps, assign, body, hy, hR⟩ := HY.out 2 k (by omega) wr hJk
      obtain ⟨x, hx⟩ : ∃ x, nm[k] = x := ⟨_, rfl⟩
      simp only [hx] at d2 hy
      clear d1 hx
      gi_wp2
      refine hR.mono ?_
      rintro e W3 ⟨s3, rfl, (⟨rfl, hJ3⟩ | ⟨rfl, hJx3⟩)⟩
      · gi_wp2
        go_roundw
        case rel => exact ⟨k, by omega, by go_num, hJ3⟩
        case measure => simp [intOf]
      · gi_wp2
        refine bodyPost_ret (results_none rfl _ _ _) rfl ?_
        exact ⟨⟨_, rfl⟩, .inr hJx3⟩
end Go.Proofs.YtfkjejpfhflanaaGreatDoor

/- Walks: writing into a Builder, with all else as it was. -/
import Derived.Test.YtdencaekailmcaaZTopSomeOwn
import Derived.Lib.Builder
import Derived.Lib.AppendStr
import Derived.Deep.AppendSrc
namespace Go.Proofs.Ytdencaekailmcaa
open Go.RowKit
set_option linter.unusedSimpArgs false
set_option linter.unusedVariables false

theorem Try.infoByte : (Try.prog.info? 5).map (fun i => (i.zero, i.size, i.bytes)) = some (some (.int .u8 0), 1, 1) := by kernel_rfl
theorem Try.sizeBuilder : (Try.prog.info? 99).map (·.size) = some 2 := by kernel_rfl
theorem Try.liesBuilder : liesAt Try.prog Try.prog.depth 99 (2 / Try.prog.cellsOf 99) 0 99 1 = true := by kernel_rfl

/-- A Builder in block b, its bytes in a row of its own. -/
def Bld (w : World) (B b : Nat) (bs : List Value) (v : Value) : Prop :=
  B ≤ b ∧ (∃ p, (p = .pointer none ∨ p = .pointer (some ⟨b, 0, none⟩)) ∧ w.heap[b]? = some (.cells #[p, v] 99 (0, 0))) ∧ w.ownsRow B 5 1 v bs.length bs

/-- What a write leaves alone. -/
def BFr (w w' : World) (b : Nat) (v v' : Value) : Prop :=
  w'.os = w.os ∧ w'.tape = w.tape ∧ w'.output = w.output ∧ w.heap.size ≤ w'.heap.size ∧ (∀ k, k < w.heap.size → k ≠ b → some k ≠ v.ownBlock → w'.heap[k]? = w.heap[k]?) ∧ (∀ k, v'.ownBlock = some k → v.ownBlock = some k ∨ w.heap.size ≤ k)

theorem BFr.refl (w : World) (b : Nat) (v : Value) : BFr w w b v v := ⟨rfl, rfl, rfl, Nat.le_refl _, fun _ _ _ _ => rfl, fun _ h => Or.inl h⟩
theorem BFr.trans {w w1 w2 : World} {b : Nat} {v v1 v2 : Value} (h : BFr w w1 b v v1) (h1 : BFr w1 w2 b v1 v2) : BFr w w2 b v v2 := by
  obtain ⟨a1, a2, a3, a4, a5, a6⟩ := h
  obtain ⟨c1, c2, c3, c4, c5, c6⟩ := h1
  refine ⟨c1.trans a1, c2.trans a2, c3.trans a3, Nat.le_trans a4 c4, fun k hk hb hv => ?_, fun k hk => ?_⟩
  · refine (c5 k (Nat.lt_of_lt_of_le hk a4) hb (fun e => ?_)).trans (a5 k hk hb hv)
    rcases a6 k e.symm with h | h
    · exact hv h.symm
    · omega
  · rcases c6 k hk with h | h
    · exact a6 k h
    · exact Or.inr (Nat.le_trans a4 h)
theorem BFr.of_below {w w' : World} (hb : Below w.heap.size w w') (b : Nat) (v : Value) : BFr w w' b v v := ⟨hb.os, hb.tape, hb.output, hb.size, fun k hk _ _ => hb.block k hk, fun _ h => Or.inl h⟩

theorem bd_ne {w : World} {B b : Nat} {bs : List Value} {v : Value} (h : Bld w B b bs v) : v.ownBlock ≠ some b := by
  obtain ⟨_, ⟨p, _, hb⟩, hown⟩ := h
  exact Lib.ownBlock_ne hown hb (by decide)

set_option maxHeartbeats 1000000 in
set_option maxRecDepth 100000 in
theorem copyCheck_any (B b : Nat) (bs : List Value) (v : Value) (w : World) (h : Bld w B b bs v) :
    Calls Try.prog 65 #[.pointer (some ⟨b, 0, none⟩)] w fun e w' => e = .returned (.tuple #[]) ∧ w'.heap[b]? = some (.cells #[.pointer (some ⟨b, 0, none⟩), v] 99 (0, 0)) ∧ w'.ownsRow B 5 1 v bs.length bs ∧ BFr w w' b v v := by
  obtain ⟨j, hj, hjs⟩ := Option.map_eq_some_iff.1 Try.sizeBuilder
  have hne := bd_ne h
  obtain ⟨hB, ⟨p, hp, hbk⟩, hown⟩ := h
  have h0 : w.cell? ⟨b, 0, none⟩ = some p := by rw [Lib.cell_of_heap hbk]; rfl
  have hsh : w.shape? b = some (99, 2) := by simp [World.shape?, hbk]
  have hfz : w.frozen? ⟨b, 0, none⟩ = false := Lib.frozen_of_heap hbk 0
  rcases hp with rfl | rfl
  · have HF : Hid ((w.setCell ⟨b, 0, none⟩ (.pointer (some ⟨b, 0, none⟩))).heap[b]? = some (.cells #[.pointer (some ⟨b, 0, none⟩), v] 99 (0, 0)) ∧ (w.setCell ⟨b, 0, none⟩ (.pointer (some ⟨b, 0, none⟩))).ownsRow B 5 1 v bs.length bs ∧ BFr w (w.setCell ⟨b, 0, none⟩ (.pointer (some ⟨b, 0, none⟩))) b v v) := by
      refine ⟨by simp [World.setCell, Array.getElem?_modify, hbk], ?_, rfl, rfl, rfl, by simp [World.setCell], fun k hk hkb _ => Below.heap_setCell _ _ _ _ (by simpa using hkb), fun _ h => Or.inl h⟩
      refine hown.kept (w' := w.setCell ⟨b, 0, none⟩ (.pointer (some ⟨b, 0, none⟩))) (row := some b) ⟨rfl, rfl, rfl, by simp [World.setCell], fun k hk hkb => Below.heap_setCell _ _ _ _ (by simp at hkb; simpa using hkb)⟩ (Or.inr hne)
    have HOWN := hide hown
    clear hown
    go_enter Try.func65, Try.ntmps65
    go_wp2_with fail
    rw [Lib.run_to_unsafe w ⟨b, 0, none⟩ Try.underlying96 Try.underlying108 hj (by rw [hjs]; decide) hsh (Nat.zero_lt_succ 1)]
    simp only [Result.andThen]
    rw [Oper.upon_value]
    go_wp2_with fail
    rw [run_callFunc_extern Try.func66 (by kernel_rfl) (by kernel_rfl) (by kernel_rfl) (e := Extern.AbiNoEscape.same) (by kernel_rfl)]
    rw [Lib.run_noEscape]
    simp only [Result.andThen]
    rw [Oper.upon_value]
    go_wp2_with fail
    rw [Lib.run_from_unsafe w ⟨b, 0, none⟩ Try.underlying108 Try.underlying96 hj hsh Try.liesBuilder]
    simp only [Result.andThen]
    rw [Oper.upon_value]
    go_wp2_with fail
    go_end0
    exact ⟨rfl, HF.out⟩
  · have HOWN := hide hown
    go_enter Try.func65, Try.ntmps65
    go_wp2_with fail
    rw [Lib.run_neq_ptr_same w _ Try.underlying96 hj]
    go_wp2_with fail
    go_end0
    exact ⟨rfl, hbk, HOWN.out, BFr.refl _ _ _⟩

theorem bd_lt {w : World} {b : Nat} {o : Obj} (h : w.heap[b]? = some o) : b < w.heap.size := by
  apply Classical.byContradiction
  intro hn
  rw [Array.getElem?_eq_none (by omega)] at h; cases h

/-- Behind an append and the store of its slice. -/
theorem bd_put {w w2 : World} {B b : Nat} {bs bs' : List Value} {v v' : Value} (hB : B ≤ b) (hBw : B ≤ w.heap.size) (hbk : w.heap[b]? = some (.cells #[.pointer (some ⟨b, 0, none⟩), v] 99 (0, 0))) (hown : w.ownsRow B 5 1 v bs.length bs) (hown' : w2.ownsRow B 5 1 v' bs'.length bs') (hg : w.grownBy w2 v.ownBlock)
    (hat : ∀ k, v'.ownBlock = some k → v.ownBlock = some k ∨ w.heap.size ≤ k) : Bld (w2.setCell ⟨b, 1, none⟩ v') B b bs' v' ∧ BFr w (w2.setCell ⟨b, 1, none⟩ v') b v v' := by
  have hne : v.ownBlock ≠ some b := Lib.ownBlock_ne hown hbk (by decide)
  have hlt := bd_lt hbk
  have hb2 : w2.heap[b]? = some (.cells #[.pointer (some ⟨b, 0, none⟩), v] 99 (0, 0)) := by rw [hg.block b hlt (fun e => hne e.symm)]; exact hbk
  have hne' : v'.ownBlock ≠ some b := Lib.ownBlock_ne hown' hb2 (by decide)
  refine ⟨⟨hB, ⟨_, Or.inr rfl, by simp [World.setCell, Array.getElem?_modify, hb2]⟩, ?_⟩, hg.os, hg.tape, hg.output, by simp [World.setCell]; exact hg.size, fun k hk hkb hv => ?_, hat⟩
  · exact hown'.kept (w' := w2.setCell ⟨b, 1, none⟩ v') (row := some b) ⟨rfl, rfl, rfl, by simp [World.setCell], fun k hk hkb => Below.heap_setCell _ _ _ _ (by simp at hkb; simpa using hkb)⟩ (Or.inr hne')
  · rw [Below.heap_setCell _ _ _ _ (by simpa using hkb)]; exact hg.block k hk hv

/-- Where the row lies behind an append of a text's bytes. -/
theorem str_at {w w' : World} {B : Nat} {v v' : Value} {n : Nat} {xs : List Value} {s : ByteArray} {ty : TypeId} (hown : w.ownsRow B 5 1 v n xs) (hsm : n + s.size ≤ 2000000000) (hr : (Builtin.append_ #[97, 9] ty #[v, .string s]).run Try.prog w = .ok v' w')
    (hnil : v' = .slice none 0 0 ↔ v = .slice none 0 0 ∧ s.size = 0) : ∀ k, v'.ownBlock = some k → v.ownBlock = some k ∨ w.heap.size ≤ k := by
  obtain ⟨i0, hi, hz0, hz1, hz2⟩ := info_parts Try.infoByte
  have hsrc : Src Try.prog i0.size 9 (.string s) s.size (byteCells s) w := by rw [hz1]; exact Src.ofString w Try.underlying9 s
  have hlx := hown.1
  intro k hk
  rcases hown.2 with ⟨rfl, rfl⟩ | ⟨g, cap, cur, rfl, hBg, hh, hnc, hcm, hcs, htk⟩
  · by_cases h0 : s.size = 0
    · have := hnil.2 ⟨rfl, h0⟩
      rw [this] at hk; cases hk
    · have hg := run_append_grow_src (P := Try.prog) w 97 9 ty 5 i0 (.int .u8 0) Try.underlying97 hi hz0 none 0 0 [] (by simpa using run_firstCells_none w.drew i0.size 0 0 0) (.string s) s.size (byteCells s) hsrc (by omega) (by omega) (by rw [hz2]; have := growslice_fits (need := 0 + s.size) (old := 0) (bytes := 1) (by omega) (by omega); omega)
      rw [hr] at hg
      simp only [Result.ok.injEq] at hg
      rw [hg.1] at hk
      simp [Value.ownBlock] at hk
      right; omega
  · by_cases hroom : n + s.size ≤ cap
    · have hc : ∀ j, j < (byteCells s).length → (w.cell? ⟨g, 0 + n * i0.size + j, none⟩).isSome = true := fun j hj => by
        rw [byteCells_length] at hj
        rw [Lib.cell_of_heap hh, hz1]
        simp; omega
      have hf : ∀ j, j < (byteCells s).length → w.frozen? ⟨g, 0 + n * i0.size + j, none⟩ = false := fun j hj => Lib.frozen_of_heap hh _
      have hg := run_append_room_src (P := Try.prog) w 97 9 ty 5 i0 Try.underlying97 hi g 0 n cap (.string s) s.size (byteCells s) hsrc hroom hc hf
      rw [hr] at hg
      simp only [Result.ok.injEq] at hg
      rw [hg.1] at hk
      simp [Value.ownBlock] at hk
      left; simp [Value.ownBlock, hk]
    · have hfc := run_firstCells_some (P := Try.prog) w.drew i0.size n ⟨g, 0, none⟩ n cap xs (by rw [hz1]; exact hlx) (fun j u hj => by have := hown.cells (g := g) rfl j u hj; simpa using this)
      have hg := run_append_grow_src (P := Try.prog) w 97 9 ty 5 i0 (.int .u8 0) Try.underlying97 hi hz0 (some ⟨g, 0, none⟩) n cap xs hfc (.string s) s.size (byteCells s) hsrc (by omega) (by omega) (by rw [hz2]; have := growslice_fits (need := n + s.size) (old := cap) (bytes := 1) (by omega) (by omega); omega)
      rw [hr] at hg
      simp only [Result.ok.injEq] at hg
      rw [hg.1] at hk
      simp [Value.ownBlock] at hk
      right; omega

set_option maxHeartbeats 1000000 in
set_option maxRecDepth 100000 in
theorem writeByte_any (B b : Nat) (bs : List Value) (v : Value) (c : Int) (w : World) (h : Bld w B b bs v) (hlen : bs.length ≤ 1000000000) (hBw : B ≤ w.heap.size) :
    Calls Try.prog 64 #[.pointer (some ⟨b, 0, none⟩), .int .u8 c] w fun e w' => e = .returned .nilIface ∧ ∃ v', Bld w' B b (bs ++ [.int .u8 c]) v' ∧ BFr w w' b v v' := by
  obtain ⟨i0, hi, hz0, hz1, hz2⟩ := info_parts Try.infoByte
  have hB := h.1
  have H := hide h
  clear h
  go_enter Try.func64, Try.ntmps64
  go_wp2_with (go_at_call 65; refine (copyCheck_any B b bs v _ H.out).mono ?_)
  rintro e w1 ⟨rfl, hbk, hown, hfr⟩
  have c0 : w1.cell? ⟨b, 0, none⟩ = some (.pointer (some ⟨b, 0, none⟩)) := by rw [Lib.cell_of_heap hbk]; rfl
  have c1 : w1.cell? ⟨b, 1, none⟩ = some v := by rw [Lib.cell_of_heap hbk]; rfl
  have hlt := bd_lt hbk
  have hne : v.ownBlock ≠ some b := Lib.ownBlock_ne hown hbk (by decide)
  have hBw1 : B ≤ w1.heap.size := Nat.le_trans hBw hfr.2.2.2.1
  obtain ⟨g, cap, w2, hr2, hown2, hg2, hat2, _⟩ := run_append_lies (P := Try.prog) (w := w1.alloc (.cells #[.int .u8 c] 5)) 97 97 B 5 i0 _ 1 1 Try.underlying97 hi hz0 hz1 hz2 rfl (by decide) v bs.length bs (hown.alloc _)
    ⟨w1.heap.size, 0, none⟩ 1 1 [.int .u8 c] rfl (cell_one_new _ _ _) (fun x hx => by simp at hx; subst hx; rfl) (by decide) (by unfold maxLen; omega) (by omega) (by simp; omega) _ rfl
  have hg3 : w1.grownBy w2 v.ownBlock := grown_trans (grown_of_below ((Below.refl _ _).alloc (Nat.le_refl _) _) v.ownBlock) hg2 (fun k hk => Or.inl hk)
  have HPUT := hide (bd_put (bs' := bs ++ [.int .u8 c]) hB hBw1 hbk hown (by simpa using hown2) hg3 (fun k hk => by
    simp [Value.ownBlock] at hk
    subst hk
    rcases hat2 with e | e
    · exact Or.inl e
    · right; simp at e; omega))
  have hb2 : w2.heap[b]? = some (.cells #[.pointer (some ⟨b, 0, none⟩), v] 99 (0, 0)) := by rw [hg3.block b hlt (fun e => hne e.symm)]; exact hbk
  have d0 : w2.cell? ⟨b, 0, none⟩ = some (.pointer (some ⟨b, 0, none⟩)) := by rw [Lib.cell_of_heap hb2]; rfl
  have d1 : w2.cell? ⟨b, 1, none⟩ = some v := by rw [Lib.cell_of_heap hb2]; rfl
  have f1 : w2.frozen? ⟨b, 1, none⟩ = false := Lib.frozen_of_heap hb2 1
  have HR := hide hr2
  have HFR := hide hfr
  clear hr2 hown hown2 hg2 hg3 hat2 hbk hfr hb2
  go_wp2_with (at_builtin; refine wpList_append_eq rfl _ _ _ _ rfl rfl rfl HR.out ?_)
  go_ret
  exact ⟨rfl, _, HPUT.out.1, HFR.out.trans HPUT.out.2⟩

set_option maxHeartbeats 1000000 in
set_option maxRecDepth 100000 in
theorem writeString_any (B b : Nat) (bs : List Value) (v : Value) (s : ByteArray) (w : World) (h : Bld w B b bs v) (hlen : bs.length + s.size ≤ 1000000000) (hBw : B ≤ w.heap.size) :
    Calls Try.prog 63 #[.pointer (some ⟨b, 0, none⟩), .string s] w fun e w' => e = .returned (.tuple #[.int .i64 s.size, .nilIface]) ∧ ∃ v', Bld w' B b (bs ++ Lib.strCells s) v' ∧ BFr w w' b v v' := by
  obtain ⟨i0, hi, hz0, hz1, hz2⟩ := info_parts Try.infoByte
  have hB := h.1
  have H := hide h
  clear h
  go_enter Try.func63, Try.ntmps63
  go_wp2_with (go_at_call 65; refine (copyCheck_any B b bs v _ H.out).mono ?_)
  rintro e w1 ⟨rfl, hbk, hown, hfr⟩
  have c0 : w1.cell? ⟨b, 0, none⟩ = some (.pointer (some ⟨b, 0, none⟩)) := by rw [Lib.cell_of_heap hbk]; rfl
  have c1 : w1.cell? ⟨b, 1, none⟩ = some v := by rw [Lib.cell_of_heap hbk]; rfl
  have hlt := bd_lt hbk
  have hne : v.ownBlock ≠ some b := Lib.ownBlock_ne hown hbk (by decide)
  have hBw1 : B ≤ w1.heap.size := Nat.le_trans hBw hfr.2.2.2.1
  obtain ⟨v2, w2, hr2, hown2, hg2, hnil2⟩ := Lib.run_append_own_string (P := Try.prog) w1 B 97 9 97 5 i0 Try.underlying97 Try.underlying9 hi hz0 hz1 hz2 v bs.length bs hown s (by unfold maxLen; omega) (by omega) hBw1
  have hat := str_at hown (by omega) hr2 hnil2
  have HPUT := hide (bd_put (bs' := bs ++ Lib.strCells s) hB hBw1 hbk hown (by simpa [Lib.strCells_length] using hown2) hg2 hat)
  have hb2 : w2.heap[b]? = some (.cells #[.pointer (some ⟨b, 0, none⟩), v] 99 (0, 0)) := by rw [hg2.block b hlt (fun e => hne e.symm)]; exact hbk
  have d0 : w2.cell? ⟨b, 0, none⟩ = some (.pointer (some ⟨b, 0, none⟩)) := by rw [Lib.cell_of_heap hb2]; rfl
  have d1 : w2.cell? ⟨b, 1, none⟩ = some v := by rw [Lib.cell_of_heap hb2]; rfl
  have f1 : w2.frozen? ⟨b, 1, none⟩ = false := Lib.frozen_of_heap hb2 1
  obtain ⟨ao, n', cap, rfl⟩ : ∃ ao n' cap, v2 = .slice ao n' cap := by
    rcases hown2.2 with ⟨hv, _⟩ | ⟨g, cap, cur, hv, _⟩
    · exact ⟨_, _, _, hv⟩
    · exact ⟨_, _, _, hv⟩
  have HR := hide hr2
  have HFR := hide hfr
  clear hr2 hown hown2 hg2 hat hnil2 hbk hfr hb2
  go_wp2_with (at_builtin; refine wpList_append_eq rfl _ _ _ _ rfl rfl rfl HR.out ?_)
  go_ret2
  exact ⟨rfl, _, HPUT.out.1, HFR.out.trans HPUT.out.2⟩
end Go.Proofs.Ytdencaekailmcaa

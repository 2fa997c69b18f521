/- Walks: writing into a Builder, with all else as it was. -/
import Derived.Test.YtclobmmdlhianaaGreatDoorZTopSubstitutionOwn
import Derived.Lib.Builder
import Derived.Lib.AppendStr
import Derived.Deep.AppendSrc
namespace Go.Proofs.YtclobmmdlhianaaGreatDoor
open Go.RowKit
set_option linter.unusedSimpArgs false
set_option linter.unusedVariables false

theorem Tryz.infoByte : (Tryz.prog.info? 5).map (fun i => (i.zero, i.size, i.bytes)) = some (some (.int .u8 0), 1, 1) := by kernel_rfl
theorem Tryz.sizeBuilder : (Tryz.prog.info? 83).map (·.size) = some 2 := by kernel_rfl
/-- What a write leaves alone. -/
def BFr (w w' : World) (b : Nat) (v v' : Value) : Prop :=
  w'.os = w.os ∧ w'.tape = w.tape ∧ w'.output = w.output ∧ w.heap.size ≤ w'.heap.size ∧ (∀ k, k < w.heap.size → k ≠ b → some k ≠ v.ownBlock → w'.heap[k]? = w.heap[k]?) ∧ (∀ k, v'.ownBlock = some k → v.ownBlock = some k ∨ w.heap.size ≤ k)

theorem BFr.refl (w : World) (b : Nat) (v : Value) : BFr w w b v v := ⟨rfl, rfl, rfl, Nat.le_refl _, fun _ _ _ _ => rfl, fun _ h => Or.inl h⟩
theorem BFr.trans {w w1 w2 : World} {b : Nat} {v v1 v2 : Value} (h : BFr w w1 b v v1) (h1 : BFr w1 w2 b v1 v2) : BFr w w2 b v v2 := by
  obtain ⟨a1, a2, a3, a4, a5, a6⟩ := h
  obtain ⟨c1, c2, c3, c4, c5, c6⟩ := h1
  refine ⟨c1.trans a1, c2.trans a2, c3.trans a3, Nat.le_trans a4 c4, fun k hk hb hv => ?_, fun k hk => ?_⟩
  · refine (c5 k (Nat.lt_of_lt_of_le hk a4) hb (fun e => ?_)).trans (a5 k hk hb hv)
    rcases a6 k e.symm with h | h
    · exact hv h.symm
    · omega
  · rcases c6 k hk with h | h
    · exact a6 k h
    · exact Or.inr (Nat.le_trans a4 h)
theorem BFr.of_below {w w' : World} (hb : Below w.heap.size w w') (b : Nat) (v : Value) : BFr w w' b v v := ⟨hb.os, hb.tape, hb.output, hb.size, fun k hk _ _ => hb.block k hk, fun _ h => Or.inl h⟩

theorem bd_lt {w : World} {b : Nat} {o : Obj} (h : w.heap[b]? = some o) : b < w.heap.size := by
  apply Classical.byContradiction
  intro hn
  rw [Array.getElem?_eq_none (by omega)] at h; cases h

/-- Where the row lies behind an append of a text's bytes. -/
theorem str_at {w w' : World} {B : Nat} {v v' : Value} {n : Nat} {xs : List Value} {s : ByteArray} {ty : TypeId} (hown : w.ownsRow B 5 1 v n xs) (hsm : n + s.size ≤ 2000000000) (hr : (Builtin.append_ #[81, 9] ty #[v, .string s]).run Tryz.prog w = .ok v' w')
    (hnil : v' = .slice none 0 0 ↔ v = .slice none 0 0 ∧ s.size = 0) : ∀ k, v'.ownBlock = some k → v.ownBlock = some k ∨ w.heap.size ≤ k := by
  obtain ⟨i0, hi, hz0, hz1, hz2⟩ := info_parts Tryz.infoByte
  have hsrc : Src Tryz.prog i0.size 9 (.string s) s.size (byteCells s) w := by rw [hz1]; exact Src.ofString w Tryz.underlying9 s
  have hlx := hown.1
  intro k hk
  rcases hown.2 with ⟨rfl, rfl⟩ | ⟨g, cap, cur, rfl, hBg, hh, hnc, hcm, hcs, htk⟩
  · by_cases h0 : s.size = 0
    · have := hnil.2 ⟨rfl, h0⟩
      rw [this] at hk; cases hk
    · have hg := run_append_grow_src (P := Tryz.prog) w 81 9 ty 5 i0 (.int .u8 0) Tryz.underlying81 hi hz0 none 0 0 [] (by simpa using run_firstCells_none w.drew i0.size 0 0 0) (.string s) s.size (byteCells s) hsrc (by omega) (by omega) (by rw [hz2]; have := growslice_fits (need := 0 + s.size) (old := 0) (bytes := 1) (by omega) (by omega); omega)
      rw [hr] at hg
      simp only [Result.ok.injEq] at hg
      rw [hg.1] at hk
      simp [Value.ownBlock] at hk
      right; omega
  · by_cases hroom : n + s.size ≤ cap
    · have hc : ∀ j, j < (byteCells s).length → (w.cell? ⟨g, 0 + n * i0.size + j, none⟩).isSome = true := fun j hj => by
        rw [byteCells_length] at hj
        rw [Lib.cell_of_heap hh, hz1]
        simp; omega
      have hf : ∀ j, j < (byteCells s).length → w.frozen? ⟨g, 0 + n * i0.size + j, none⟩ = false := fun j hj => Lib.frozen_of_heap hh _
      have hg := run_append_room_src (P := Tryz.prog) w 81 9 ty 5 i0 Tryz.underlying81 hi g 0 n cap (.string s) s.size (byteCells s) hsrc hroom hc hf
      rw [hr] at hg
      simp only [Result.ok.injEq] at hg
      rw [hg.1] at hk
      simp [Value.ownBlock] at hk
      left; simp [Value.ownBlock, hk]
    · have hfc := run_firstCells_some (P := Tryz.prog) w.drew i0.size n ⟨g, 0, none⟩ n cap xs (by rw [hz1]; exact hlx) (fun j u hj => by have := hown.cells (g := g) rfl j u hj; simpa using this)
      have hg := run_append_grow_src (P := Tryz.prog) w 81 9 ty 5 i0 (.int .u8 0) Tryz.underlying81 hi hz0 (some ⟨g, 0, none⟩) n cap xs hfc (.string s) s.size (byteCells s) hsrc (by omega) (by omega) (by rw [hz2]; have := growslice_fits (need := n + s.size) (old := cap) (bytes := 1) (by omega) (by omega); omega)
      rw [hr] at hg
      simp only [Result.ok.injEq] at hg
      rw [hg.1] at hk
      simp [Value.ownBlock] at hk
      right; omega

end Go.Proofs.YtclobmmdlhianaaGreatDoor

/- Maps by symbols, and the table of moves by symbols, in memory. -/
import Derived.Test.YtfodgmnnjgcpgaaAv1
import Derived.Test.YtfodgmnnjgcpgaaZAutoKindsOwn
import Derived.DeepKeys3
import Derived.WideKeyPair
namespace Go.Proofs.Ytfodgmnnjgcpgaa
open Go.RowKit
open Go.WideMaps
set_option linter.unusedSimpArgs false
set_option linter.unusedVariables false
set_option maxRecDepth 8000

abbrev Sy := ByteArray × Nat
def symV (s : Sy) : Value := .agg #[.string s.1, .int .i64 (s.2 : Int)]
def SyOk (s : Sy) : Prop := s.1.size ≤ 1000000 ∧ s.2 ≤ 1000000
theorem symV_inj {p q : Sy} (h : symV p = symV q) : p = q := by
  obtain ⟨a, b⟩ := p
  obtain ⟨c, d⟩ := q
  simp [symV] at h
  obtain ⟨h1, h2⟩ := h
  have e2 : b = d := by omega
  rw [h1, e2]
theorem symLaw : KeyLaw Try.prog 94 := deep_law (m := 3) (by omega) (by kernel_rfl) (by kernel_rfl) (by kernel_rfl)
theorem sym_keyType : Try.prog.keyType 94 = true := by kernel_rfl
theorem sym_typesPos : ∃ m, Try.prog.types.size = m + 2 := ⟨Try.prog.types.size - 2, by kernel_rfl⟩
theorem sym_cells : Try.prog.cellsOf 94 = 2 := by kernel_rfl
theorem sym_cells1 : Try.prog.cellsOf 9 = 1 := by kernel_rfl
theorem sym_cells2 : Try.prog.cellsOf 3 = 1 := by kernel_rfl
theorem sym_key {s : Sy} (h : SyOk s) : ∃ l, keyOf Try.prog 94 (symV s) = some l := by
  obtain ⟨h1, h2⟩ := h
  obtain ⟨m, hm⟩ := sym_typesPos
  have hw : (Lit.int .i64 (s.2 : Int)).wf = true := by simp [Lit.wf, IntKind.min, IntKind.max, IntKind.signed, IntKind.bits]; omega
  unfold keyOf
  simp only [Try.underlying94]
  rw [if_pos (by simp [sym_keyType, symV, Value.formed, Try.underlying94, sym_cells]), hm]
  unfold Program.keyLits
  simp only [Try.underlying94, Value.cells, symV]
  rw [if_pos (by rw [sym_cells]; exact ⟨rfl, by kernel_rfl⟩)]
  have hsz : s.1.size ≤ maxLen := by unfold maxLen; omega
  simp [sym_cells1, sym_cells2, Program.keyLits, Try.underlying9, Try.underlying3, hw, hsz]
/-- Symbols and their numbers. -/
def MapY (w : World) (r : Nat) (L : List Sy) : Prop :=
  ∃ es clk, w.heap[r]? = some (.map es clk) ∧ es.toList.map (fun e => (e.key, e.val)) = (L.zipIdx).map (fun p => (symV p.1, Value.int .i64 (p.2 : Int))) ∧ ∀ s ∈ L, SyOk s
theorem MapY.new (w : World) : MapY (w.alloc (.map #[] 0)) w.heap.size [] := ⟨#[], 0, heap_alloc_new w _, by simp, by simp⟩
theorem MapY.lt {w : World} {r : Nat} {L : List Sy} (h : MapY w r L) : r < w.heap.size := by
  obtain ⟨es, clk, h, _⟩ := h
  exact (Array.getElem?_eq_some_iff.1 h).1
theorem MapY.kept {w w' : World} {r : Nat} {L : List Sy} (h : MapY w r L) (hk : w'.heap[r]? = w.heap[r]?) : MapY w' r L := by
  obtain ⟨es, clk, h1, h2⟩ := h
  exact ⟨es, clk, hk.trans h1, h2⟩
theorem MapY.entry {L : List Sy} {es : Array MapEntry} (h : es.toList.map (fun e => (e.key, e.val)) = (L.zipIdx).map (fun p => (symV p.1, Value.int .i64 (p.2 : Int)))) {j : Nat} {x : MapEntry} (hj : es.toList[j]? = some x) : ∃ (hl : j < L.length), x.key = symV L[j] ∧ x.val = .int .i64 (j : Int) := by
  have h1 := congrArg (fun l => l[j]?) h
  simp only [List.getElem?_map, hj, Option.map_some, List.getElem?_zipIdx] at h1
  cases hl : L[j]? with
  | none => rw [hl] at h1; simp at h1
  | some s =>
    rw [hl] at h1
    simp at h1
    obtain ⟨hj2, e⟩ := List.getElem?_eq_some_iff.1 hl
    refine ⟨hj2, ?_, ?_⟩
    · rw [h1.1, e]
    · rw [h1.2]
theorem run_lookY {w : World} {r : Nat} {L : List Sy} (h : MapY w r L) (s : Sy) (hs : SyOk s) :
    (∃ (i : Nat) (hi : i < L.length), L[i] = s ∧ (Instr.lookup 64 (.map (some r)) (symV s) true).run Try.prog w = .ok (.tuple #[.int .i64 (i : Int), .bool true]) w) ∨ (s ∉ L ∧ (Instr.lookup 64 (.map (some r)) (symV s) true).run Try.prog w = .ok (.tuple #[.int .i64 0, .bool false]) w) := by
  obtain ⟨es, clk, hb, hes, hok⟩ := h
  obtain ⟨l, hl⟩ := sym_key hs
  have hc := fun b => symLaw.check w b hl
  have hz : (zeroValue 3).run Try.prog w = .ok (.int .i64 0) w := by kernel_rfl
  have hall : ∀ x ∈ es.toList, ∃ l, keyOf Try.prog 94 x.key = some l := fun x hx => by
    obtain ⟨j, hj⟩ := List.getElem?_of_mem hx
    obtain ⟨hl, hk, _⟩ := MapY.entry hes hj
    rw [hk]; exact sym_key (hok _ (List.getElem_mem hl))
  rcases symLaw.find w hl es.toList hall with ⟨hf, hno⟩ | ⟨j, x, hf, hj, hx⟩
  · refine Or.inr ⟨fun hm => ?_, ?_⟩
    · obtain ⟨i, hi, e⟩ := List.getElem_of_mem hm
      have h1 := congrArg List.length hes
      simp at h1
      have hi2 : i < es.toList.length := by simpa [h1] using hi
      obtain ⟨hl2, hk, _⟩ := MapY.entry hes (List.getElem?_eq_getElem hi2)
      exact hno _ (List.getElem_mem hi2) (by rw [hk, e])
    · simp [Instr.lookup, run_underlying Try.underlying64, MapKept.run_getObj_map hb, hc, hf, Result.andThen, hz]
  · obtain ⟨hl2, hk, hv⟩ := MapY.entry hes hj
    refine Or.inl ⟨j, hl2, symV_inj (hk.symm.trans hx), ?_⟩
    simp [Instr.lookup, run_underlying Try.underlying64, MapKept.run_getObj_map hb, hc, hf, Result.andThen, hv]
theorem run_putY {w : World} {r : Nat} {L : List Sy} (h : MapY w r L) (s : Sy) (hs : SyOk s) (hn : s ∉ L) :
    ∃ w', (Instr.mapUpdate 64 (.map (some r)) (symV s) (.int .i64 (L.length : Int))).run Try.prog w = .ok () w' ∧ MapY w' r (L ++ [s]) ∧ w'.heap.size = w.heap.size ∧ w'.os = w.os ∧ w'.tape = w.tape ∧ w'.output = w.output ∧ (∀ b, b ≠ r → w'.heap[b]? = w.heap[b]?) := by
  obtain ⟨es, clk, hb, hes, hok⟩ := h
  obtain ⟨l, hl⟩ := sym_key hs
  have hc := fun b => symLaw.check w b hl
  have hall : ∀ x ∈ es.toList, ∃ l, keyOf Try.prog 94 x.key = some l := fun x hx => by
    obtain ⟨j, hj⟩ := List.getElem?_of_mem hx
    obtain ⟨hl, hk, _⟩ := MapY.entry hes hj
    rw [hk]; exact sym_key (hok _ (List.getElem_mem hl))
  rcases symLaw.find w hl es.toList hall with ⟨hf, _⟩ | ⟨j, x, hf, hj, hx⟩
  · refine ⟨{ w with heap := w.heap.setIfInBounds r (.map (es.push { key := symV s, val := .int .i64 (L.length : Int), born := clk }) (clk + 1)) }, ?_, ⟨_, _, (MapKept.heap_set hb).1, ?_, fun y hy => ?_⟩, by simp, rfl, rfl, rfl, fun b hne => (MapKept.heap_set hb).2 b hne⟩
    · simp [Instr.mapUpdate, run_underlying Try.underlying64, MapKept.run_getObj_map hb, hc, hf, MapKept.run_setObj_map _ hb, Result.andThen]
    · rw [Array.toList_push, List.map_append, hes, List.zipIdx_append, List.map_append]
      simp
    · rcases List.mem_append.1 hy with hy | hy
      · exact hok y hy
      · have e : y = s := by simpa using hy
        rw [e]; exact hs
  · obtain ⟨hl2, hk, hv⟩ := MapY.entry hes hj
    exact absurd (symV_inj (hk.symm.trans hx) ▸ List.getElem_mem hl2) hn
end Go.Proofs.Ytfodgmnnjgcpgaa

/- Memory and plain: what is to be joined. -/
import Derived.Test.YtdmaijmglblccaaGreatDoorKl10
namespace Go.Proofs.YtdmaijmglblccaaGreatDoor
open Go.RowKit
set_option linter.unusedSimpArgs false
set_option linter.unusedVariables false
set_option maxRecDepth 8000

def pL : List (Nat × Nat) → List Value
  | [] => []
  | p :: r => iV p.1 :: iV p.2 :: pL r
theorem pL_len : ∀ l : List (Nat × Nat), (pL l).length = l.length * 2
  | [] => rfl
  | p :: r => by simp only [pL, List.length_cons, pL_len r]; omega
theorem pL_app : ∀ a b : List (Nat × Nat), pL (a ++ b) = pL a ++ pL b
  | [], b => rfl
  | p :: r, b => by simp [pL, pL_app r b]
theorem Tryz.infoPairI : (Tryz.prog.info? 81).map (fun i => (i.zero, i.size, i.bytes)) = some (some (.agg #[.int .i64 0, .int .i64 0]), 2, 16) := by kernel_rfl
/-- One more that is to be done. -/
theorem app_todo {N B r : Nat} {X : Nat → Prop} {w : World} {o : Nat → Oid} {k : Kl} {m : Km} (h : KlAt N B r X w o k m) {v : Value} {td : List (Nat × Nat)} (hv : Rwo w N o eX 81 2 v td.length (pL td)) (hnX : ∀ b, v.ownBlock = some b → ¬ X b) (hl : td.length ≤ 2000000) (a b : Nat) :
    ∃ g cap w3 o', (Builtin.append_ #[79, 79] 79 #[v, .slice (some ⟨w.heap.size, 0, none⟩) 1 1]).run Tryz.prog (w.alloc (.cells #[iV a, iV b] 81)) = .ok (.slice (some ⟨g, 0, none⟩) (td.length + 1) cap) w3 ∧
      Rwo w3 N o' eX 81 2 (.slice (some ⟨g, 0, none⟩) (td.length + 1) cap) (td ++ [(a, b)]).length (pL (td ++ [(a, b)])) ∧ KlAt N B r X w3 o' k m ∧ (v.ownBlock = some g ∨ w.heap.size ≤ g) ∧
      (w3.os = w.os ∧ w3.tape = w.tape ∧ w3.output = w.output ∧ w.heap.size ≤ w3.heap.size) ∧ (∀ b, b < w.heap.size → v.ownBlock ≠ some b → w3.heap[b]? = w.heap[b]?) ∧ ∀ b, b < w.heap.size → o' b = o b := by
  obtain ⟨i0, hi, hz0, hz1, hz2⟩ := info_parts Tryz.infoPairI
  obtain ⟨g, cap, w3, hr, ho, hg, hat, _⟩ := run_append_lies (P := Tryz.prog) (w := w.alloc (.cells #[iV a, iV b] 81)) 79 79 N 81 i0 _ 2 16 Tryz.underlying79 hi hz0 hz1 hz2 rfl (by decide) v td.length (pL td) (hv.1.alloc _) ⟨w.heap.size, 0, none⟩ 1 1 [iV a, iV b] rfl (World.news_of_block (cs := #[iV a, iV b]) (heap_alloc_new w _)) (by simp [Value.oneCell']) (by omega) (by unfold maxLen; omega) (by omega) (by have := h.nN; simp; omega) _ rfl
  have hblk : ∀ b, b < w.heap.size → v.ownBlock ≠ some b → w3.heap[b]? = w.heap[b]? := fun b hb hne => by rw [hg.block b (by simp; omega) (fun e => hne e.symm), Below.heap_alloc _ _ _ hb]
  have hsz : w.heap.size ≤ w3.heap.size := Nat.le_trans (by simp) hg.size
  have hoo : ∀ b, b < w.heap.size → upN o w.heap.size b = o b := fun b hb => upN_lt hb
  refine ⟨g, cap, w3, upN o w.heap.size, hr, ⟨by rw [pL_app, List.length_append]; exact ho, fun b hb => ?_⟩, h.mv hsz fun b hb hor => ⟨hblk b hb fun e => ?_, hoo b hb⟩, ?_, ⟨hg.os, hg.tape, hg.output, hsz⟩, hblk, hoo⟩
  · have e : g = b := by simpa [Value.ownBlock] using hb
    subst e
    rcases hat with e | e
    · rw [upN_lt (hv.1.lt g e).2]; exact hv.2 g e
    · rw [World.size_alloc] at e; exact upN_ge (by omega)
  · rcases hor with hne | hx
    · exact hne (hv.2 b e)
    · exact hnX b e hx
  · rcases hat with e | e
    · exact Or.inl e
    · rw [World.size_alloc] at e; exact Or.inr (by omega)
/-- The last one. -/
theorem todo_last {w : World} {N : Nat} {o : Nat → Oid} {id : Oid} {v : Value} {td : List (Nat × Nat)} {a b : Nat} (h : Rwo w N o id 81 2 v (td ++ [(a, b)]).length (pL (td ++ [(a, b)]))) : ∃ g cap, v = .slice (some ⟨g, 0, none⟩) (td.length + 1) cap ∧ w.cell? ⟨g, td.length * 2, none⟩ = some (iV a) ∧ w.cell? ⟨g, td.length * 2 + 1, none⟩ = some (iV b) ∧ td.length + 1 ≤ cap ∧ Rwo w N o id 81 2 (.slice (some ⟨g, 0, none⟩) td.length cap) td.length (pL td) := by
  rw [List.length_append, List.length_singleton, pL_app] at h
  obtain ⟨g, cap, rfl, hg, hlt⟩ := h.1.form (by omega)
  have hx := pL_len td
  refine ⟨g, cap, rfl, ?_, ?_, ?_, ⟨ownsRow_pop (by rw [hx]) h.1, fun b hb => h.2 b hb⟩⟩
  · rw [h.1.cellAt (td.length * 2) (by omega), List.getElem?_append_right (by omega), hx, Nat.sub_self]; rfl
  · rw [h.1.cellAt (td.length * 2 + 1) (by omega), List.getElem?_append_right (by omega), hx, show td.length * 2 + 1 - td.length * 2 = 1 by omega]; rfl
  · rcases h.1.2 with ⟨h0, _⟩ | ⟨g', cap', cur, hv, _, _, hle, _⟩
    · cases h0
    · cases hv; exact hle
theorem todo_pop (g n cap : Nat) (hn : n + 1 ≤ cap) (w' : World) : Sem.run Tryz.prog (Instr.slice 79 (.slice (some ⟨g, 0, none⟩) (n + 1) cap) none (some (.int .i64 (n : Int))) none) w' = .ok (.slice (some ⟨g, 0, none⟩) n cap) w' := by
  rw [run_slice_h (P := Tryz.prog) (ht := Tryz.underlying79) (h0 := by omega) (h2 := by omega)]
  simp [go_sem, sliced]
/-- What is to be done is none of the classes'. -/
theorem KlAt.relT {N B r : Nat} {X : Nat → Prop} {w : World} {o : Nat → Oid} {k : Kl} {m : Km} (h : KlAt N B r X w o k m) {v : Value} (hv : ∀ b, v.ownBlock = some b → o b = (11, 0)) : KlAt N B r X w (upV o v eX) k m := by
  have oth : ∀ {id : Oid} {T e : Nat} {u : Value} {n : Nat} {xs : List Value}, Rwo w N o id T e u n xs → id ≠ (11, 0) → Rwo w N (upV o v eX) id T e u n xs := fun hh hne => hh.other hv hne
  have one : ∀ b, o b ≠ (11, 0) → upV o v eX b = o b := fun b hb => upV_no fun e => hb (hv b e)
  exact ⟨h.box, h.map, h.nB, h.nr, h.nN, (one B (by rw [h.oB]; simp)).trans h.oB, (one r (by rw [h.oR]; simp)).trans h.oR, oth h.r0 (by simp), h.ts, h.tx, fun b hb => ⟨(h.hX b hb).1, (one b (by rw [(h.hX b hb).2]; simp)).trans (h.hX b hb).2⟩, oth h.r1 (by simp), oth h.r2 (by simp), oth h.r3 (by simp), oth h.r4 (by simp), h.l1, h.l3, h.l4, fun j hj => oth (h.i1 j hj) (by simp), fun j hj => oth (h.i3 j hj) (by simp), fun j hj => oth (h.i4 j hj) (by simp)⟩
theorem drop_ne {l : List Nat} {q x : Nat} (h : q < l.length) (hx : x ∈ l.drop q) (hne : x ≠ l[q]) : x ∈ l.drop (q + 1) := by
  rw [List.drop_eq_getElem_cons h] at hx
  rcases List.mem_cons.1 hx with e | e
  · exact absurd e hne
  · exact e
theorem cnt_le (k : Kl) : k.cnt ≤ k.ts.length := by
  unfold Kl.cnt
  have := List.length_filter_le (fun c => !(k.M c).isEmpty) (List.range k.ts.length)
  simpa using this
/-- A term's symbol, and those right below it, in memory. -/
theorem KlAt.ts_at {N B r : Nat} {X : Nat → Prop} {w : World} {o : Nat → Oid} {k : Kl} {m : Km} (h : KlAt N B r X w o k m) {i : Nat} (hi : i < k.ts.length) : ∃ g0 c0 a c, m.v0 = .slice (some ⟨g0, 0, none⟩) m.cs.length c0 ∧ w.cell? ⟨B, 0, none⟩ = some (.slice (some ⟨g0, 0, none⟩) m.cs.length c0) ∧ w.cell? ⟨g0, i * 2, none⟩ = some (.string (k.T i).name) ∧ w.cell? ⟨g0, i * 2 + 1, none⟩ = some (.slice a (k.T i).args.length c) ∧ Sl w X a (k.T i).args ∧ m.cs.length = k.ts.length := by
  have hz : m.cs.length = k.ts.length := by rw [← h.ts]; simp
  have h0 := h.r0
  obtain ⟨g, cap, hv, hg, hlt⟩ := h0.1.form (by omega)
  have hic : i < m.cs.length := by omega
  obtain ⟨f1, f2⟩ := flatT_get m.cs i hic
  have eT : m.cs[i].1 = k.T i := by
    unfold Kl.T
    rw [gd_get hi]
    have : (m.cs.map (·.1))[i]'(by simpa using hic) = k.ts[i] := by congr 1; exact h.ts
    simpa using this
  rw [hv] at h0
  have hx := flatT_len m.cs
  refine ⟨g, cap, m.cs[i].2.1, m.cs[i].2.2, hv, by rw [h.box.cell]; simp [hv], ?_, ?_, ?_, hz⟩
  · rw [h0.1.cellAt (i * 2) (by omega), f1, eT]
  · rw [h0.1.cellAt (i * 2 + 1) (by omega), f2, eT]
  · rw [← eT]; exact h.tx _ (List.getElem_mem hic)
theorem KlAt.bl_at {N B r : Nat} {X : Nat → Prop} {w : World} {o : Nat → Oid} {k : Kl} {m : Km} (h : KlAt N B r X w o k m) {i : Nat} (hi : i < k.bl.length) : ∃ g3 c3 a c, w.cell? ⟨B, 1, none⟩ = some (.slice (some ⟨g3, 0, none⟩) m.vb.length c3) ∧ gd m.vb nV i = .slice a (k.B i).length c ∧ w.cell? ⟨g3, i, none⟩ = some (.slice a (k.B i).length c) ∧ m.vb.length = k.bl.length := by
  have row := h.i1 i hi
  obtain ⟨a, c, hv⟩ := row.shape
  have h4 := h.r1
  obtain ⟨a4, c4, hv4⟩ := h4.shape
  rw [hv4] at h4
  obtain ⟨g4, u4, rfl, hu4, hc4, hf4, ho4, -, -⟩ := h4.at (i := i) (by rw [h.l1]; exact hi)
  have hue : u4 = gd m.vb nV i := by unfold gd; rw [hu4]; rfl
  rw [hue, hv, iL_len] at hc4
  rw [iL_len] at hv
  exact ⟨g4, c4, a, c, by rw [h.box.cell]; simp [hv4], hv, hc4, h.l1⟩
theorem KlAt.cl_at {N B r : Nat} {X : Nat → Prop} {w : World} {o : Nat → Oid} {k : Kl} {m : Km} (h : KlAt N B r X w o k m) {i : Nat} (hi : i < k.cl.length) : ∃ g2 c2, w.cell? ⟨B, 2, none⟩ = some (.slice (some ⟨g2, 0, none⟩) k.cl.length c2) ∧ w.cell? ⟨g2, i, none⟩ = some (iV (k.C i)) ∧ m.v2 = .slice (some ⟨g2, 0, none⟩) k.cl.length c2 := by
  have h4 := h.r2
  obtain ⟨a4, c4, hv4⟩ := h4.shape
  rw [hv4] at h4
  obtain ⟨g4, u4, rfl, hu4, hc4, -, -, -, -⟩ := h4.at (i := i) (by rw [iL_len]; exact hi)
  rw [iL_at hu4] at hc4
  rw [iL_len] at hv4
  exact ⟨g4, c4, by rw [h.box.cell]; simp [hv4], hc4, hv4⟩
end Go.Proofs.YtdmaijmglblccaaGreatDoor

/- Plain: one step more is gathered. -/
import Derived.Test.YtagidfoiemgfcaaGreatDoorHs6
namespace Go.Proofs.YtagidfoiemgfcaaGreatDoor
open Go.RowKit Go.Shelf
set_option linter.unusedSimpArgs false
set_option linter.unusedVariables false
set_option maxRecDepth 8000

theorem js_step {K : Nat → Prop} {A R4 R5 L : Nat} {r rd rb : Loop} {W0 W w9 Wc w3 wF : World} {pre : List Hnd} {x z : Lm} {f E : Nat → Prop} {v : Value} {l : List Lm} {xs : List Value} {a9 : Option Addr} {c9 g cap : Nat} {z1 z2 z3 : Value}
    (hA0 : A < W0.heap.size) (hR4 : R4 < W0.heap.size) (hR5 : R5 < W0.heap.size) (hL0 : L < W0.heap.size) (hd : L ≠ A ∧ R4 ≠ A ∧ R5 ≠ A ∧ R4 ≠ L ∧ R5 ≠ L)
    (hK1 : ∀ b, K b → b < W0.heap.size ∧ ¬ f b) (hzW : W0.heap.size ≤ W.heap.size) (hC : ∀ b, K b → W.heap[b]? = W0.heap[b]?) (h4 : Blk W R4 #[.slice none 0 0] 24) (h5 : Blk W R5 #[.int .i64 0] 28)
    (hf : ∀ b, f b ↔ b = L ∨ b = A ∨ b = R4 ∨ b = R5 ∨ v.ownBlock = some b ∨ E b) (hE : ∀ b, E b → W0.heap.size ≤ b ∧ b < W.heap.size ∧ v.ownBlock ≠ some b) (ho : W.ownsRow W0.heap.size 26 3 v l.length xs) (hr : RowTM W E l xs) (hl : l = pre.map fun p => p.2.2) (hnf : ∀ q ∈ pre, ¬ badH q) (hnp : ¬ badH (x, true, z))
    (hos : w9.os = W.os ∧ w9.tape = W.tape ∧ w9.output = W.output) (hz9 : W.heap.size ≤ w9.heap.size) (k9 : ∀ b, b < W.heap.size → b ≠ L → w9.heap[b]? = W.heap[b]?) (hL9 : w9.heap[L]? = some (.loop rb))
    (hbc : Below w9.heap.size w9 Wc) (hsc : SlM Wc (fun b => W.heap.size ≤ b) a9 z.subs)
    (hg : Wc.grownBy w3 v.ownBlock) (hown3 : w3.ownsRow W0.heap.size 26 3 (.slice (some ⟨g, 0, none⟩) (l.length + 1) cap) (l.length + 1) (xs ++ [z1, z2, z3])) (hat : v.ownBlock = some g ∨ g = Wc.heap.size)
    (hF : Fw3 w3 A g l.length cap 24 (.int .i64 z.kind) (.int .i64 z.idx) (.slice a9 z.subs.length c9) wF) :
    wF.heap[L]? = some (.loop rb) ∧ ∃ f', JS K A R4 R5 L r rd W0 (pre ++ [(x, true, z)]) true f' (wF.putObj L (.loop r)) ∧ ExQ f W (wF.putObj L (.loop r)) ∧ ∀ b, f' b → f b ∨ W.heap.size ≤ b := by
  have hltv := ho.lt
  have hzc := hbc.size
  have hz3 := hg.size
  have hzF := hF.size
  have hgN : W0.heap.size ≤ g := by
    rcases hat with e | e
    · exact (hltv g e).1
    · omega
  have hbg : ∀ b, b < Wc.heap.size → v.ownBlock ≠ some b → b ≠ g := fun b hb hne e => by
    rcases hat with h | h
    · rw [e] at hne; exact hne h
    · omega
  have hnv : ∀ b, b < W0.heap.size → v.ownBlock ≠ some b := fun b hb e => by have := (hltv b e).1; omega
  have kF9 : ∀ b, b < Wc.heap.size → b ≠ A → v.ownBlock ≠ some b → wF.heap[b]? = Wc.heap[b]? := fun b hb hA hne => (hF.other b (hbg b hb hne) hA).trans (hg.block b hb fun e => hne e.symm)
  have kF : ∀ b, b < W.heap.size → b ≠ L → b ≠ A → v.ownBlock ≠ some b → wF.heap[b]? = W.heap[b]? := fun b hb hL hA hne => (kF9 b (by omega) hA hne).trans ((hbc.block b (by omega)).trans (k9 b hb hL))
  have po : ∀ b, b ≠ L → (wF.putObj L (.loop r)).heap[b]? = wF.heap[b]? := fun b hb => World.putObj_heap_other hb
  have hKK : ∀ b, K b → b < W.heap.size ∧ b ≠ L ∧ b ≠ A ∧ v.ownBlock ≠ some b := fun b hb => by
    have h1 := hK1 b hb
    exact ⟨by omega, fun e => h1.2 ((hf b).2 (Or.inl e)), fun e => h1.2 ((hf b).2 (Or.inr (Or.inl e))), hnv b h1.1⟩
  have hx : xs.length = l.length * 3 := hr.len
  obtain ⟨_, _, _, _, hlast⟩ := row_last3 (u1 := .int .i64 z.kind) (u2 := .int .i64 z.idx) (u3 := .slice a9 z.subs.length c9) hown3 hx
  refine ⟨(kF9 L (by omega) hd.1 (hnv L hL0)).trans ((hbc.block L (by omega)).trans hL9), fun b => b = L ∨ b = A ∨ b = R4 ∨ b = R5 ∨ (Value.slice (some ⟨g, 0, none⟩) (l.length + 1) cap).ownBlock = some b ∨ ((E b ∨ W.heap.size ≤ b) ∧ b < wF.heap.size ∧ b ≠ g), ⟨fun b hb => ⟨(hK1 b hb).1, fun h => ?_⟩, by simp; omega, fun b hb => ?_, World.putObj_heap_same (by omega), (po _ hd.2.2.2.1).trans ((kF _ (by omega) hd.2.2.2.1 hd.2.1 (hnv _ hR4)).trans h4), (po _ hd.2.2.2.2).trans ((kF _ (by omega) hd.2.2.2.2 hd.2.2.1 (hnv _ hR5)).trans h5), ⟨.slice (some ⟨g, 0, none⟩) (l.length + 1) cap, l ++ [z], xs ++ [.int .i64 z.kind, .int .i64 z.idx, .slice a9 z.subs.length c9], fun b => (E b ∨ W.heap.size ≤ b) ∧ b < wF.heap.size ∧ b ≠ g, fun b => Iff.rfl, fun b hb => ⟨?_, by simpa using hb.2.1, fun e => hb.2.2 (by simpa [Value.ownBlock] using e.symm)⟩, (po _ (fun e => hd.1 e.symm)).trans hF.box, ?_, ?_, fun _ => by rw [hl]; simp⟩, fun _ q hq => ?_, fun h => by cases h⟩, ⟨?_, ?_, ?_, by simp; omega, fun b hb hn => ?_⟩, fun b hb => ?_⟩
  · have h1 := hK1 b hb
    rcases h with h | h | h | h | h | h
    · exact h1.2 ((hf b).2 (Or.inl h))
    · exact h1.2 ((hf b).2 (Or.inr (Or.inl h)))
    · exact h1.2 ((hf b).2 (Or.inr (Or.inr (Or.inl h))))
    · exact h1.2 ((hf b).2 (Or.inr (Or.inr (Or.inr (Or.inl h)))))
    · simp [Value.ownBlock] at h; omega
    · rcases h.1 with h | h
      · have := (hE b h).1; omega
      · omega
  · have h1 := hKK b hb
    exact (po b h1.2.1).trans ((kF b h1.1 h1.2.1 h1.2.2.1 h1.2.2.2).trans (hC b hb))
  · rcases hb.1 with h | h
    · exact (hE b h).1
    · omega
  · have h1 := hlast (wF.putObj L (.loop r)) ((po g (by omega)).trans hF.row)
    rw [List.length_append, List.length_singleton]
    exact h1
  · refine RowTM.append (hr.imp fun a' k' hs' => ?_) ⟨a9, c9, [], rfl, ?_, rfl⟩
    · refine ((hs'.mono (Y := fun b => E b ∧ b < W.heap.size) fun b h1 h2 => ⟨h1, h2⟩).kept (w' := wF.putObj L (.loop r)) fun b hb => ?_).mono fun b hb _ => ?_
      · have h1 := hE b hb.1
        exact (po b (by omega)).trans (kF b hb.2 (by omega) (by omega) h1.2.2)
      · have h1 := hE b hb.1
        exact ⟨Or.inl hb.1, by omega, hbg b (by omega) h1.2.2⟩
    · refine ((hsc.mono (Y := fun b => W.heap.size ≤ b ∧ b < Wc.heap.size) fun b h1 h2 => ⟨h1, h2⟩).kept (w' := wF.putObj L (.loop r)) fun b hb => ?_).mono fun b hb _ => ?_
      · exact (po b (by omega)).trans (kF9 b hb.2 (by omega) (fun e => by have := (hltv b e).2; omega))
      · exact ⟨Or.inr hb.1, by omega, hbg b hb.2 (fun e => by have := (hltv b e).2; omega)⟩
  · rcases List.mem_append.1 hq with h | h
    · exact hnf q h
    · simp at h; subst h; exact hnp
  · exact hF.os.trans (hg.os.trans (hbc.os.trans hos.1))
  · exact hF.tape.trans (hg.tape.trans (hbc.tape.trans hos.2.1))
  · exact hF.output.trans (hg.output.trans (hbc.output.trans hos.2.2))
  · have h9 : b ≠ L := fun h => hn ((hf b).2 (Or.inl h))
    have h3 : b ≠ A := fun h => hn ((hf b).2 (Or.inr (Or.inl h)))
    exact (po b h9).trans (kF b hb h9 h3 (fun h => hn ((hf b).2 (Or.inr (Or.inr (Or.inr (Or.inr (Or.inl h))))))))
  · rcases hb with h | h | h | h | h | h
    · exact Or.inl ((hf b).2 (Or.inl h))
    · exact Or.inl ((hf b).2 (Or.inr (Or.inl h)))
    · exact Or.inl ((hf b).2 (Or.inr (Or.inr (Or.inl h))))
    · exact Or.inl ((hf b).2 (Or.inr (Or.inr (Or.inr (Or.inl h)))))
    · have e : g = b := by simpa [Value.ownBlock] using h
      subst e
      rcases hat with h1 | h1
      · exact Or.inl ((hf g).2 (Or.inr (Or.inr (Or.inr (Or.inr (Or.inl h1))))))
      · right; omega
    · rcases h.1 with h1 | h1
      · exact Or.inl ((hf b).2 (Or.inr (Or.inr (Or.inr (Or.inr (Or.inr h1))))))
      · exact Or.inr h1
/-- A step was too great: the answer is told. -/
theorem js_stop {K : Nat → Prop} {A R4 R5 L : Nat} {r rd rb : Loop} {W0 W w9 wF : World} {pre : List Hnd} {p : Hnd} {f E : Nat → Prop} {v : Value} {l : List Lm} {xs : List Value}
    (hA0 : A < W0.heap.size) (hR4 : R4 < W0.heap.size) (hR5 : R5 < W0.heap.size) (hL0 : L < W0.heap.size) (hd : L ≠ A ∧ R4 ≠ A ∧ R5 ≠ A ∧ R4 ≠ L ∧ R5 ≠ L ∧ R4 ≠ R5)
    (hK1 : ∀ b, K b → b < W0.heap.size ∧ ¬ f b) (hzW : W0.heap.size ≤ W.heap.size) (hC : ∀ b, K b → W.heap[b]? = W0.heap[b]?) (h4 : Blk W R4 #[.slice none 0 0] 24) (h5 : Blk W R5 #[.int .i64 0] 28)
    (hf : ∀ b, f b ↔ b = L ∨ b = A ∨ b = R4 ∨ b = R5 ∨ v.ownBlock = some b ∨ E b) (hE : ∀ b, E b → W0.heap.size ≤ b ∧ b < W.heap.size ∧ v.ownBlock ≠ some b) (hA : Blk W A #[v] 24) (ho : W.ownsRow W0.heap.size 26 3 v l.length xs) (hr : RowTM W E l xs) (hbp : badH p)
    (hos : w9.os = W.os ∧ w9.tape = W.tape ∧ w9.output = W.output) (hz9 : W.heap.size ≤ w9.heap.size) (k9 : ∀ b, b < W.heap.size → b ≠ L → w9.heap[b]? = W.heap[b]?) (hL9 : w9.heap[L]? = some (.loop rb)) (v4 : Value) (hv4 : v4 = .slice none 0 0) (hwF : wF = (w9.setCell ⟨R4, 0, none⟩ v4).setCell ⟨R5, 0, none⟩ (.int .i64 8)) :
    wF.heap[L]? = some (.loop rb) ∧ ∃ f', JS K A R4 R5 L r rd W0 (pre ++ [p]) false f' (wF.putObj L (.loop rd)) ∧ ExQ f W (wF.putObj L (.loop rd)) ∧ ∀ b, f' b → f b ∨ W.heap.size ≤ b := by
  subst hv4
  subst hwF
  have hltv := ho.lt
  have po : ∀ b, b ≠ L → b ≠ R4 → b ≠ R5 → b < W.heap.size → (((w9.setCell ⟨R4, 0, none⟩ (.slice none 0 0)).setCell ⟨R5, 0, none⟩ (.int .i64 8)).putObj L (.loop rd)).heap[b]? = W.heap[b]? := fun b h9 h1 h2 hb => by
    rw [World.putObj_heap_other h9, Below.heap_setCell _ _ _ _ (by simpa using h2), Below.heap_setCell _ _ _ _ (by simpa using h1), k9 b hb h9]
  have B4 : Blk w9 R4 #[.slice none 0 0] 24 := (k9 _ (by omega) hd.2.2.2.1).trans h4
  have B5 : Blk w9 R5 #[.int .i64 0] 28 := (k9 _ (by omega) hd.2.2.2.2.1).trans h5
  refine ⟨?_, f, ⟨hK1, by simp [World.setCell]; omega, fun b hb => ?_, World.putObj_heap_same (by simp [World.setCell]; omega), ?_, ?_, ⟨v, l, xs, E, hf, fun b hb => ⟨(hE b hb).1, by have := (hE b hb).2.1; simp [World.setCell]; omega, (hE b hb).2.2⟩, ?_, ownsRow_at ho fun g hg => ?_, hr.imp fun a' k' hs' => ?_, fun h => by cases h⟩, (fun h => by cases h), fun _ => ⟨p, by simp, hbp⟩⟩, ⟨?_, ?_, ?_, by simp [World.setCell]; omega, fun b hb hn => ?_⟩, fun b hb => Or.inl hb⟩
  · rw [Below.heap_setCell _ _ _ _ (by simpa using fun e => hd.2.2.2.2.1 e.symm), Below.heap_setCell _ _ _ _ (by simpa using fun e => hd.2.2.2.1 e.symm)]
    exact hL9
  · have h1 := hK1 b hb
    exact (po b (fun e => h1.2 ((hf b).2 (Or.inl e))) (fun e => h1.2 ((hf b).2 (Or.inr (Or.inr (Or.inl e))))) (fun e => h1.2 ((hf b).2 (Or.inr (Or.inr (Or.inr (Or.inl e)))))) (by omega)).trans (hC b hb)
  · exact (World.putObj_heap_other hd.2.2.2.1).trans (Blk.setOther (Blk.set1M B4) _ _ hd.2.2.2.2.2)
  · exact (World.putObj_heap_other hd.2.2.2.2.1).trans (Blk.set1M (B5.setOther _ _ (fun e => hd.2.2.2.2.2 e.symm)))
  · exact (po _ (fun e => hd.1 e.symm) (fun e => hd.2.1 e.symm) (fun e => hd.2.2.1 e.symm) (by omega)).trans hA
  · have h1 := hltv g hg
    exact po g (by omega) (by omega) (by omega) h1.2
  · refine ((hs'.mono (Y := fun b => E b ∧ b < W.heap.size) fun b h1 h2 => ⟨h1, h2⟩).kept fun b hb => ?_).mono fun b hb _ => hb.1
    have h1 := hE b hb.1
    exact po b (by omega) (by omega) (by omega) hb.2
  · exact hos.1
  · exact hos.2.1
  · exact hos.2.2
  · exact po b (fun h => hn ((hf b).2 (Or.inl h))) (fun h => hn ((hf b).2 (Or.inr (Or.inr (Or.inl h))))) (fun h => hn ((hf b).2 (Or.inr (Or.inr (Or.inr (Or.inl h)))))) hb
end Go.Proofs.YtagidfoiemgfcaaGreatDoor

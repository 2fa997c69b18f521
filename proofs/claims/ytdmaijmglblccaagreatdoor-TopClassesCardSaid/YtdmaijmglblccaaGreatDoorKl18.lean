/- Walks: the texts of each class, in order (closure.texts). -/
import Derived.Test.YtdmaijmglblccaaGreatDoorKl17
namespace Go.Proofs.YtdmaijmglblccaaGreatDoor
open Go.RowKit
set_option linter.unusedSimpArgs false
set_option linter.unusedVariables false
set_option maxRecDepth 8000

theorem own_cap {w : World} {N T : Nat} {a : Option Addr} {n c m : Nat} {xs : List Value} (h : w.ownsRow N T 1 (.slice a n c) m xs) : n ≤ c := by
  rcases h.2 with ⟨e, _⟩ | ⟨g, cap, cur, e, _, _, h1, _⟩
  · cases e; exact Nat.le_refl _
  · cases e; exact h1
theorem own_sh2 {w : World} {N T : Nat} {v : Value} {n : Nat} {xs : List Value} (h : w.ownsRow N T 1 v n xs) : ∃ a c, v = .slice a n c := by
  rcases h.2 with ⟨hv, h0⟩ | ⟨g, cap, cur, hv, _⟩
  · exact ⟨none, 0, by rw [hv, h0]⟩
  · exact ⟨_, _, hv⟩
theorem StG.keep {N : Nat} {w w' : World} {av av' : Value} {p : Value × List ByteArray} (h : StG N w av p) (hs : w.heap.size ≤ w'.heap.size) (hk : ∀ g, N ≤ g → g < w.heap.size → av.ownBlock ≠ some g → w'.heap[g]? = w.heap[g]? ∧ av'.ownBlock ≠ some g) : StG N w' av' p := by
  obtain ⟨g, c, e, h1, h2, h3, h4, h5⟩ := h
  obtain ⟨k1, k2⟩ := hk g h1 h2 h3
  exact ⟨g, c, e, h1, Nat.lt_of_lt_of_le h2 hs, k2, h4, fun j hj => by
    rw [← h5 j hj]
    simp only [World.cell?, k1]⟩
theorem TxI.next0 {k : Kl} {w wr : World} {v : Value} {c : Nat} {ps : List (Value × List ByteArray)} (hc : c < k.mb.length) (hl : ps.length ≤ c) (hT : TxR k c (ps.map (·.2))) (ho : wr.ownsRow w.heap.size 31 1 v (ps.map (·.1)).length (ps.map (·.1))) (hs : ∀ p ∈ ps, StG w.heap.size wr v p) (hb : Below w.heap.size w wr) (he : k.M c = []) {wq : World} (hq : Below wr.heap.size wr wq) : TxI k w v (.int .i64 ((c + 1 : Nat) : Int)) wq :=
  ⟨c + 1, ps, hc, rfl, by omega, Or.inl ⟨he, hT⟩, ownsRow_at ho fun g hg => hq.block g (ho.lt g hg).2, fun p hp => (hs p hp).keep hq.size fun g _ h2 h3 => ⟨hq.block g h2, h3⟩, hb.trans (hq.mono hb.size)⟩
/-- One class's texts are put behind those of the others. -/
theorem TxI.next1 {k : Kl} {w wr : World} {v : Value} {c : Nat} {ps : List (Value × List ByteArray)} (hc : c < k.mb.length) (hl : ps.length ≤ c) (hT : TxR k c (ps.map (·.2))) (ho : wr.ownsRow w.heap.size 31 1 v (ps.map (·.1)).length (ps.map (·.1))) (hs : ∀ p ∈ ps, StG w.heap.size wr v p) (hb : Below w.heap.size w wr) (he : k.M c ≠ []) {wq w6 : World} (hq : Below wr.heap.size wr wq) {ms : List ByteArray} {g cap g2 c2 : Nat} (hp : ms.Perm ((k.M c).map fun i => txB (k.T i))) (hsrt : ms.Pairwise fun a b => ltB b a = false) (hml : ms.length ≤ 1000000) (hg : wr.heap.size ≤ g) (hg2 : g < wq.heap.size) (hm : ∀ j (h : j < ms.length), wq.cell? ⟨g, j, none⟩ = some (.string ms[j]))
    (ho6 : w6.ownsRow w.heap.size 31 1 (.slice (some ⟨g2, 0, none⟩) (ps.map (fun p : Value × List ByteArray => p.1) ++ [Value.slice (some ⟨g, 0, none⟩) ms.length cap]).length c2) (ps.map (fun p : Value × List ByteArray => p.1) ++ [Value.slice (some ⟨g, 0, none⟩) ms.length cap]).length (ps.map (fun p : Value × List ByteArray => p.1) ++ [Value.slice (some ⟨g, 0, none⟩) ms.length cap])) (hat : v.ownBlock = some g2 ∨ wq.heap.size ≤ g2) (hx : ExQ (fun b => v.ownBlock = some b) wq w6) : TxI k w (.slice (some ⟨g2, 0, none⟩) (ps.map (fun p : Value × List ByteArray => p.1) ++ [Value.slice (some ⟨g, 0, none⟩) ms.length cap]).length c2) (.int .i64 ((c + 1 : Nat) : Int)) w6 := by
  have hvl : ∀ b, v.ownBlock = some b → b < wr.heap.size := fun b h => (ho.lt b h).2
  have hsz := hq.size
  have hNB : Below w.heap.size w w6 := by
    have h1 := hb.trans (hq.mono hb.size)
    refine ⟨hx.os.trans h1.os, hx.tape.trans h1.tape, hx.output.trans h1.output, Nat.le_trans h1.size hx.size, fun b hb2 => ?_⟩
    rw [hx.block b (Nat.lt_of_lt_of_le hb2 h1.size) fun e => ?_]
    · exact h1.block b hb2
    · have := ho.1
      have := (ho.lt b e).1
      omega
  have hown2 : ∀ b, b < wq.heap.size → v.ownBlock ≠ some b → (Value.slice (some ⟨g2, 0, none⟩) (ps.map (fun p : Value × List ByteArray => p.1) ++ [Value.slice (some ⟨g, 0, none⟩) ms.length cap]).length c2).ownBlock ≠ some b := fun b hb1 hb2 e => by
    have e1 : g2 = b := by simpa [Value.ownBlock] using e
    subst e1
    rcases hat with h | h
    · exact hb2 h
    · omega
  refine ⟨c + 1, ps ++ [(.slice (some ⟨g, 0, none⟩) ms.length cap, ms)], hc, rfl, by simp; omega, Or.inr ⟨he, ps.map (·.2), ms, by simp, hT, hp, hsrt⟩, by simpa using ho6, fun p hpm => ?_, hNB⟩
  rcases List.mem_append.1 hpm with h | h
  · have h1 := (hs p h).keep hq.size (av' := v) fun g _ h2 h3 => ⟨hq.block g h2, h3⟩
    exact h1.keep hx.size fun b h2 h3 h4 => ⟨hx.block b h3 h4, by simpa using hown2 b h3 h4⟩
  · have e : p = (.slice (some ⟨g, 0, none⟩) ms.length cap, ms) := by simpa using h
    subst e
    have hgv : v.ownBlock ≠ some g := fun e => by have := hvl g e; omega
    refine ⟨g, cap, rfl, Nat.le_trans hb.size hg, Nat.lt_of_lt_of_le hg2 hx.size, by simpa using hown2 g hg2 hgv, hml, fun j hj => ?_⟩
    rw [← hm j hj]
    simp only [World.cell?, hx.block g hg2 hgv]
end Go.Proofs.YtdmaijmglblccaaGreatDoor

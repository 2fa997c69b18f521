/- Memory: terms, their texts, and a map by these, side by side. -/
import Derived.Test.YtdmaijmglblccaaGreatDoorZBTopClassesOwn
import Derived.Test.YtdmaijmglblccaaGreatDoorZTopClassesOwn
namespace Go.Proofs.YtdmaijmglblccaaGreatDoor
open Go.RowKit
set_option linter.unusedSimpArgs false
set_option linter.unusedVariables false
set_option maxRecDepth 8000

theorem addH (b i : Nat) : (⟨b, 0, none⟩ : Addr).add i = ⟨b, i, none⟩ := by by_cases h0 : i = 0 <;> simp [Addr.add, h0]
/-- A row of terms of one's own, whose parts lie where Z says. -/
structure RowH (w : World) (N : Nat) (Z : Nat → Prop) (v : Value) (l : List Tm) (xs : List Value) : Prop where
  own : w.ownsRow N 25 2 v l.length xs
  row : RowT w Z l xs
theorem RowH.mono {w : World} {N : Nat} {Z Z' : Nat → Prop} {v : Value} {l : List Tm} {xs : List Value} (h : RowH w N Z v l xs) (hZ : ∀ b, Z b → b < w.heap.size → Z' b) : RowH w N Z' v l xs :=
  ⟨h.own, h.row.imp fun a l hs => hs.mono hZ⟩
theorem RowH.exq {w w' : World} {N : Nat} {Q Z : Nat → Prop} {v : Value} {l : List Tm} {xs : List Value} (h : RowH w N Z v l xs) (he : ExQ Q w w') (hv : ∀ b, v.ownBlock = some b → ¬ Q b) (hZ : ∀ b, Z b → ¬ Q b) : RowH w' N Z v l xs :=
  ⟨ownsRow_at h.own fun g hg => he.block g (h.own.lt g hg).2 (hv g hg), h.row.imp fun a l hs => hs.exq he hZ⟩
theorem RowH.below {w w' : World} {N : Nat} {Z : Nat → Prop} {v : Value} {l : List Tm} {xs : List Value} (h : RowH w N Z v l xs) (hb : Below w.heap.size w w') : RowH w' N Z v l xs :=
  ⟨ownsRow_at h.own fun g hg => hb.block g (h.own.lt g hg).2, h.row.imp fun a l hs => hs.later hb⟩
theorem own_shapeH {w : World} {N T z n : Nat} {v : Value} {xs : List Value} (h : w.ownsRow N T z v n xs) : ∃ a c, v = .slice a n c := by
  rcases h.2 with ⟨h1, h0⟩ | ⟨g, cap, cur, h1, _⟩
  · exact ⟨none, 0, by rw [h1, h0]⟩
  · exact ⟨_, _, h1⟩
/-- One of a row. -/
theorem rowH_at {w : World} {N : Nat} {Z : Nat → Prop} {v : Value} {l : List Tm} {xs : List Value} (h : RowH w N Z v l xs) {i : Nat} (hi : i < l.length) : ∃ g cap ax cx, v = .slice (some ⟨g, 0, none⟩) l.length cap ∧ w.cell? ⟨g, i * 2, none⟩ = some (.string l[i].name) ∧ w.cell? ⟨g, i * 2 + 1, none⟩ = some (.slice ax l[i].args.length cx) ∧ Sl w Z ax l[i].args ∧ g < w.heap.size := by
  rcases h.own.2 with ⟨h1, h0⟩ | ⟨g, cap, cur, h1, _⟩
  · omega
  · have hc := h.own.cells (g := g) (by rw [h1]; rfl)
    have hl := (h.own.lt g (by rw [h1]; rfl)).2
    obtain ⟨x0, ax, cx, x1, hs⟩ := h.row.get i hi
    exact ⟨g, cap, ax, cx, h1, by have := hc _ _ x0; rw [addH] at this; exact this, by have := hc _ _ x1; rw [addH] at this; exact this, hs, hl⟩
/-- Blocks of neither row, nor the map's. -/
def Zr (ov ev : Value) (M b : Nat) : Prop := some b ≠ ov.ownBlock ∧ some b ≠ ev.ownBlock ∧ b ≠ M
/-- The terms so far, the texts so far, the map's keys so far. -/
structure RcW (D : Value → Prop) (wN : World) (M : Nat) (all : List Tm) (tx ks : List ByteArray) (ov ev : Value) (wr : World) : Prop where
  ex : ∃ xs, RowH wr wN.heap.size (Zr ov ev M) ov all xs
  es : wr.ownsRow wN.heap.size 9 1 ev tx.length (tx.map Value.string)
  mp : ∃ L, MapAt wr M L ∧ L.map (·.1) = ks ∧ ∀ p ∈ L, D p.2
  ne : ∀ b, ov.ownBlock = some b → ev.ownBlock ≠ some b
  nm : ov.ownBlock ≠ some M ∧ ev.ownBlock ≠ some M
  hM : wN.heap.size ≤ M
  bl : Below wN.heap.size wN wr
theorem RcW.later {D : Value → Prop} {wN : World} {M : Nat} {all : List Tm} {tx ks : List ByteArray} {ov ev : Value} {wr w' : World} (h : RcW D wN M all tx ks ov ev wr) (hb : Below wr.heap.size wr w') : RcW D wN M all tx ks ov ev w' := by
  obtain ⟨xs, h1⟩ := h.ex
  obtain ⟨L, h2, h3, h4⟩ := h.mp
  exact ⟨⟨xs, h1.below hb⟩, ownsRow_at h.es fun g hg => hb.block g (h.es.lt g hg).2, ⟨L, h2.below hb h2.lt, h3, h4⟩, h.ne, h.nm, h.hM, h.bl.trans (hb.mono h.bl.size)⟩
/-- What stood fast stands fast. -/
def Fsh (S : Nat) (o0 o : Value) : Prop := o.ownBlock = o0.ownBlock ∨ ∃ g, o.ownBlock = some g ∧ S ≤ g
theorem Fsh.next {S : Nat} {o0 o : Value} {w : World} {g n cap : Nat} (h : Fsh S o0 o) (hS : S ≤ w.heap.size) (hg : o.ownBlock = some g ∨ w.heap.size ≤ g) : Fsh S o0 (.slice (some ⟨g, 0, none⟩) n cap) := by
  rcases hg with e | e
  · rcases h with h | ⟨k, h1, h2⟩
    · exact Or.inl (by rw [← h, e]; rfl)
    · exact Or.inr ⟨g, rfl, by rw [e] at h1; cases h1; exact h2⟩
  · exact Or.inr ⟨g, rfl, by omega⟩
end Go.Proofs.YtdmaijmglblccaaGreatDoor

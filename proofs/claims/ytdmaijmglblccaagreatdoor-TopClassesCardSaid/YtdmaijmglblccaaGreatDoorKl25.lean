/- The document's ClosureOf: plain, and memory. -/
import Derived.Test.YtdmaijmglblccaaGreatDoorKl24
import Derived.Test.YtdmaijmglblccaaGreatDoorKl22
import Derived.Test.YtdmaijmglblccaaGreatDoorRc2
namespace Go.Proofs.YtdmaijmglblccaaGreatDoor
open Go.RowKit
set_option linter.unusedSimpArgs false
set_option linter.unusedVariables false
set_option maxRecDepth 8000

/-- So many are taken in. -/
structure AdP (ys L : List Tm) : Prop where
  nd : L.Nodup
  mem : ∀ x, x ∈ L ↔ x ∈ ys
  le : L.length ≤ ys.length
theorem AdP.nil : AdP [] [] := ⟨List.nodup_nil, fun x => Iff.rfl, Nat.le_refl _⟩
theorem AdP.old {ys L : List Tm} {y : Tm} (h : AdP ys L) (he : ∀ x ∈ ys, errL [x] = 0) (hy : errL [y] = 0) (hi : inB (txB y) (L.map txB) = true) : AdP (ys ++ [y]) L := by
  refine ⟨h.nd, fun x => ⟨fun hx => by simp [(h.mem x).1 hx], fun hx => ?_⟩, by have := h.le; simp; omega⟩
  rcases List.mem_append.1 hx with hx | hx
  · exact (h.mem x).2 hx
  · simp at hx
    obtain ⟨z, hz, e⟩ := List.mem_map.1 (inB_mem8.1 hi)
    have := txB_inj (he z ((h.mem z).1 hz)) hy e
    rw [hx, ← this]; exact hz
theorem AdP.new {ys L : List Tm} {y : Tm} (h : AdP ys L) (hi : inB (txB y) (L.map txB) = false) : AdP (ys ++ [y]) (L ++ [y]) := by
  refine ⟨List.nodup_append.2 ⟨h.nd, by simp, fun a ha b hb e => ?_⟩, fun x => by simp [h.mem x], by have := h.le; simp; omega⟩
  simp at hb
  have h1 : inB (txB y) (L.map txB) = true := inB_mem8.2 (List.mem_map.2 ⟨a, ha, by rw [e, hb]⟩)
  rw [hi] at h1; cases h1
/-- All terms, and their texts, in two boxes. -/
structure AdI (N A T : Nat) (L : List Tm) (tx : List ByteArray) (ov ev : Value) (w : World) : Prop where
  ra : ∃ xs, RowH w N (fun b => b < N) ov L xs
  rt : w.ownsRow N 9 1 ev tx.length (tx.map Value.string)
  ba : Blk w A #[ov] 23
  bt : Blk w T #[ev] 31
  ne : ∀ b, ov.ownBlock = some b → ev.ownBlock ≠ some b
  oa : ov.ownBlock ≠ some A
  ot : ov.ownBlock ≠ some T
  ea : ev.ownBlock ≠ some A
  et : ev.ownBlock ≠ some T
  nAT : A ≠ T
  hA : N ≤ A
  hT : N ≤ T
theorem AdI.later {N A T : Nat} {L : List Tm} {tx : List ByteArray} {ov ev : Value} {w w' : World} (h : AdI N A T L tx ov ev w) (hb : Below w.heap.size w w') : AdI N A T L tx ov ev w' := by
  obtain ⟨xs, h1⟩ := h.ra
  exact ⟨⟨xs, h1.below hb⟩, ownsRow_at h.rt fun g hg => hb.block g (h.rt.lt g hg).2, h.ba.below hb h.ba.lt, h.bt.below hb h.bt.lt, h.ne, h.oa, h.ot, h.ea, h.et, h.nAT, h.hA, h.hT⟩
theorem AdI.start {w : World} {A T : Nat} (hA : w.heap.size ≤ A) (hT : w.heap.size ≤ T) (hne : A ≠ T) {w1 : World} (ba : Blk w1 A #[.slice none 0 0] 23) (bt : Blk w1 T #[.slice none 0 0] 31) : AdI w.heap.size A T [] [] (.slice none 0 0) (.slice none 0 0) w1 :=
  ⟨⟨[], World.ownsRow_nil _ _ _ _, rfl⟩, World.ownsRow_nil _ _ _ _, ba, bt, fun b hb => by simp [Value.ownBlock] at hb, by simp [Value.ownBlock], by simp [Value.ownBlock], by simp [Value.ownBlock], by simp [Value.ownBlock], hne, hA, hT⟩
end Go.Proofs.YtdmaijmglblccaaGreatDoor

import Derived.Test.YtdebiiodhkcnkaaGreatZCTopIndexOwn
import Derived.Test.YtdebiiodhkcnkaaGreatW54
namespace Go.Proofs.YtdebiiodhkcnkaaGreat
open Go.RowKit
set_option linter.unusedSimpArgs false
set_option linter.unusedVariables false
set_option maxRecDepth 8000
theorem flat3_set (y : Bc) : ∀ (cs : List Bc) (i : Nat), i < cs.length → flat3 (cs.set i y) = (((flat3 cs).set (i * 3) (.string y.1.nm)).set (i * 3 + 1) (.string y.1.t.name)).set (i * 3 + 2) (.slice y.2.1 y.1.t.args.length y.2.2)
 | [], i, h => by simp at h
 | x :: r, 0, h => by simp [flat3, enc3]
 | x :: r, i + 1, h => by
  have ih := flat3_set y r i (by simpa using h)
  rw [List.set_cons_succ, flat3, flat3, ih]
  rw [show (i + 1) * 3 = i * 3 + 3 by omega, show i * 3 + 3 + 1 = (i * 3 + 1) + 3 by omega, show i * 3 + 3 + 2 = (i * 3 + 2) + 3 by omega]
  simp [enc3]
def put3 (w : World) (g i : Nat) (y : Bc) : World := (((w.setCell ⟨g, i * 3, none⟩ (.string y.1.nm)).setCell ⟨g, i * 3 + 1, none⟩ (.string y.1.t.name)).setCell ⟨g, i * 3 + 2, none⟩ (.slice y.2.1 y.1.t.args.length y.2.2))
theorem put3_block {w : World} {g i b : Nat} {y : Bc} (h : b ≠ g) : (put3 w g i y).heap[b]? = w.heap[b]? := by
 unfold put3
 rw [Below.heap_setCell _ _ _ _ (by simpa using h), Below.heap_setCell _ _ _ _ (by simpa using h), Below.heap_setCell _ _ _ _ (by simpa using h)]
theorem Sl.put3 {w : World} {N g n cap i : Nat} {Y : Nat → Prop} {a : Option Addr} {l : List Tm} {y : Bc} (h : Sl w (fun b => Y b ∨ (N ≤ b ∧ some b ≠ (Value.slice (some ⟨g, 0, none⟩) n cap).ownBlock)) a l) (hY : ∀ b, Y b → b < N) (hg : N ≤ g) : Sl (put3 w g i y) (fun b => Y b ∨ (N ≤ b ∧ some b ≠ (Value.slice (some ⟨g, 0, none⟩) n cap).ownBlock)) a l :=
 h.kept fun b hb => put3_block (by
  rcases hb with hb | hb
  ·have := hY b hb; omega
  ·intro e; exact hb.2 (by simp [Value.ownBlock, e]))
theorem BRow.put {w : World} {N : Nat} {Y : Nat → Prop} {cs : List Bc} {g n cap : Nat} (h : BRow w N Y (.slice (some ⟨g, 0, none⟩) n cap) cs) (hY : ∀ b, Y b → b < N) (i : Nat) (hi : i < cs.length) (y : Bc) (hy : Sl w (fun b => Y b ∨ (N ≤ b ∧ some b ≠ (Value.slice (some ⟨g, 0, none⟩) n cap).ownBlock)) y.2.1 y.1.t.args) : BRow (put3 w g i y) N Y (.slice (some ⟨g, 0, none⟩) n cap) (cs.set i y) := by
 have hNg : N ≤ g := (h.own.lt g rfl).1
 refine ⟨?_, fun x hx => ?_⟩
 ·rcases h.own.2 with ⟨e, _⟩ | ⟨g', cap', cur, e, hbase, hb, h1, h2, h3, h4⟩
  ·cases e
  ·simp at e
   obtain ⟨rfl, rfl, rfl⟩ := e
   have hB : Blk w g cur 82 := hb
   have hB' := ((hB.set (i * 3) (.string y.1.nm)).set (i * 3 + 1) (.string y.1.t.name)).set (i * 3 + 2) (.slice y.2.1 y.1.t.args.length y.2.2)
   refine ⟨flat3_length _, Or.inr ⟨g, cap, _, by simp, hbase, hB', by simpa using h1, h2, by simpa using h3, ?_⟩⟩
   rw [flat3_set y cs i hi, ← h4]
   simp [List.take_set]
 ·rcases List.mem_or_eq_of_mem_set hx with h1 | h1
  ·exact (h.row x h1).put3 hY hNg
  ·rw [h1]; exact hy.put3 hY hNg
theorem BRow.swap {w : World} {N : Nat} {Y : Nat → Prop} {A B : List Bc} {x y : Bc} {g n cap : Nat} (h : BRow w N Y (.slice (some ⟨g, 0, none⟩) n cap) ((A ++ [y]) ++ x :: B)) (hY : ∀ b, Y b → b < N) : BRow (put3 (put3 w g (A.length + 1) y) g A.length x) N Y (.slice (some ⟨g, 0, none⟩) n cap) (A ++ x :: y :: B) := by
 have hNg : N ≤ g := (h.own.lt g rfl).1
 have h1 := h.put hY (A.length + 1) (by simp) y (h.row y (by simp))
 have h2 := h1.put hY A.length (by simp) x ((h.row x (by simp)).put3 hY hNg)
 have e : (((A ++ [y]) ++ x :: B).set (A.length + 1) y).set A.length x = A ++ x :: y :: B := by
  rw [List.set_append_right _ _ (by simp)]
  simp [List.set_append_right]
 rw [e] at h2
 exact h2
end Go.Proofs.YtdebiiodhkcnkaaGreat

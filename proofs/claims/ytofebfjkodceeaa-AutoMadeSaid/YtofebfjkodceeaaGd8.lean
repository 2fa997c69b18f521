import Derived.Test.YtofebfjkodceeaaGd7
namespace Go.Proofs.Ytofebfjkodceeaa
open Go.RowKit
set_option linter.unusedSimpArgs false
set_option linter.unusedVariables false
set_option maxRecDepth 8000
theorem make_rowsG (n : Nat) (hn : n ≤ 20000) : ∃ cs : Array Value, cs.size = n ∧ ∀ w, (Instr.makeSlice 93 (.int .i64 (n : Int)) (.int .i64 (n : Int))).run Try.prog w = .ok (.slice (some ⟨w.heap.size, 0, none⟩) n n) (w.alloc (.cells cs 67)) := by
 obtain ⟨i0, hi, hz0, hz1, hz2⟩ := info_parts infoBsA
 refine ⟨madeCells (Value.slice none 0 0).cells (n * i0.size), by rw [size_madeCells, hz1, Nat.mul_one], fun w => ?_⟩
 have hr := run_make (P := Try.prog) w 93 67 i0 _ Try.underlying93 hi hz0 .i64 .i64 n n (by omega) (by omega) (by rw [hz2]; omega) (by omega)
 simpa using hr
structure MatP (w : World) (M n c : Nat) (R : Nat → Nat) (U : Nat → Nat → Bool) : Prop where
 top : ∃ cs : Array Value, cs.size = n ∧ Blk w M cs 67 ∧ ∀ i, i < c → cs[i]? = some (.slice (some ⟨R i, 0, none⟩) n n)
 row : ∀ i, i < c → Blk w (R i) (((List.range n).map fun k => Value.bool (U i k)).toArray) 4
 inj : ∀ i j, i < c → j < c → R i = R j → i = j
 gt : ∀ i, i < c → M < R i
theorem MatP.lt {w : World} {M n c : Nat} {R : Nat → Nat} {U : Nat → Nat → Bool} (h : MatP w M n c R U) : M < w.heap.size := by
 obtain ⟨cs, _, h1, _⟩ := h.top
 exact h1.lt
theorem MatP.new (w : World) (n : Nat) (cs : Array Value) (h : cs.size = n) (R : Nat → Nat) (U : Nat → Nat → Bool) : MatP (w.alloc (.cells cs 67)) w.heap.size n 0 R U :=
 ⟨⟨cs, h, Blk.new _ _ _, fun i hi => absurd hi (by omega)⟩, fun i hi => absurd hi (by omega), fun i j hi => absurd hi (by omega), fun i hi => absurd hi (by omega)⟩
theorem MatP.exq {w w' : World} {M n c : Nat} {R : Nat → Nat} {U : Nat → Nat → Bool} {Q : Nat → Prop} (h : MatP w M n c R U) (he : ExQ Q w w') (hQ : ∀ b, M ≤ b → ¬ Q b) : MatP w' M n c R U := by
 obtain ⟨cs, h1, h2, h3⟩ := h.top
 exact ⟨⟨cs, h1, h2.exq he (hQ M (Nat.le_refl _)), h3⟩, fun i hi => (h.row i hi).exq he (hQ _ (Nat.le_of_lt (h.gt i hi))), h.inj, h.gt⟩
theorem MatP.later {w w' : World} {M n c : Nat} {R : Nat → Nat} {U : Nat → Nat → Bool} (h : MatP w M n c R U) (hb : Below w.heap.size w w') : MatP w' M n c R U :=
 h.exq (Q := fun _ => False) (ExQ.ofBelow hb) fun _ _ h => h
theorem MatP.mat {w : World} {M n : Nat} {R : Nat → Nat} {U : Nat → Nat → Bool} (h : MatP w M n n R U) : MatU w M n R U := by
 obtain ⟨cs, h1, h2, h3⟩ := h.top
 exact ⟨fun i hi => by rw [h2.cell i]; exact h3 i hi, h.row⟩
theorem MatP.congr {w : World} {M n c : Nat} {R : Nat → Nat} {U V : Nat → Nat → Bool} (h : MatP w M n c R U) (e : ∀ i k, i < c → k < n → V i k = U i k) : MatP w M n c R V :=
 ⟨h.top, fun i hi => by
  have h1 := h.row i hi
  have h2 : (List.range n).map (fun k => Value.bool (V i k)) = (List.range n).map (fun k => Value.bool (U i k)) := List.map_congr_left fun k hk => by rw [e i k hi (List.mem_range.1 hk)]
  rw [h2]; exact h1, h.inj, h.gt⟩
theorem MatP.addrow {w : World} {M n c : Nat} {R : Nat → Nat} {U : Nat → Nat → Bool} (h : MatP w M n c R U) (hc : c < n) : MatP ((w.alloc (.cells (Array.replicate n (Value.bool false)) 4)).setCell ⟨M, c, none⟩ (.slice (some ⟨w.heap.size, 0, none⟩) n n)) M n (c + 1) (fun i => if i = c then w.heap.size else R i) (fun i k => if i = c then false else U i k) := by
 have hM := h.lt
 obtain ⟨cs, h1, h2, h3⟩ := h.top
 have hlt : ∀ i, i < c → R i < w.heap.size := fun i hi => (h.row i hi).lt
 refine ⟨⟨_, ?_, (h2.alloc _).set c _, fun i hi => ?_⟩, fun i hi => ?_, fun i j hi hj e => ?_, fun i hi => ?_⟩
 ·simpa using h1
 ·by_cases e : i = c
  ·subst e
   simp [h1, hc]
  ·rw [Array.getElem?_setIfInBounds_ne (fun h => e h.symm), h3 i (by omega)]
   simp [e]
 ·by_cases e : i = c
  ·subst e
   simp only [if_pos]
   have h4 : Blk (w.alloc (.cells (Array.replicate n (Value.bool false)) 4)) w.heap.size (Array.replicate n (Value.bool false)) 4 := Blk.new _ _ _
   have h5 : ((List.range n).map fun k => Value.bool false).toArray = Array.replicate n (Value.bool false) := by
    apply Array.ext'
    apply List.ext_getElem (by simp)
    intro q hq1 hq2
    simp
   rw [h5]
   exact h4.setOther _ _ (by omega)
  ·simp only [if_neg e]
   exact ((h.row i (by omega)).alloc _).setOther _ _ (by have := h.gt i (by omega); omega)
 ·by_cases e1 : i = c
  ·by_cases e2 : j = c
   ·omega
   ·simp only [if_pos e1, if_neg e2] at e
    have := hlt j (by omega); omega
  ·by_cases e2 : j = c
   ·simp only [if_neg e1, if_pos e2] at e
    have := hlt i (by omega); omega
   ·simp only [if_neg e1, if_neg e2] at e
    exact h.inj i j (by omega) (by omega) e
 ·by_cases e1 : i = c
  ·simp only [if_pos e1]; exact hM
  ·simp only [if_neg e1]; exact h.gt i (by omega)
theorem MatP.set {w : World} {M n c : Nat} {R : Nat → Nat} {U : Nat → Nat → Bool} (h : MatP w M n c R U) {i : Nat} (hi : i < c) (k : Nat) (z : Bool) : MatP (w.setCell ⟨R i, k, none⟩ (.bool z)) M n c R (fun x y => if x = i ∧ y = k then z else U x y) := by
 obtain ⟨cs, h1, h2, h3⟩ := h.top
 refine ⟨⟨cs, h1, h2.setOther _ _ (by have := h.gt i hi; omega), h3⟩, fun x hx => ?_, h.inj, h.gt⟩
 by_cases e : x = i
 ·subst e
  have h4 := (h.row x hx).set k (.bool z)
  have h5 : (((List.range n).map fun y => Value.bool (U x y)).toArray).setIfInBounds k (.bool z) = ((List.range n).map fun y => Value.bool (if x = x ∧ y = k then z else U x y)).toArray := by
   apply Array.ext'
   apply List.ext_getElem (by simp)
   intro q hq1 hq2
   simp only [Array.toList_setIfInBounds, List.getElem_set, List.getElem_map, List.getElem_range]
   by_cases e : k = q
   ·subst e; simp
   ·have e' : ¬ q = k := fun h => e h.symm
    simp [e, e']
  rw [h5] at h4
  exact h4
 ·have h4 := (h.row x hx).setOther (b' := R i) k (.bool z) (fun e2 => e (h.inj x i hx hi e2))
  have h5 : (fun y => Value.bool (if x = i ∧ y = k then z else U x y)) = fun y => Value.bool (U x y) := by
   funext y
   rw [if_neg fun h => e h.1]
  rw [h5]
  exact h4
end Go.Proofs.Ytofebfjkodceeaa


/- Walks: what stands at a place, as the document says. -/
import Derived.Test.YtmkomemjhfafnaaW7
import Derived.BigQuiet
import Derived.Deep.RegionHeld
namespace Go.Proofs.Ytmkomemjhfafnaa
open Go.RowKit
set_option linter.unusedSimpArgs false
set_option linter.unusedVariables false

theorem isome_none {α : Type} {o : Option α} (h : o = none) : o.isSome = false := by rw [h]; rfl
theorem isome_some {α : Type} {o : Option α} {x : α} (h : o = some x) : o.isSome = true := by rw [h]; rfl

theorem PV.tail {w : World} {X : Nat → Prop} {b o c : Nat} {z : Int} {zs : List Int} (hl : zs.length + 1 ≤ 9223372036854775807 ∧ zs.length + 1 ≤ c) (hx : X b) (h : ∀ i (h : i < (z :: zs).length), w.cell? ⟨b, o + i, none⟩ = some (.int .i64 (z :: zs)[i])) :
    PV w X (.slice (some ⟨b, o + 1, none⟩) zs.length (c - 1)) zs := by
  refine ⟨_, _, rfl, by omega, Or.inr ⟨b, o + 1, rfl, hx, fun i hi => ?_⟩⟩
  have := h (i + 1) (by simpa using hi)
  rw [show o + 1 + i = o + (i + 1) by omega]
  simpa using this

theorem TV.back {w w' : World} {X : Nat → Prop} {v : Value} {t : Tm} {B : Nat} (h : TV w' X v t) (hb : Below B w w') (hX : ∀ b, X b → b < B) : TV w X v t := by
  obtain ⟨a, c, e, h⟩ := h
  exact ⟨a, c, e, h.back hb hX⟩

theorem tvform {w : World} {X : Nat → Prop} {v' : Value} {o : Option Tm} (h1 : ∀ x, o = some x → TV w X v' x) (h2 : o = none → v' = zeroT) : ∃ s a n c, v' = .agg #[.string s, .slice a n c] := by
  cases o with
  | none => exact ⟨_, _, _, _, h2 rfl⟩
  | some x => obtain ⟨a, c, e, _⟩ := h1 x rfl; exact ⟨_, _, _, _, e⟩

theorem below_tv {w w' : World} {X : Nat → Prop} {v : Value} {t : Tm} (hb : Below w.heap.size w w') (h : TV w X v t) : TV w' X v t := h.later hb

theorem res_cell0 {w w1 : World} {o1 : Obj} {x0 x1 : Value} {T n : Nat} (hb : Below (((w.alloc o1).alloc (.cells #[x0, x1] T)).drewN n).heap.size (((w.alloc o1).alloc (.cells #[x0, x1] T)).drewN n) w1) : w1.cell? ⟨w.heap.size + 1, 0, none⟩ = some x0 := by rw [hb.cell (p := ⟨_, _, none⟩) (by simp)]; simp
theorem res_cell1 {w w1 : World} {o1 : Obj} {x0 x1 : Value} {T n : Nat} (hb : Below (((w.alloc o1).alloc (.cells #[x0, x1] T)).drewN n).heap.size (((w.alloc o1).alloc (.cells #[x0, x1] T)).drewN n) w1) : w1.cell? ⟨w.heap.size + 1, 1, none⟩ = some x1 := by rw [hb.cell (p := ⟨_, _, none⟩) (by simp)]; simp
theorem res_frozen {w w1 : World} {o1 : Obj} {x0 x1 : Value} {T n : Nat} (hb : Below (((w.alloc o1).alloc (.cells #[x0, x1] T)).drewN n).heap.size (((w.alloc o1).alloc (.cells #[x0, x1] T)).drewN n) w1) : ∀ i, w1.frozen? ⟨w.heap.size + 1, i, none⟩ = false := by intro i; rw [hb.frozen (p := ⟨_, _, none⟩) (by simp)]; simp

theorem res_box1 {w w1 : World} {y0 y1 : Value} {o2 : Obj} {T n : Nat} (hb : Below (((w.alloc (.cells #[y0, y1] T)).alloc o2).drewN n).heap.size (((w.alloc (.cells #[y0, y1] T)).alloc o2).drewN n) w1) : w1.cell? ⟨w.heap.size, 1, none⟩ = some y1 := by rw [hb.cell (p := ⟨_, _, none⟩) (by simp; omega)]; simp
theorem res_old {w w1 : World} {o1 o2 : Obj} {n : Nat} {p : Addr} {v : Value} (hb : Below (((w.alloc o1).alloc o2).drewN n).heap.size (((w.alloc o1).alloc o2).drewN n) w1) (h : w.cell? p = some v) : w1.cell? p = some v :=
  cell_later ((below_drewN (below2 o1 o2) n).trans (hb.mono (by simp; omega))) h
theorem set2_keep {w : World} {K i j : Nat} {u u' v : Value} {p : Addr} (h : w.cell? p = some v) (hp : p.block ≠ K) : ((w.setCell ⟨K, i, none⟩ u).setCell ⟨K, j, none⟩ u').cell? p = some v := by
  rw [World.cell?_of_block (Below.heap_setCell _ _ _ _ (by simpa using hp)), World.cell?_of_block (Below.heap_setCell _ _ _ _ (by simpa using hp)), h]
theorem held4 {w : World} {K i j : Nat} {u u' v1 v2 v3 v4 : Value} {p1 p2 p3 p4 : Addr} (h : w.cell? p1 = some v1 ∧ w.cell? p2 = some v2 ∧ w.cell? p3 = some v3 ∧ w.cell? p4 = some v4) (h1 : p1.block ≠ K) (h2 : p2.block ≠ K) (h3 : p3.block ≠ K) (h4 : p4.block ≠ K) :
    ((w.setCell ⟨K, i, none⟩ u).setCell ⟨K, j, none⟩ u').cell? p1 = some v1 ∧ ((w.setCell ⟨K, i, none⟩ u).setCell ⟨K, j, none⟩ u').cell? p2 = some v2 ∧ ((w.setCell ⟨K, i, none⟩ u).setCell ⟨K, j, none⟩ u').cell? p3 = some v3 ∧ ((w.setCell ⟨K, i, none⟩ u).setCell ⟨K, j, none⟩ u').cell? p4 = some v4 :=
  ⟨set2_keep h.1 h1, set2_keep h.2.1 h2, set2_keep h.2.2.1 h3, set2_keep h.2.2.2 h4⟩

end Go.Proofs.Ytmkomemjhfafnaa

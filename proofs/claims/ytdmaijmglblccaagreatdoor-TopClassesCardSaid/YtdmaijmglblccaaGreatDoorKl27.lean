/- Walks: one kind becomes another one's (ClosureOf's join). -/
import Derived.Test.YtdmaijmglblccaaGreatDoorKl25
namespace Go.Proofs.YtdmaijmglblccaaGreatDoor
open Go.RowKit
set_option linter.unusedSimpArgs false
set_option linter.unusedVariables false
set_option maxRecDepth 8000

/-- The kinds in memory. -/
structure KdA (B G n : Nat) (K : List Nat) (w : World) : Prop where
  bx : Blk w B #[.slice (some ⟨G, 0, none⟩) n n] 45
  rw_ : Blk w G (iL K).toArray 3
  len : K.length = n
  ne : B ≠ G
theorem KdA.later {B G n : Nat} {K : List Nat} {w w' : World} (h : KdA B G n K w) (hb : Below w.heap.size w w') : KdA B G n K w' := ⟨h.bx.below hb h.bx.lt, h.rw_.below hb h.rw_.lt, h.len, h.ne⟩
theorem iL_get {K : List Nat} {i : Nat} (h : i < K.length) : (iL K)[i]? = some (.int .i64 ((gd K 0 i : Nat) : Int)) := by
  unfold iL
  rw [List.getElem?_map, List.getElem?_eq_getElem h, gd_get h]
  rfl
theorem KdA.cell {B G n : Nat} {K : List Nat} {w : World} (h : KdA B G n K w) {i : Nat} (hi : i < n) : w.cell? ⟨G, i, none⟩ = some (.int .i64 ((gd K 0 i : Nat) : Int)) := by
  rw [h.rw_.cell i, List.getElem?_toArray, iL_get (by rw [h.len]; exact hi)]
theorem KdA.box {B G n : Nat} {K : List Nat} {w : World} (h : KdA B G n K w) : w.cell? ⟨B, 0, none⟩ = some (.slice (some ⟨G, 0, none⟩) n n) := h.bx.cell 0
theorem iL_set (K : List Nat) (i x : Nat) : iL (K.set i x) = (iL K).set i (.int .i64 (x : Int)) := by
  unfold iL
  rw [List.map_set]
theorem KdA.put {B G n : Nat} {K : List Nat} {w : World} (h : KdA B G n K w) (i x : Nat) : KdA B G n (K.set i x) (w.setCell ⟨G, i, none⟩ (.int .i64 (x : Int))) :=
  ⟨h.bx.setOther _ _ h.ne, by
    have := h.rw_.set i (.int .i64 (x : Int))
    rw [iL_set]
    simpa using this, by rw [List.length_set, h.len], h.ne⟩
end Go.Proofs.YtdmaijmglblccaaGreatDoor

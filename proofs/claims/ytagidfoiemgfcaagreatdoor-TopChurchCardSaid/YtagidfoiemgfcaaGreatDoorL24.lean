
/- Walks: the document's EtaOf. -/
import Derived.Test.YtagidfoiemgfcaaGreatDoorL23
import Derived.BigQuiet
import Derived.Deep.RegionHeld3
namespace Go.Proofs.YtagidfoiemgfcaaGreatDoor
open Go.RowKit
set_option linter.unusedSimpArgs false
set_option linter.unusedVariables false
set_option maxRecDepth 8000

theorem LmPost.later {w w1 w2 : World} {X : Nat → Prop} {t : Lm} {e : Ending} (h : LmPost w X t e w1) (hb : Below w1.heap.size w1 w2) : LmPost w X t e w2 := by
  obtain ⟨a, c, e1, h1, h2⟩ := h
  exact ⟨a, c, e1, h1.later hb, h2.trans (hb.mono h2.size)⟩
/-- What is held while a binder is asked whether it does nothing. -/
def EtS (Q bf of : Nat) (af ax : Option Addr) (cf cx c9 : Nat) (yx : Int) (f x : Lm) (w' : World) : Prop :=
  Blk w' Q #[.int .i64 3, .int .i64 yx, .slice (some ⟨bf, of, none⟩) 2 c9] 26 ∧ w'.cell? ⟨bf, of, none⟩ = some (.int .i64 f.kind) ∧ w'.cell? ⟨bf, of + 1, none⟩ = some (.int .i64 f.idx) ∧ w'.cell? ⟨bf, of + 2, none⟩ = some (.slice af f.subs.length cf) ∧ w'.cell? ⟨bf, of + 3, none⟩ = some (.int .i64 x.kind) ∧ w'.cell? ⟨bf, of + 3 + 1, none⟩ = some (.int .i64 x.idx) ∧ w'.cell? ⟨bf, of + 3 + 2, none⟩ = some (.slice ax x.subs.length cx)
theorem EtS.call0 {Q bf of : Nat} {af ax : Option Addr} {cf cx c9 : Nat} {yx : Int} {f x : Lm} {w w1 : World} (hb : Below w.heap.size w w1) (h : EtS Q bf of af ax cf cx c9 yx f x w) : EtS Q bf of af ax cf cx c9 yx f x w1 := by
  obtain ⟨h0, h1, h2, h3, h4, h5, h6⟩ := h
  exact ⟨h0.below hb h0.lt, cell_later hb h1, cell_later hb h2, cell_later hb h3, cell_later hb h4, cell_later hb h5, cell_later hb h6⟩
theorem EtS.call {Q bf of : Nat} {af ax : Option Addr} {cf cx c9 : Nat} {yx : Int} {f x : Lm} {w w1 : World} {n : Nat} (hb : Below (w.drewN n).heap.size (w.drewN n) w1) (h : EtS Q bf of af ax cf cx c9 yx f x w) : EtS Q bf of af ax cf cx c9 yx f x w1 :=
  EtS.call0 ((below_drewN (Below.refl _ _) n).trans (hb.mono (by simp))) h
end Go.Proofs.YtagidfoiemgfcaaGreatDoor

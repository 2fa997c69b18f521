
/- Walks: the document's Beta. -/
import Derived.Test.YtclobmmdlhianaaGreatDoorL12
import Derived.Test.YtclobmmdlhianaaGreatDoorOpenM
namespace Go.Proofs.YtclobmmdlhianaaGreatDoor
open Go.RowKit
set_option linter.unusedSimpArgs false
set_option linter.unusedVariables false
set_option maxRecDepth 8000

/-- What is held while the law runs. -/
def LpS (w : World) (t z : Lm) (a az : Option Addr) (c cz : Nat) (wr : World) : Prop :=
  Below w.heap.size w wr ∧ Blk wr w.heap.size #[.int .i64 t.kind, .int .i64 t.idx, .slice a t.subs.length c] 25 ∧ Blk wr (w.heap.size + 1) #[.int .i64 z.kind, .int .i64 z.idx, .slice az z.subs.length cz] 25
theorem LpS.start (w : World) (t z : Lm) (a az : Option Addr) (c cz : Nat) : LpS w t z a az c cz ((w.alloc (.cells #[.int .i64 t.kind, .int .i64 t.idx, .slice a t.subs.length c] 25)).alloc (.cells #[.int .i64 z.kind, .int .i64 z.idx, .slice az z.subs.length cz] 25)) := by
  refine ⟨((Below.refl _ _).alloc (Nat.le_refl _) _).alloc (by simp) _, (Blk.new w _ _).alloc _, ?_⟩
  have h := Blk.new (w.alloc (.cells #[.int .i64 t.kind, .int .i64 t.idx, .slice a t.subs.length c] 25)) #[.int .i64 z.kind, .int .i64 z.idx, .slice az z.subs.length cz] 25
  simp only [World.size_alloc] at h
  exact h
theorem LpS.later {w wr w' : World} {t z : Lm} {a az : Option Addr} {c cz : Nat} (h : LpS w t z a az c cz wr) (hb : Below wr.heap.size wr w') : LpS w t z a az c cz w' :=
  ⟨h.1.trans (hb.mono h.1.size), h.2.1.below hb h.2.1.lt, h.2.2.below hb h.2.2.lt⟩
theorem LpS.alloc {w wr : World} {t z : Lm} {a az : Option Addr} {c cz : Nat} (h : LpS w t z a az c cz wr) (o : Obj) : LpS w t z a az c cz (wr.alloc o) := h.later ((Below.refl _ _).alloc (Nat.le_refl _) o)
end Go.Proofs.YtclobmmdlhianaaGreatDoor

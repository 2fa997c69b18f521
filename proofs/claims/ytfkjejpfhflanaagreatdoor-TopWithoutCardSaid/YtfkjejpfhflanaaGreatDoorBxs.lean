/- Boxes: a lambda term, a term, that lies in a block of its own. -/
import Derived.Test.YtfkjejpfhflanaaGreatDoorZBTopWithoutOwn
import Derived.Test.YtfkjejpfhflanaaGreatDoorZTopWithoutOwn
namespace Go.Proofs.YtfkjejpfhflanaaGreatDoor
open Go.RowKit
set_option linter.unusedSimpArgs false
set_option linter.unusedVariables false
set_option maxRecDepth 8000

/-- A lambda term in a box. -/
def BxL (w : World) (A : Nat) (t : Lm) (a : Option Addr) (c : Nat) : Prop := Blk w A #[.int .i64 t.kind, .int .i64 t.idx, .slice a t.subs.length c] 25 ∧ SlM w (fun _ => True) a t.subs
theorem BxL.later {w w' : World} {A : Nat} {t : Lm} {a : Option Addr} {c : Nat} (h : BxL w A t a c) (hb : Below w.heap.size w w') : BxL w' A t a c := ⟨h.1.below hb h.1.lt, h.2.later hb⟩
theorem BxL.alloc {w : World} {A : Nat} {t : Lm} {a : Option Addr} {c : Nat} (h : BxL w A t a c) (o : Obj) : BxL (w.alloc o) A t a c := h.later ((Below.refl _ _).alloc (Nat.le_refl _) o)
theorem BxL.new {w : World} {t : Lm} {a : Option Addr} {c : Nat} {X : Nat → Prop} (h : SlM w X a t.subs) : BxL (w.alloc (.cells #[.int .i64 t.kind, .int .i64 t.idx, .slice a t.subs.length c] 25)) w.heap.size t a c :=
  ⟨Blk.new w _ _, (h.mono fun _ _ _ => trivial).later ((Below.refl _ _).alloc (Nat.le_refl _) _)⟩
theorem BxL.cs {w : World} {A : Nat} {t : Lm} {a : Option Addr} {c : Nat} (h : BxL w A t a c) : w.cell? ⟨A, 0, none⟩ = some (.int .i64 t.kind) ∧ w.cell? ⟨A, 1, none⟩ = some (.int .i64 t.idx) ∧ w.cell? ⟨A, 2, none⟩ = some (.slice a t.subs.length c) := ⟨h.1.cell 0, h.1.cell 1, h.1.cell 2⟩
theorem BxL.mv {w : World} {A : Nat} {t : Lm} {a : Option Addr} {c : Nat} (h : BxL w A t a c) : MV w (fun _ => True) (.agg #[.int .i64 t.kind, .int .i64 t.idx, .slice a t.subs.length c]) t := ⟨a, c, rfl, h.2⟩
/-- A term in a box. -/
def BxT (w : World) (A : Nat) (t : Tm) (a : Option Addr) (c : Nat) : Prop := Blk w A #[.string t.name, .slice a t.args.length c] 30 ∧ Sl w (fun _ => True) a t.args
theorem BxT.later {w w' : World} {A : Nat} {t : Tm} {a : Option Addr} {c : Nat} (h : BxT w A t a c) (hb : Below w.heap.size w w') : BxT w' A t a c := ⟨h.1.below hb h.1.lt, h.2.later hb⟩
theorem BxT.new {w : World} {t : Tm} {a : Option Addr} {c : Nat} {X : Nat → Prop} (h : Sl w X a t.args) : BxT (w.alloc (.cells #[.string t.name, .slice a t.args.length c] 30)) w.heap.size t a c :=
  ⟨Blk.new w _ _, (h.mono fun _ _ _ => trivial).later ((Below.refl _ _).alloc (Nat.le_refl _) _)⟩
theorem BxT.cs {w : World} {A : Nat} {t : Tm} {a : Option Addr} {c : Nat} (h : BxT w A t a c) : w.cell? ⟨A, 0, none⟩ = some (.string t.name) ∧ w.cell? ⟨A, 1, none⟩ = some (.slice a t.args.length c) := ⟨h.1.cell 0, h.1.cell 1⟩
theorem BxT.tv {w : World} {A : Nat} {t : Tm} {a : Option Addr} {c : Nat} (h : BxT w A t a c) : TV w (fun _ => True) (.agg #[.string t.name, .slice a t.args.length c]) t := ⟨a, c, rfl, h.2⟩
theorem up1 {w0 w : World} (h : Below w0.heap.size w0 w) (o : Obj) : Below w0.heap.size w0 (w.alloc o) := h.alloc h.size o
theorem one1 (w : World) (o : Obj) : Below w.heap.size w (w.alloc o) := (Below.refl _ _).alloc (Nat.le_refl _) o
end Go.Proofs.YtfkjejpfhflanaaGreatDoor

/- Boxes: a term that lies in a block of its own. -/
import Derived.Test.YtdmaijmglblccaaGreatDoorZClosureSaysOwn
namespace Go.Proofs.YtdmaijmglblccaaGreatDoor
open Go.RowKit
set_option linter.unusedSimpArgs false
set_option linter.unusedVariables false
set_option maxRecDepth 8000

/-- A term in a box. -/
def BxT (w : World) (A : Nat) (t : Tm) (a : Option Addr) (c : Nat) : Prop := Blk w A #[.string t.name, .slice a t.args.length c] 25 ∧ Sl w (fun _ => True) a t.args
theorem BxT.later {w w' : World} {A : Nat} {t : Tm} {a : Option Addr} {c : Nat} (h : BxT w A t a c) (hb : Below w.heap.size w w') : BxT w' A t a c := ⟨h.1.below hb h.1.lt, h.2.later hb⟩
theorem BxT.new {w : World} {t : Tm} {a : Option Addr} {c : Nat} {X : Nat → Prop} (h : Sl w X a t.args) : BxT (w.alloc (.cells #[.string t.name, .slice a t.args.length c] 25)) w.heap.size t a c :=
  ⟨Blk.new w _ _, (h.mono fun _ _ _ => trivial).later ((Below.refl _ _).alloc (Nat.le_refl _) _)⟩
theorem BxT.cs {w : World} {A : Nat} {t : Tm} {a : Option Addr} {c : Nat} (h : BxT w A t a c) : w.cell? ⟨A, 0, none⟩ = some (.string t.name) ∧ w.cell? ⟨A, 1, none⟩ = some (.slice a t.args.length c) := ⟨h.1.cell 0, h.1.cell 1⟩
theorem BxT.tv {w : World} {A : Nat} {t : Tm} {a : Option Addr} {c : Nat} (h : BxT w A t a c) : TV w (fun _ => True) (.agg #[.string t.name, .slice a t.args.length c]) t := ⟨a, c, rfl, h.2⟩
end Go.Proofs.YtdmaijmglblccaaGreatDoor

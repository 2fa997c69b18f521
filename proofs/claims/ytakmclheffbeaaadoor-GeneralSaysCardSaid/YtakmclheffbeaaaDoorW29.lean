/- Walks: terms out of raw numbers. -/
import Derived.Test.YtakmclheffbeaaaDoorW28
import Derived.Deep.RegionHeld3
namespace Go.Proofs.YtakmclheffbeaaaDoor
open Go.RowKit
set_option linter.unusedSimpArgs false
set_option linter.unusedVariables false
set_option maxRecDepth 8000

section
variable {P : Program} {ops : Array Oper} {Q : Exit → Act → World → Prop} {md : Region.Mode}
end

def TwoS (w5 w6 : World) (t5 t6 : Tm) (a5 a6 : Option Addr) (c5 c6 : Nat) (w' : World) : Prop :=
  Blk w' w5.heap.size #[.string t5.name, .slice a5 t5.args.length c5] 24 ∧ Blk w' w6.heap.size #[.string t6.name, .slice a6 t6.args.length c6] 24
def TwoF (w5 w6 : World) (t5 t6 : Tm) (a5 a6 : Option Addr) (c5 c6 : Nat) (b : Nat) (w' : World) : Prop :=
  TwoS w5 w6 t5 t6 a5 a6 c5 c6 w' ∧ Blk w' b #[.string ⟨#[102]⟩, .string ⟨#[103]⟩] 9
theorem TwoS.alloc {w5 w6 : World} {t5 t6 : Tm} {a5 a6 : Option Addr} {c5 c6 : Nat} {w' : World} (h : TwoS w5 w6 t5 t6 a5 a6 c5 c6 w') (o : Obj) : TwoS w5 w6 t5 t6 a5 a6 c5 c6 (w'.alloc o) := ⟨h.1.alloc o, h.2.alloc o⟩
theorem TwoF.alloc {w5 w6 : World} {t5 t6 : Tm} {a5 a6 : Option Addr} {c5 c6 b : Nat} {w' : World} (h : TwoF w5 w6 t5 t6 a5 a6 c5 c6 b w') (o : Obj) : TwoF w5 w6 t5 t6 a5 a6 c5 c6 b (w'.alloc o) := ⟨h.1.alloc o, h.2.alloc o⟩

end Go.Proofs.YtakmclheffbeaaaDoor

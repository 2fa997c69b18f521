
/- The law TopSome, if AutoFrom is as it is said to be. -/
import Derived.Test.YtgpmlfjhihcfhaaAv15
import Derived.Test.YtgpmlfjhihcfhaaW151
import Derived.Test.YtgpmlfjhihcfhaaZTopNerodeOwn
namespace Go.Proofs.Ytgpmlfjhihcfhaa
open Go.RowKit
set_option linter.unusedSimpArgs false
set_option linter.unusedVariables false
set_option maxRecDepth 8000

/-- From now on, whatever else is made. -/
def EvS (P : World → Prop) (w : World) : Prop := ∀ w', Below w.heap.size w w' → P w'
theorem EvS.now {P : World → Prop} {w : World} (h : EvS P w) : P w := h w (Below.refl _ _)
theorem EvS.later {P : World → Prop} {w w' : World} (h : EvS P w) (hb : Below w.heap.size w w') : EvS P w' := fun w'' hb' => h w'' (hb.trans (hb'.mono hb.size))
theorem EvS.and {P Q : World → Prop} {w : World} (h : EvS P w) (h' : EvS Q w) : EvS (fun w => P w ∧ Q w) w := fun w' hb => ⟨h w' hb, h' w' hb⟩
theorem EvS.alloc {P : World → Prop} {w : World} (h : EvS P w) (o : Obj) : EvS P (w.alloc o) := h.later ((Below.refl _ _).alloc (Nat.le_refl _) o)
theorem evS_below {w0 w : World} (h : Below w0.heap.size w0 w) : EvS (fun w => Below w0.heap.size w0 w) w := fun w' hb => h.trans (hb.mono h.size)
theorem evS_sl {w : World} {X : Nat → Prop} {a : Option Addr} {l : List Tm} (h : Sl w X a l) : EvS (fun w => Sl w (fun _ => True) a l) w := fun w' hb => (h.later hb).mono fun _ _ _ => trivial
theorem evS_blk {w : World} {b : Nat} {cs : Array Value} {T : Nat} (h : Blk w b cs T) : EvS (fun w => Blk w b cs T) w := fun w' hb => h.below hb h.lt
theorem evS_av {w : World} {X : Nat → Prop} {v : Value} {A : Au} (h : AV w X v A) : EvS (fun w => AV w X v A) w := fun w' hb => h.later hb
/-- A term that was given back, and a box for it. -/
theorem EvS.box {P : World → Prop} {w1 w2 : World} {Y : Nat → Prop} {t : Tm} {a : Option Addr} {T : Nat} (A : EvS P w1) (hb : Below w1.heap.size w1 w2) (hs : Sl w2 Y a t.args) (c : Nat) : EvS (fun w => P w ∧ Blk w w2.heap.size #[.string t.name, .slice a t.args.length c] T ∧ Sl w (fun _ => True) a t.args) (w2.alloc (.cells #[.string t.name, .slice a t.args.length c] T)) :=
  ((A.later hb).alloc _).and ((evS_blk (Blk.new w2 _ _)).and ((evS_sl hs).alloc _))

end Go.Proofs.Ytgpmlfjhihcfhaa


/- Walks: Fit, and what asks it. -/
import Derived.Test.YtgppbciofhoigaiW95
import Derived.Test.YtgppbciofhoigaiW93
import Derived.Test.YtgppbciofhoigaiW81
import Derived.Laws.EntriesVeiled
namespace Go.Proofs.Ytgppbciofhoigai
open Go.RowKit
set_option linter.unusedSimpArgs false
set_option linter.unusedVariables false
set_option maxRecDepth 8000

def FiPost (w : World) (Y : Nat → Prop) (p t : Tm) (e : Ending) (w' : World) : Prop :=
  Below w.heap.size w w' ∧ ((mtT p t [] = none ∧ e = .returned (.tuple #[.map none, .bool false])) ∨
    ∃ (h' : List Bd) (q : Nat) (Z' : List Bc), mtT p t [] = some h' ∧ e = .returned (.tuple #[.map (some q), .bool true]) ∧ Z'.map (·.1) = h' ∧ FtM w' q Y Z')

theorem fit_start (w : World) (o1 o2 : Obj) (m v : Value) (T1 T2 : Nat) : Below w.heap.size w (((((w.alloc o1).alloc o2).alloc (.map #[] 0)).alloc (.cells #[m] T1)).alloc (.cells #[v] T2)) ∧
    MapAt (((((w.alloc o1).alloc o2).alloc (.map #[] 0)).alloc (.cells #[m] T1)).alloc (.cells #[v] T2)) (w.heap.size + 1 + 1) [] ∧ Blk (((((w.alloc o1).alloc o2).alloc (.map #[] 0)).alloc (.cells #[m] T1)).alloc (.cells #[v] T2)) (w.heap.size + 1 + 1 + 1) #[m] T1 ∧ Blk (((((w.alloc o1).alloc o2).alloc (.map #[] 0)).alloc (.cells #[m] T1)).alloc (.cells #[v] T2)) (w.heap.size + 1 + 1 + 1 + 1) #[v] T2 := by
  refine ⟨((((below2 o1 o2).alloc (by simp; omega) _).alloc (by simp; omega) _).alloc (by simp; omega) _), ?_, ?_, ?_⟩
  · have h := MapAt.new ((w.alloc o1).alloc o2)
    have h1 := (h.below ((Below.refl _ _).alloc (Nat.le_refl _) (.cells #[m] T1)) h.lt)
    have h2 := (h1.below ((Below.refl _ _).alloc (Nat.le_refl _) (.cells #[v] T2)) h1.lt)
    simpa using h2
  · have h := (Blk.new (((w.alloc o1).alloc o2).alloc (.map #[] 0)) #[m] T1).alloc (.cells #[v] T2)
    simpa using h
  · have h := Blk.new ((((w.alloc o1).alloc o2).alloc (.map #[] 0)).alloc (.cells #[m] T1)) #[v] T2
    simpa using h

end Go.Proofs.Ytgppbciofhoigai

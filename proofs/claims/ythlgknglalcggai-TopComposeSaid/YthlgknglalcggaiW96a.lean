
/- Walks: Fit. -/
import Derived.Test.YthlgknglalcggaiW95
import Derived.Test.YthlgknglalcggaiW94a
import Derived.Test.YthlgknglalcggaiW93
import Derived.Laws.EntriesVeiled
namespace Go.Proofs.Ythlgknglalcggai
open Go.RowKit
set_option linter.unusedSimpArgs false
set_option linter.unusedVariables false
set_option maxRecDepth 8000

def FitPost (w : World) (Y : Nat → Prop) (p t : Tm) (e : Ending) (w' : World) : Prop :=
  Below w.heap.size w w' ∧ ((mtT p t [] = none ∧ e = .returned (.tuple #[.map none, .bool false])) ∨
    ∃ (h' : List Bd) (q : Nat) (Z' : List Bc), mtT p t [] = some h' ∧ e = .returned (.tuple #[.map (some q), .bool true]) ∧ Z'.map (·.1) = h' ∧ FtM w' q Y Z')

def FitPostN (w : World) (Y : Nat → Prop) (p t : Tm) (e : Ending) (w' : World) : Prop :=
  Below w.heap.size w w' ∧ ((mtT p t [] = none ∧ e = .returned (.tuple #[.map none, .bool false])) ∨
    ∃ (h' : List Bd) (q : Nat) (Z' : List Bc), mtT p t [] = some h' ∧ e = .returned (.tuple #[.map (some q), .bool true]) ∧ Z'.map (·.1) = h' ∧ FtM w' q Y Z' ∧ w.heap.size ≤ q)

theorem fit_start (w : World) (m v : Value) (T1 T2 : Nat) : Below w.heap.size w (((w.alloc (.map #[] 0)).alloc (.cells #[m] T1)).alloc (.cells #[v] T2)) ∧
    MapAt (((w.alloc (.map #[] 0)).alloc (.cells #[m] T1)).alloc (.cells #[v] T2)) w.heap.size [] ∧ Blk (((w.alloc (.map #[] 0)).alloc (.cells #[m] T1)).alloc (.cells #[v] T2)) (w.heap.size + 1) #[m] T1 ∧ Blk (((w.alloc (.map #[] 0)).alloc (.cells #[m] T1)).alloc (.cells #[v] T2)) (w.heap.size + 1 + 1) #[v] T2 := by
  refine ⟨((((Below.refl _ _).alloc (Nat.le_refl _) _).alloc (by simp) _).alloc (by simp; omega) _), ?_, ?_, ?_⟩
  · have h := MapAt.new w
    have h1 := (h.below ((Below.refl _ _).alloc (Nat.le_refl _) (.cells #[m] T1)) h.lt)
    have h2 := (h1.below ((Below.refl _ _).alloc (Nat.le_refl _) (.cells #[v] T2)) h1.lt)
    simpa using h2
  · have h := (Blk.new (w.alloc (.map #[] 0)) #[m] T1).alloc (.cells #[v] T2)
    simpa using h
  · have h := Blk.new ((w.alloc (.map #[] 0)).alloc (.cells #[m] T1)) #[v] T2
    simpa using h

theorem PtT.of_blk {w : World} {X : Nat → Prop} {b : Nat} {t : Tm} {a : Option Addr} {c T : Nat} (h : Blk w b #[.string t.name, .slice a t.args.length c] T) (hs : Sl w X a t.args) : PtT w X b 0 t := ⟨a, c, h.cell 0, h.cell 1, hs, h.lt⟩

end Go.Proofs.Ythlgknglalcggai

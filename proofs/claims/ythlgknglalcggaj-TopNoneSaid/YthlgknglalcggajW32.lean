
/- Walks: the reader's names. -/
import Derived.Test.YthlgknglalcggajW31
namespace Go.Proofs.Ythlgknglalcggaj
open Go.RowKit
set_option linter.unusedSimpArgs false
set_option linter.unusedVariables false
set_option maxRecDepth 8000

/-- How far the reader is. -/
def rdAt (w : World) (B : Nat) : Nat := match w.cell? ⟨B, 1, none⟩ with
  | some (.int _ n) => n.toNat
  | _ => 0
theorem Bx.at {w : World} {B i k : Nat} {s : ByteArray} (h : Bx w B s i k) : rdAt w B = i := by unfold rdAt; rw [h.c1]; simp

/-- What reading a name does: the name, or what is thrown. -/
def NamePost (w : World) (B i k : Nat) (s : ByteArray) (e : Ending) (w' : World) : Prop :=
  if stopAt s i = i then e = .panicked [{ v := .iface 33 (.int .i64 (if i = s.size then 13 else 12)), recovered := false }] ∧ Ex B w w'
  else if nameB (s.extract i (stopAt s i)) = false then e = .panicked [{ v := .iface 33 (.int .i64 1), recovered := false }] ∧ Ex B w w'
  else e = .returned (.string (s.extract i (stopAt s i))) ∧ Bx w' B s (stopAt s i) k ∧ Ex B w w' ∧ w'.heap.size = w.heap.size

theorem ext_size (s : ByteArray) {i j : Nat} (hj : j ≤ s.size) : (s.extract i j).size = j - i := by
  rw [ByteArray.size_extract]; omega
theorem ext_empty {s : ByteArray} {i j : Nat} (hj : j ≤ s.size) (h : j ≤ i) : (s.extract i j).toList.isEmpty = true := isEmpty_zero (by rw [ext_size s hj]; omega)
theorem ext_some {s : ByteArray} {i j : Nat} (hj : j ≤ s.size) (h : i < j) : (s.extract i j).toList.isEmpty = false := isEmpty_pos (by rw [ext_size s hj]; omega)

theorem name_ok {w wr : World} {B i j k n : Nat} {s : ByteArray} (hst : stopAt s i = j) (hji : ¬ j = i) (hn : nameB (s.extract i j) = true) (hx : Bx wr B s j k) (he : Ex B w wr) (hz : wr.heap.size = w.heap.size) : NamePost w B i k s (.returned (.string (s.extract i j))) (wr.drewN n) := by
  unfold NamePost
  rw [hst, if_neg hji, if_neg (by rw [hn]; simp)]
  exact ⟨rfl, hx, he.drewN n, hz⟩

theorem name_bad {w wr : World} {B i j k n : Nat} {s : ByteArray} (hst : stopAt s i = j) (hji : ¬ j = i) (hn : nameB (s.extract i j) = false) (he : Ex B w wr) : NamePost w B i k s (.panicked [{ v := .iface 33 (.int .i64 1), recovered := false }]) (wr.drewN n) := by
  unfold NamePost
  rw [hst, if_neg hji, if_pos hn]
  exact ⟨rfl, he.drewN n⟩
theorem name_none {w wr : World} {B i j k n : Nat} {s : ByteArray} {r : Int} (hst : stopAt s i = j) (hji : j = i) (hr : (if j = s.size then (13 : Int) else 12) = r) (he : Ex B w wr) : NamePost w B i k s (.panicked [{ v := .iface 33 (.int .i64 r), recovered := false }]) (wr.drewN n) := by
  unfold NamePost
  rw [hst, if_pos hji, ← hji, hr]
  exact ⟨rfl, he.drewN n⟩

def NmInv (w : World) (B i k : Nat) (s : ByteArray) (wr : World) : Prop := ∃ j, i ≤ j ∧ j ≤ s.size ∧ stopAt s i = stopAt s j ∧ Bx wr B s j k ∧ Ex B w wr ∧ wr.heap.size = w.heap.size

end Go.Proofs.Ythlgknglalcggaj

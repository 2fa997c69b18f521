
/- The law on matching a term made of raw numbers: it answers true. -/
import Derived.Test.YtkfppicbningaaaW100
import Derived.Test.YtkfppicbningaaaW99
import Derived.Test.YtkfppicbningaaaW53
import Derived.Test.YtkfppicbningaaaW84
namespace Go.Proofs.Ytkfppicbningaaa
open Go.RowKit
set_option linter.unusedSimpArgs false
set_option linter.unusedVariables false
set_option maxRecDepth 8000

/-- How great a term is with bindings in it. -/
theorem onL_size {ls : List Bd} {M : Nat} (hM : 1 ≤ M) (h : ∀ d ∈ ls, sizeL [d.t] ≤ M) : ∀ l : List Tm, sizeL (onL ls l) ≤ sizeL l * M := by
  intro l
  induction l using Tm.indL with
  | h0 => simp [onL, sizeL]
  | h s l r ihl ihr =>
    have e1 : sizeL (onL ls (⟨s, l⟩ :: r)) = sizeL [onT ls ⟨s, l⟩] + sizeL (onL ls r) := by
      rw [onL_cons]
      generalize onT ls ⟨s, l⟩ = x
      obtain ⟨s2, m⟩ := x
      simp [sizeL]
    have e2 : sizeL (⟨s, l⟩ :: r) = (1 + sizeL l) + sizeL r := by simp [sizeL]
    have h1 : sizeL [onT ls ⟨s, l⟩] ≤ (1 + sizeL l) * M := by
      have hdeep : sizeL [(⟨s, onL ls l⟩ : Tm)] ≤ (1 + sizeL l) * M := by
        simp only [sizeL]
        rw [Nat.add_mul]
        omega
      unfold onT onN
      cases hf : forT ls s with
      | none => exact hdeep
      | some x =>
        dsimp only
        split
        · obtain ⟨d, hd, _, rfl⟩ := forT_mem hf
          have := h d hd
          rw [Nat.add_mul]
          omega
        · exact hdeep
    rw [e1, e2, Nat.add_mul]
    omega
theorem onT_size {ls : List Bd} {M : Nat} (hM : 1 ≤ M) (h : ∀ d ∈ ls, sizeL [d.t] ≤ M) (t : Tm) : sizeL [onT ls t] ≤ sizeL [t] * M := by
  have h1 := onL_size hM h [t]
  rw [onL_cons] at h1
  simpa [onL] using h1

/-- What the region that makes the instance leaves. -/
def MmB (w3 : World) (Q : Nat) (s : ByteArray) (a : Option Addr) (n c : Nat) (l0 : List Tm) (w9 : World) : Prop := Blk w9 Q #[.string s, .slice a n c] 28 ∧ Below w3.heap.size w3 w9 ∧ Sl w9 (fun _ => True) a l0
theorem mmB_set {w3 w8 : World} {Q n c : Nat} {s : ByteArray} {a : Option Addr} {l0 : List Tm} (hQ : Blk w8 Q #[.string ⟨#[]⟩, .slice none 0 0] 28) (hw : w3.heap.size ≤ Q) (hb : Below w3.heap.size w3 w8) (hs : Sl w8 (fun b => b ≠ Q) a l0) :
    MmB w3 Q s a n c l0 ((w8.setCell ⟨Q, 0, none⟩ (.string s)).setCell ⟨Q, 1, none⟩ (.slice a n c)) :=
  ⟨(hQ.set 0 _).set 1 _, (hb.setCell (by exact hw) _).setCell (by exact hw) _, (hs.kept fun b hb => by
    rw [Below.heap_setCell _ _ _ _ (by simpa using hb), Below.heap_setCell _ _ _ _ (by simpa using hb)]).mono fun b hb _ => trivial⟩

end Go.Proofs.Ytkfppicbningaaa

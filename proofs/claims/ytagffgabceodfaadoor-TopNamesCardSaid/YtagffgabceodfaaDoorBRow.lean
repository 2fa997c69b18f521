
/- Rows of bindings that a call makes. -/
import Derived.Test.YtagffgabceodfaaDoorMem
import Derived.Test.YtagffgabceodfaaDoorBnd
namespace Go.Proofs.YtagffgabceodfaaDoor
open Go.RowKit
set_option linter.unusedSimpArgs false
set_option linter.unusedVariables false

/-- A binding, and where those below its term's first knot lie. -/
abbrev Bc := Bd × Option Addr × Nat
instance : Inhabited Bc := ⟨(⟨⟨#[]⟩, ⟨⟨#[]⟩, []⟩⟩, none, 0)⟩
def enc3 (x : Bc) : List Value := [.string x.1.nm, .string x.1.t.name, .slice x.2.1 x.1.t.args.length x.2.2]
def flat3 : List Bc → List Value
  | [] => []
  | x :: r => enc3 x ++ flat3 r
theorem flat3_append (b : List Bc) : ∀ a, flat3 (a ++ b) = flat3 a ++ flat3 b
  | [] => rfl
  | x :: r => by rw [List.cons_append, flat3, flat3, flat3_append b r, List.append_assoc]
theorem flat3_length : ∀ a : List Bc, (flat3 a).length = a.length * 3
  | [] => rfl
  | x :: r => by rw [flat3, List.length_append, flat3_length r]; simp [enc3]; omega
theorem flat3_get : ∀ (a : List Bc) (i : Nat) (h : i < a.length) (j : Nat), j < 3 → (flat3 a)[i * 3 + j]? = (enc3 a[i])[j]?
  | [], i, h, j, hj => by simp at h
  | x :: r, 0, h, j, hj => by
    rw [flat3, List.getElem?_append_left (by simp [enc3]; omega)]; simp
  | x :: r, i + 1, h, j, hj => by
    rw [flat3, List.getElem?_append_right (by simp [enc3]; omega)]
    have e : (i + 1) * 3 + j - (enc3 x).length = i * 3 + j := by simp [enc3]; omega
    rw [e, flat3_get r i (by simpa using h) j hj]
    simp

end Go.Proofs.YtagffgabceodfaaDoor

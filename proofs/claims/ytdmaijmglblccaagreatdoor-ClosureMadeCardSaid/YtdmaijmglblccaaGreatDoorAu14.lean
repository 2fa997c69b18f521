
/- Walks: is a term accepted, as the document says? -/
import Derived.Test.YtdmaijmglblccaaGreatDoorAu13
namespace Go.Proofs.YtdmaijmglblccaaGreatDoor
open Go.RowKit
set_option linter.unusedSimpArgs false
set_option linter.unusedVariables false
set_option maxRecDepth 8000

/-- These cells are these rows of answers. -/
def RowTB (w : World) (X : Nat → Prop) : List (List Bool) → List Value → Prop
  | [], xs => xs = []
  | l :: r, xs => ∃ a c q, xs = .slice a l.length c :: q ∧ LV Value.bool w X (.slice a l.length c) l ∧ RowTB w X r q
theorem RowTB.append {w : World} {X : Nat → Prop} : ∀ {l k : List (List Bool)} {xs ys : List Value}, RowTB w X l xs → RowTB w X k ys → RowTB w X (l ++ k) (xs ++ ys)
  | [], k, xs, ys, h, h' => by simp [RowTB] at h; subst h; simpa using h'
  | t :: l, k, xs, ys, h, h' => by
    obtain ⟨a, c, r, rfl, hs, h⟩ := h
    exact ⟨a, c, r ++ ys, rfl, hs, RowTB.append h h'⟩
theorem RowTB.imp {w w' : World} {X Y : Nat → Prop} (hs : ∀ v (l : List Bool), LV Value.bool w X v l → LV Value.bool w' Y v l) : ∀ {l : List (List Bool)} {xs : List Value}, RowTB w X l xs → RowTB w' Y l xs
  | [], xs, h => h
  | t :: l, xs, h => by
    obtain ⟨a, c, r, e, h1, h⟩ := h
    exact ⟨a, c, r, e, hs _ _ h1, RowTB.imp hs h⟩
theorem RowTB.get {w : World} {X : Nat → Prop} : ∀ {l : List (List Bool)} {xs : List Value}, RowTB w X l xs → ∀ (k : Nat) (h : k < l.length), ∃ a c, xs[k]? = some (.slice a l[k].length c) ∧ LV Value.bool w X (.slice a l[k].length c) l[k]
  | t :: l, xs, h, 0, _ => by
    obtain ⟨a, c, r, rfl, hs, _⟩ := h
    exact ⟨a, c, rfl, hs⟩
  | t :: l, xs, h, k + 1, hk => by
    obtain ⟨a, c, r, rfl, _, h⟩ := h
    obtain ⟨a', c', h1, h2⟩ := RowTB.get h k (by simpa using hk)
    exact ⟨a', c', by simpa using h1, by simpa using h2⟩
/-- At most so many below each knot. -/
inductive Wid : Tm → Prop
  | mk {s : ByteArray} {l : List Tm} (hl : l.length ≤ 200) (h : ∀ x ∈ l, Wid x) : Wid ⟨s, l⟩
theorem Wid.arg {t y : Tm} (h : Wid t) (hy : y ∈ t.args) : Wid y := by
  cases h with
  | mk hl h => exact h y hy
theorem Wid.len {t : Tm} (h : Wid t) : t.args.length ≤ 200 := by
  cases h with
  | mk hl h => exact hl
end Go.Proofs.YtdmaijmglblccaaGreatDoor

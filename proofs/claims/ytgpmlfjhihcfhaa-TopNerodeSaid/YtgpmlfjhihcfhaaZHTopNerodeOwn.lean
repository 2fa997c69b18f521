/- Several texts in one. -/
import Derived.Test.YtgpmlfjhihcfhaaAu5
import Derived.BigQuiet
import Derived.Test.YtgpmlfjhihcfhaaAu10a
import Derived.Test.YtgpmlfjhihcfhaaZTopNerodeOwn
import Derived.Test.YtgpmlfjhihcfhaaL4
import Derived.Laws.OwnMore
import Derived.Deep.RegionHeld3

/- Walks: may an automaton be, as the document says? -/
namespace Go.Proofs.Ytgpmlfjhihcfhaa
open Go.RowKit
set_option linter.unusedSimpArgs false
set_option linter.unusedVariables false
set_option maxRecDepth 8000

end Go.Proofs.Ytgpmlfjhihcfhaa


/- Walks: where a term may end, as the document says. -/
namespace Go.Proofs.Ytgpmlfjhihcfhaa
open Go.RowKit
set_option linter.unusedSimpArgs false
set_option linter.unusedVariables false
set_option maxRecDepth 8000

theorem LV.at {α : Type} {f : α → Value} {w wr : World} {X : Nat → Prop} {a : Option Addr} {n c : Nat} {l : List α} (h : LV f w X (.slice a n c) l) (hb : Below w.heap.size w wr) (k : Nat) (hk : k < l.length) : ∃ b o, a = some ⟨b, o, none⟩ ∧ b < w.heap.size ∧ wr.cell? ⟨b, o + k, none⟩ = some (f l[k]) := by
  obtain ⟨a', c', e, _, h⟩ := h
  simp only [Value.slice.injEq] at e
  obtain ⟨rfl, rfl, rfl⟩ := e
  rcases h with h0 | ⟨b, o, e, hx, h1⟩
  · subst h0; simp at hk
  · have hl := cell_ltA (h1 k hk)
    exact ⟨b, o, e, hl, (hb.cell (p := ⟨b, o + k, none⟩) hl).trans (h1 k hk)⟩
/-- Rows of answers in memory. -/
def BLs (w : World) (X : Nat → Prop) (v : Value) (bs : List (List Bool)) : Prop := ∃ a c, v = .slice a bs.length c ∧ bs.length ≤ 9223372036854775807 ∧ (bs = [] ∨ ∃ b o, a = some ⟨b, o, none⟩ ∧ ∀ i (h : i < bs.length), ∃ a' c', w.cell? ⟨b, o + i, none⟩ = some (.slice a' bs[i].length c') ∧ LV Value.bool w X (.slice a' bs[i].length c') bs[i])
theorem BLs.get {w wr : World} {X : Nat → Prop} {a : Option Addr} {n c : Nat} {bs : List (List Bool)} (h : BLs w X (.slice a n c) bs) (hb : Below w.heap.size w wr) (k : Nat) (hk : k < bs.length) : ∃ b o a' c', a = some ⟨b, o, none⟩ ∧ b < w.heap.size ∧ wr.cell? ⟨b, o + k, none⟩ = some (.slice a' bs[k].length c') ∧ LV Value.bool wr X (.slice a' bs[k].length c') bs[k] := by
  obtain ⟨a0, c0, e, _, h⟩ := h
  simp only [Value.slice.injEq] at e
  obtain ⟨rfl, rfl, rfl⟩ := e
  rcases h with h0 | ⟨b, o, e, h1⟩
  · subst h0; simp at hk
  · obtain ⟨a', c', h2, h3⟩ := h1 k hk
    exact ⟨b, o, a', c', e, cell_ltA h2, (hb.cell (p := ⟨b, o + k, none⟩) (cell_ltA h2)).trans h2, h3.later hb⟩
theorem BLs.later {w w' : World} {X : Nat → Prop} {v : Value} {bs : List (List Bool)} (h : BLs w X v bs) (hb : Below w.heap.size w w') : BLs w' X v bs := by
  obtain ⟨a, c, e, hl, h⟩ := h
  refine ⟨a, c, e, hl, ?_⟩
  rcases h with h | ⟨b, o, e, h⟩
  · exact Or.inl h
  · refine Or.inr ⟨b, o, e, fun i hi => ?_⟩
    obtain ⟨a', c', h1, h2⟩ := h i hi
    exact ⟨a', c', (hb.cell (p := ⟨b, o + i, none⟩) (cell_ltA h1)).trans h1, h2.later hb⟩

theorem goB_take {bs : List (List Bool)} {f : List Int} : ∀ {q : Nat} (h1 : q < bs.length) (h2 : q < f.length), goB (bs.take (q + 1)) (f.take (q + 1)) = (goB (bs.take q) (f.take q) && bitAt bs[q] f[q]) := by
  induction bs generalizing f with
  | nil => intro q h1; simp at h1
  | cons b r ih =>
    intro q h1 h2
    match f, h2 with
    | i :: g, h2 =>
      cases q with
      | zero => simp [goB]
      | succ q =>
        simp only [List.take_succ_cons, goB, List.getElem_cons_succ]
        rw [ih (f := g) (q := q) (by simpa using h1) (by simpa using h2), Bool.and_assoc]

end Go.Proofs.Ytgpmlfjhihcfhaa


/- Walks: is a term accepted, as the document says? -/
namespace Go.Proofs.Ytgpmlfjhihcfhaa
open Go.RowKit
set_option linter.unusedSimpArgs false
set_option linter.unusedVariables false
set_option maxRecDepth 8000

/-- These cells are these rows of answers. -/
def RowTB (w : World) (X : Nat → Prop) : List (List Bool) → List Value → Prop
  | [], xs => xs = []
  | l :: r, xs => ∃ a c q, xs = .slice a l.length c :: q ∧ LV Value.bool w X (.slice a l.length c) l ∧ RowTB w X r q
theorem RowTB.append {w : World} {X : Nat → Prop} : ∀ {l k : List (List Bool)} {xs ys : List Value}, RowTB w X l xs → RowTB w X k ys → RowTB w X (l ++ k) (xs ++ ys)
  | [], k, xs, ys, h, h' => by simp [RowTB] at h; subst h; simpa using h'
  | t :: l, k, xs, ys, h, h' => by
    obtain ⟨a, c, r, rfl, hs, h⟩ := h
    exact ⟨a, c, r ++ ys, rfl, hs, RowTB.append h h'⟩
theorem RowTB.imp {w w' : World} {X Y : Nat → Prop} (hs : ∀ v (l : List Bool), LV Value.bool w X v l → LV Value.bool w' Y v l) : ∀ {l : List (List Bool)} {xs : List Value}, RowTB w X l xs → RowTB w' Y l xs
  | [], xs, h => h
  | t :: l, xs, h => by
    obtain ⟨a, c, r, e, h1, h⟩ := h
    exact ⟨a, c, r, e, hs _ _ h1, RowTB.imp hs h⟩
theorem RowTB.get {w : World} {X : Nat → Prop} : ∀ {l : List (List Bool)} {xs : List Value}, RowTB w X l xs → ∀ (k : Nat) (h : k < l.length), ∃ a c, xs[k]? = some (.slice a l[k].length c) ∧ LV Value.bool w X (.slice a l[k].length c) l[k]
  | t :: l, xs, h, 0, _ => by
    obtain ⟨a, c, r, rfl, hs, _⟩ := h
    exact ⟨a, c, rfl, hs⟩
  | t :: l, xs, h, k + 1, hk => by
    obtain ⟨a, c, r, rfl, _, h⟩ := h
    obtain ⟨a', c', h1, h2⟩ := RowTB.get h k (by simpa using hk)
    exact ⟨a', c', by simpa using h1, by simpa using h2⟩
/-- At most so many below each knot. -/
inductive Wid : Tm → Prop
  | mk {s : ByteArray} {l : List Tm} (hl : l.length ≤ 200) (h : ∀ x ∈ l, Wid x) : Wid ⟨s, l⟩
theorem Wid.len {t : Tm} (h : Wid t) : t.args.length ≤ 200 := by
  cases h with
  | mk hl h => exact hl
end Go.Proofs.Ytgpmlfjhihcfhaa


/- Walks: is a term accepted? -/
namespace Go.Proofs.Ytgpmlfjhihcfhaa
open Go.RowKit
set_option linter.unusedSimpArgs false
set_option linter.unusedVariables false
set_option maxRecDepth 8000

end Go.Proofs.Ytgpmlfjhihcfhaa

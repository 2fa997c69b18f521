
/- Automata in memory. -/
import Derived.Test.YtdmaijmglblccaaGreatDoorAu1
import Derived.Test.YtdmaijmglblccaaGreatDoorZClosureMadeOwn
namespace Go.Proofs.YtdmaijmglblccaaGreatDoor
open Go.RowKit
set_option linter.unusedSimpArgs false
set_option linter.unusedVariables false
set_option maxRecDepth 8000

theorem cell_ltA {w : World} {b o : Nat} {v : Value} (h : w.cell? ⟨b, o, none⟩ = some v) : b < w.heap.size := World.block_lt_of_cell? w _ h
/-- A move lies there. -/
def MvAt (w : World) (X : Nat → Prop) (b o : Nat) (m : Mv) : Prop :=
  w.cell? ⟨b, o, none⟩ = some (.string m.name) ∧ (∃ a c, w.cell? ⟨b, o + 1, none⟩ = some (.slice a m.frm.length c) ∧ PV w X (.slice a m.frm.length c) m.frm) ∧ w.cell? ⟨b, o + 2, none⟩ = some (.int .i64 m.to)
def SlV (w : World) (X : Nat → Prop) (a : Option Addr) (l : List Mv) : Prop := l.length ≤ 9223372036854775807 ∧ (l = [] ∨ ∃ b o, a = some ⟨b, o, none⟩ ∧ X b ∧ ∀ i (h : i < l.length), MvAt w X b (o + i * 3) l[i])
def AV (w : World) (X : Nat → Prop) (v : Value) (A : Au) : Prop := ∃ am cm al cl, v = .agg #[.int .i64 A.st, .slice am A.mv.length cm, .slice al A.la.length cl] ∧ SlV w X am A.mv ∧ PV w X (.slice al A.la.length cl) A.la
theorem MvAt.later {w w' : World} {X : Nat → Prop} {b o : Nat} {m : Mv} (h : MvAt w X b o m) (hb : Below w.heap.size w w') : MvAt w' X b o m := by
  obtain ⟨h0, ⟨a, c, h1, h2⟩, h3⟩ := h
  exact ⟨(hb.cell (p := ⟨b, o, none⟩) (cell_ltA h0)).trans h0, ⟨a, c, (hb.cell (p := ⟨b, o + 1, none⟩) (cell_ltA h1)).trans h1, h2.later hb⟩, (hb.cell (p := ⟨b, o + 2, none⟩) (cell_ltA h3)).trans h3⟩
theorem SlV.later {w w' : World} {X : Nat → Prop} {a : Option Addr} {l : List Mv} (h : SlV w X a l) (hb : Below w.heap.size w w') : SlV w' X a l := by
  obtain ⟨hl, h⟩ := h
  refine ⟨hl, ?_⟩
  rcases h with h | ⟨b, o, e, hx, h⟩
  · exact Or.inl h
  · exact Or.inr ⟨b, o, e, hx, fun i hi => (h i hi).later hb⟩
theorem SlV.mono {w : World} {X Y : Nat → Prop} {a : Option Addr} {l : List Mv} (h : SlV w X a l) (hk : ∀ b, X b → b < w.heap.size → Y b) : SlV w Y a l := by
  obtain ⟨hl, h⟩ := h
  refine ⟨hl, ?_⟩
  rcases h with h | ⟨b, o, e, hx, h⟩
  · exact Or.inl h
  · by_cases h0 : l = []
    · exact Or.inl h0
    · refine Or.inr ⟨b, o, e, hk b hx (cell_ltA (h 0 (List.length_pos_iff.2 h0)).1), fun i hi => ?_⟩
      obtain ⟨g0, ⟨a', c', g1, g2⟩, g3⟩ := h i hi
      exact ⟨g0, ⟨a', c', g1, g2.mono hk⟩, g3⟩
theorem AV.later {w w' : World} {X : Nat → Prop} {v : Value} {A : Au} (h : AV w X v A) (hb : Below w.heap.size w w') : AV w' X v A := by
  obtain ⟨am, cm, al, cl, e, h1, h2⟩ := h
  exact ⟨am, cm, al, cl, e, h1.later hb, h2.later hb⟩
theorem SlV.get {w wr : World} {X : Nat → Prop} {a : Option Addr} {l : List Mv} (h : SlV w X a l) (hb : Below w.heap.size w wr) (k : Nat) (hk : k < l.length) :
    ∃ b o af cf, a = some ⟨b, o, none⟩ ∧ b < w.heap.size ∧ wr.cell? ⟨b, o + k * 3, none⟩ = some (.string l[k].name) ∧ wr.cell? ⟨b, o + k * 3 + 1, none⟩ = some (.slice af l[k].frm.length cf) ∧ wr.cell? ⟨b, o + k * 3 + 2, none⟩ = some (.int .i64 l[k].to) ∧ PV wr X (.slice af l[k].frm.length cf) l[k].frm := by
  rcases h.2 with h0 | ⟨b, o, e, hx, h1⟩
  · subst h0; simp at hk
  · have hl := cell_ltA (h1 k hk).1
    obtain ⟨g0, ⟨a', c', g1, g2⟩, g3⟩ := (h1 k hk).later hb
    exact ⟨b, o, a', c', e, hl, g0, g1, g3, g2⟩
theorem PV.at {w wr : World} {X : Nat → Prop} {a : Option Addr} {n c : Nat} {zs : List Int} (h : PV w X (.slice a n c) zs) (hb : Below w.heap.size w wr) (k : Nat) (hk : k < zs.length) : ∃ b o, a = some ⟨b, o, none⟩ ∧ b < w.heap.size ∧ wr.cell? ⟨b, o + k, none⟩ = some (.int .i64 zs[k]) := by
  obtain ⟨a', c', e, _, h⟩ := h
  simp only [Value.slice.injEq] at e
  obtain ⟨rfl, rfl, rfl⟩ := e
  rcases h with h0 | ⟨b, o, e, hx, h1⟩
  · subst h0; simp at hk
  · have hl := cell_ltA (h1 k hk)
    exact ⟨b, o, e, hl, (hb.cell (p := ⟨b, o + k, none⟩) hl).trans (h1 k hk)⟩
theorem PV.len {w : World} {X : Nat → Prop} {a : Option Addr} {n c : Nat} {zs : List Int} (h : PV w X (.slice a n c) zs) : zs.length ≤ 9223372036854775807 ∧ n = zs.length := by
  obtain ⟨a', c', e, hl, h⟩ := h
  simp only [Value.slice.injEq] at e
  exact ⟨hl.1, e.2.1⟩

/-- These cells are these moves. -/
def RowTV (w : World) (X : Nat → Prop) : List Mv → List Value → Prop
  | [], xs => xs = []
  | m :: r, xs => ∃ a c q, xs = .string m.name :: .slice a m.frm.length c :: .int .i64 m.to :: q ∧ PV w X (.slice a m.frm.length c) m.frm ∧ RowTV w X r q
theorem RowTV.append {w : World} {X : Nat → Prop} : ∀ {l k : List Mv} {xs ys : List Value}, RowTV w X l xs → RowTV w X k ys → RowTV w X (l ++ k) (xs ++ ys)
  | [], k, xs, ys, h, h' => by simp [RowTV] at h; subst h; simpa using h'
  | t :: l, k, xs, ys, h, h' => by
    obtain ⟨a, c, r, rfl, hs, h⟩ := h
    exact ⟨a, c, r ++ ys, rfl, hs, RowTV.append h h'⟩
theorem RowTV.imp {w w' : World} {X Y : Nat → Prop} (hs : ∀ v l, PV w X v l → PV w' Y v l) : ∀ {l : List Mv} {xs : List Value}, RowTV w X l xs → RowTV w' Y l xs
  | [], xs, h => h
  | t :: l, xs, h => by
    obtain ⟨a, c, r, e, h1, h⟩ := h
    exact ⟨a, c, r, e, hs _ _ h1, RowTV.imp hs h⟩
theorem RowTV.get {w : World} {X : Nat → Prop} : ∀ {l : List Mv} {xs : List Value}, RowTV w X l xs → ∀ (k : Nat) (h : k < l.length), ∃ a c, xs[k * 3]? = some (.string l[k].name) ∧ xs[k * 3 + 1]? = some (.slice a l[k].frm.length c) ∧ xs[k * 3 + 2]? = some (.int .i64 l[k].to) ∧ PV w X (.slice a l[k].frm.length c) l[k].frm
  | t :: l, xs, h, 0, _ => by
    obtain ⟨a, c, r, rfl, hs, _⟩ := h
    exact ⟨a, c, rfl, rfl, rfl, hs⟩
  | t :: l, xs, h, k + 1, hk => by
    obtain ⟨a, c, r, rfl, _, h⟩ := h
    obtain ⟨a', c', h1, h2, h3, h4⟩ := RowTV.get h k (by simpa using hk)
    refine ⟨a', c', ?_, ?_, ?_, h4⟩
    · rw [show (k + 1) * 3 = k * 3 + 3 by omega]; simpa using h1
    · rw [show (k + 1) * 3 + 1 = k * 3 + 1 + 3 by omega]; simpa using h2
    · rw [show (k + 1) * 3 + 2 = k * 3 + 2 + 3 by omega]; simpa using h3

end Go.Proofs.YtdmaijmglblccaaGreatDoor

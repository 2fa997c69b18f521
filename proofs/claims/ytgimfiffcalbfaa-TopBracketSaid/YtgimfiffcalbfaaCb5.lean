
/- Walks: one step, as the document says. -/
import Derived.Test.YtgimfiffcalbfaaCb4
namespace Go.Proofs.Ytgimfiffcalbfaa
open Go.RowKit
set_option linter.unusedSimpArgs false
set_option linter.unusedVariables false
set_option maxRecDepth 8000

/-- What one step comes to. -/
def StPost (w : World) (X : Nat → Prop) (r : Option Tm) (e : Ending) (w' : World) : Prop :=
  Below w.heap.size w w' ∧ ((∃ x v, r = some x ∧ e = .returned (.tuple #[v, .bool true]) ∧ TV w' (fun b => (X b ∧ b < w.heap.size) ∨ w.heap.size ≤ b) v x) ∨ (r = none ∧ ∃ s a n c, e = .returned (.tuple #[.agg #[.string s, .slice a n c], .bool false])))

/-- Memory that what is made may lie in. -/
def StY (w : World) (X : Nat → Prop) (O : Nat) (b : Nat) : Prop := (X b ∧ b < w.heap.size) ∨ (w.heap.size + 2 ≤ b ∧ b ≠ O)
/-- What is laid while a step is made: the front's box, the box of what is made, the result's. -/
def StI (w w1 : World) (X : Nat → Prop) (h : Tm) (ah : Option Addr) (ch : Nat) (x : Tm) (wr : World) : Prop :=
  Below w.heap.size w wr ∧ Below w1.heap.size w1 wr ∧ Blk wr w1.heap.size #[.string h.name, .slice ah 0 ch] 25 ∧ Blk wr (w.heap.size + 1) #[.string ⟨#[]⟩, .slice none 0 0] 25 ∧ w1.heap.size + 1 < wr.heap.size ∧
  ∃ ax cx, Blk wr (w1.heap.size + 1) #[.string x.name, .slice ax x.args.length cx] 25 ∧ Sl wr (StY w X (w1.heap.size + 1)) ax x.args

theorem StI.below {w w1 wr w2 : World} {X : Nat → Prop} {h x : Tm} {ah : Option Addr} {ch : Nat} (hi : StI w w1 X h ah ch x wr) (hb : Below wr.heap.size wr w2) (hw : w.heap.size + 2 ≤ w1.heap.size) : StI w w1 X h ah ch x w2 := by
  obtain ⟨h1, h2, h3, h4, h5, ax, cx, h6, h7⟩ := hi
  have := h1.size
  have := hb.size
  exact ⟨h1.trans (hb.mono (by omega)), h2.trans (hb.mono (by omega)), h3.below hb (by omega), h4.below hb (by omega), by omega, ax, cx, h6.below hb (by omega), h7.later hb⟩
/-- Another one is stored. -/
theorem StI.put {w w1 wr : World} {X : Nat → Prop} {h x y : Tm} {ah ay : Option Addr} {ch cy : Nat} (hi : StI w w1 X h ah ch x wr) (hw : w.heap.size + 2 ≤ w1.heap.size) (hy : Sl wr (StY w X (w1.heap.size + 1)) ay y.args) :
    StI w w1 X h ah ch y ((wr.setCell ⟨w1.heap.size + 1, 0, none⟩ (.string y.name)).setCell ⟨w1.heap.size + 1, 1, none⟩ (.slice ay y.args.length cy)) := by
  obtain ⟨h1, h2, h3, h4, h5, ax, cx, h6, h7⟩ := hi
  refine ⟨(h1.setCell (p := ⟨w1.heap.size + 1, 0, none⟩) (by simp; omega) _).setCell (p := ⟨w1.heap.size + 1, 1, none⟩) (by simp; omega) _, (h2.setCell (p := ⟨w1.heap.size + 1, 0, none⟩) (by simp) _).setCell (p := ⟨w1.heap.size + 1, 1, none⟩) (by simp) _, (h3.setOther _ _ (by omega)).setOther _ _ (by omega), (h4.setOther _ _ (by omega)).setOther _ _ (by omega), by simp [World.setCell]; omega, ay, cy, (h6.set 0 _).set 1 _, ?_⟩
  refine hy.kept fun b hb => ?_
  have hne : b ≠ w1.heap.size + 1 := by rcases hb with hb | hb <;> omega
  rw [Below.heap_setCell _ _ _ _ (by simpa using hne), Below.heap_setCell _ _ _ _ (by simpa using hne)]
/-- What a call made may lie there. -/
theorem sty_new {w w1 wr w2 : World} {X : Nat → Prop} {a : Option Addr} {l : List Tm} (hs : Sl w2 (fun b => StY w X (w1.heap.size + 1) b ∨ wr.heap.size ≤ b) a l) (h5 : w1.heap.size + 1 < wr.heap.size) (hw : w.heap.size + 2 ≤ w1.heap.size) : Sl w2 (StY w X (w1.heap.size + 1)) a l :=
  hs.mono fun b hb _ => hb.elim id fun h => Or.inr ⟨by omega, by omega⟩
theorem sl_put {w w1 wr : World} {X : Nat → Prop} {a : Option Addr} {l : List Tm} (hs : Sl wr (StY w X (w1.heap.size + 1)) a l) (u u' : Value) : Sl ((wr.setCell ⟨w1.heap.size + 1, 0, none⟩ u).setCell ⟨w1.heap.size + 1, 1, none⟩ u') (StY w X (w1.heap.size + 1)) a l ∨ w.heap.size + 2 > w1.heap.size := by
  by_cases hw : w.heap.size + 2 ≤ w1.heap.size
  · refine Or.inl (hs.kept fun b hb => ?_)
    have hne : b ≠ w1.heap.size + 1 := by rcases hb with hb | hb <;> omega
    rw [Below.heap_setCell _ _ _ _ (by simpa using hne), Below.heap_setCell _ _ _ _ (by simpa using hne)]
  · exact Or.inr (by omega)
theorem StI.fin {w w1 wr : World} {X : Nat → Prop} {h x : Tm} {ah : Option Addr} {ch : Nat} {r : Option Tm} (hi : StI w w1 X h ah ch x wr) (hw : w.heap.size + 2 ≤ w1.heap.size) {ax : Option Addr} {cx : Nat} (hs : Sl wr (StY w X (w1.heap.size + 1)) ax x.args) (hr : r = some x) (u u' : Value) :
    StPost w X r (.returned (.tuple #[.agg #[.string x.name, .slice ax x.args.length cx], .bool true])) ((wr.setCell ⟨w.heap.size + 1, 0, none⟩ u).setCell ⟨w.heap.size + 1, 1, none⟩ u') := by
  obtain ⟨h1, h2, h3, h4, h5, _⟩ := hi
  refine ⟨(h1.setCell (p := ⟨w.heap.size + 1, 0, none⟩) (by simp) _).setCell (p := ⟨w.heap.size + 1, 1, none⟩) (by simp) _, Or.inl ⟨x, _, hr, rfl, ax, cx, rfl, ?_⟩⟩
  refine (hs.kept fun b hb => ?_).mono fun b hb _ => hb.imp id fun h => by omega
  have hne : b ≠ w.heap.size + 1 := by rcases hb with hb | hb <;> omega
  rw [Below.heap_setCell _ _ _ _ (by simpa using hne), Below.heap_setCell _ _ _ _ (by simpa using hne)]
/-- What the row that a term is says of its step. -/
structure RwF (n : Nat) (t H : Tm) (L : List Tm) : Prop where
  args : H.args = []
  len : L.length < sizeL [t]
  isC : ∀ j (hj : j < L.length), isC L[j] = true ∧ sizeL [L[j]] < sizeL [t]
  work : ∀ x, workC H.name L = some x → stepN (n + 1) t = some x
  non : workC H.name L = none → (∀ j (hj : j < L.length), stepN n L[j] = none) → stepN (n + 1) t = none
  som : ∀ (y : Tm) (i : Nat) (hi : i < L.length), workC H.name L = none → (∀ j (hj : j < i), stepN n (L[j]'(by omega)) = none) → stepN n L[i] = some y → stepN (n + 1) t = some (apAll H (L.set i y))
theorem rwF {n : Nat} {t : Tm} (hc : isC t = true) : ∃ H L, rowH t = H ∧ rowL t = L ∧ RwF n t H L := by
  obtain ⟨h1, h2, h3, h4⟩ := row_facts _ t (Nat.le_refl _) hc
  exact ⟨_, _, rfl, rfl, h1, h4, fun j hj => h3 _ (List.getElem_mem hj), fun x h => stepN_work h, fun h => stepN_none h, fun y i hi h => stepN_some h hi⟩
theorem drew_below {w w2 : World} (h : Below w.heap.size w.drew w2) : Below w.heap.size w w2 := (below_drewN (Below.refl _ _) 1).trans h
theorem four_keep {w w2 : World} {b1 i1 i2 b2 i3 i4 : Nat} {v1 v2 v3 v4 : Value} (hb : Below w.heap.size w.drew w2) (h : w.cell? ⟨b1, i1, none⟩ = some v1 ∧ w.cell? ⟨b1, i2, none⟩ = some v2 ∧ w.cell? ⟨b2, i3, none⟩ = some v3 ∧ w.cell? ⟨b2, i4, none⟩ = some v4) (h1 : b1 < w.heap.size) (h2 : b2 < w.heap.size) :
    w2.cell? ⟨b1, i1, none⟩ = some v1 ∧ w2.cell? ⟨b1, i2, none⟩ = some v2 ∧ w2.cell? ⟨b2, i3, none⟩ = some v3 ∧ w2.cell? ⟨b2, i4, none⟩ = some v4 :=
  ⟨(hb.cell (p := ⟨b1, i1, none⟩) h1).trans h.1, (hb.cell (p := ⟨b1, i2, none⟩) h1).trans h.2.1, (hb.cell (p := ⟨b2, i3, none⟩) h2).trans h.2.2.1, (hb.cell (p := ⟨b2, i4, none⟩) h2).trans h.2.2.2⟩
theorem apAll_from (x : Tm) (l : List Tm) (u k : Nat) (hu : u ≤ k) (hk : k < l.length) : apAll x ((l.drop u).take (k + 1 - u)) = apT (apAll x ((l.drop u).take (k - u))) l[k] := by
  rw [show k + 1 - u = (k - u) + 1 by omega, apAll_take _ _ _ (by simp; omega)]
  simp [show u + (k - u) = k by omega]

end Go.Proofs.Ytgimfiffcalbfaa

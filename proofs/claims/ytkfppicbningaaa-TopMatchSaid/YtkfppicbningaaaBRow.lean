/- Rows of bindings that a call makes. -/
import Derived.Test.YtkfppicbningaaaZTopMatchOwn
namespace Go.Proofs.Ytkfppicbningaaa
open Go.RowKit
set_option linter.unusedSimpArgs false
set_option linter.unusedVariables false

/-- A binding, and where those below its term's first knot lie. -/
abbrev Bc := Bd × Option Addr × Nat
instance : Inhabited Bc := ⟨(⟨⟨#[]⟩, ⟨⟨#[]⟩, []⟩⟩, none, 0)⟩
def enc3 (x : Bc) : List Value := [.string x.1.nm, .string x.1.t.name, .slice x.2.1 x.1.t.args.length x.2.2]
def flat3 : List Bc → List Value
  | [] => []
  | x :: r => enc3 x ++ flat3 r
theorem flat3_append (b : List Bc) : ∀ a, flat3 (a ++ b) = flat3 a ++ flat3 b
  | [] => rfl
  | x :: r => by rw [List.cons_append, flat3, flat3, flat3_append b r, List.append_assoc]
theorem flat3_length : ∀ a : List Bc, (flat3 a).length = a.length * 3
  | [] => rfl
  | x :: r => by rw [flat3, List.length_append, flat3_length r]; simp [enc3]; omega
theorem flat3_get : ∀ (a : List Bc) (i : Nat) (h : i < a.length) (j : Nat), j < 3 → (flat3 a)[i * 3 + j]? = (enc3 a[i])[j]?
  | [], i, h, j, hj => by simp at h
  | x :: r, 0, h, j, hj => by
    rw [flat3, List.getElem?_append_left (by simp [enc3]; omega)]; simp
  | x :: r, i + 1, h, j, hj => by
    rw [flat3, List.getElem?_append_right (by simp [enc3]; omega)]
    have e : (i + 1) * 3 + j - (enc3 x).length = i * 3 + j := by simp [enc3]; omega
    rw [e, flat3_get r i (by simpa using h) j hj]
    simp

/-- The row so far, apart from what its terms are made of: old memory that Y lets, and new memory. -/
structure BRow (w : World) (N : Nat) (Y : Nat → Prop) (v : Value) (cs : List Bc) : Prop where
  own : w.ownsRow N 50 3 v cs.length (flat3 cs)
  row : ∀ x ∈ cs, Sl w (fun b => Y b ∨ (N ≤ b ∧ some b ≠ v.ownBlock)) x.2.1 x.1.t.args

theorem BRow.start (w : World) (N : Nat) (Y : Nat → Prop) : BRow w N Y (.slice none 0 0) [] := ⟨World.ownsRow_nil w N _ 3, by simp⟩

theorem BRow.below {w w' : World} {N : Nat} {Y : Nat → Prop} {v : Value} {cs : List Bc} (h : BRow w N Y v cs) (hb : Below w.heap.size w w') : BRow w' N Y v cs :=
  ⟨h.own.kept (w' := w') (row := none) ⟨hb.os, hb.tape, hb.output, hb.size, fun j hj _ => hb.block j hj⟩ (by rcases Option.eq_none_or_eq_some (Value.ownBlock v) with h | ⟨x, h⟩; exact Or.inl h; exact Or.inr (by rw [h]; simp)),
   fun x hx => (h.row x hx).later hb⟩

theorem BRow.ne {w : World} {N : Nat} {Y : Nat → Prop} {v : Value} {cs : List Bc} (h : BRow w N Y v cs) {b : Nat} (hb : b < N) : some b ≠ v.ownBlock := fun e => by
  have := (h.own.lt b e.symm).1; omega

/-- Other blocks may turn: those that are none of the row's, nor of what its terms are made of. -/
theorem BRow.kept {w w' : World} {N : Nat} {Y : Nat → Prop} {v : Value} {cs : List Bc} {r : Nat} (h : BRow w N Y v cs) (hr : r < N) (hY : ¬ Y r) (ho : w'.os = w.os) (ht : w'.tape = w.tape) (hu : w'.output = w.output) (hz : w.heap.size ≤ w'.heap.size) (hk : ∀ j, j ≠ r → j < w.heap.size → w'.heap[j]? = w.heap[j]?) : BRow w' N Y v cs :=
  ⟨h.own.kept (w' := w') (row := some r) ⟨ho, ht, hu, hz, fun j hj hne => hk j (fun e => hne (by rw [e])) hj⟩ (Or.inr (fun e => h.ne hr e.symm)),
   fun x hx => by
    have h1 := (h.row x hx).mono (Y := fun b => (Y b ∨ (N ≤ b ∧ some b ≠ v.ownBlock)) ∧ b < w.heap.size) fun b h1 h2 => ⟨h1, h2⟩
    refine (h1.kept fun b hb => hk b (fun e => ?_) hb.2).mono fun b hb _ => hb.1
    rcases hb.1 with h2 | h2
    · exact hY (e ▸ h2)
    · omega⟩

/-- One more: the binding's cells have been laid into a block of their own, and appended. -/
theorem BRow.push {w w1 w2 w3 : World} {N : Nat} {Y : Nat → Prop} {v : Value} {cs : List Bc} (h : BRow w N Y v cs) (hN : N ≤ w.heap.size) (hY : ∀ b, Y b → b < N) (hb : Below w.heap.size w w1) {x : Bc}
    (ht : Sl w1 (fun b => Y b ∨ w.heap.size ≤ b) x.2.1 x.1.t.args) (o : Obj) (hw2 : w2 = w1.alloc o) {g cap : Nat}
    (hown : w3.ownsRow N 50 3 (.slice (some ⟨g, 0, none⟩) (cs.length + 1) cap) (cs.length + 1) (flat3 cs ++ enc3 x)) (hg : w2.grownBy w3 v.ownBlock) (hg1 : v.ownBlock = some g ∨ g = w2.heap.size) :
    BRow w3 N Y (.slice (some ⟨g, 0, none⟩) (cs.length + 1) cap) (cs ++ [x]) := by
  subst hw2
  have hlt := h.own.lt
  refine ⟨by rw [flat3_append]; simpa [flat3] using hown, fun y hy => ?_⟩
  have hsz : w1.heap.size ≤ (w1.alloc o).heap.size := by simp
  have hbs := hb.size
  have hgN : N ≤ g := by
    rcases hg1 with e | e
    · exact (hlt g e).1
    · simp at e; omega
  rcases List.mem_append.1 hy with hy | hy
  · have h1 : Sl w (fun b => (Y b ∨ (N ≤ b ∧ some b ≠ v.ownBlock)) ∧ b < w.heap.size) y.2.1 y.1.t.args := (h.row y hy).mono fun b h1 h2 => ⟨h1, h2⟩
    have h2 : Sl w3 (fun b => (Y b ∨ (N ≤ b ∧ some b ≠ v.ownBlock)) ∧ b < w.heap.size) y.2.1 y.1.t.args := h1.kept fun b hx => by
      have hne : some b ≠ v.ownBlock := by
        rcases hx.1 with hy | hy
        · exact h.ne (hY b hy)
        · exact hy.2
      rw [hg.block b (by simp; omega) hne, Below.heap_alloc _ _ _ (by omega), hb.block b hx.2]
    refine h2.mono fun b hx _ => ?_
    rcases hx.1 with hy | hy
    · exact Or.inl hy
    · refine Or.inr ⟨hy.1, fun e => ?_⟩
      simp [Value.ownBlock] at e
      rcases hg1 with e' | e'
      · exact hy.2 (by rw [e', e])
      · simp at e'; omega
  · have e : y = x := by simpa using hy
    subst e
    have h1 : Sl w1 (fun b => (Y b ∨ w.heap.size ≤ b) ∧ b < w1.heap.size) y.2.1 y.1.t.args := ht.mono fun b h1 h2 => ⟨h1, h2⟩
    have h2 : Sl w3 (fun b => (Y b ∨ w.heap.size ≤ b) ∧ b < w1.heap.size) y.2.1 y.1.t.args := h1.kept fun b hx => by
      have hne : some b ≠ v.ownBlock := by
        rcases hx.1 with hy | hy
        · exact h.ne (hY b hy)
        · intro e; have := (hlt b e.symm).2; omega
      rw [hg.block b (by simp; omega) hne, Below.heap_alloc _ _ _ hx.2]
    refine h2.mono fun b hx _ => ?_
    rcases hx.1 with hy | hy
    · exact Or.inl hy
    · refine Or.inr ⟨by omega, fun e => ?_⟩
      simp [Value.ownBlock] at e
      rcases hg1 with e' | e'
      · have := (hlt g e').2; omega
      · simp at e'; omega

/-- As a list of bindings. -/
theorem BRow.bv {w : World} {N : Nat} {Y : Nat → Prop} {v : Value} {cs : List Bc} (h : BRow w N Y v cs) : BV w (fun b => Y b ∨ N ≤ b) v (cs.map (·.1)) := by
  have hml : cs.length ≤ 9223372036854775807 := by
    rcases h.own.2 with ⟨_, h0⟩ | ⟨g, cap, cur, _, _, _, h1, h2, _⟩
    · omega
    · unfold maxLen at h2; omega
  by_cases h0 : 0 < cs.length
  · obtain ⟨g, cap, rfl, hg, hlt, hc⟩ := owned_val h.own h0
    have hcap : cs.length ≤ cap := by
      rcases h.own.2 with ⟨e, _⟩ | ⟨g', cap', cur, e, _, _, h1, _⟩
      · cases e
      · simp at e; omega
    refine ⟨_, cap, by simp, ⟨by simpa using hml, by simpa using hcap⟩, Or.inr ⟨g, 0, rfl, Or.inr hg, fun i hi => ?_⟩⟩
    have hi' : i < cs.length := by simpa using hi
    have g0 := hc (i * 3 + 0) (.string cs[i].1.nm) (by rw [flat3_get cs i hi' 0 (by decide)]; rfl)
    have g1 := hc (i * 3 + 1) (.string cs[i].1.t.name) (by rw [flat3_get cs i hi' 1 (by decide)]; rfl)
    have g2 := hc (i * 3 + 2) (.slice cs[i].2.1 cs[i].1.t.args.length cs[i].2.2) (by rw [flat3_get cs i hi' 2 (by decide)]; rfl)
    simp only [List.getElem_map, Nat.zero_add]
    exact ⟨g0, g1, _, _, g2, (h.row cs[i] (List.getElem_mem hi')).mono fun b hb _ => hb.imp id (fun h => h.1)⟩
  · have e : cs = [] := List.length_eq_zero_iff.1 (by omega)
    subst e
    rcases h.own.2 with ⟨hv, _⟩ | ⟨g, cap, cur, hv, _⟩
    · exact ⟨none, 0, hv, by simp, Or.inl rfl⟩
    · exact ⟨_, _, hv, by simp, Or.inl rfl⟩
#print axioms BRow.push
#print axioms BRow.bv
end Go.Proofs.Ytkfppicbningaaa

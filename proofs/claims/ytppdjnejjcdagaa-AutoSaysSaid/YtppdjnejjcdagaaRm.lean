/- Rows of lambda terms. -/
import Derived.Test.YtppdjnejjcdagaaLm
import Derived.Test.YtppdjnejjcdagaaZAutoSaysOwn
namespace Go.Proofs.Ytppdjnejjcdagaa
open Go.RowKit
set_option linter.unusedSimpArgs false
set_option linter.unusedVariables false

/-- These cells are these lambda terms. -/
def RowTM (w : World) (X : Nat → Prop) : List Lm → List Value → Prop
  | [], xs => xs = []
  | t :: l, xs => ∃ a c r, xs = .int .i64 t.kind :: .int .i64 t.idx :: .slice a t.subs.length c :: r ∧ SlM w X a t.subs ∧ RowTM w X l r
theorem RowTM.len {w : World} {X : Nat → Prop} : ∀ {l : List Lm} {xs : List Value}, RowTM w X l xs → xs.length = l.length * 3
  | [], xs, h => by simp [RowTM] at h; simp [h]
  | t :: l, xs, h => by
    obtain ⟨a, c, r, rfl, _, h⟩ := h
    simp only [List.length_cons]
    rw [RowTM.len h]; omega
theorem RowTM.append {w : World} {X : Nat → Prop} : ∀ {l k : List Lm} {xs ys : List Value}, RowTM w X l xs → RowTM w X k ys → RowTM w X (l ++ k) (xs ++ ys)
  | [], k, xs, ys, h, h' => by simp [RowTM] at h; subst h; simpa using h'
  | t :: l, k, xs, ys, h, h' => by
    obtain ⟨a, c, r, rfl, hs, h⟩ := h
    exact ⟨a, c, r ++ ys, rfl, hs, RowTM.append h h'⟩
theorem RowTM.imp {w w' : World} {X Y : Nat → Prop} (hs : ∀ a l, SlM w X a l → SlM w' Y a l) : ∀ {l : List Lm} {xs : List Value}, RowTM w X l xs → RowTM w' Y l xs
  | [], xs, h => h
  | t :: l, xs, h => by
    obtain ⟨a, c, r, e, h1, h⟩ := h
    exact ⟨a, c, r, e, hs _ _ h1, RowTM.imp hs h⟩
theorem liesM_of_row {w w' : World} {X Y : Nat → Prop} (b : Nat) (hb : Y b) : ∀ (l : List Lm) (xs : List Value) (o : Nat), RowTM w X l xs → (∀ a k, SlM w X a k → SlM w' Y a k) → (∀ j u, xs[j]? = some u → w'.cell? ⟨b, o + j, none⟩ = some u) → LiesM w' Y b o l := by
  intro l
  induction l with
  | nil => intro xs o _ _ _; simp [LiesM]
  | cons t r ih =>
    intro xs o h hs hc
    obtain ⟨s, x, k⟩ := t
    obtain ⟨a, c, r', rfl, h1, h2⟩ := h
    simp only [LiesM]
    obtain ⟨h3, h4⟩ := hs _ _ h1
    refine ⟨hb, hc 0 _ rfl, hc 1 _ rfl, ⟨a, c, hc 2 _ rfl, h3, h4⟩, ih r' (o + 3) h2 hs fun j u hj => ?_⟩
    have := hc (j + 3) u (by simpa using hj)
    rwa [show o + (j + 3) = o + 3 + j by omega] at this

/-- The row so far, apart from what its terms are made of: old memory that Y lets, and new memory. -/
structure RowM (w : World) (N : Nat) (T : Nat) (Y : Nat → Prop) (v : Value) (l : List Lm) (xs : List Value) : Prop where
  own : w.ownsRow N T 3 v l.length xs
  row : RowTM w (fun b => Y b ∨ (N ≤ b ∧ some b ≠ v.ownBlock)) l xs

theorem RowM.start (w : World) (N T : Nat) (Y : Nat → Prop) : RowM w N T Y (.slice none 0 0) [] [] := ⟨World.ownsRow_nil w N T 3, rfl⟩

theorem RowM.below {w w' : World} {N T : Nat} {Y : Nat → Prop} {v : Value} {l : List Lm} {xs : List Value} (h : RowM w N T Y v l xs) (hb : Below w.heap.size w w') : RowM w' N T Y v l xs :=
  ⟨h.own.kept (w' := w') (row := none) ⟨hb.os, hb.tape, hb.output, hb.size, fun j hj _ => hb.block j hj⟩ (by rcases Option.eq_none_or_eq_some (Value.ownBlock v) with h | ⟨x, h⟩; exact Or.inl h; exact Or.inr (by rw [h]; simp)),
   h.row.imp fun a l h => h.later hb⟩

theorem RowM.ne {w : World} {N T : Nat} {Y : Nat → Prop} {v : Value} {l : List Lm} {xs : List Value} (h : RowM w N T Y v l xs) {b : Nat} (hb : b < N) : some b ≠ v.ownBlock := fun e => by
  have := (h.own.lt b e.symm).1; omega

/-- One more: the term's cells have been laid into a block of their own, and appended. -/
theorem RowM.push {w w1 w2 w3 : World} {N T : Nat} {Y : Nat → Prop} {v : Value} {l : List Lm} {xs : List Value} (h : RowM w N T Y v l xs) (hN : N ≤ w.heap.size) (hY : ∀ b, Y b → b < N) (hb : Below w.heap.size w w1) {s s2 : Int} {a : Option Addr} {n c : Nat} {t : Lm}
    (ht : MV w1 (fun b => Y b ∨ w.heap.size ≤ b) (.agg #[.int .i64 s, .int .i64 s2, .slice a n c]) t) (o : Obj) (hw2 : w2 = w1.alloc o) {g cap : Nat}
    (hown : w3.ownsRow N T 3 (.slice (some ⟨g, 0, none⟩) (l.length + 1) cap) (l.length + 1) (xs ++ [.int .i64 s, .int .i64 s2, .slice a n c])) (hg : w2.grownBy w3 v.ownBlock) (hg1 : v.ownBlock = some g ∨ g = w2.heap.size) :
    RowM w3 N T Y (.slice (some ⟨g, 0, none⟩) (l.length + 1) cap) (l ++ [t]) (xs ++ [.int .i64 s, .int .i64 s2, .slice a n c]) := by
  subst hw2
  have hlt := h.own.lt
  refine ⟨by simpa using hown, ?_⟩
  have hsz : w1.heap.size ≤ (w1.alloc o).heap.size := by simp
  have hbs := hb.size
  have hgN : N ≤ g := by
    rcases hg1 with e | e
    · exact (hlt g e).1
    · simp at e; omega
  refine RowTM.append (h.row.imp fun a' k' hs => ?_) ?_
  · have h1 : SlM w (fun b => (Y b ∨ (N ≤ b ∧ some b ≠ v.ownBlock)) ∧ b < w.heap.size) a' k' := hs.mono fun b h1 h2 => ⟨h1, h2⟩
    have h2 : SlM w3 (fun b => (Y b ∨ (N ≤ b ∧ some b ≠ v.ownBlock)) ∧ b < w.heap.size) a' k' := h1.kept fun b hx => by
      have hne : some b ≠ v.ownBlock := by
        rcases hx.1 with hy | hy
        · exact h.ne (hY b hy)
        · exact hy.2
      rw [hg.block b (by simp; omega) hne, Below.heap_alloc _ _ _ (by omega), hb.block b hx.2]
    refine h2.mono fun b hx _ => ?_
    rcases hx.1 with hy | hy
    · exact Or.inl hy
    · refine Or.inr ⟨hy.1, fun e => ?_⟩
      simp [Value.ownBlock] at e
      rcases hg1 with e' | e'
      · exact hy.2 (by rw [e', e])
      · simp at e'; omega
  · obtain ⟨a2, c2, e, hs⟩ := ht
    simp at e
    obtain ⟨rfl, rfl, rfl, rfl, rfl⟩ := e
    refine ⟨a, c, [], rfl, ?_, rfl⟩
    have h1 : SlM w1 (fun b => (Y b ∨ w.heap.size ≤ b) ∧ b < w1.heap.size) a t.subs := hs.mono fun b h1 h2 => ⟨h1, h2⟩
    have h2 : SlM w3 (fun b => (Y b ∨ w.heap.size ≤ b) ∧ b < w1.heap.size) a t.subs := h1.kept fun b hx => by
      have hne : some b ≠ v.ownBlock := by
        rcases hx.1 with hy | hy
        · exact h.ne (hY b hy)
        · intro e; have := (hlt b e.symm).2; omega
      rw [hg.block b (by simp; omega) hne, Below.heap_alloc _ _ _ hx.2]
    refine h2.mono fun b hx _ => ?_
    rcases hx.1 with hy | hy
    · exact Or.inl hy
    · refine Or.inr ⟨by omega, fun e => ?_⟩
      simp [Value.ownBlock] at e
      rcases hg1 with e' | e'
      · have := (hlt g e').2; omega
      · simp at e'; omega

/-- A store into a block that is none of the row's. -/
theorem RowM.setCell {w : World} {N T : Nat} {Y : Nat → Prop} {v : Value} {l : List Lm} {xs : List Value} (h : RowM w N T Y v l xs) {b i : Nat} (hb : b < N) (hY : ¬ Y b) (u : Value) : RowM (w.setCell ⟨b, i, none⟩ u) N T Y v l xs :=
  ⟨ownsRow_setCell_below h.own (by simpa using hb) u, h.row.imp fun a k hs => hs.kept fun c hc => Below.heap_setCell _ _ _ _ (by
    simp
    rcases hc with hc | hc
    · intro e; subst e; exact hY hc
    · omega)⟩

theorem RowM.sl {w : World} {N T : Nat} {Y : Nat → Prop} {v : Value} {l : List Lm} {xs : List Value} (h : RowM w N T Y v l xs) : ∃ a c, v = .slice a l.length c ∧ SlM w (fun b => Y b ∨ N ≤ b) a l := by
  have hml : l.length ≤ 9223372036854775807 := by
    rcases h.own.2 with ⟨_, h0⟩ | ⟨g, cap, cur, _, _, _, h1, h2, _⟩
    · omega
    · unfold maxLen at h2; omega
  by_cases h0 : 0 < l.length
  · obtain ⟨g, cap, rfl, hg, hlt, hc⟩ := owned_val h.own h0
    exact ⟨_, _, rfl, hml, Or.inr ⟨g, 0, rfl, liesM_of_row g (Or.inr hg) l xs 0 h.row (fun a k hs => hs.mono fun b hb _ => hb.imp id (fun h => h.1)) (fun j u hj => by simpa using hc j u hj)⟩⟩
  · have e : l = [] := List.length_eq_zero_iff.1 (by omega)
    subst e
    rcases h.own.2 with ⟨hv, _⟩ | ⟨g, cap, cur, hv, _⟩
    · exact ⟨none, 0, hv, hml, Or.inl rfl⟩
    · exact ⟨_, _, hv, hml, Or.inl rfl⟩

end Go.Proofs.Ytppdjnejjcdagaa

/- Several texts in one. -/
import Derived.Test.YtnllgbcakmddkaaGreatDoorZBTopTakahashiOwn
import Derived.Test.YtnllgbcakmddkaaGreatDoorZETopTakahashiOwn
import Derived.Test.YtnllgbcakmddkaaGreatDoorZKTopTakahashiOwn
/- Rows of rows of lambda terms. -/
namespace Go.Proofs.YtnllgbcakmddkaaGreatDoor
open Go.RowKit
set_option linter.unusedSimpArgs false
set_option linter.unusedVariables false

/-- These cells are these rows of lambda terms. -/
def RowTS (w : World) (X : Nat → Prop) : List (List Lm) → List Value → Prop
  | [], xs => xs = []
  | l :: r, xs => ∃ a c q, xs = .slice a l.length c :: q ∧ SlM w X a l ∧ RowTS w X r q
theorem RowTS.len {w : World} {X : Nat → Prop} : ∀ {l : List (List Lm)} {xs : List Value}, RowTS w X l xs → xs.length = l.length
  | [], xs, h => by simp [RowTS] at h; simp [h]
  | t :: l, xs, h => by
    obtain ⟨a, c, r, rfl, _, h⟩ := h
    simp only [List.length_cons]
    rw [RowTS.len h]
theorem RowTS.append {w : World} {X : Nat → Prop} : ∀ {l k : List (List Lm)} {xs ys : List Value}, RowTS w X l xs → RowTS w X k ys → RowTS w X (l ++ k) (xs ++ ys)
  | [], k, xs, ys, h, h' => by simp [RowTS] at h; subst h; simpa using h'
  | t :: l, k, xs, ys, h, h' => by
    obtain ⟨a, c, r, rfl, hs, h⟩ := h
    exact ⟨a, c, r ++ ys, rfl, hs, RowTS.append h h'⟩
theorem RowTS.imp {w w' : World} {X Y : Nat → Prop} (hs : ∀ a l, SlM w X a l → SlM w' Y a l) : ∀ {l : List (List Lm)} {xs : List Value}, RowTS w X l xs → RowTS w' Y l xs
  | [], xs, h => h
  | t :: l, xs, h => by
    obtain ⟨a, c, r, e, h1, h⟩ := h
    exact ⟨a, c, r, e, hs _ _ h1, RowTS.imp hs h⟩
theorem RowTS.get {w : World} {X : Nat → Prop} : ∀ {l : List (List Lm)} {xs : List Value}, RowTS w X l xs → ∀ (k : Nat) (h : k < l.length), ∃ a c, xs[k]? = some (.slice a l[k].length c) ∧ SlM w X a l[k]
  | t :: l, xs, h, 0, _ => by
    obtain ⟨a, c, r, rfl, hs, _⟩ := h
    exact ⟨a, c, rfl, hs⟩
  | t :: l, xs, h, k + 1, hk => by
    obtain ⟨a, c, r, rfl, _, h⟩ := h
    obtain ⟨a', c', h1, h2⟩ := RowTS.get h k (by simpa using hk)
    exact ⟨a', c', by simpa using h1, by simpa using h2⟩

/-- The row of rows so far, apart from what its terms are made of: old memory that Y lets, and new memory. -/
structure RowS (w : World) (N : Nat) (T : Nat) (Y : Nat → Prop) (v : Value) (l : List (List Lm)) (xs : List Value) : Prop where
  own : w.ownsRow N T 1 v l.length xs
  row : RowTS w (fun b => Y b ∨ (N ≤ b ∧ some b ≠ v.ownBlock)) l xs
theorem RowS.start (w : World) (N T : Nat) (Y : Nat → Prop) : RowS w N T Y (.slice none 0 0) [] [] := ⟨World.ownsRow_nil w N T 1, rfl⟩
theorem RowS.below {w w' : World} {N T : Nat} {Y : Nat → Prop} {v : Value} {l : List (List Lm)} {xs : List Value} (h : RowS w N T Y v l xs) (hb : Below w.heap.size w w') : RowS w' N T Y v l xs :=
  ⟨h.own.kept (w' := w') (row := none) ⟨hb.os, hb.tape, hb.output, hb.size, fun j hj _ => hb.block j hj⟩ (by rcases Option.eq_none_or_eq_some (Value.ownBlock v) with h | ⟨x, h⟩; exact Or.inl h; exact Or.inr (by rw [h]; simp)),
   h.row.imp fun a l h => h.later hb⟩
theorem RowS.ne {w : World} {N T : Nat} {Y : Nat → Prop} {v : Value} {l : List (List Lm)} {xs : List Value} (h : RowS w N T Y v l xs) {b : Nat} (hb : b < N) : some b ≠ v.ownBlock := fun e => by
  have := (h.own.lt b e.symm).1; omega
/-- One more row: its slice has been laid into a block of its own, and appended. -/
theorem RowS.push {w w1 w2 w3 : World} {N T : Nat} {Y : Nat → Prop} {v : Value} {l : List (List Lm)} {xs : List Value} (h : RowS w N T Y v l xs) (hN : N ≤ w.heap.size) (hY : ∀ b, Y b → b < N) (hb : Below w.heap.size w w1) {a : Option Addr} {c : Nat} {t : List Lm}
    (ht : SlM w1 (fun b => Y b ∨ w.heap.size ≤ b) a t) (o : Obj) (hw2 : w2 = w1.alloc o) {g cap : Nat}
    (hown : w3.ownsRow N T 1 (.slice (some ⟨g, 0, none⟩) (l.length + 1) cap) (l.length + 1) (xs ++ [.slice a t.length c])) (hg : w2.grownBy w3 v.ownBlock) (hg1 : v.ownBlock = some g ∨ g = w2.heap.size) :
    RowS w3 N T Y (.slice (some ⟨g, 0, none⟩) (l.length + 1) cap) (l ++ [t]) (xs ++ [.slice a t.length c]) := by
  subst hw2
  have hlt := h.own.lt
  refine ⟨by simpa using hown, ?_⟩
  have hsz : w1.heap.size ≤ (w1.alloc o).heap.size := by simp
  have hbs := hb.size
  have hgN : N ≤ g := by
    rcases hg1 with e | e
    · exact (hlt g e).1
    · simp at e; omega
  refine RowTS.append (h.row.imp fun a' k' hs => ?_) ?_
  · have h1 : SlM w (fun b => (Y b ∨ (N ≤ b ∧ some b ≠ v.ownBlock)) ∧ b < w.heap.size) a' k' := hs.mono fun b h1 h2 => ⟨h1, h2⟩
    have h2 : SlM w3 (fun b => (Y b ∨ (N ≤ b ∧ some b ≠ v.ownBlock)) ∧ b < w.heap.size) a' k' := h1.kept fun b hx => by
      have hne : some b ≠ v.ownBlock := by
        rcases hx.1 with hy | hy
        · exact h.ne (hY b hy)
        · exact hy.2
      rw [hg.block b (by simp; omega) hne, Below.heap_alloc _ _ _ (by omega), hb.block b hx.2]
    refine h2.mono fun b hx _ => ?_
    rcases hx.1 with hy | hy
    · exact Or.inl hy
    · refine Or.inr ⟨hy.1, fun e => ?_⟩
      simp [Value.ownBlock] at e
      rcases hg1 with e' | e'
      · exact hy.2 (by rw [e', e])
      · simp at e'; omega
  · refine ⟨a, c, [], rfl, ?_, rfl⟩
    have h1 : SlM w1 (fun b => (Y b ∨ w.heap.size ≤ b) ∧ b < w1.heap.size) a t := ht.mono fun b h1 h2 => ⟨h1, h2⟩
    have h2 : SlM w3 (fun b => (Y b ∨ w.heap.size ≤ b) ∧ b < w1.heap.size) a t := h1.kept fun b hx => by
      have hne : some b ≠ v.ownBlock := by
        rcases hx.1 with hy | hy
        · exact h.ne (hY b hy)
        · intro e; have := (hlt b e.symm).2; omega
      rw [hg.block b (by simp; omega) hne, Below.heap_alloc _ _ _ hx.2]
    refine h2.mono fun b hx _ => ?_
    rcases hx.1 with hy | hy
    · exact Or.inl hy
    · refine Or.inr ⟨by omega, fun e => ?_⟩
      simp [Value.ownBlock] at e
      rcases hg1 with e' | e'
      · have := (hlt g e').2; omega
      · simp at e'; omega
end Go.Proofs.YtnllgbcakmddkaaGreatDoor

/- What one round of the document's Parallel does to memory. -/
namespace Go.Proofs.YtnllgbcakmddkaaGreatDoor
open Go.RowKit
set_option linter.unusedSimpArgs false
set_option linter.unusedVariables false
set_option maxRecDepth 8000

/-- One more, wherever it lies. -/
theorem RowM.snoc {w w3 : World} {N T : Nat} {Y : Nat → Prop} {v : Value} {l : List Lm} {xs : List Value} (h : RowM w N T Y v l xs) (hN : N ≤ w.heap.size) (hY : ∀ b, Y b → b < N) {a : Option Addr} {c : Nat} {t : Lm}
    (ht : SlM w (fun b => Y b ∨ (N ≤ b ∧ some b ≠ v.ownBlock)) a t.subs) {g cap : Nat}
    (hown : w3.ownsRow N T 3 (.slice (some ⟨g, 0, none⟩) (l.length + 1) cap) (l.length + 1) (xs ++ [.int .i64 t.kind, .int .i64 t.idx, .slice a t.subs.length c])) (hg : w.grownBy w3 v.ownBlock) (hg1 : v.ownBlock = some g ∨ g = w.heap.size) :
    RowM w3 N T Y (.slice (some ⟨g, 0, none⟩) (l.length + 1) cap) (l ++ [t]) (xs ++ [.int .i64 t.kind, .int .i64 t.idx, .slice a t.subs.length c]) := by
  have key : ∀ a' k', SlM w (fun b => Y b ∨ (N ≤ b ∧ some b ≠ v.ownBlock)) a' k' → SlM w3 (fun b => Y b ∨ (N ≤ b ∧ some b ≠ (Value.slice (some ⟨g, 0, none⟩) (l.length + 1) cap).ownBlock)) a' k' := fun a' k' hs => by
    have h1 : SlM w (fun b => (Y b ∨ (N ≤ b ∧ some b ≠ v.ownBlock)) ∧ b < w.heap.size) a' k' := hs.mono fun b h1 h2 => ⟨h1, h2⟩
    have h2 : SlM w3 (fun b => (Y b ∨ (N ≤ b ∧ some b ≠ v.ownBlock)) ∧ b < w.heap.size) a' k' := h1.kept fun b hx => by
      have hne : some b ≠ v.ownBlock := by
        rcases hx.1 with hy | hy
        · exact h.ne (hY b hy)
        · exact hy.2
      rw [hg.block b hx.2 hne]
    refine h2.mono fun b hx _ => ?_
    rcases hx.1 with hy | hy
    · exact Or.inl hy
    · refine Or.inr ⟨hy.1, fun e => ?_⟩
      simp [Value.ownBlock] at e
      rcases hg1 with e' | e'
      · exact hy.2 (by rw [e', e])
      · omega
  exact ⟨by simpa using hown, RowTM.append (h.row.imp key) ⟨a, c, [], rfl, key _ _ ht, rfl⟩⟩
theorem RowS.snoc {w w3 : World} {N T : Nat} {Y : Nat → Prop} {v : Value} {l : List (List Lm)} {xs : List Value} (h : RowS w N T Y v l xs) (hN : N ≤ w.heap.size) (hY : ∀ b, Y b → b < N) {a : Option Addr} {c : Nat} {t : List Lm}
    (ht : SlM w (fun b => Y b ∨ (N ≤ b ∧ some b ≠ v.ownBlock)) a t) {g cap : Nat}
    (hown : w3.ownsRow N T 1 (.slice (some ⟨g, 0, none⟩) (l.length + 1) cap) (l.length + 1) (xs ++ [.slice a t.length c])) (hg : w.grownBy w3 v.ownBlock) (hg1 : v.ownBlock = some g ∨ g = w.heap.size) :
    RowS w3 N T Y (.slice (some ⟨g, 0, none⟩) (l.length + 1) cap) (l ++ [t]) (xs ++ [.slice a t.length c]) := by
  have key : ∀ a' k', SlM w (fun b => Y b ∨ (N ≤ b ∧ some b ≠ v.ownBlock)) a' k' → SlM w3 (fun b => Y b ∨ (N ≤ b ∧ some b ≠ (Value.slice (some ⟨g, 0, none⟩) (l.length + 1) cap).ownBlock)) a' k' := fun a' k' hs => by
    have h1 : SlM w (fun b => (Y b ∨ (N ≤ b ∧ some b ≠ v.ownBlock)) ∧ b < w.heap.size) a' k' := hs.mono fun b h1 h2 => ⟨h1, h2⟩
    have h2 : SlM w3 (fun b => (Y b ∨ (N ≤ b ∧ some b ≠ v.ownBlock)) ∧ b < w.heap.size) a' k' := h1.kept fun b hx => by
      have hne : some b ≠ v.ownBlock := by
        rcases hx.1 with hy | hy
        · exact h.ne (hY b hy)
        · exact hy.2
      rw [hg.block b hx.2 hne]
    refine h2.mono fun b hx _ => ?_
    rcases hx.1 with hy | hy
    · exact Or.inl hy
    · refine Or.inr ⟨hy.1, fun e => ?_⟩
      simp [Value.ownBlock] at e
      rcases hg1 with e' | e'
      · exact hy.2 (by rw [e', e])
      · omega
  exact ⟨by simpa using hown, RowTS.append (h.row.imp key) ⟨a, c, [], rfl, key _ _ ht, rfl⟩⟩

/-- All of a row behind an empty one of one's own: a row of one's own, nothing older is changed. -/
theorem spreadL {W0 W : World} {N G0 : Nat} {Y : Nat → Prop} {a : Option Addr} {c : Nat} {l : List Lm} (hb : Below W0.heap.size W0 W) (hN : N ≤ W0.heap.size) (hY : ∀ b, Y b → b < N) (hG : W0.heap.size ≤ G0) (hB : Blk W G0 #[] 26) (hs : SlM W0 Y a l) (hl : l.length ≤ 100000) :
    ∃ v1 W1 xs, (Builtin.append_ #[24, 24] 24 #[.slice (some ⟨G0, 0, none⟩) 0 0, .slice a l.length c]).run Tryz.prog W = .ok v1 W1 ∧ RowM W1 W0.heap.size 26 Y v1 l xs ∧ Below W0.heap.size W0 W1 ∧ (∀ q, q < W.heap.size → q ≠ G0 → W1.heap[q]? = W.heap[q]?) ∧ W.heap.size ≤ W1.heap.size := by
  obtain ⟨i0, hi, hz0, hz1, hz2⟩ := info_parts Tryz.infoLam
  have hbs := hb.size
  have hown : W.ownsRow W0.heap.size 26 3 (.slice (some ⟨G0, 0, none⟩) 0 0) 0 [] := ⟨by simp, Or.inr ⟨G0, 0, #[], rfl, hG, hB, by omega, by unfold maxLen; omega, by simp, by simp⟩⟩
  have fin : ∀ (v1 : Value) (W1 : World) (xs : List Value), W1.ownsRow W0.heap.size 26 3 v1 l.length xs → W.grownBy W1 (some G0) → RowTM W0 Y l xs → RowM W1 W0.heap.size 26 Y v1 l xs ∧ Below W0.heap.size W0 W1 ∧ (∀ q, q < W.heap.size → q ≠ G0 → W1.heap[q]? = W.heap[q]?) ∧ W.heap.size ≤ W1.heap.size := by
    intro v1 W1 xs ho hg hr
    have hbl : Below W0.heap.size W0 W1 := hb.grown hg hbs (fun k hk => by simp at hk; omega)
    refine ⟨⟨ho, hr.imp fun a' k' h' => (h'.later hbl).mono fun b h1 _ => Or.inl h1⟩, hbl, fun q hq hne => hg.block q hq (by simp; exact fun e => hne e), hg.size⟩
  cases a with
  | none =>
    have hl0 : l = [] := by
      rcases hs.2 with h | ⟨b, o, e, _⟩
      · exact h
      · cases e
    subst hl0
    refine ⟨.slice (some ⟨G0, 0, none⟩) 0 0, W, [], ?_, fin _ _ _ hown ⟨rfl, rfl, rfl, Nat.le_refl _, fun k hk _ => rfl⟩ rfl⟩
    have hrun : ∀ cc, (Builtin.append_ #[24, 24] 24 #[.slice (some ⟨G0, 0, none⟩) 0 0, .slice none 0 cc]).run Tryz.prog W = .ok (.slice (some ⟨G0, 0, none⟩) 0 0) W := fun cc => by
      simp [Builtin.append_, run_underlying Tryz.underlying24, sizeOf, typeInfo, hi, Builtin.lenOf, Builtin.firstCells, storeCells]
    exact hrun c
  | some ad =>
    obtain ⟨xs, hr, hx⟩ : ∃ xs, RowTM W0 Y l xs ∧ ∀ j u, xs[j]? = some u → W.cell? (ad.add j) = some u := by
      rcases hs.2 with rfl | ⟨b, o, e, hL⟩
      · exact ⟨[], rfl, fun j u hj => by simp at hj⟩
      · cases e
        obtain ⟨xs, h1, h2⟩ := rowTM_of_lies l b o hL
        refine ⟨xs, h1, fun j u hj => ?_⟩
        have e : (⟨b, o, none⟩ : Addr).add j = ⟨b, o + j, none⟩ := by
          by_cases h0 : j = 0
          · subst h0; simp [Addr.add]
          · simp [Addr.add, h0]
        rw [e]
        have hc := h2 j u hj
        exact (hb.cell (p := ⟨b, o + j, none⟩) (cell_ltM hc)).trans hc
    obtain ⟨v1, W1, hrun, ho, hg, _⟩ := run_append_own (P := Tryz.prog) W W0.heap.size 24 24 26 i0 _ 3 40 Tryz.underlying24 hi hz0 hz1 hz2 rfl (by decide) _ 0 [] hown ad l.length c xs hr.len hx (fun u hu => RowTM.one hr u hu) (by unfold maxLen; omega) (by omega) hbs
    exact ⟨v1, W1, xs, hrun, fin v1 W1 xs (by simpa using ho) (by simpa [Value.ownBlock] using hg) hr⟩
/-- One more behind a row of one's own. -/
theorem oneL {W0 W : World} {P : Nat} {Y : Nat → Prop} {v : Value} {l : List Lm} {xs : List Value} {y : Lm} {a : Option Addr} {c : Nat} (hb : Below W0.heap.size W0 W) (hY : ∀ b, Y b → b < W0.heap.size) (h : RowM W W0.heap.size 26 Y v l xs) (hP : Blk W P #[.int .i64 y.kind, .int .i64 y.idx, .slice a y.subs.length c] 26) (hs : SlM W0 Y a y.subs) (hl : l.length ≤ 100000) :
    ∃ g cap W1 ys, (Builtin.append_ #[24, 24] 24 #[v, .slice (some ⟨P, 0, none⟩) 1 1]).run Tryz.prog W = .ok (.slice (some ⟨g, 0, none⟩) (l.length + 1) cap) W1 ∧ RowM W1 W0.heap.size 26 Y (.slice (some ⟨g, 0, none⟩) (l.length + 1) cap) (l ++ [y]) ys ∧ Below W0.heap.size W0 W1 := by
  obtain ⟨i0, hi, hz0, hz1, hz2⟩ := info_parts Tryz.infoLam
  have hbs := hb.size
  have hlt := h.own.lt
  obtain ⟨g, cap, W1, hr, ho, hg, hat, hgl⟩ := run_append_lies (P := Tryz.prog) (w := W) 24 24 W0.heap.size 26 i0 _ 3 40 Tryz.underlying24 hi hz0 hz1 hz2 rfl (by decide) v l.length xs h.own
    ⟨P, 0, none⟩ 1 1 [.int .i64 y.kind, .int .i64 y.idx, .slice a y.subs.length c] rfl (fun j u hj => by
      have e : (⟨P, 0, none⟩ : Addr).add j = ⟨P, j, none⟩ := by
        by_cases h0 : j = 0
        · subst h0; simp [Addr.add]
        · simp [Addr.add, h0]
      rw [e, hP.cell j]
      simpa using hj) (fun u hu => by simp at hu; rcases hu with rfl | rfl | rfl <;> rfl) (by decide) (by unfold maxLen; omega) (by omega) hbs _ rfl
  exact ⟨g, cap, W1, _, hr, h.snoc hbs hY ((hs.later hb).mono fun b h1 _ => Or.inl h1) ho hg hat, hb.grown hg hbs (fun k hk => (hlt k hk).1)⟩
end Go.Proofs.YtnllgbcakmddkaaGreatDoor

/- What one round of the document's Parallel does to memory: rows of rows. -/
namespace Go.Proofs.YtnllgbcakmddkaaGreatDoor
open Go.RowKit
set_option linter.unusedSimpArgs false
set_option linter.unusedVariables false
set_option maxRecDepth 8000

theorem Tryz.infoRowL : (Tryz.prog.info? 24).map (fun i => (i.zero, i.size, i.bytes)) = some (some (.slice none 0 0), 1, 24) := by kernel_rfl
/-- One more behind a row of rows of one's own. -/
theorem oneS {W : World} {N P : Nat} {Y : Nat → Prop} {v : Value} {ll : List (List Lm)} {xs : List Value} {l : List Lm} {a : Option Addr} {c : Nat} (hN : N ≤ W.heap.size) (hY : ∀ b, Y b → b < N) (h : RowS W N 24 Y v ll xs) (hP : Blk W P #[.slice a l.length c] 24) (hs : SlM W (fun b => Y b ∨ (N ≤ b ∧ some b ≠ v.ownBlock)) a l) (hl : ll.length ≤ 100000) :
    ∃ g cap W1 ys, (Builtin.append_ #[52, 52] 52 #[v, .slice (some ⟨P, 0, none⟩) 1 1]).run Tryz.prog W = .ok (.slice (some ⟨g, 0, none⟩) (ll.length + 1) cap) W1 ∧ RowS W1 N 24 Y (.slice (some ⟨g, 0, none⟩) (ll.length + 1) cap) (ll ++ [l]) ys ∧ W.grownBy W1 v.ownBlock := by
  obtain ⟨i0, hi, hz0, hz1, hz2⟩ := info_parts Tryz.infoRowL
  have hlt := h.own.lt
  obtain ⟨g, cap, W1, hr, ho, hg, hat, hgl⟩ := run_append_lies (P := Tryz.prog) (w := W) 52 52 N 24 i0 _ 1 24 Tryz.underlying52 hi hz0 hz1 hz2 rfl (by decide) v ll.length xs h.own
    ⟨P, 0, none⟩ 1 1 [.slice a l.length c] rfl (fun j u hj => by
      have e : (⟨P, 0, none⟩ : Addr).add j = ⟨P, j, none⟩ := by
        by_cases h0 : j = 0
        · subst h0; simp [Addr.add]
        · simp [Addr.add, h0]
      rw [e, hP.cell j]
      simpa using hj) (fun u hu => by simp at hu; subst hu; rfl) (by decide) (by unfold maxLen; omega) (by omega) hN _ rfl
  exact ⟨g, cap, W1, _, hr, h.snoc hN hY hs ho hg hat, hg⟩

/-- A row of rows, to be read. -/
def LS (w : World) (v : Value) (ll : List (List Lm)) : Prop := ∃ a c, v = .slice a ll.length c ∧ (ll = [] ∨ ∃ b o, a = some ⟨b, o, none⟩ ∧ b < w.heap.size ∧ ∀ i (h : i < ll.length), ∃ a' c', w.cell? ⟨b, o + i, none⟩ = some (.slice a' ll[i].length c') ∧ SlM w (fun _ => True) a' ll[i])
theorem LS.later {w w' : World} {v : Value} {ll : List (List Lm)} (h : LS w v ll) (hb : Below w.heap.size w w') : LS w' v ll := by
  obtain ⟨a, c, e, h⟩ := h
  refine ⟨a, c, e, ?_⟩
  rcases h with h | ⟨b, o, e, hl, h⟩
  · exact Or.inl h
  · refine Or.inr ⟨b, o, e, by have := hb.size; omega, fun i hi => ?_⟩
    obtain ⟨a', c', h1, h2⟩ := h i hi
    exact ⟨a', c', (hb.cell (p := ⟨b, o + i, none⟩) hl).trans h1, h2.later hb⟩
theorem RowS.ls {w : World} {N T : Nat} {Y : Nat → Prop} {v : Value} {ll : List (List Lm)} {xs : List Value} (h : RowS w N T Y v ll xs) : LS w v ll := by
  by_cases h0 : 0 < ll.length
  · obtain ⟨g, cap, rfl, hg, hlt, hc⟩ := owned_val h.own h0
    refine ⟨_, _, rfl, Or.inr ⟨g, 0, rfl, hlt, fun i hi => ?_⟩⟩
    obtain ⟨a, c, h1, h2⟩ := h.row.get i hi
    exact ⟨a, c, by rw [Nat.zero_add]; exact hc i _ h1, h2.mono fun _ _ _ => trivial⟩
  · have e : ll = [] := List.length_eq_zero_iff.1 (by omega)
    subst e
    rcases h.own.2 with ⟨hv, _⟩ | ⟨g, cap, cur, hv, _⟩
    · exact ⟨none, 0, hv, Or.inl rfl⟩
    · exact ⟨_, _, hv, Or.inl rfl⟩
theorem LS.get {w : World} {v : Value} {ll : List (List Lm)} (h : LS w v ll) (k : Nat) (hk : k < ll.length) : ∃ b o c a' c', v = .slice (some ⟨b, o, none⟩) ll.length c ∧ b < w.heap.size ∧ w.cell? ⟨b, o + k, none⟩ = some (.slice a' ll[k].length c') ∧ SlM w (fun _ => True) a' ll[k] := by
  obtain ⟨a, c, rfl, h⟩ := h
  rcases h with rfl | ⟨b, o, rfl, hl, h⟩
  · simp at hk
  · obtain ⟨a', c', h1, h2⟩ := h k hk
    exact ⟨b, o, c, a', c', rfl, hl, h1, h2⟩
end Go.Proofs.YtnllgbcakmddkaaGreatDoor

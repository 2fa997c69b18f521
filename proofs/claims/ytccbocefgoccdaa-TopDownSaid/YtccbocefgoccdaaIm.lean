/- Terms that are told by numbers, as they lie in memory: four cells each. -/
import Derived.Test.YtccbocefgoccdaaZTopDownOwn
namespace Go.Proofs.Ytccbocefgoccdaa
open Go.RowKit
set_option linter.unusedSimpArgs false
set_option linter.unusedVariables false

/-- A list of numbered terms lies in a row of cells, four each, in blocks that X lets. -/
def ILies (w : World) (X : Nat → Prop) (S : List Tm) : Nat → Nat → List Tm → Prop
  | _, _, [] => True
  | b, o, ⟨s, l⟩ :: r => X b ∧ (⟨s, l⟩ : Tm) ∈ S ∧ w.cell? ⟨b, o, none⟩ = some (.string s) ∧
      (∃ a c, w.cell? ⟨b, o + 1, none⟩ = some (.slice a l.length c) ∧ l.length ≤ 9223372036854775807 ∧ (l = [] ∨ ∃ b' o', a = some ⟨b', o', none⟩ ∧ ILies w X S b' o' l)) ∧
      w.cell? ⟨b, o + 2, none⟩ = some (.int .i64 (numT ⟨s, l⟩ S)) ∧ w.cell? ⟨b, o + 3, none⟩ = some (.int .i64 (sizeL [⟨s, l⟩])) ∧ ILies w X S b (o + 4) r

/-- What a slice of numbered terms holds. -/
def ISl (w : World) (X : Nat → Prop) (S : List Tm) (a : Option Addr) (l : List Tm) : Prop := l.length ≤ 9223372036854775807 ∧ (l = [] ∨ ∃ b o, a = some ⟨b, o, none⟩ ∧ ILies w X S b o l)

/-- What a numbered term's value holds. -/
def IV (w : World) (X : Nat → Prop) (S : List Tm) (v : Value) (t : Tm) : Prop := t ∈ S ∧ ∃ a c, v = .agg #[.string t.name, .slice a t.args.length c, .int .i64 (numT t S), .int .i64 (sizeL [t])] ∧ ISl w X S a t.args

theorem ilies_kept {w w' : World} {X : Nat → Prop} {S : List Tm} (h : ∀ b, X b → w'.heap[b]? = w.heap[b]?) (l : List Tm) : ∀ b o, ILies w X S b o l → ILies w' X S b o l := by
  induction l using Tm.indL with
  | h0 => intro b o _; simp [ILies]
  | h s l r ihl ihr =>
    intro b o hl
    simp only [ILies] at hl ⊢
    obtain ⟨hx, hm, h1, ⟨a, c, h2, h2', h3⟩, h5, h6, h4⟩ := hl
    have e := fun o => World.cell?_of_block (w := w) (w' := w') (a := ⟨b, o, none⟩) (h b hx)
    refine ⟨hx, hm, by rw [e]; exact h1, ⟨a, c, by rw [e]; exact h2, h2', ?_⟩, by rw [e]; exact h5, by rw [e]; exact h6, ihr _ _ h4⟩
    rcases h3 with h3 | ⟨b', o', h3, h5⟩
    · exact Or.inl h3
    · exact Or.inr ⟨b', o', h3, ihl _ _ h5⟩

theorem ilies_mono {w : World} {X Y : Nat → Prop} {S : List Tm} (h : ∀ b, X b → b < w.heap.size → Y b) (l : List Tm) : ∀ b o, ILies w X S b o l → ILies w Y S b o l := by
  induction l using Tm.indL with
  | h0 => intro b o _; simp [ILies]
  | h s l r ihl ihr =>
    intro b o hl
    simp only [ILies] at hl ⊢
    obtain ⟨hx, hm, h1, ⟨a, c, h2, h2', h3⟩, h5, h6, h4⟩ := hl
    have hb : b < w.heap.size := by
      apply Classical.byContradiction
      intro hn
      have e : w.heap[b]? = none := Array.getElem?_eq_none (by omega)
      simp [World.cell?, e] at h1
    refine ⟨h b hx hb, hm, h1, ⟨a, c, h2, h2', ?_⟩, h5, h6, ihr _ _ h4⟩
    rcases h3 with h3 | ⟨b', o', h3, h5⟩
    · exact Or.inl h3
    · exact Or.inr ⟨b', o', h3, ihl _ _ h5⟩

theorem ilies_more {w : World} {X : Nat → Prop} {S : List Tm} (R : List Tm) (l : List Tm) : ∀ b o, ILies w X S b o l → ILies w X (S ++ R) b o l := by
  induction l using Tm.indL with
  | h0 => intro b o _; simp [ILies]
  | h s l r ihl ihr =>
    intro b o hl
    simp only [ILies] at hl ⊢
    obtain ⟨hx, hm, h1, ⟨a, c, h2, h2', h3⟩, h5, h6, h4⟩ := hl
    refine ⟨hx, List.mem_append_left _ hm, h1, ⟨a, c, h2, h2', ?_⟩, by rw [numT_more R hm]; exact h5, h6, ihr _ _ h4⟩
    rcases h3 with h3 | ⟨b', o', h3, h5⟩
    · exact Or.inl h3
    · exact Or.inr ⟨b', o', h3, ihl _ _ h5⟩

theorem ISl.kept {w w' : World} {X : Nat → Prop} {S : List Tm} {a : Option Addr} {l : List Tm} (h : ISl w X S a l) (hk : ∀ b, X b → w'.heap[b]? = w.heap[b]?) : ISl w' X S a l := by
  obtain ⟨hl, h⟩ := h
  refine ⟨hl, ?_⟩
  rcases h with h | ⟨b, o, e, h⟩
  · exact Or.inl h
  · exact Or.inr ⟨b, o, e, ilies_kept hk _ _ _ h⟩
theorem ISl.mono {w : World} {X Y : Nat → Prop} {S : List Tm} {a : Option Addr} {l : List Tm} (h : ISl w X S a l) (hk : ∀ b, X b → b < w.heap.size → Y b) : ISl w Y S a l := by
  obtain ⟨hl, h⟩ := h
  refine ⟨hl, ?_⟩
  rcases h with h | ⟨b, o, e, h⟩
  · exact Or.inl h
  · exact Or.inr ⟨b, o, e, ilies_mono hk _ _ _ h⟩
theorem ISl.more {w : World} {X : Nat → Prop} {S : List Tm} {a : Option Addr} {l : List Tm} (h : ISl w X S a l) (R : List Tm) : ISl w X (S ++ R) a l := by
  obtain ⟨hl, h⟩ := h
  refine ⟨hl, ?_⟩
  rcases h with h | ⟨b, o, e, h⟩
  · exact Or.inl h
  · exact Or.inr ⟨b, o, e, ilies_more R _ _ _ h⟩
theorem ISl.below {w w' : World} {X : Nat → Prop} {S : List Tm} {a : Option Addr} {l : List Tm} {B : Nat} (h : ISl w X S a l) (hb : Below B w w') (hX : ∀ b, X b → b < w.heap.size → b < B) : ISl w' X S a l := by
  have h1 : ISl w (fun b => X b ∧ b < B) S a l := h.mono fun b hx hs => ⟨hx, hX b hx hs⟩
  have h2 : ISl w' (fun b => X b ∧ b < B) S a l := h1.kept fun b hx => hb.block b hx.2
  exact h2.mono fun b hx _ => hx.1
theorem ISl.later {w w' : World} {X : Nat → Prop} {S : List Tm} {a : Option Addr} {l : List Tm} (h : ISl w X S a l) (hb : Below w.heap.size w w') : ISl w' X S a l := h.below hb (fun _ _ h => h)
theorem IV.kept {w w' : World} {X : Nat → Prop} {S : List Tm} {v : Value} {t : Tm} (h : IV w X S v t) (hk : ∀ b, X b → w'.heap[b]? = w.heap[b]?) : IV w' X S v t := by
  obtain ⟨hm, a, c, e, h⟩ := h
  exact ⟨hm, a, c, e, h.kept hk⟩
theorem IV.mono {w : World} {X Y : Nat → Prop} {S : List Tm} {v : Value} {t : Tm} (h : IV w X S v t) (hk : ∀ b, X b → b < w.heap.size → Y b) : IV w Y S v t := by
  obtain ⟨hm, a, c, e, h⟩ := h
  exact ⟨hm, a, c, e, h.mono hk⟩
theorem IV.more {w : World} {X : Nat → Prop} {S : List Tm} {v : Value} {t : Tm} (h : IV w X S v t) (R : List Tm) : IV w X (S ++ R) v t := by
  obtain ⟨hm, a, c, e, h⟩ := h
  exact ⟨List.mem_append_left _ hm, a, c, by rw [numT_more R hm]; exact e, h.more R⟩
theorem IV.later {w w' : World} {X : Nat → Prop} {S : List Tm} {v : Value} {t : Tm} (h : IV w X S v t) (hb : Below w.heap.size w w') : IV w' X S v t := by
  obtain ⟨hm, a, c, e, h⟩ := h
  exact ⟨hm, a, c, e, h.later hb⟩
theorem IV.alloc {w : World} {X : Nat → Prop} {S : List Tm} {v : Value} {t : Tm} (h : IV w X S v t) (o : Obj) : IV (w.alloc o) X S v t := h.later ((Below.refl _ _).alloc (Nat.le_refl _) o)

/-- One of a row. -/
theorem ilies_get {w : World} {X : Nat → Prop} {S : List Tm} : ∀ (l : List Tm) (b o : Nat), ILies w X S b o l → ∀ i (h : i < l.length),
    X b ∧ l[i] ∈ S ∧ w.cell? ⟨b, o + i * 4, none⟩ = some (.string l[i].name) ∧ w.cell? ⟨b, o + i * 4 + 2, none⟩ = some (.int .i64 (numT l[i] S)) ∧ w.cell? ⟨b, o + i * 4 + 3, none⟩ = some (.int .i64 (sizeL [l[i]])) ∧
      ∃ a c, w.cell? ⟨b, o + i * 4 + 1, none⟩ = some (.slice a l[i].args.length c) ∧ ISl w X S a l[i].args := by
  intro l
  induction l with
  | nil => intro b o _ i h; simp at h
  | cons t r ih =>
    intro b o hl i h
    obtain ⟨s, k⟩ := t
    simp only [ILies] at hl
    obtain ⟨hx, hm, h1, ⟨a, c, h2, h3⟩, h5, h6, h4⟩ := hl
    cases i with
    | zero => exact ⟨hx, hm, h1, h5, h6, a, c, h2, h3⟩
    | succ i =>
      have := ih b (o + 4) h4 i (by simpa using h)
      simp only [List.getElem_cons_succ]
      rw [show o + (i + 1) * 4 = o + 4 + i * 4 by omega]
      exact this

/-- One of a slice, in a later world. -/
theorem ISl.get {w wr : World} {X : Nat → Prop} {S : List Tm} {a : Option Addr} {l : List Tm} {B : Nat} (h : ISl w X S a l) (hb : Below B w wr) (hX : ∀ b, X b → b < w.heap.size → b < B) (k : Nat) (hk : k < l.length) :
    ∃ b o a' c', a = some ⟨b, o, none⟩ ∧ wr.cell? ⟨b, o + k * 4, none⟩ = some (.string l[k].name) ∧ wr.cell? ⟨b, o + k * 4 + 1, none⟩ = some (.slice a' l[k].args.length c') ∧ wr.cell? ⟨b, o + k * 4 + 2, none⟩ = some (.int .i64 (numT l[k] S)) ∧ wr.cell? ⟨b, o + k * 4 + 3, none⟩ = some (.int .i64 (sizeL [l[k]])) ∧
      IV wr X S (.agg #[.string l[k].name, .slice a' l[k].args.length c', .int .i64 (numT l[k] S), .int .i64 (sizeL [l[k]])]) l[k] := by
  have h' := h.below hb hX
  obtain ⟨_, h1⟩ := h'
  rcases h1 with h1 | ⟨b, o, e, h1⟩
  · subst h1; simp at hk
  · obtain ⟨_, hm, h2, h5, h6, a', c', h3, h4⟩ := ilies_get _ _ _ h1 k hk
    exact ⟨b, o, a', c', e, h2, h3, h5, h6, hm, a', c', rfl, h4⟩

/-- These cells are these numbered terms. -/
def RowI (w : World) (X : Nat → Prop) (S : List Tm) : List Tm → List Value → Prop
  | [], xs => xs = []
  | t :: l, xs => t ∈ S ∧ ∃ a c r, xs = .string t.name :: .slice a t.args.length c :: .int .i64 (numT t S) :: .int .i64 (sizeL [t]) :: r ∧ ISl w X S a t.args ∧ RowI w X S l r

theorem RowI.append {w : World} {X : Nat → Prop} {S : List Tm} : ∀ {l k : List Tm} {xs ys : List Value}, RowI w X S l xs → RowI w X S k ys → RowI w X S (l ++ k) (xs ++ ys)
  | [], k, xs, ys, h, h' => by simp [RowI] at h; subst h; simpa using h'
  | t :: l, k, xs, ys, h, h' => by
    obtain ⟨hm, a, c, r, rfl, hs, h⟩ := h
    exact ⟨hm, a, c, r ++ ys, rfl, hs, RowI.append h h'⟩
theorem RowI.imp {w w' : World} {X Y : Nat → Prop} {S : List Tm} (hs : ∀ a l, ISl w X S a l → ISl w' Y S a l) : ∀ {l : List Tm} {xs : List Value}, RowI w X S l xs → RowI w' Y S l xs
  | [], xs, h => h
  | t :: l, xs, h => by
    obtain ⟨hm, a, c, r, e, h1, h⟩ := h
    exact ⟨hm, a, c, r, e, hs _ _ h1, RowI.imp hs h⟩
theorem RowI.more {w : World} {X : Nat → Prop} {S : List Tm} (R : List Tm) : ∀ {l : List Tm} {xs : List Value}, RowI w X S l xs → RowI w X (S ++ R) l xs
  | [], xs, h => h
  | t :: l, xs, h => by
    obtain ⟨hm, a, c, r, e, h1, h⟩ := h
    exact ⟨List.mem_append_left _ hm, a, c, r, by rw [numT_more R hm]; exact e, h1.more R, RowI.more R h⟩

theorem ilies_of_row {w w' : World} {X Y : Nat → Prop} {S : List Tm} (b : Nat) (hb : Y b) : ∀ (l : List Tm) (xs : List Value) (o : Nat), RowI w X S l xs → (∀ a k, ISl w X S a k → ISl w' Y S a k) → (∀ j u, xs[j]? = some u → w'.cell? ⟨b, o + j, none⟩ = some u) → ILies w' Y S b o l := by
  intro l
  induction l with
  | nil => intro xs o _ _ _; simp [ILies]
  | cons t r ih =>
    intro xs o h hs hc
    obtain ⟨s, k⟩ := t
    obtain ⟨hm, a, c, r', rfl, h1, h2⟩ := h
    simp only [ILies]
    obtain ⟨h3, h4⟩ := hs _ _ h1
    refine ⟨hb, hm, hc 0 _ rfl, ⟨a, c, hc 1 _ rfl, h3, h4⟩, hc 2 _ rfl, hc 3 _ rfl, ih r' (o + 4) h2 hs fun j u hj => ?_⟩
    have := hc (j + 4) u (by simpa using hj)
    rwa [show o + (j + 4) = o + 4 + j by omega] at this

/-- The row so far. -/
structure IRow (w : World) (N : Nat) (T : Nat) (S : List Tm) (v : Value) (l : List Tm) (xs : List Value) : Prop where
  own : w.ownsRow N T 4 v l.length xs
  row : RowI w (fun b => N ≤ b ∧ some b ≠ v.ownBlock) S l xs

theorem IRow.start (w : World) (N T : Nat) (S : List Tm) : IRow w N T S (.slice none 0 0) [] [] := ⟨World.ownsRow_nil w N T 4, rfl⟩
theorem IRow.more {w : World} {N T : Nat} {S : List Tm} {v : Value} {l : List Tm} {xs : List Value} (h : IRow w N T S v l xs) (R : List Tm) : IRow w N T (S ++ R) v l xs := ⟨h.own, h.row.more R⟩
theorem IRow.ne {w : World} {N T : Nat} {S : List Tm} {v : Value} {l : List Tm} {xs : List Value} (h : IRow w N T S v l xs) {b : Nat} (hb : b < N) : some b ≠ v.ownBlock := fun e => by
  have := (h.own.lt b e.symm).1; omega
/-- What changes no block from N on leaves the row. -/
theorem IRow.kept {w w' : World} {N T : Nat} {S : List Tm} {v : Value} {l : List Tm} {xs : List Value} (h : IRow w N T S v l xs) (hk : ∀ b, N ≤ b → b < w.heap.size → w'.heap[b]? = w.heap[b]?) (hs : w.heap.size ≤ w'.heap.size) (ho : w'.os = w.os) (ht : w'.tape = w.tape) (hp : w'.output = w.output) : IRow w' N T S v l xs := by
  obtain ⟨hown, hrow⟩ := h
  have hlt := hown.lt
  refine ⟨?_, ?_⟩
  · obtain ⟨h0, h1⟩ := hown
    refine ⟨h0, ?_⟩
    rcases h1 with h1 | ⟨g, cap, cur, hv, hg, hh, hr⟩
    · exact Or.inl h1
    · subst hv
      have := (hlt g rfl).2
      exact Or.inr ⟨g, cap, cur, rfl, hg, (hk g hg this).trans hh, hr⟩
  · refine hrow.imp fun a k hs' => ?_
    have h1 : ISl w (fun b => (N ≤ b ∧ some b ≠ v.ownBlock) ∧ b < w.heap.size) S a k := hs'.mono fun b h1 h2 => ⟨h1, h2⟩
    exact (h1.kept fun b hb => hk b hb.1.1 hb.2).mono fun b hb _ => hb.1
theorem IRow.sl {w : World} {N T : Nat} {S : List Tm} {v : Value} {l : List Tm} {xs : List Value} (h : IRow w N T S v l xs) : ∃ a c, v = .slice a l.length c ∧ ISl w (fun b => N ≤ b) S a l := by
  have hml : l.length ≤ 9223372036854775807 := by
    rcases h.own.2 with ⟨_, h0⟩ | ⟨g, cap, cur, _, _, _, h1, h2, _⟩
    · omega
    · unfold maxLen at h2; omega
  by_cases h0 : 0 < l.length
  · obtain ⟨g, cap, rfl, hg, hlt, hc⟩ := owned_val h.own h0
    exact ⟨_, _, rfl, hml, Or.inr ⟨g, 0, rfl, ilies_of_row g hg l xs 0 h.row (fun a k hs => hs.mono fun b hb _ => hb.1) (fun j u hj => by simpa using hc j u hj)⟩⟩
  · have e : l = [] := List.length_eq_zero_iff.1 (by omega)
    subst e
    rcases h.own.2 with ⟨hv, _⟩ | ⟨g, cap, cur, hv, _⟩
    · exact ⟨none, 0, hv, hml, Or.inl rfl⟩
    · exact ⟨_, _, hv, hml, Or.inl rfl⟩
/-- One more: its cells have been laid into a block of their own, and appended. -/
theorem IRow.push {w1 w2 w3 : World} {N T : Nat} {S : List Tm} {v : Value} {l : List Tm} {xs : List Value} (h : IRow w1 N T S v l xs) {M : Nat} (hN : N ≤ M) {t : Tm} {a : Option Addr} {c : Nat}
    (hM : ∀ b, some b = v.ownBlock → b < M)
    (ht : IV w1 (fun b => M ≤ b) S (.agg #[.string t.name, .slice a t.args.length c, .int .i64 (numT t S), .int .i64 (sizeL [t])]) t) (o : Obj) (hw2 : w2 = w1.alloc o) {g cap : Nat}
    (hown : w3.ownsRow N T 4 (.slice (some ⟨g, 0, none⟩) (l.length + 1) cap) (l.length + 1) (xs ++ [.string t.name, .slice a t.args.length c, .int .i64 (numT t S), .int .i64 (sizeL [t])])) (hg : w2.grownBy w3 v.ownBlock) (hg1 : v.ownBlock = some g ∨ g = w2.heap.size) :
    IRow w3 N T S (.slice (some ⟨g, 0, none⟩) (l.length + 1) cap) (l ++ [t]) (xs ++ [.string t.name, .slice a t.args.length c, .int .i64 (numT t S), .int .i64 (sizeL [t])]) := by
  subst hw2
  have hlt := h.own.lt
  refine ⟨by simpa using hown, ?_⟩
  have hgN : N ≤ g ∨ True := Or.inr trivial
  have hsz : (w1.alloc o).heap.size = w1.heap.size + 1 := by simp
  refine RowI.append (h.row.imp fun a' k' hs => ?_) ?_
  · have h1 : ISl w1 (fun b => (N ≤ b ∧ some b ≠ v.ownBlock) ∧ b < w1.heap.size) S a' k' := hs.mono fun b h1 h2 => ⟨h1, h2⟩
    have h2 : ISl w3 (fun b => (N ≤ b ∧ some b ≠ v.ownBlock) ∧ b < w1.heap.size) S a' k' := h1.kept fun b hx => by
      rw [hg.block b (by omega) hx.1.2, Below.heap_alloc _ _ _ hx.2]
    refine h2.mono fun b hx _ => ⟨hx.1.1, fun e => ?_⟩
    simp [Value.ownBlock] at e
    rcases hg1 with e' | e'
    · exact hx.1.2 (by rw [e', e])
    · omega
  · obtain ⟨hm, a2, c2, e, hs⟩ := ht
    simp at e
    obtain ⟨rfl, rfl⟩ := e
    refine ⟨hm, a, c, [], rfl, ?_, rfl⟩
    have h1 : ISl w1 (fun b => M ≤ b ∧ b < w1.heap.size) S a t.args := hs.mono fun b h1 h2 => ⟨h1, h2⟩
    have h2 : ISl w3 (fun b => M ≤ b ∧ b < w1.heap.size) S a t.args := h1.kept fun b hx => by
      have hne : some b ≠ v.ownBlock := fun e => by have := hM b e; omega
      rw [hg.block b (by omega) hne, Below.heap_alloc _ _ _ hx.2]
    refine h2.mono fun b hx _ => ⟨by omega, fun e => ?_⟩
    simp [Value.ownBlock] at e
    rcases hg1 with e' | e'
    · have := hM g e'.symm; omega
    · omega
/-- A store into a block ahead of the row's. -/
theorem IRow.setCell {w : World} {N T : Nat} {S : List Tm} {v : Value} {l : List Tm} {xs : List Value} (h : IRow w N T S v l xs) {b i : Nat} (hb : b < N) (u : Value) : IRow (w.setCell ⟨b, i, none⟩ u) N T S v l xs :=
  ⟨ownsRow_setCell_below h.own (by simpa using hb) u, h.row.imp fun a k hs => hs.kept fun c hc => Below.heap_setCell _ _ _ _ (by simp; omega)⟩
#print axioms IRow.push
#print axioms IRow.sl
end Go.Proofs.Ytccbocefgoccdaa

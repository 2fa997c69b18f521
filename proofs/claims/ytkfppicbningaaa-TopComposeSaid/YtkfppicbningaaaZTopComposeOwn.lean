/- Several texts in one. -/
import Derived.WalkKit
import Derived.WalkSpells
import Derived.WalkLawsBesides
import Derived.Deep.AppendLies
import Derived.Test.YtkfppicbningaaaRows
import Derived.BigQuiet
import Derived.Deep.RegionHeld
import Derived.Deep.RegionLaw
import Derived.Deep.RegionHeld3
import Derived.WideMake
import Derived.Laws.EntriesVeiled
/- The tree that a term is, and how it lies in memory: plain mathematics of terms, and what stays where it was. -/
namespace Go.Proofs.Ytkfppicbningaaa
open Go.RowKit

/-- Kept from the walk. -/
theorem hide {p : Prop} (h : p) : Hid p := h

/-- A term as a tree. -/
structure Tm where
  name : ByteArray
  args : List Tm

theorem Tm.ind {P : Tm → Prop} (h : ∀ s l, (∀ x ∈ l, P x) → P ⟨s, l⟩) (t : Tm) : P t :=
  Tm.rec (motive_1 := P) (motive_2 := fun l => ∀ x ∈ l, P x) (fun s l ih => h s l ih) (fun x hx => by cases hx)
    (fun a l ha hl x hx => by
      rcases List.mem_cons.1 hx with e | e
      · subst e; exact ha
      · exact hl x e) t

theorem Tm.indL {P : List Tm → Prop} (h0 : P []) (h : ∀ s l r, P l → P r → P (⟨s, l⟩ :: r)) (l : List Tm) : P l :=
  Tm.rec_1 (motive_1 := fun t => P t.args) (motive_2 := P) (fun _ _ ih => ih) h0 (fun a l ha hl => by obtain ⟨s, k⟩ := a; exact h s k l ha hl) l

/-- The knots of a list of terms. -/
def sizeL : List Tm → Nat
  | [] => 0
  | ⟨_, l⟩ :: r => 1 + sizeL l + sizeL r

theorem sizeL_append (a b : List Tm) : sizeL (a ++ b) = sizeL a + sizeL b := by
  induction a with
  | nil => simp [sizeL]
  | cons t r ih => obtain ⟨s, l⟩ := t; simp only [List.cons_append, sizeL, ih]; omega

/-- A list of terms lies in a row of cells, two a term, in blocks that X lets. -/
def Lies (w : World) (X : Nat → Prop) : Nat → Nat → List Tm → Prop
  | _, _, [] => True
  | b, o, ⟨s, l⟩ :: r => X b ∧ w.cell? ⟨b, o, none⟩ = some (.string s) ∧
      (∃ a c, w.cell? ⟨b, o + 1, none⟩ = some (.slice a l.length c) ∧ l.length ≤ 9223372036854775807 ∧ (l = [] ∨ ∃ b' o', a = some ⟨b', o', none⟩ ∧ Lies w X b' o' l)) ∧ Lies w X b (o + 2) r

/-- What a slice of terms holds. -/
def Sl (w : World) (X : Nat → Prop) (a : Option Addr) (l : List Tm) : Prop := l.length ≤ 9223372036854775807 ∧ (l = [] ∨ ∃ b o, a = some ⟨b, o, none⟩ ∧ Lies w X b o l)

/-- What a term's value holds. -/
def TV (w : World) (X : Nat → Prop) (v : Value) (t : Tm) : Prop := ∃ a c, v = .agg #[.string t.name, .slice a t.args.length c] ∧ Sl w X a t.args

theorem lies_kept {w w' : World} {X : Nat → Prop} (h : ∀ b, X b → w'.heap[b]? = w.heap[b]?) (l : List Tm) : ∀ b o, Lies w X b o l → Lies w' X b o l := by
  induction l using Tm.indL with
  | h0 => intro b o _; simp [Lies]
  | h s l r ihl ihr =>
    intro b o hl
    simp only [Lies] at hl ⊢
    obtain ⟨hx, h1, ⟨a, c, h2, h2', h3⟩, h4⟩ := hl
    refine ⟨hx, by rw [World.cell?_of_block (h b hx)]; exact h1, ⟨a, c, by rw [World.cell?_of_block (h b hx)]; exact h2, h2', ?_⟩, ihr _ _ h4⟩
    rcases h3 with h3 | ⟨b', o', h3, h5⟩
    · exact Or.inl h3
    · exact Or.inr ⟨b', o', h3, ihl _ _ h5⟩

theorem lies_mono {w : World} {X Y : Nat → Prop} (h : ∀ b, X b → b < w.heap.size → Y b) (l : List Tm) : ∀ b o, Lies w X b o l → Lies w Y b o l := by
  induction l using Tm.indL with
  | h0 => intro b o _; simp [Lies]
  | h s l r ihl ihr =>
    intro b o hl
    simp only [Lies] at hl ⊢
    obtain ⟨hx, h1, ⟨a, c, h2, h2', h3⟩, h4⟩ := hl
    have hb : b < w.heap.size := by
      apply Classical.byContradiction
      intro hn
      have e : w.heap[b]? = none := Array.getElem?_eq_none (by omega)
      simp [World.cell?, e] at h1
    refine ⟨h b hx hb, h1, ⟨a, c, h2, h2', ?_⟩, ihr _ _ h4⟩
    rcases h3 with h3 | ⟨b', o', h3, h5⟩
    · exact Or.inl h3
    · exact Or.inr ⟨b', o', h3, ihl _ _ h5⟩

theorem Sl.kept {w w' : World} {X : Nat → Prop} {a : Option Addr} {l : List Tm} (h : Sl w X a l) (hk : ∀ b, X b → w'.heap[b]? = w.heap[b]?) : Sl w' X a l := by
  obtain ⟨hl, h⟩ := h
  refine ⟨hl, ?_⟩
  rcases h with h | ⟨b, o, e, h⟩
  · exact Or.inl h
  · exact Or.inr ⟨b, o, e, lies_kept hk _ _ _ h⟩

theorem Sl.mono {w : World} {X Y : Nat → Prop} {a : Option Addr} {l : List Tm} (h : Sl w X a l) (hk : ∀ b, X b → b < w.heap.size → Y b) : Sl w Y a l := by
  obtain ⟨hl, h⟩ := h
  refine ⟨hl, ?_⟩
  rcases h with h | ⟨b, o, e, h⟩
  · exact Or.inl h
  · exact Or.inr ⟨b, o, e, lies_mono hk _ _ _ h⟩

theorem Sl.below {w w' : World} {X : Nat → Prop} {a : Option Addr} {l : List Tm} {B : Nat} (h : Sl w X a l) (hb : Below B w w') (hX : ∀ b, X b → b < w.heap.size → b < B) : Sl w' X a l := by
  have h1 : Sl w (fun b => X b ∧ b < B) a l := h.mono fun b hx hs => ⟨hx, hX b hx hs⟩
  have h2 : Sl w' (fun b => X b ∧ b < B) a l := h1.kept fun b hx => hb.block b hx.2
  exact h2.mono fun b hx _ => hx.1

theorem TV.kept {w w' : World} {X : Nat → Prop} {v : Value} {t : Tm} (h : TV w X v t) (hk : ∀ b, X b → w'.heap[b]? = w.heap[b]?) : TV w' X v t := by
  obtain ⟨a, c, e, h⟩ := h
  exact ⟨a, c, e, h.kept hk⟩

theorem TV.mono {w : World} {X Y : Nat → Prop} {v : Value} {t : Tm} (h : TV w X v t) (hk : ∀ b, X b → b < w.heap.size → Y b) : TV w Y v t := by
  obtain ⟨a, c, e, h⟩ := h
  exact ⟨a, c, e, h.mono hk⟩

theorem TV.below {w w' : World} {X : Nat → Prop} {v : Value} {t : Tm} {B : Nat} (h : TV w X v t) (hb : Below B w w') (hX : ∀ b, X b → b < w.heap.size → b < B) : TV w' X v t := by
  obtain ⟨a, c, e, h⟩ := h
  exact ⟨a, c, e, h.below hb hX⟩

theorem TV.alloc {w : World} {X : Nat → Prop} {v : Value} {t : Tm} (h : TV w X v t) (o : Obj) : TV (w.alloc o) X v t :=
  h.below ((Below.refl _ _).alloc (Nat.le_refl _) o) (fun _ _ h => h)

theorem TV.later {w w' : World} {X : Nat → Prop} {v : Value} {t : Tm} (h : TV w X v t) (hb : Below w.heap.size w w') : TV w' X v t := h.below hb (fun _ _ h => h)

theorem Sl.later {w w' : World} {X : Nat → Prop} {a : Option Addr} {l : List Tm} (h : Sl w X a l) (hb : Below w.heap.size w w') : Sl w' X a l := h.below hb (fun _ _ h => h)

/-- One of a row. -/
theorem lies_get {w : World} {X : Nat → Prop} : ∀ (l : List Tm) (b o : Nat), Lies w X b o l → ∀ i (h : i < l.length),
    X b ∧ w.cell? ⟨b, o + i * 2, none⟩ = some (.string l[i].name) ∧ ∃ a c, w.cell? ⟨b, o + i * 2 + 1, none⟩ = some (.slice a l[i].args.length c) ∧ Sl w X a l[i].args := by
  intro l
  induction l with
  | nil => intro b o _ i h; simp at h
  | cons t r ih =>
    intro b o hl i h
    obtain ⟨s, k⟩ := t
    simp only [Lies] at hl
    obtain ⟨hx, h1, ⟨a, c, h2, h3⟩, h4⟩ := hl
    cases i with
    | zero => exact ⟨hx, h1, a, c, h2, h3⟩
    | succ i =>
      have := ih b (o + 2) h4 i (by simpa using h)
      simp only [List.getElem_cons_succ]
      rw [show o + (i + 1) * 2 = o + 2 + i * 2 by omega]
      exact this

theorem lies_mk {w : World} {X : Nat → Prop} : ∀ (l : List Tm) (b o : Nat), (∀ i (h : i < l.length),
    X b ∧ w.cell? ⟨b, o + i * 2, none⟩ = some (.string l[i].name) ∧ ∃ a c, w.cell? ⟨b, o + i * 2 + 1, none⟩ = some (.slice a l[i].args.length c) ∧ Sl w X a l[i].args) → Lies w X b o l := by
  intro l
  induction l with
  | nil => intro b o _; simp [Lies]
  | cons t r ih =>
    intro b o hl
    obtain ⟨s, k⟩ := t
    simp only [Lies]
    obtain ⟨hx, h1, a, c, h2, h3⟩ := hl 0 (by simp)
    refine ⟨hx, h1, ⟨a, c, h2, h3⟩, ih b (o + 2) fun i h => ?_⟩
    have := hl (i + 1) (by simpa using h)
    simp only [List.getElem_cons_succ] at this
    rw [show o + (i + 1) * 2 = o + 2 + i * 2 by omega] at this
    exact this

/-- One of a slice, in a later world. -/
theorem Sl.get {w wr : World} {X : Nat → Prop} {a : Option Addr} {l : List Tm} {B : Nat} (h : Sl w X a l) (hb : Below B w wr) (hX : ∀ b, X b → b < w.heap.size → b < B) (k : Nat) (hk : k < l.length) :
    ∃ b o a' c', a = some ⟨b, o, none⟩ ∧ wr.cell? ⟨b, o + k * 2, none⟩ = some (.string l[k].name) ∧ wr.cell? ⟨b, o + k * 2 + 1, none⟩ = some (.slice a' l[k].args.length c') ∧ TV wr X (.agg #[.string l[k].name, .slice a' l[k].args.length c']) l[k] := by
  have h' := h.below hb hX
  obtain ⟨_, h1⟩ := h'
  rcases h1 with h1 | ⟨b, o, e, h1⟩
  · subst h1; simp at hk
  · obtain ⟨_, h2, a', c', h3, h4⟩ := lies_get _ _ _ h1 k hk
    exact ⟨b, o, a', c', e, h2, h3, a', c', rfl, h4⟩

#print axioms lies_mk
end Go.Proofs.Ytkfppicbningaaa

/- Rows of terms that a call makes. -/
namespace Go.Proofs.Ytkfppicbningaaa
open Go.RowKit
set_option linter.unusedSimpArgs false
set_option linter.unusedVariables false

/-- These cells are these terms. -/
def RowT (w : World) (X : Nat → Prop) : List Tm → List Value → Prop
  | [], xs => xs = []
  | t :: l, xs => ∃ a c r, xs = .string t.name :: .slice a t.args.length c :: r ∧ Sl w X a t.args ∧ RowT w X l r

theorem RowT.len {w : World} {X : Nat → Prop} : ∀ {l : List Tm} {xs : List Value}, RowT w X l xs → xs.length = l.length * 2
  | [], xs, h => by simp [RowT] at h; simp [h]
  | t :: l, xs, h => by
    obtain ⟨a, c, r, rfl, _, h⟩ := h
    simp only [List.length_cons]
    rw [RowT.len h]; omega

theorem RowT.append {w : World} {X : Nat → Prop} : ∀ {l k : List Tm} {xs ys : List Value}, RowT w X l xs → RowT w X k ys → RowT w X (l ++ k) (xs ++ ys)
  | [], k, xs, ys, h, h' => by simp [RowT] at h; subst h; simpa using h'
  | t :: l, k, xs, ys, h, h' => by
    obtain ⟨a, c, r, rfl, hs, h⟩ := h
    exact ⟨a, c, r ++ ys, rfl, hs, RowT.append h h'⟩

theorem RowT.one {w : World} {X : Nat → Prop} : ∀ {l : List Tm} {xs : List Value}, RowT w X l xs → ∀ u ∈ xs, u.oneCell' = true
  | [], xs, h, u, hu => by simp [RowT] at h; subst h; cases hu
  | t :: l, xs, h, u, hu => by
    obtain ⟨a, c, r, rfl, _, h⟩ := h
    rcases List.mem_cons.1 hu with e | hu
    · subst e; rfl
    · rcases List.mem_cons.1 hu with e | hu
      · subst e; rfl
      · exact RowT.one h u hu

theorem RowT.imp {w w' : World} {X Y : Nat → Prop} (hs : ∀ a l, Sl w X a l → Sl w' Y a l) : ∀ {l : List Tm} {xs : List Value}, RowT w X l xs → RowT w' Y l xs
  | [], xs, h => h
  | t :: l, xs, h => by
    obtain ⟨a, c, r, e, h1, h⟩ := h
    exact ⟨a, c, r, e, hs _ _ h1, RowT.imp hs h⟩

theorem RowT.get {w : World} {X : Nat → Prop} : ∀ {l : List Tm} {xs : List Value}, RowT w X l xs → ∀ i (h : i < l.length),
    xs[i * 2]? = some (.string l[i].name) ∧ ∃ a c, xs[i * 2 + 1]? = some (.slice a l[i].args.length c) ∧ Sl w X a l[i].args
  | [], xs, h, i, hi => by simp at hi
  | t :: l, xs, h, i, hi => by
    obtain ⟨a, c, r, rfl, h1, h⟩ := h
    cases i with
    | zero => exact ⟨rfl, a, c, rfl, h1⟩
    | succ i =>
      have := RowT.get h i (by simpa using hi)
      rw [show (i + 1) * 2 = i * 2 + 2 by omega, show i * 2 + 2 + 1 = (i * 2 + 1) + 2 by omega]
      simpa using this

theorem sizeL_len (l : List Tm) : l.length ≤ sizeL l := by
  induction l with
  | nil => simp
  | cons t r ih => obtain ⟨s, k⟩ := t; simp only [List.length_cons, sizeL]; omega

/-- A row out of what lies. -/
theorem rowT_of_lies {w : World} {X : Nat → Prop} : ∀ (l : List Tm) (b o : Nat), Lies w X b o l → ∃ xs, RowT w X l xs ∧ ∀ j u, xs[j]? = some u → w.cell? ⟨b, o + j, none⟩ = some u := by
  intro l
  induction l with
  | nil => intro b o _; exact ⟨[], rfl, by simp⟩
  | cons t r ih =>
    intro b o h
    obtain ⟨s, k⟩ := t
    simp only [Lies] at h
    obtain ⟨hx, h1, ⟨a, c, h2, h3, h4⟩, h5⟩ := h
    obtain ⟨xs, hr, hc⟩ := ih b (o + 2) h5
    refine ⟨.string s :: .slice a k.length c :: xs, ⟨a, c, xs, rfl, ⟨h3, h4⟩, hr⟩, fun j u hj => ?_⟩
    match j, hj with
    | 0, hj => simp at hj; subst hj; exact h1
    | 1, hj => simp at hj; subst hj; exact h2
    | j + 2, hj => rw [show o + (j + 2) = o + 2 + j by omega]; exact hc j u (by simpa using hj)

theorem lies_of_rowT {w w' : World} {X Y : Nat → Prop} (b : Nat) (hb : Y b) : ∀ (l : List Tm) (xs : List Value) (o : Nat), RowT w X l xs → (∀ a k, Sl w X a k → Sl w' Y a k) → (∀ j u, xs[j]? = some u → w'.cell? ⟨b, o + j, none⟩ = some u) → Lies w' Y b o l := by
  intro l
  induction l with
  | nil => intro xs o _ _ _; simp [Lies]
  | cons t r ih =>
    intro xs o h hs hc
    obtain ⟨s, k⟩ := t
    obtain ⟨a, c, r', rfl, h1, h2⟩ := h
    simp only [Lies]
    obtain ⟨h3, h4⟩ := hs _ _ h1
    refine ⟨hb, hc 0 _ rfl, ⟨a, c, hc 1 _ rfl, h3, h4⟩, ih r' (o + 2) h2 hs fun j u hj => ?_⟩
    have := hc (j + 2) u (by simpa using hj)
    rwa [show o + (j + 2) = o + 2 + j by omega] at this

/-- The knots, each ahead of those below it. -/
def preL : List Tm → List Tm
  | [] => []
  | ⟨s, l⟩ :: r => ⟨s, l⟩ :: (preL l ++ preL r)

theorem preL_append (a b : List Tm) : preL (a ++ b) = preL a ++ preL b := by
  induction a with
  | nil => simp [preL]
  | cons t r ih => obtain ⟨s, l⟩ := t; simp [preL, ih]

theorem preL_take (l : List Tm) (k : Nat) (h : k < l.length) : preL (l.take (k + 1)) = preL (l.take k) ++ preL [l[k]] := by
  rw [List.take_succ_eq_append_getElem h, preL_append]

theorem preL_length (l : List Tm) : (preL l).length = sizeL l := by
  induction l using Tm.indL with
  | h0 => simp [preL, sizeL]
  | h s l r ihl ihr => simp [preL, sizeL, ihl, ihr]; omega

/-- Old memory, told by the world that was. -/
theorem Sl.back {w w' : World} {X : Nat → Prop} {a : Option Addr} {l : List Tm} {B : Nat} (h : Sl w' X a l) (hb : Below B w w') (hX : ∀ b, X b → b < B) : Sl w X a l :=
  h.kept fun b hx => (hb.block b (hX b hx)).symm

/-- What a row that is owned says of the slice. -/
theorem owned_val {w : World} {base e size : Nat} {v : Value} {n : Nat} {xs : List Value} (h : w.ownsRow base e size v n xs) (hn : 0 < n) :
    ∃ g cap, v = .slice (some ⟨g, 0, none⟩) n cap ∧ base ≤ g ∧ g < w.heap.size ∧ ∀ j u, xs[j]? = some u → w.cell? ⟨g, j, none⟩ = some u := by
  have h' := h
  obtain ⟨hl, h1⟩ := h
  rcases h1 with ⟨_, h0⟩ | ⟨g, cap, cur, hv, hg, hh, _⟩
  · omega
  · subst hv
    have hlt := (h'.lt g rfl).2
    refine ⟨g, cap, rfl, hg, hlt, fun j u hj => ?_⟩
    have := h'.cells (g := g) rfl j u hj
    by_cases h0 : j = 0
    · subst h0; simpa [Addr.add] using this
    · simpa [Addr.add, h0] using this

/-- An append whose outcome is known. -/
theorem wpList_append_eq {P : Program} {ops : Array Oper} {rest : List Oper} {o : Oper} {a : Act} {Q : Exit → Act → World → Prop} {w w' : World} {v u v' : Value} (hgd : o.guard = none) (s x : Operand) (t t' : TypeId)
    (ho : o.op = .call { callee := .builtin .append, args := #[s, x], argTypes := #[t, t'] }) (hs : a.eval s = v) (hx : a.eval x = u)
    (hr : (Builtin.append_ #[t, t'] o.type #[v, u]).run P w = .ok v' w') (h : wpList P ops Q rest (a.put o.dst v') w') : wpList P ops Q (o :: rest) a w :=
  wpList_plain hgd fun K hK => by
    unfold Oper.wp execOp
    simp only [ho, resolve, invoke, builtin, Sem.run_bind, Sem.run_pure, Result.andThen_ok, List.map_toArray, List.map_cons, List.map_nil, hs, hx, hr]
    exact hK _ _ h

#print axioms lies_of_rowT
end Go.Proofs.Ytkfppicbningaaa

/- Small facts on blocks, and what a round that appends a term does to a row of terms. -/
namespace Go.Proofs.Ytkfppicbningaaa
open Go.RowKit
set_option linter.unusedSimpArgs false
set_option linter.unusedVariables false

/-- A block of plain cells. -/
def Blk (w : World) (b : Nat) (cs : Array Value) (T : Nat) : Prop := w.heap[b]? = some (.cells cs T (0, 0))

theorem Blk.lt {w : World} {b : Nat} {cs : Array Value} {T : Nat} (h : Blk w b cs T) : b < w.heap.size := by
  apply Classical.byContradiction
  intro hn
  have e : w.heap[b]? = none := Array.getElem?_eq_none (by omega)
  rw [Blk, e] at h; cases h

theorem Blk.cell {w : World} {b : Nat} {cs : Array Value} {T : Nat} (h : Blk w b cs T) (i : Nat) : w.cell? ⟨b, i, none⟩ = cs[i]? := by
  unfold Blk at h; simp [World.cell?, h]

theorem Blk.frozen {w : World} {b : Nat} {cs : Array Value} {T : Nat} (h : Blk w b cs T) (i : Nat) : w.frozen? ⟨b, i, none⟩ = false := by
  unfold Blk at h; simp [World.frozen?, h]

theorem Blk.new (w : World) (cs : Array Value) (T : Nat) : Blk (w.alloc (.cells cs T)) w.heap.size cs T := heap_alloc_new w _

theorem Blk.alloc {w : World} {b : Nat} {cs : Array Value} {T : Nat} (h : Blk w b cs T) (o : Obj) : Blk (w.alloc o) b cs T := by
  unfold Blk at *; rw [Below.heap_alloc w o b (Blk.lt h)]; exact h

theorem Blk.below {w w' : World} {b B : Nat} {cs : Array Value} {T : Nat} (h : Blk w b cs T) (hb : Below B w w') (hB : b < B) : Blk w' b cs T := by
  unfold Blk at *; rw [hb.block b hB]; exact h

theorem Blk.drewN {w : World} {b : Nat} {cs : Array Value} {T : Nat} (h : Blk w b cs T) (n : Nat) : Blk (w.drewN n) b cs T := h

theorem Blk.grown {w w' : World} {b : Nat} {cs : Array Value} {T : Nat} {row : Option Nat} (h : Blk w b cs T) (hg : w.grownBy w' row) (hr : some b ≠ row) : Blk w' b cs T := by
  unfold Blk at *; rw [hg.block b (Blk.lt h) hr]; exact h

theorem Blk.set {w : World} {b : Nat} {cs : Array Value} {T : Nat} (h : Blk w b cs T) (i : Nat) (v : Value) : Blk (w.setCell ⟨b, i, none⟩ v) b (cs.setIfInBounds i v) T := by
  unfold Blk at *
  simp [World.setCell, Array.getElem?_modify, h]

theorem Blk.setOther {w : World} {b b' : Nat} {cs : Array Value} {T : Nat} (h : Blk w b cs T) (i : Nat) (v : Value) (hne : b ≠ b') : Blk (w.setCell ⟨b', i, none⟩ v) b cs T := by
  unfold Blk at *; rw [Below.heap_setCell _ _ _ _ (by simpa using hne)]; exact h

/-- The row so far, apart from what its terms are made of: old memory that Y lets, and new memory. -/
structure Row (w : World) (N : Nat) (T : Nat) (Y : Nat → Prop) (v : Value) (l : List Tm) (xs : List Value) : Prop where
  own : w.ownsRow N T 2 v l.length xs
  row : RowT w (fun b => Y b ∨ (N ≤ b ∧ some b ≠ v.ownBlock)) l xs

theorem Row.start (w : World) (N T : Nat) (Y : Nat → Prop) : Row w N T Y (.slice none 0 0) [] [] := ⟨World.ownsRow_nil w N T 2, rfl⟩

theorem Row.below {w w' : World} {N T : Nat} {Y : Nat → Prop} {v : Value} {l : List Tm} {xs : List Value} (h : Row w N T Y v l xs) (hb : Below w.heap.size w w') : Row w' N T Y v l xs :=
  ⟨h.own.kept (w' := w') (row := none) ⟨hb.os, hb.tape, hb.output, hb.size, fun j hj _ => hb.block j hj⟩ (by rcases Option.eq_none_or_eq_some (Value.ownBlock v) with h | ⟨x, h⟩; exact Or.inl h; exact Or.inr (by rw [h]; simp)),
   h.row.imp fun a l h => h.later hb⟩

theorem Row.ne {w : World} {N T : Nat} {Y : Nat → Prop} {v : Value} {l : List Tm} {xs : List Value} (h : Row w N T Y v l xs) {b : Nat} (hb : b < N) : some b ≠ v.ownBlock := fun e => by
  have := (h.own.lt b e.symm).1; omega

/-- One more: the term's cells have been laid into a block of their own, and appended. -/
theorem Row.push {w w1 w2 w3 : World} {N T : Nat} {Y : Nat → Prop} {v : Value} {l : List Tm} {xs : List Value} (h : Row w N T Y v l xs) (hN : N ≤ w.heap.size) (hY : ∀ b, Y b → b < N) (hb : Below w.heap.size w w1) {s : ByteArray} {a : Option Addr} {n c : Nat} {t : Tm}
    (ht : TV w1 (fun b => Y b ∨ w.heap.size ≤ b) (.agg #[.string s, .slice a n c]) t) (o : Obj) (hw2 : w2 = w1.alloc o) {g cap : Nat}
    (hown : w3.ownsRow N T 2 (.slice (some ⟨g, 0, none⟩) (l.length + 1) cap) (l.length + 1) (xs ++ [.string s, .slice a n c])) (hg : w2.grownBy w3 v.ownBlock) (hg1 : v.ownBlock = some g ∨ g = w2.heap.size) :
    Row w3 N T Y (.slice (some ⟨g, 0, none⟩) (l.length + 1) cap) (l ++ [t]) (xs ++ [.string s, .slice a n c]) := by
  subst hw2
  have hlt := h.own.lt
  refine ⟨by simpa using hown, ?_⟩
  have hsz : w1.heap.size ≤ (w1.alloc o).heap.size := by simp
  have hbs := hb.size
  have hgN : N ≤ g := by
    rcases hg1 with e | e
    · exact (hlt g e).1
    · simp at e; omega
  refine RowT.append (h.row.imp fun a' k' hs => ?_) ?_
  · have h1 : Sl w (fun b => (Y b ∨ (N ≤ b ∧ some b ≠ v.ownBlock)) ∧ b < w.heap.size) a' k' := hs.mono fun b h1 h2 => ⟨h1, h2⟩
    have h2 : Sl w3 (fun b => (Y b ∨ (N ≤ b ∧ some b ≠ v.ownBlock)) ∧ b < w.heap.size) a' k' := h1.kept fun b hx => by
      have hne : some b ≠ v.ownBlock := by
        rcases hx.1 with hy | hy
        · exact h.ne (hY b hy)
        · exact hy.2
      rw [hg.block b (by simp; omega) hne, Below.heap_alloc _ _ _ (by omega), hb.block b hx.2]
    refine h2.mono fun b hx _ => ?_
    rcases hx.1 with hy | hy
    · exact Or.inl hy
    · refine Or.inr ⟨hy.1, fun e => ?_⟩
      simp [Value.ownBlock] at e
      rcases hg1 with e' | e'
      · exact hy.2 (by rw [e', e])
      · simp at e'; omega
  · obtain ⟨a2, c2, e, hs⟩ := ht
    simp at e
    obtain ⟨rfl, rfl, rfl, rfl⟩ := e
    refine ⟨a, c, [], rfl, ?_, rfl⟩
    have h1 : Sl w1 (fun b => (Y b ∨ w.heap.size ≤ b) ∧ b < w1.heap.size) a t.args := hs.mono fun b h1 h2 => ⟨h1, h2⟩
    have h2 : Sl w3 (fun b => (Y b ∨ w.heap.size ≤ b) ∧ b < w1.heap.size) a t.args := h1.kept fun b hx => by
      have hne : some b ≠ v.ownBlock := by
        rcases hx.1 with hy | hy
        · exact h.ne (hY b hy)
        · intro e; have := (hlt b e.symm).2; omega
      rw [hg.block b (by simp; omega) hne, Below.heap_alloc _ _ _ hx.2]
    refine h2.mono fun b hx _ => ?_
    rcases hx.1 with hy | hy
    · exact Or.inl hy
    · refine Or.inr ⟨by omega, fun e => ?_⟩
      simp [Value.ownBlock] at e
      rcases hg1 with e' | e'
      · have := (hlt g e').2; omega
      · simp at e'; omega

/-- A store into a block that is none of the row's. -/
theorem Row.setCell {w : World} {N T : Nat} {Y : Nat → Prop} {v : Value} {l : List Tm} {xs : List Value} (h : Row w N T Y v l xs) {b i : Nat} (hb : b < N) (hY : ¬ Y b) (u : Value) : Row (w.setCell ⟨b, i, none⟩ u) N T Y v l xs :=
  ⟨ownsRow_setCell_below h.own (by simpa using hb) u, h.row.imp fun a k hs => hs.kept fun c hc => Below.heap_setCell _ _ _ _ (by
    simp
    rcases hc with hc | hc
    · intro e; subst e; exact hY hc
    · omega)⟩

theorem Row.sl {w : World} {N T : Nat} {Y : Nat → Prop} {v : Value} {l : List Tm} {xs : List Value} (h : Row w N T Y v l xs) : ∃ a c, v = .slice a l.length c ∧ Sl w (fun b => Y b ∨ N ≤ b) a l := by
  have hml : l.length ≤ 9223372036854775807 := by
    rcases h.own.2 with ⟨_, h0⟩ | ⟨g, cap, cur, _, _, _, h1, h2, _⟩
    · omega
    · unfold maxLen at h2; omega
  by_cases h0 : 0 < l.length
  · obtain ⟨g, cap, rfl, hg, hlt, hc⟩ := owned_val h.own h0
    exact ⟨_, _, rfl, hml, Or.inr ⟨g, 0, rfl, lies_of_rowT g (Or.inr hg) l xs 0 h.row (fun a k hs => hs.mono fun b hb _ => hb.imp id (fun h => h.1)) (fun j u hj => by simpa using hc j u hj)⟩⟩
  · have e : l = [] := List.length_eq_zero_iff.1 (by omega)
    subst e
    rcases h.own.2 with ⟨hv, _⟩ | ⟨g, cap, cur, hv, _⟩
    · exact ⟨none, 0, hv, hml, Or.inl rfl⟩
    · exact ⟨_, _, hv, hml, Or.inl rfl⟩

theorem copy_blk {wr w1 w3 : World} {o1 o2 : Obj} {b T : Nat} {cs : Array Value} {row : Option Nat} (h : Blk wr b cs T) (hb1 : Below (wr.alloc o1).drew.heap.size (wr.alloc o1).drew w1) (hg : (w1.alloc o2).grownBy w3 row) (hr : some b ≠ row) : Blk w3 b cs T :=
  (((((h.alloc o1).drewN 1).below hb1 (by have := h.lt; simp; omega)).alloc o2).grown hg hr)

#print axioms Row.push
#print axioms Row.sl
end Go.Proofs.Ytkfppicbningaaa

/- But for one block the world is as it was. -/
namespace Go.Proofs.Ytkfppicbningaaa
open Go.RowKit
set_option linter.unusedSimpArgs false
set_option linter.unusedVariables false
set_option maxRecDepth 8000

/-- But for block B the world is as it was. -/
structure Ex (B : Nat) (w w' : World) : Prop where
  os : w'.os = w.os
  tape : w'.tape = w.tape
  output : w'.output = w.output
  size : w.heap.size ≤ w'.heap.size
  block : ∀ k, k < w.heap.size → k ≠ B → w'.heap[k]? = w.heap[k]?
theorem Ex.refl (B : Nat) (w : World) : Ex B w w := ⟨rfl, rfl, rfl, Nat.le_refl _, fun _ _ _ => rfl⟩
theorem Ex.trans {B : Nat} {a b c : World} (h : Ex B a b) (k : Ex B b c) : Ex B a c :=
  ⟨k.os.trans h.os, k.tape.trans h.tape, k.output.trans h.output, Nat.le_trans h.size k.size, fun i hi hn => (k.block i (Nat.lt_of_lt_of_le hi h.size) hn).trans (h.block i hi hn)⟩
theorem Ex.drewN {B : Nat} {a w : World} (h : Ex B a w) (n : Nat) : Ex B a (w.drewN n) := ⟨h.os, h.tape, h.output, h.size, h.block⟩
theorem Ex.drew {B : Nat} {a w : World} (h : Ex B a w) : Ex B a w.drew := ⟨h.os, h.tape, h.output, h.size, h.block⟩
theorem Ex.set {B : Nat} {a w : World} (h : Ex B a w) (i : Nat) (v : Value) : Ex B a (w.setCell ⟨B, i, none⟩ v) :=
  ⟨h.os, h.tape, h.output, by simpa [World.setCell] using h.size, fun k hk hn => (Below.heap_setCell _ _ _ _ (by simpa using hn)).trans (h.block k hk hn)⟩

theorem Ex.alloc {B : Nat} {a w : World} (h : Ex B a w) (o : Obj) : Ex B a (w.alloc o) :=
  ⟨h.os, h.tape, h.output, by have := h.size; simp; omega, fun k hk hn => (Below.heap_alloc _ _ _ (Nat.lt_of_lt_of_le hk h.size)).trans (h.block k hk hn)⟩

theorem Blk.ex {w w' : World} {B b T : Nat} {cs : Array Value} (h : Blk w b cs T) (he : Ex B w w') (hne : b ≠ B) : Blk w' b cs T := by
  unfold Blk at *
  rw [he.block b (Blk.lt h) hne]; exact h
theorem Ex.mid {B : Nat} {w w1 : World} (h : Ex B w w1) : ∃ wm, Below wm.heap.size wm w1 ∧ wm.heap.size = w.heap.size ∧ Ex B w wm := by
  by_cases hB : B < w.heap.size
  · have hB1 : B < w1.heap.size := Nat.lt_of_lt_of_le hB h.size
    refine ⟨{ w with heap := w.heap.setIfInBounds B w1.heap[B] }, ⟨h.os, h.tape, h.output, by simpa using h.size, fun k hk => ?_⟩, by simp, ⟨rfl, rfl, rfl, by simp, fun k hk hn => ?_⟩⟩
    · simp at hk
      by_cases e : k = B
      · subst e
        simp [Array.getElem?_setIfInBounds, hB, hB1]
      · rw [h.block k hk e]
        simp [Array.getElem?_setIfInBounds, Ne.symm e]
    · simp [Array.getElem?_setIfInBounds, Ne.symm hn]
  · exact ⟨w, ⟨h.os, h.tape, h.output, h.size, fun k hk => h.block k hk (by omega)⟩, rfl, Ex.refl _ _⟩

theorem Row.ex {w w' : World} {B N T : Nat} {Y : Nat → Prop} {v : Value} {l : List Tm} {xs : List Value} (h : Row w N T Y v l xs) (he : Ex B w w') (hB : B < N) (hY : ¬ Y B) : Row w' N T Y v l xs :=
  ⟨h.own.kept (w' := w') (row := some B) ⟨he.os, he.tape, he.output, he.size, fun j hj hn => he.block j hj (fun e => hn (by rw [e]))⟩ (Or.inr (fun e => by have := (h.own.lt B e).1; omega)),
   h.row.imp fun a l hs => ((hs.mono (Y := fun b => (Y b ∨ (N ≤ b ∧ some b ≠ v.ownBlock)) ∧ b < w.heap.size) fun b h1 h2 => ⟨h1, h2⟩).kept fun b hb => he.block b hb.2 (fun e => by
     rcases hb.1 with h1 | h1
     · rw [e] at h1; exact hY h1
     · omega)).mono fun b hb _ => hb.1⟩

theorem Ex.grown {B : Nat} {a w w' : World} {row : Option Nat} (h : Ex B a w) (hg : w.grownBy w' row) (hr : ∀ k, row = some k → a.heap.size ≤ k) : Ex B a w' :=
  ⟨hg.os.trans h.os, hg.tape.trans h.tape, hg.output.trans h.output, Nat.le_trans h.size hg.size, fun k hk hn => (hg.block k (Nat.lt_of_lt_of_le hk h.size) (fun e => by have := hr k e.symm; omega)).trans (h.block k hk hn)⟩
theorem Ex.setNew {B : Nat} {a w : World} (h : Ex B a w) {b : Nat} (hb : a.heap.size ≤ b) (i : Nat) (v : Value) : Ex B a (w.setCell ⟨b, i, none⟩ v) :=
  ⟨h.os, h.tape, h.output, by simpa [World.setCell] using h.size, fun k hk hn => (Below.heap_setCell _ _ _ _ (by simp; omega)).trans (h.block k hk hn)⟩

end Go.Proofs.Ytkfppicbningaaa

/- Walks: how many knots a term has. -/
namespace Go.Proofs.Ytkfppicbningaaa
open Go.RowKit

/-- Behind a call that makes memory: old cells and marks read as before. -/
theorem bcell {W w1 : World} {B : Nat} (hb : Below B W w1) : (∀ b o, b < B → w1.cell? ⟨b, o, none⟩ = W.cell? ⟨b, o, none⟩) ∧ (∀ b o, b < B → w1.frozen? ⟨b, o, none⟩ = W.frozen? ⟨b, o, none⟩) :=
  ⟨fun b o h => hb.cell (p := ⟨b, o, none⟩) h, fun b o h => hb.frozen (p := ⟨b, o, none⟩) h⟩

theorem sizeL_take (l : List Tm) (k : Nat) (h : k < l.length) : sizeL (l.take (k + 1)) = sizeL (l.take k) + sizeL [l[k]] := by
  rw [List.take_succ_eq_append_getElem h, sizeL_append]

theorem sizeL_take_le (l : List Tm) (k : Nat) : sizeL (l.take k) ≤ sizeL l := by
  have := sizeL_append (l.take k) (l.drop k)
  rw [List.take_append_drop] at this
  omega

theorem ret_int {k : IntKind} {a b : Int} (h : a = b) : Ending.returned (.int k a) = .returned (.int k b) := by rw [h]

/-- Behind a call whose first deed was to lay its parameter down. -/
theorem below_box {w wr : World} {o : Obj} (hb : Below (w.heap.size + 1) (w.alloc o) wr) : Below w.heap.size w wr :=
  ((Below.refl _ _).alloc (Nat.le_refl _) _).trans (hb.mono (Nat.le_succ _))

set_option maxHeartbeats 400000 in
theorem size_any (t : Tm) : ∀ (v : Value) (most : Int) (w : World) (X : Nat → Prop), TV w X v t → 0 ≤ most → most ≤ 1000000 →
    Calls Try.prog 13 #[v, .int .i64 most] w fun e w' => e = .returned (.int .i64 (min (sizeL [t]) (most + 1))) ∧ Below w.heap.size w w' := by
  induction t using Tm.ind with
  | h s l ih =>
    intro v most w X hv hm0 hm1
    obtain ⟨a, c, rfl, hs⟩ := hv
    have IH := hide ih
    clear ih
    go_enter Try.func13, Try.ntmps13
    go_wp2_with fail
    go_loopw [5, 6] (fun n i wr => ∃ k : Nat, k ≤ l.length ∧ i = .int .i64 k ∧ n = .int .i64 (min (1 + sizeL (l.take k)) (most + 1)) ∧ Below (w.heap.size + 1) (w.alloc (Obj.cells #[Value.string s, Value.slice a l.length c] 28)) wr) (fun n i wr => l.length - (intOf i).toNat)
    case atStart => exact ⟨0, Nat.zero_le _, rfl, by simp [sizeL]; omega, Below.refl _ _⟩
    case round =>
      obtain ⟨k, hk, rfl, rfl, hb⟩ := hrel
      have hc := bcell hb
      have c0 : wr.cell? ⟨w.heap.size, 0, none⟩ = some (.string s) := by rw [hc.1 _ _ (by omega)]; simp
      have c1 : wr.cell? ⟨w.heap.size, 1, none⟩ = some (.slice a l.length c) := by rw [hc.1 _ _ (by omega)]; simp
      have hl := hs.1
      have hn : 0 ≤ ((1 : Int) + sizeL (l.take k)) := by omega
      by_cases hlt : k < l.length
      · obtain ⟨b, o, a', c', rfl, d0, d1, hx⟩ := hs.get (((Below.refl _ _).alloc (Nat.le_refl _) _).trans (hb.mono (Nat.le_succ _))) (fun _ _ h => h) k hlt
        by_cases hle : 1 + (sizeL (l.take k) : Int) ≤ most
        · have hmin : min (1 + (sizeL (l.take k) : Int)) (most + 1) = 1 + (sizeL (l.take k) : Int) := by omega
          rw [hmin]
          go_wp2_with fail
          refine (IH.out _ (List.getElem_mem hlt) _ _ _ X hx (by omega) (by omega)).mono ?_
          rintro e w1 ⟨rfl, hb1⟩
          have hsz : w.heap.size + 1 ≤ wr.heap.size := by have := hb.size; simpa using this
          have Hst := hide (sizeL_take l k hlt)
          have hm2 : 0 ≤ min ((sizeL [l[k]] : Int)) (most - (1 + (sizeL (l.take k) : Int)) + 1) := by omega
          have hm3 : min ((sizeL [l[k]] : Int)) (most - (1 + (sizeL (l.take k) : Int)) + 1) ≤ 1000001 := by omega
          go_wp2_with fail
          go_roundw
          case rel => exact ⟨k + 1, by omega, by go_num, by rw [Hst.out]; congr 1; omega, hb.trans (hb1.mono hsz)⟩
          case measure => simp [intOf]; omega
        · have hmin : min (1 + (sizeL (l.take k) : Int)) (most + 1) = most + 1 := by omega
          rw [hmin]
          have hz : (sizeL [(⟨s, l⟩ : Tm)] : Int) = 1 + sizeL l := by simp [sizeL]
          have hle2 : sizeL (l.take k) ≤ sizeL l := sizeL_take_le l k
          have HF := hide (show (most + 1 : Int) = min (sizeL [(⟨s, l⟩ : Tm)] : Int) (most + 1) by omega)
          clear hz
          go_wp2_with fail
          go_ret
          exact ⟨ret_int HF.out, below_box hb⟩
      · have htk : l.take k = l := List.take_of_length_le (by omega)
        rw [htk]
        have hz : (sizeL [(⟨s, l⟩ : Tm)] : Int) = 1 + sizeL l := by simp [sizeL]
        have HZ := hide hz
        clear hz
        go_wp2_with fail
        · go_ret
          exact ⟨ret_int (by have := HZ.out; omega), below_box hb⟩
        · go_ret
          exact ⟨ret_int (by have := HZ.out; omega), below_box hb⟩

#print axioms size_any
end Go.Proofs.Ytkfppicbningaaa


/- Walks: letters, digits, names. -/
namespace Go.Proofs.Ytkfppicbningaaa
open Go.RowKit
set_option linter.unusedSimpArgs false
set_option linter.unusedVariables false

def digB (n : Int) : Bool := decide (48 ≤ n) && decide (n ≤ 57)
def capB (n : Int) : Bool := decide (65 ≤ n) && decide (n ≤ 90)
def lowB (n : Int) : Bool := decide (97 ≤ n) && decide (n ≤ 122)
def letB (n : Int) : Bool := lowB n || capB n
def alnB (n : Int) : Bool := letB n || digB n

theorem ret_bool {a b : Bool} (h : a = b) : Ending.returned (.bool a) = .returned (.bool b) := by rw [h]

set_option maxHeartbeats 400000 in
theorem isDigit_any (n : Int) (w : World) : Calls Try.prog 72 #[.int .u8 n] w fun e w' => e = .returned (.bool (digB n)) ∧ w' = w := by
  go_enter Try.func72, Try.ntmps72
  go_wp2_with fail
  all_goals (go_ret; refine ⟨ret_bool ?_, rfl⟩; rw [Bool.eq_iff_iff]; simp [alnB, letB, lowB, capB, digB] <;> omega)

set_option maxHeartbeats 400000 in
theorem isCapital_any (n : Int) (w : World) : Calls Try.prog 74 #[.int .u8 n] w fun e w' => e = .returned (.bool (capB n)) ∧ w' = w := by
  go_enter Try.func74, Try.ntmps74
  go_wp2_with fail
  all_goals (go_ret; refine ⟨ret_bool ?_, rfl⟩; rw [Bool.eq_iff_iff]; simp [alnB, letB, lowB, capB, digB] <;> omega)

set_option maxHeartbeats 400000 in
theorem isLetter_any (n : Int) (w : World) : Calls Try.prog 73 #[.int .u8 n] w fun e w' => e = .returned (.bool (letB n)) ∧ w' = w := by
  go_enter Try.func73, Try.ntmps73
  go_wp2_with (go_at_call 74; refine (isCapital_any _ _).mono ?_; rintro e w' ⟨rfl, rfl⟩)
  all_goals (go_ret; refine ⟨ret_bool ?_, rfl⟩; rw [Bool.eq_iff_iff]; simp [alnB, letB, lowB, capB, digB] <;> omega)

end Go.Proofs.Ytkfppicbningaaa


/- Walks: which texts are names, and which of them are variables'. -/
namespace Go.Proofs.Ytkfppicbningaaa
open Go.RowKit
set_option linter.unusedSimpArgs false
set_option linter.unusedVariables false

def byteAt (s : ByteArray) (i : Nat) : Int := if h : i < s.size then (s[i].toNat : Int) else 0
theorem byteAt_of {s : ByteArray} {i : Nat} (h : i < s.size) : (s[i].toNat : Int) = byteAt s i := by simp [byteAt, h]
def varB (s : ByteArray) : Bool := capB (byteAt s 0)
def alnTo (s : ByteArray) (k : Nat) : Bool := (List.range k).all fun i => alnB (byteAt s i)
def nameB (s : ByteArray) : Bool := decide (1 ≤ s.size) && decide (s.size ≤ 8) && !digB (byteAt s 0) && alnTo s s.size

theorem isEmpty_pos {s : ByteArray} (h : 0 < s.size) : s.toList.isEmpty = false := by
  rw [ByteArray.toList_eq, List.isEmpty_eq_false_iff, ← List.length_pos_iff]
  simpa using h
theorem isEmpty_zero {s : ByteArray} (h : ¬ 0 < s.size) : s.toList.isEmpty = true := by
  rw [ByteArray.toList_eq, List.isEmpty_iff, ← List.length_eq_zero_iff]
  have : s.size = 0 := by omega
  simpa using this
theorem alnTo_succ (s : ByteArray) (k : Nat) : alnTo s (k + 1) = (alnTo s k && alnB (byteAt s k)) := by
  simp [alnTo, List.range_succ, List.all_append]
theorem alnTo_false {s : ByteArray} {k n : Nat} (h : k ≤ n) (hf : alnTo s k = false) : alnTo s n = false := by
  cases hn : alnTo s n with
  | false => rfl
  | true =>
    rw [← hf]; symm
    unfold alnTo at hn ⊢
    rw [List.all_eq_true] at hn ⊢
    intro x hx; exact hn x (by rw [List.mem_range] at hx ⊢; omega)
theorem byte_bd (s : ByteArray) (k : Nat) : 0 ≤ byteAt s k ∧ byteAt s k ≤ 255 := by
  unfold byteAt
  split
  · have := (s[k]).toNat_lt; omega
  · omega

set_option maxHeartbeats 400000 in
theorem isVarR_any (s : ByteArray) (w : World) : Calls Try.prog 41 #[.string s] w fun e w' => e = .returned (.bool (varB s)) ∧ w' = w := by
  by_cases h : 0 < s.size
  · have hb := hide (byteAt_of h)
    have he := isEmpty_pos h
    go_enter Try.func41, Try.ntmps41
    go_wp2_with fail
    all_goals (go_ret; refine ⟨ret_bool ?_, rfl⟩; have hb' := hb.out; rw [Bool.eq_iff_iff]; simp [varB, capB] <;> omega)
  · have he := isEmpty_zero h
    have hv : Hid (false = varB s) := by simp [Hid, varB, byteAt, h, capB]
    go_enter Try.func41, Try.ntmps41
    go_wp2_with fail
    go_ret
    exact ⟨ret_bool hv.out, rfl⟩

set_option maxHeartbeats 400000 in
theorem isVariable_all (s : ByteArray) (w : World) : Calls Try.prog 49 #[.string s] w fun e w' => e = .returned (.bool (varB s)) ∧ w' = w := by
  by_cases h : 0 < s.size
  · have hb := hide (byteAt_of h)
    have he := isEmpty_pos h
    go_enter Try.func49, Try.ntmps49
    go_wp2_with (go_at_call 74; refine (isCapital_any _ _).mono ?_; rintro e w' ⟨rfl, rfl⟩)
    go_ret
    refine ⟨ret_bool ?_, rfl⟩
    rw [hb.out]; rfl
  · have he := isEmpty_zero h
    have hv : Hid (false = varB s) := by simp [Hid, varB, byteAt, h, capB]
    go_enter Try.func49, Try.ntmps49
    go_wp2_with fail
    go_ret
    exact ⟨ret_bool hv.out, rfl⟩
theorem isVariable_any (s : ByteArray) (w : World) (h : 0 < s.size) : Calls Try.prog 49 #[.string s] w fun e w' => e = .returned (.bool (varB s)) ∧ w' = w := isVariable_all s w

theorem nameB_no {s : ByteArray} {k : Nat} (hk : k < s.size) (h : alnB (byteAt s k) = false) : nameB s = false := by
  have h1 : alnTo s (k + 1) = false := by rw [alnTo_succ, h]; simp
  have h2 := alnTo_false (n := s.size) (by omega) h1
  simp [nameB, h2]

set_option maxHeartbeats 400000 in
theorem isName_any (s : ByteArray) (w : World) : Calls Try.prog 48 #[.string s] w fun e w' => e = .returned (.bool (nameB s)) ∧ w' = w := by
  by_cases h0 : s.size < 1
  · have hn : Hid (false = nameB s) := by simp [Hid, nameB]; omega
    go_enter Try.func48, Try.ntmps48
    go_wp2_with fail
    go_ret
    exact ⟨ret_bool hn.out, rfl⟩
  · by_cases h8 : 8 < s.size
    · have hn : Hid (false = nameB s) := by simp [Hid, nameB]; omega
      go_enter Try.func48, Try.ntmps48
      go_wp2_with fail
      all_goals (go_ret; exact ⟨ret_bool hn.out, rfl⟩)
    · have hb := hide (byteAt_of (s := s) (i := 0) (by omega))
      by_cases hd : digB (byteAt s 0) = true
      · have hn : Hid (false = nameB s) := by simp [Hid, nameB, hd]
        have hd' := hide hd
        clear hd
        go_enter Try.func48, Try.ntmps48
        go_wp2_with (go_at_call 72; refine (isDigit_any _ _).mono ?_; rintro e w' ⟨rfl, rfl⟩; rw [hb.out, hd'.out])
        all_goals (go_ret; exact ⟨ret_bool hn.out, rfl⟩)
      · have hd' : Hid (digB (byteAt s 0) = false) := by simpa [Hid] using hd
        clear hd
        go_enter Try.func48, Try.ntmps48
        go_wp2_with (go_at_call 72; refine (isDigit_any _ _).mono ?_; rintro e w' ⟨rfl, rfl⟩; rw [hb.out, hd'.out])
        go_loop [19] (fun i => ∃ k : Nat, k ≤ s.size ∧ i = .int .i64 k ∧ alnTo s k = true) (fun i => s.size - (intOf i).toNat)
        case atStart => exact ⟨0, Nat.zero_le _, rfl, rfl⟩
        case round =>
          obtain ⟨k, hk, rfl, ha⟩ := hrel
          have HA := hide ha
          clear ha
          by_cases hlt : k < s.size
          · have hbk := hide (byteAt_of hlt)
            have hsuc := hide (alnTo_succ s k)
            cases hl : letB (byteAt s k) with
            | true =>
              have HL := hide hl
              clear hl
              go_wp2_with (go_at_call 73; refine (isLetter_any _ _).mono ?_; rintro e w' ⟨rfl, rfl⟩; rw [hbk.out, HL.out])
              go_round
              case rel => exact ⟨k + 1, by omega, by go_num, by rw [hsuc.out, HA.out, alnB, HL.out]; rfl⟩
              case measure => simp [intOf]; omega
            | false =>
              have HL := hide hl
              clear hl
              cases hg : digB (byteAt s k) with
              | true =>
                have HG := hide hg
                clear hg
                go_wp2_with (first | (go_at_call 73; refine (isLetter_any _ _).mono ?_; rintro e w' ⟨rfl, rfl⟩; rw [hbk.out, HL.out]) | (go_at_call 72; refine (isDigit_any _ _).mono ?_; rintro e w' ⟨rfl, rfl⟩; rw [hbk.out, HG.out]))
                go_round
                case rel => exact ⟨k + 1, by omega, by go_num, by rw [hsuc.out, HA.out, alnB, HL.out, HG.out]; rfl⟩
                case measure => simp [intOf]; omega
              | false =>
                have HG := hide hg
                clear hg
                go_wp2_with (first | (go_at_call 73; refine (isLetter_any _ _).mono ?_; rintro e w' ⟨rfl, rfl⟩; rw [hbk.out, HL.out]) | (go_at_call 72; refine (isDigit_any _ _).mono ?_; rintro e w' ⟨rfl, rfl⟩; rw [hbk.out, HG.out]))
                go_ret
                exact ⟨ret_bool (nameB_no hlt (by rw [alnB, HL.out, HG.out]; rfl)).symm, rfl⟩
          · have hn : Hid (true = nameB s) := by
              have e : k = s.size := by omega
              have := HA.out
              rw [e] at this
              simp [Hid, nameB, this, hd'.out]; omega
            go_wp2_with fail
            go_ret
            exact ⟨ret_bool hn.out, rfl⟩

#print axioms isName_any
end Go.Proofs.Ytkfppicbningaaa

/- Walks: counting knots with a bound; what is wrong with a term. -/
namespace Go.Proofs.Ytkfppicbningaaa
open Go.RowKit
set_option linter.unusedSimpArgs false
set_option linter.unusedVariables false

theorem argsOf_any (s : ByteArray) (a : Option Addr) (n c : Nat) (w : World) :
    Calls Try.prog 80 #[.agg #[.string s, .slice a n c]] w fun e w' => e = .returned (.slice a n c) ∧ w' = w.alloc (.cells #[.string s, .slice a n c] 28) := by
  go_enter Try.func80, Try.ntmps80
  go_wp2_with fail
  go_ret
  exact ⟨rfl, rfl⟩

set_option maxHeartbeats 400000 in
theorem countOn_any (M : Int) (hM0 : 0 ≤ M) (hM1 : M ≤ 1000000) (t : Tm) : ∀ (v : Value) (n : Int) (w : World) (X : Nat → Prop), TV w X v t → 0 ≤ n → n ≤ M →
    Calls Try.prog 104 #[v, .func (.func 80) #[] #[], .int .i64 M, .int .i64 n] w fun e w' => e = .returned (.int .i64 (min (n + sizeL [t]) (M + 1))) ∧ Below w.heap.size w w' := by
  induction t using Tm.ind with
  | h s l ih =>
    intro v n w X hv hn0 hn1
    obtain ⟨a, c, rfl, hs⟩ := hv
    have IH := hide ih
    clear ih
    have hz : Hid ((sizeL [(⟨s, l⟩ : Tm)] : Int) = 1 + sizeL l) := by simp [Hid, sizeL]
    go_enter Try.func104, Try.ntmps104
    go_wp2_with (go_at_call 80; refine (argsOf_any _ _ _ _ _).mono ?_; rintro e w' ⟨rfl, rfl⟩)
    have hB0 : Hid (Below w.heap.size w ((w.alloc (Obj.cells #[Value.string s, Value.slice a l.length c] 28)).alloc (Obj.cells #[Value.string s, Value.slice a l.length c] 28))) := ((Below.refl _ _).alloc (Nat.le_refl _) _).alloc (by simp) _
    have hZ0 : Hid (w.heap.size + 2 ≤ ((w.alloc (Obj.cells #[Value.string s, Value.slice a l.length c] 28)).alloc (Obj.cells #[Value.string s, Value.slice a l.length c] 28)).heap.size) := by simp [Hid]
    generalize ((w.alloc (Obj.cells #[Value.string s, Value.slice a l.length c] 28)).alloc (Obj.cells #[Value.string s, Value.slice a l.length c] 28)) = w0 at *
    go_loopw [9, 18] (fun m i wr => ∃ k : Nat, k ≤ l.length ∧ i = .int .i64 k ∧ m = .int .i64 (min (n + 1 + sizeL (l.take k)) (M + 1)) ∧ Below w.heap.size w wr) (fun m i wr => l.length - (intOf i).toNat)
    case atStart => exact ⟨0, Nat.zero_le _, rfl, by rw [show sizeL (l.take 0) = 0 by simp [sizeL]]; congr 1; omega, hB0.out⟩
    case round =>
      obtain ⟨k, hk, rfl, rfl, hb⟩ := hrel
      have hl := hs.1
      have hsz : w.heap.size ≤ wr.heap.size := hb.size
      by_cases hlt : k < l.length
      · obtain ⟨b, o, a', c', rfl, d0, d1, hx⟩ := hs.get hb (fun _ _ h => h) k hlt
        by_cases hle : n + 1 + (sizeL (l.take k) : Int) ≤ M
        · have hmin : min (n + 1 + (sizeL (l.take k) : Int)) (M + 1) = n + 1 + (sizeL (l.take k) : Int) := by omega
          rw [hmin]
          go_wp2_with fail
          refine (IH.out _ (List.getElem_mem hlt) _ _ _ X (hx.alloc _) (by omega) (by omega)).mono ?_
          rintro e w1 ⟨rfl, hb1⟩
          have Hst := hide (sizeL_take l k hlt)
          go_wp2_with fail
          go_roundw
          case rel => exact ⟨k + 1, by omega, by go_num, by rw [Hst.out]; congr 1; omega, (hb.alloc hsz _).trans (hb1.mono (by simp; omega))⟩
          case measure => simp [intOf]; omega
        · have hmin : min (n + 1 + (sizeL (l.take k) : Int)) (M + 1) = M + 1 := by omega
          rw [hmin]
          have hle2 : sizeL (l.take k) ≤ sizeL l := sizeL_take_le l k
          go_wp2_with fail
          go_ret
          refine ⟨ret_int (by have := hz.out; omega), ?_⟩
          exact hb.alloc (by omega) _
      · have htk : l.take k = l := List.take_of_length_le (by omega)
        rw [htk]
        go_wp2_with fail
        go_ret
        exact ⟨ret_int (by have := hz.out; omega), hb⟩

theorem countT_any (M : Int) (hM0 : 0 ≤ M) (hM1 : M ≤ 1000000) (t : Tm) (v : Value) (w : World) (X : Nat → Prop) (hv : TV w X v t) :
    Calls Try.prog 79 #[v, .func (.func 80) #[] #[], .int .i64 M] w fun e w' => e = .returned (.int .i64 (min (sizeL [t] : Int) (M + 1))) ∧ Below w.heap.size w w' := by
  obtain ⟨a, c, rfl, hs⟩ := hv
  have hv : TV w X (.agg #[.string t.name, .slice a t.args.length c]) t := ⟨a, c, rfl, hs⟩
  go_enter Try.func79, Try.ntmps79
  go_wp2_with fail
  refine (countOn_any M hM0 hM1 t _ _ _ X (hv.alloc _) (by omega) (by omega)).mono ?_
  rintro e w1 ⟨rfl, hb1⟩
  go_wp2_with fail
  go_ret
  exact ⟨ret_int (by omega), ((Below.refl _ _).alloc (Nat.le_refl _) _).trans (hb1.mono (by simp))⟩

theorem count_any (M : Int) (hM0 : 0 ≤ M) (hM1 : M ≤ 1000000) (t : Tm) (v : Value) (w : World) (X : Nat → Prop) (hv : TV w X v t) :
    Calls Try.prog 56 #[v, .int .i64 M] w fun e w' => e = .returned (.int .i64 (min (sizeL [t] : Int) (M + 1))) ∧ Below w.heap.size w w' := by
  obtain ⟨a, c, rfl, hs⟩ := hv
  have hv : TV w X (.agg #[.string t.name, .slice a t.args.length c]) t := ⟨a, c, rfl, hs⟩
  go_enter Try.func56, Try.ntmps56
  go_wp2_with fail
  refine (countT_any M hM0 hM1 t _ _ X (hv.alloc _)).mono ?_
  rintro e w1 ⟨rfl, hb1⟩
  go_wp2_with fail
  go_ret
  exact ⟨ret_int (by omega), ((Below.refl _ _).alloc (Nat.le_refl _) _).trans (hb1.mono (by simp))⟩

/-- What is wrong, knot by knot: 0 nothing, 1 no name, 2 a variable with terms below it. -/
def errL : List Tm → Int
  | [] => 0
  | ⟨s, l⟩ :: r => if nameB s = true then (if (varB s && decide (0 < l.length)) = true then 2 else if errL l = 0 then errL r else errL l) else 1

theorem errL_cons (t : Tm) (r : List Tm) : errL (t :: r) = if errL [t] = 0 then errL r else errL [t] := by
  obtain ⟨s, l⟩ := t
  simp only [errL]
  split
  · split
    · simp
    · split <;> simp_all
  · simp

theorem errL_append (a b : List Tm) : errL (a ++ b) = if errL a = 0 then errL b else errL a := by
  induction a with
  | nil => simp [errL]
  | cons t r ih =>
    rw [List.cons_append, errL_cons, errL_cons t r, ih]
    by_cases h : errL [t] = 0 <;> simp [h]

theorem errL_take (l : List Tm) (k : Nat) (h : k < l.length) : errL (l.take (k + 1)) = if errL (l.take k) = 0 then errL [l[k]] else errL (l.take k) := by
  rw [List.take_succ_eq_append_getElem h, errL_append]

theorem errL_of_take {l : List Tm} {k : Nat} (h : errL (l.take k) ≠ 0) : errL l = errL (l.take k) := by
  have := errL_append (l.take k) (l.drop k)
  rw [List.take_append_drop, if_neg h] at this
  exact this

theorem name_pos {s : ByteArray} (h : nameB s = true) : 0 < s.size := by
  simp [nameB] at h; omega

set_option maxHeartbeats 400000 in
theorem checkKnots_any (t : Tm) : ∀ (v : Value) (w : World) (X : Nat → Prop), TV w X v t →
    Calls Try.prog 57 #[v] w fun e w' => e = .returned (.int .i64 (errL [t])) ∧ Below w.heap.size w w' := by
  induction t using Tm.ind with
  | h s l ih =>
    intro v w X hv
    obtain ⟨a, c, rfl, hs⟩ := hv
    have IH := hide ih
    clear ih
    have hl := hs.1
    cases hn : nameB s with
    | false =>
      have hz : Hid (1 = errL [(⟨s, l⟩ : Tm)]) := by simp [Hid, errL, hn]
      have HN := hide hn
      clear hn
      go_enter Try.func57, Try.ntmps57
      go_wp2_with (go_at_call 48; refine (isName_any _ _).mono ?_; rintro e w' ⟨rfl, rfl⟩; rw [HN.out])
      go_ret
      exact ⟨ret_int hz.out, (Below.refl _ _).alloc (Nat.le_refl _) _⟩
    | true =>
      have HN := hide hn
      have hpos := name_pos hn
      by_cases hvl : varB s = true ∧ 0 < l.length
      · obtain ⟨hv, hlp⟩ := hvl
        have hz : Hid (2 = errL [(⟨s, l⟩ : Tm)]) := by simp [Hid, errL, hn, hv, hlp]
        have HV := hide hv
        clear hn hv
        go_enter Try.func57, Try.ntmps57
        go_wp2_with (first | (go_at_call 48; refine (isName_any _ _).mono ?_; rintro e w' ⟨rfl, rfl⟩; rw [HN.out]) | (go_at_call 49; refine (isVariable_any _ _ hpos).mono ?_; rintro e w' ⟨rfl, rfl⟩; rw [HV.out]))
        go_ret
        exact ⟨ret_int hz.out, (Below.refl _ _).alloc (Nat.le_refl _) _⟩
      · have hz : Hid (errL [(⟨s, l⟩ : Tm)] = errL l) := by
          have : (varB s && decide (0 < l.length)) = false := by
            rw [Bool.eq_false_iff]; intro h; simp at h; exact hvl ⟨h.1, by omega⟩
          simp only [Hid, errL, hn, this]
          by_cases h0 : errL l = 0 <;> simp [h0]
        have hcase : (varB s = true ∧ l.length < 1) ∨ varB s = false := by
          cases hv : varB s with
          | true => exact Or.inl ⟨rfl, by apply Classical.byContradiction; intro h; exact hvl ⟨hv, by omega⟩⟩
          | false => exact Or.inr rfl
        clear hn hvl
        rcases hcase with ⟨hv, hl0⟩ | hv
        · have e0 : l = [] := List.length_eq_zero_iff.1 (by omega)
          subst e0
          have HV := hide hv
          clear hv
          go_enter Try.func57, Try.ntmps57
          go_wp2_with (first | (go_at_call 48; refine (isName_any _ _).mono ?_; rintro e w' ⟨rfl, rfl⟩; rw [HN.out]) | (go_at_call 49; refine (isVariable_any _ _ hpos).mono ?_; rintro e w' ⟨rfl, rfl⟩; rw [HV.out]))
          go_loop [22] (fun i => i = .int .i64 0) (fun i => 0)
          case atStart => rfl
          case round =>
            subst hrel
            have HZ : Hid (0 = errL [(⟨s, []⟩ : Tm)]) := by unfold Hid; rw [hz.out]; simp [errL]
            go_wp2_with fail
            go_ret
            exact ⟨ret_int HZ.out, (Below.refl _ _).alloc (Nat.le_refl _) _⟩
        · have HV := hide hv
          clear hv
          go_enter Try.func57, Try.ntmps57
          go_wp2_with (first | (go_at_call 48; refine (isName_any _ _).mono ?_; rintro e w' ⟨rfl, rfl⟩; rw [HN.out]) | (go_at_call 49; refine (isVariable_any _ _ hpos).mono ?_; rintro e w' ⟨rfl, rfl⟩; rw [HV.out]))
          go_loopw [22] (fun i wr => ∃ k : Nat, k ≤ l.length ∧ i = .int .i64 k ∧ errL (l.take k) = 0 ∧ Below (w.heap.size + 1) (w.alloc (Obj.cells #[Value.string s, Value.slice a l.length c] 28)) wr) (fun i wr => l.length - (intOf i).toNat)
          case atStart => exact ⟨0, Nat.zero_le _, rfl, by simp [errL], Below.refl _ _⟩
          case round =>
            obtain ⟨k, hk, rfl, he, hb⟩ := hrel
            have HE := hide he
            clear he
            have hsz : w.heap.size + 1 ≤ wr.heap.size := by have := hb.size; simpa using this
            by_cases hlt : k < l.length
            · obtain ⟨b, o, a', c', rfl, d0, d1, hx⟩ := hs.get (below_box hb) (fun _ _ h => h) k hlt
              have HT := hide (errL_take l k hlt)
              go_wp2_with fail
              refine (IH.out _ (List.getElem_mem hlt) _ _ X (hx.alloc _)).mono ?_
              rintro e w1 ⟨rfl, hb1⟩
              by_cases hez : errL [l[k]] = 0
              · have HZ := hide hez
                rw [hez]
                clear hez
                go_wp2_with fail
                go_roundw
                case rel => exact ⟨k + 1, by omega, by go_num, by rw [HT.out, HE.out, HZ.out]; rfl, (hb.alloc hsz _).trans (hb1.mono (by simp; omega))⟩
                case measure => simp [intOf]; omega
              · have hez' : (errL [l[k]] == 0) = false := by simpa using hez
                have HZ : Hid (errL [l[k]] = errL [(⟨s, l⟩ : Tm)]) := by
                  have h1 : errL (l.take (k + 1)) = errL [l[k]] := by rw [HT.out, HE.out]; rfl
                  unfold Hid
                  rw [hz.out, errL_of_take (l := l) (k := k + 1) (by rw [h1]; exact hez), h1]
                go_wp2_with fail
                go_ret
                exact ⟨ret_int HZ.out, ((below_box hb).alloc (by omega) _).trans (hb1.mono (by simp; omega))⟩
            · have htk : l.take k = l := List.take_of_length_le (by omega)
              have HZ : Hid (0 = errL [(⟨s, l⟩ : Tm)]) := by unfold Hid; rw [hz.out, ← htk, HE.out]
              go_wp2_with fail
              go_ret
              exact ⟨ret_int HZ.out, below_box hb⟩

/-- What is wrong with a term. -/
def mayE (t : Tm) : Int := if 200 < sizeL [t] then 3 else errL [t]

set_option maxHeartbeats 400000 in
theorem check_any (t : Tm) (v : Value) (w : World) (X : Nat → Prop) (hv : TV w X v t) :
    Calls Try.prog 34 #[v] w fun e w' => e = .returned (.int .i64 (mayE t)) ∧ Below w.heap.size w w' := by
  obtain ⟨a, c, rfl, hs⟩ := hv
  have hv : TV w X (.agg #[.string t.name, .slice a t.args.length c]) t := ⟨a, c, rfl, hs⟩
  go_enter Try.func34, Try.ntmps34
  go_wp2_with fail
  refine (count_any 200 (by omega) (by omega) t _ _ X (hv.alloc _)).mono ?_
  rintro e w1 ⟨rfl, hb1⟩
  have c0 : w1.cell? ⟨w.heap.size, 0, none⟩ = some (.string t.name) := by rw [hb1.cell (p := ⟨_, _, none⟩) (by simp)]; simp
  have c1 : w1.cell? ⟨w.heap.size, 1, none⟩ = some (.slice a t.args.length c) := by rw [hb1.cell (p := ⟨_, _, none⟩) (by simp)]; simp
  have hb2 : Below w.heap.size w w1 := ((Below.refl _ _).alloc (Nat.le_refl _) _).trans (hb1.mono (by simp))
  by_cases h : 200 < sizeL [t]
  · have hm : Hid (3 = mayE t) := by simp [Hid, mayE, h]
    have e : min (sizeL [t] : Int) (200 + 1) = 201 := by omega
    rw [e]
    go_wp2_with fail
    go_ret
    exact ⟨ret_int hm.out, hb2⟩
  · have hm : Hid (errL [t] = mayE t) := by simp [Hid, mayE, h]
    have e : min (sizeL [t] : Int) (200 + 1) = sizeL [t] := by omega
    rw [e]
    go_wp2_with fail
    refine (checkKnots_any t _ _ X (hv.later hb2)).mono ?_
    rintro e w2 ⟨rfl, hb3⟩
    go_wp2_with fail
    go_ret
    exact ⟨ret_int hm.out, hb2.trans (hb3.mono hb2.size)⟩
#print axioms check_any
end Go.Proofs.Ytkfppicbningaaa

/- Walks: all knots of a term. -/
namespace Go.Proofs.Ytkfppicbningaaa
open Go.RowKit
set_option linter.unusedSimpArgs false
set_option linter.unusedVariables false

theorem Try.infoTerm : (Try.prog.info? 28).map (fun i => (i.zero, i.size, i.bytes)) = some (some (.agg #[.string ByteArray.empty, .slice none 0 0]), 2, 40) := by kernel_rfl

theorem ownsRow_base {w : World} {base base' e size : Nat} {v : Value} {n : Nat} {xs : List Value} (h : w.ownsRow base e size v n xs) (hb : base' ≤ base) : w.ownsRow base' e size v n xs := by
  obtain ⟨h0, h1⟩ := h
  refine ⟨h0, ?_⟩
  rcases h1 with h1 | ⟨g, cap, cur, hv, hg, r⟩
  · exact Or.inl h1
  · exact Or.inr ⟨g, cap, cur, hv, Nat.le_trans hb hg, r⟩

set_option maxHeartbeats 400000 in
theorem knots_any (t : Tm) : ∀ (v : Value) (w : World) (X : Nat → Prop), TV w X v t → sizeL [t] ≤ 1000000 →
    Calls Try.prog 40 #[v] w fun e w' => ∃ v' xs, e = .returned v' ∧ w'.ownsRow w.heap.size 28 2 v' (sizeL [t]) xs ∧ RowT w X (preL [t]) xs ∧ Below w.heap.size w w' := by
  induction t using Tm.ind with
  | h s l ih =>
    intro v w X0 hv0 hsm
    obtain ⟨X, hX, hXX, hv⟩ : ∃ X : Nat → Prop, (∀ b, X b → b < w.heap.size) ∧ (∀ b, X b → X0 b) ∧ TV w X v ⟨s, l⟩ := ⟨fun b => X0 b ∧ b < w.heap.size, fun _ h => h.2, fun _ h => h.1, hv0.mono fun b h1 h2 => ⟨h1, h2⟩⟩
    clear hv0
    obtain ⟨a, c, rfl, hs⟩ := hv
    have IH := hide ih
    clear ih
    have hl := hs.1
    have hz : sizeL [(⟨s, l⟩ : Tm)] = 1 + sizeL l := by simp [sizeL]
    rw [hz] at hsm ⊢
    clear hz
    obtain ⟨i0, hi, hz0, hz1, hz2⟩ := info_parts Try.infoTerm
    go_enter Try.func40, Try.ntmps40
    go_wp2_with fail
    go_loopw [3, 4] (fun v i wr => ∃ (k : Nat) (xs : List Value), k ≤ l.length ∧ i = .int .i64 k ∧ wr.ownsRow (w.heap.size + 1) 28 2 v (1 + sizeL (l.take k)) xs ∧ RowT w X (⟨s, l⟩ :: preL (l.take k)) xs ∧ Below (w.heap.size + 1) (w.alloc (Obj.cells #[Value.string s, Value.slice a l.length c] 28)) wr) (fun v i wr => l.length - (intOf i).toNat)
    case atStart =>
      refine ⟨0, [.string s, .slice a l.length c], Nat.zero_le _, rfl, ⟨by simp [sizeL], Or.inr ⟨w.heap.size + 1, 1, #[.string s, .slice a l.length c], by simp [sizeL], Nat.le_refl _, ?_, by simp [sizeL], by decide, by simp, by simp [sizeL]⟩⟩, ⟨a, c, [], rfl, hs, by simp [preL, RowT]⟩, (Below.refl _ _).alloc (by simp) _⟩
      have := heap_alloc_new (w.alloc (Obj.cells #[Value.string s, Value.slice a l.length c] 28)) (Obj.cells #[Value.string s, Value.slice a l.length c] 28)
      simpa using this
    case round =>
      obtain ⟨k, xs, hk, rfl, hown, hrow, hb⟩ := hrel
      have HROW := hide hrow
      clear hrow
      have hc := bcell hb
      have c0 : wr.cell? ⟨w.heap.size, 0, none⟩ = some (.string s) := by rw [hc.1 _ _ (by omega)]; simp
      have c1 : wr.cell? ⟨w.heap.size, 1, none⟩ = some (.slice a l.length c) := by rw [hc.1 _ _ (by omega)]; simp
      clear hc
      have hsz : w.heap.size + 1 ≤ wr.heap.size := by have := hb.size; simpa using this
      by_cases hlt : k < l.length
      · obtain ⟨b, o, a', c', rfl, d0, d1, hx⟩ := hs.get (below_box hb) (fun _ _ h => h) k hlt
        have Hst := hide (sizeL_take l k hlt)
        have hle := sizeL_take_le l (k + 1)
        have hle1 : sizeL (l.take k) + sizeL [l[k]] ≤ sizeL l := by rw [← Hst.out]; exact hle
        have hpos : 0 < sizeL [l[k]] := by generalize l[k] = t; obtain ⟨s', l'⟩ := t; simp [sizeL]; omega
        clear hle
        go_wp2_with fail
        refine (IH.out _ (List.getElem_mem hlt) _ _ X hx (by omega)).mono ?_
        rintro e w1 ⟨v1, ys, rfl, hown1, hrow1, hb1⟩
        have HROW1 : Hid (RowT w X (preL [l[k]]) ys) := hrow1.imp fun a l h => h.back (below_box hb) hX
        have hlen1 := hide hown1.1
        have hcells := hide (owned_val hown1 hpos)
        obtain ⟨g1, cap1, rfl, hg1, hg1', hcel⟩ := hcells.out
        have hownw1 : w1.ownsRow (w.heap.size + 1) 28 2 _ (1 + sizeL (l.take k)) xs := hown.kept (w' := w1) (row := none) ⟨hb1.os, hb1.tape, hb1.output, hb1.size, fun j hj _ => hb1.block j hj⟩ (by rcases Option.eq_none_or_eq_some (Value.ownBlock _) with h | ⟨x, h⟩; exact Or.inl h; exact Or.inr (by rw [h]; simp))
        have hyl : ys.length = sizeL [l[k]] * 2 := hlen1.out
        obtain ⟨v2, w2, hr2, hown2, hgr2, hnil2⟩ := run_append_own (P := Try.prog) w1 (w.heap.size + 1) 26 26 28 i0 _ 2 40 Try.underlying26 hi hz0 hz1 hz2 rfl (by decide) _ _ xs hownw1
          ⟨g1, 0, none⟩ (sizeL [l[k]]) cap1 ys hyl (fun j u hj => by
            have := hcel j u hj
            by_cases h0 : j = 0
            · subst h0; simpa [Addr.add] using this
            · simpa [Addr.add, h0] using this) HROW1.out.one (by unfold maxLen; omega) (by omega) (by have := hb1.size; omega)
        clear hnil2
        have hb2 : Hid (Below (w.heap.size + 1) (w.alloc (Obj.cells #[Value.string s, Value.slice (some ⟨b, o, none⟩) l.length c] 28)) w2) :=
          (hb.trans (hb1.mono hsz)).grown hgr2 (by have := hb1.size; omega) (fun j hj => (hownw1.lt j hj).1)
        have HR2 : Hid (RowT w X (⟨s, l⟩ :: preL (l.take (k + 1))) (xs ++ ys)) := by
          have := HROW.out.append HROW1.out
          unfold Hid
          rw [preL_take l k hlt]
          simpa using this
        have hown3 := hide hown2
        clear hown1 hownw1 hown2 hgr2 hcel hyl
        have HA := hide hr2
        clear hr2
        go_wp2_with (at_builtin; refine wpList_append_eq rfl _ _ _ _ rfl rfl rfl HA.out ?_)
        go_roundw
        case rel => exact ⟨k + 1, xs ++ ys, by omega, by go_num, by have := hown3.out; rw [Hst.out, ← Nat.add_assoc]; exact this, HR2.out, hb2.out⟩
        case measure => simp [intOf]; omega
      · have htk : l.take k = l := List.take_of_length_le (by omega)
        rw [htk] at hown
        have hown3 := hide hown
        have hr3 : Hid (RowT w X0 (preL [(⟨s, l⟩ : Tm)]) xs) := by
          have := HROW.out
          rw [htk] at this
          have h2 : RowT w X0 (⟨s, l⟩ :: preL l) xs := this.imp fun a l h => h.mono fun b hb _ => hXX b hb
          unfold Hid
          simpa [preL] using h2
        clear hown
        go_wp2_with fail
        go_ret
        exact ⟨_, xs, rfl, ownsRow_base hown3.out (by omega), hr3.out, below_box hb⟩
#print axioms knots_any
end Go.Proofs.Ytkfppicbningaaa


/- Walks: what the document says of a term. -/
namespace Go.Proofs.Ytkfppicbningaaa
open Go.RowKit
set_option linter.unusedSimpArgs false
set_option linter.unusedVariables false

def kErr (t : Tm) : Int := if nameB t.name = true then (if (varB t.name && decide (0 < t.args.length)) = true then 2 else 0) else 1
def errP : List Tm → Int
  | [] => 0
  | t :: r => if kErr t = 0 then errP r else kErr t
theorem errP_append (a b : List Tm) : errP (a ++ b) = if errP a = 0 then errP b else errP a := by
  induction a with
  | nil => simp [errP]
  | cons t r ih => simp only [List.cons_append, errP, ih]; by_cases h : kErr t = 0 <;> simp [h]
theorem errL_preL (l : List Tm) : errL l = errP (preL l) := by
  induction l using Tm.indL with
  | h0 => simp [errL, preL, errP]
  | h s l r ihl ihr =>
    simp only [errL, preL, errP, errP_append, ← ihl, ← ihr, kErr]
    by_cases h1 : nameB s = true
    · by_cases h2 : (varB s && decide (0 < l.length)) = true
      · simp only [h1, h2, if_true]; simp
      · simp only [h1, if_true]; rw [if_neg h2, if_neg h2]; simp
    · rw [if_neg h1, if_neg h1]; simp
theorem errP_take (l : List Tm) (k : Nat) (h : k < l.length) : errP (l.take (k + 1)) = if errP (l.take k) = 0 then kErr l[k] else errP (l.take k) := by
  rw [List.take_succ_eq_append_getElem h, errP_append]
  congr 1
  simp only [errP]
  by_cases h : kErr l[k] = 0 <;> simp [h]
theorem errP_of_take {l : List Tm} {k : Nat} (h : errP (l.take k) ≠ 0) : errP l = errP (l.take k) := by
  have := errP_append (l.take k) (l.drop k)
  rw [List.take_append_drop, if_neg h] at this
  exact this
theorem errP_at {l : List Tm} {k : Nat} (h : k < l.length) (h0 : errP (l.take k) = 0) (h1 : kErr l[k] ≠ 0) : errP l = kErr l[k] := by
  have e := errP_take l k h
  rw [if_pos h0] at e
  rw [← e]
  exact errP_of_take (by rw [e]; exact h1)

/-- What is wrong with the first, else with the second. -/
def twoE (t x : Tm) : Int := if mayE t = 0 then mayE x else mayE t

end Go.Proofs.Ytkfppicbningaaa


/- Walks: what stands at a place. -/
namespace Go.Proofs.Ytkfppicbningaaa
open Go.RowKit
set_option linter.unusedSimpArgs false
set_option linter.unusedVariables false

/-- What stands at a place. -/
def atT : Tm → List Int → Option Tm
  | t, [] => some t
  | t, i :: r => if h : 0 ≤ i ∧ i.toNat < t.args.length then atT (t.args[i.toNat]'h.2) r else none

/-- A list of numbers in memory. -/
def PV (w : World) (X : Nat → Prop) (v : Value) (zs : List Int) : Prop :=
  ∃ a c, v = .slice a zs.length c ∧ (zs.length ≤ 9223372036854775807 ∧ zs.length ≤ c) ∧ (zs = [] ∨ ∃ b o, a = some ⟨b, o, none⟩ ∧ X b ∧ ∀ i (h : i < zs.length), w.cell? ⟨b, o + i, none⟩ = some (.int .i64 zs[i]))

theorem PV.kept {w w' : World} {X : Nat → Prop} {v : Value} {zs : List Int} (h : PV w X v zs) (hk : ∀ b, X b → w'.heap[b]? = w.heap[b]?) : PV w' X v zs := by
  obtain ⟨a, c, e, hl, h⟩ := h
  refine ⟨a, c, e, hl, ?_⟩
  rcases h with h | ⟨b, o, e, hx, h⟩
  · exact Or.inl h
  · exact Or.inr ⟨b, o, e, hx, fun i hi => by rw [World.cell?_of_block (hk b hx)]; exact h i hi⟩

theorem PV.mono {w : World} {X Y : Nat → Prop} {v : Value} {zs : List Int} (h : PV w X v zs) (hk : ∀ b, X b → b < w.heap.size → Y b) : PV w Y v zs := by
  obtain ⟨a, c, e, hl, h⟩ := h
  refine ⟨a, c, e, hl, ?_⟩
  rcases h with h | ⟨b, o, e, hx, h⟩
  · exact Or.inl h
  · by_cases h0 : zs = []
    · exact Or.inl h0
    · have hp : 0 < zs.length := List.length_pos_iff.2 h0
      exact Or.inr ⟨b, o, e, hk b hx (World.block_lt_of_cell? w _ (h 0 hp)), h⟩

theorem PV.below {w w' : World} {X : Nat → Prop} {v : Value} {zs : List Int} {B : Nat} (h : PV w X v zs) (hb : Below B w w') (hX : ∀ b, X b → b < w.heap.size → b < B) : PV w' X v zs := by
  have h1 : PV w (fun b => X b ∧ b < B) v zs := h.mono fun b hx hs => ⟨hx, hX b hx hs⟩
  have h2 : PV w' (fun b => X b ∧ b < B) v zs := h1.kept fun b hx => hb.block b hx.2
  exact h2.mono fun b hx _ => hx.1

theorem PV.later {w w' : World} {X : Nat → Prop} {v : Value} {zs : List Int} (h : PV w X v zs) (hb : Below w.heap.size w w') : PV w' X v zs := h.below hb (fun _ _ h => h)
theorem PV.alloc {w : World} {X : Nat → Prop} {v : Value} {zs : List Int} (h : PV w X v zs) (o : Obj) : PV (w.alloc o) X v zs := h.later ((Below.refl _ _).alloc (Nat.le_refl _) o)

/-- The empty term's value. -/
def zeroT : Value := .agg #[.string ⟨#[]⟩, .slice none 0 0]

theorem below2 {w : World} (o1 o2 : Obj) : Below w.heap.size w ((w.alloc o1).alloc o2) := ((Below.refl _ _).alloc (Nat.le_refl _) _).alloc (by simp) _

end Go.Proofs.Ytkfppicbningaaa


/- Walks: what stands at a place, as the document says. -/
namespace Go.Proofs.Ytkfppicbningaaa
open Go.RowKit
set_option linter.unusedSimpArgs false
set_option linter.unusedVariables false

theorem isome_none {α : Type} {o : Option α} (h : o = none) : o.isSome = false := by rw [h]; rfl
theorem isome_some {α : Type} {o : Option α} {x : α} (h : o = some x) : o.isSome = true := by rw [h]; rfl

theorem PV.tail {w : World} {X : Nat → Prop} {b o c : Nat} {z : Int} {zs : List Int} (hl : zs.length + 1 ≤ 9223372036854775807 ∧ zs.length + 1 ≤ c) (hx : X b) (h : ∀ i (h : i < (z :: zs).length), w.cell? ⟨b, o + i, none⟩ = some (.int .i64 (z :: zs)[i])) :
    PV w X (.slice (some ⟨b, o + 1, none⟩) zs.length (c - 1)) zs := by
  refine ⟨_, _, rfl, by omega, Or.inr ⟨b, o + 1, rfl, hx, fun i hi => ?_⟩⟩
  have := h (i + 1) (by simpa using hi)
  rw [show o + 1 + i = o + (i + 1) by omega]
  simpa using this

theorem TV.back {w w' : World} {X : Nat → Prop} {v : Value} {t : Tm} {B : Nat} (h : TV w' X v t) (hb : Below B w w') (hX : ∀ b, X b → b < B) : TV w X v t := by
  obtain ⟨a, c, e, h⟩ := h
  exact ⟨a, c, e, h.back hb hX⟩

theorem tvform {w : World} {X : Nat → Prop} {v' : Value} {o : Option Tm} (h1 : ∀ x, o = some x → TV w X v' x) (h2 : o = none → v' = zeroT) : ∃ s a n c, v' = .agg #[.string s, .slice a n c] := by
  cases o with
  | none => exact ⟨_, _, _, _, h2 rfl⟩
  | some x => obtain ⟨a, c, e, _⟩ := h1 x rfl; exact ⟨_, _, _, _, e⟩

theorem below_tv {w w' : World} {X : Nat → Prop} {v : Value} {t : Tm} (hb : Below w.heap.size w w') (h : TV w X v t) : TV w' X v t := h.later hb

theorem res_cell0 {w w1 : World} {o1 : Obj} {x0 x1 : Value} {T n : Nat} (hb : Below (((w.alloc o1).alloc (.cells #[x0, x1] T)).drewN n).heap.size (((w.alloc o1).alloc (.cells #[x0, x1] T)).drewN n) w1) : w1.cell? ⟨w.heap.size + 1, 0, none⟩ = some x0 := by rw [hb.cell (p := ⟨_, _, none⟩) (by simp)]; simp
theorem res_cell1 {w w1 : World} {o1 : Obj} {x0 x1 : Value} {T n : Nat} (hb : Below (((w.alloc o1).alloc (.cells #[x0, x1] T)).drewN n).heap.size (((w.alloc o1).alloc (.cells #[x0, x1] T)).drewN n) w1) : w1.cell? ⟨w.heap.size + 1, 1, none⟩ = some x1 := by rw [hb.cell (p := ⟨_, _, none⟩) (by simp)]; simp
theorem res_frozen {w w1 : World} {o1 : Obj} {x0 x1 : Value} {T n : Nat} (hb : Below (((w.alloc o1).alloc (.cells #[x0, x1] T)).drewN n).heap.size (((w.alloc o1).alloc (.cells #[x0, x1] T)).drewN n) w1) : ∀ i, w1.frozen? ⟨w.heap.size + 1, i, none⟩ = false := by intro i; rw [hb.frozen (p := ⟨_, _, none⟩) (by simp)]; simp

theorem res_box1 {w w1 : World} {y0 y1 : Value} {o2 : Obj} {T n : Nat} (hb : Below (((w.alloc (.cells #[y0, y1] T)).alloc o2).drewN n).heap.size (((w.alloc (.cells #[y0, y1] T)).alloc o2).drewN n) w1) : w1.cell? ⟨w.heap.size, 1, none⟩ = some y1 := by rw [hb.cell (p := ⟨_, _, none⟩) (by simp; omega)]; simp
theorem res_old {w w1 : World} {o1 o2 : Obj} {n : Nat} {p : Addr} {v : Value} (hb : Below (((w.alloc o1).alloc o2).drewN n).heap.size (((w.alloc o1).alloc o2).drewN n) w1) (h : w.cell? p = some v) : w1.cell? p = some v :=
  cell_later ((below_drewN (below2 o1 o2) n).trans (hb.mono (by simp; omega))) h
theorem set2_keep {w : World} {K i j : Nat} {u u' v : Value} {p : Addr} (h : w.cell? p = some v) (hp : p.block ≠ K) : ((w.setCell ⟨K, i, none⟩ u).setCell ⟨K, j, none⟩ u').cell? p = some v := by
  rw [World.cell?_of_block (Below.heap_setCell _ _ _ _ (by simpa using hp)), World.cell?_of_block (Below.heap_setCell _ _ _ _ (by simpa using hp)), h]
theorem held4 {w : World} {K i j : Nat} {u u' v1 v2 v3 v4 : Value} {p1 p2 p3 p4 : Addr} (h : w.cell? p1 = some v1 ∧ w.cell? p2 = some v2 ∧ w.cell? p3 = some v3 ∧ w.cell? p4 = some v4) (h1 : p1.block ≠ K) (h2 : p2.block ≠ K) (h3 : p3.block ≠ K) (h4 : p4.block ≠ K) :
    ((w.setCell ⟨K, i, none⟩ u).setCell ⟨K, j, none⟩ u').cell? p1 = some v1 ∧ ((w.setCell ⟨K, i, none⟩ u).setCell ⟨K, j, none⟩ u').cell? p2 = some v2 ∧ ((w.setCell ⟨K, i, none⟩ u).setCell ⟨K, j, none⟩ u').cell? p3 = some v3 ∧ ((w.setCell ⟨K, i, none⟩ u).setCell ⟨K, j, none⟩ u').cell? p4 = some v4 :=
  ⟨set2_keep h.1 h1, set2_keep h.2.1 h2, set2_keep h.2.2.1 h3, set2_keep h.2.2.2 h4⟩

end Go.Proofs.Ytkfppicbningaaa

/- Walks: a copy of a term. -/
namespace Go.Proofs.Ytkfppicbningaaa
open Go.RowKit
set_option linter.unusedSimpArgs false
set_option linter.unusedVariables false

theorem below3 {w : World} (o1 o2 o3 : Obj) : Below w.heap.size w (((w.alloc o1).alloc o2).alloc o3) := (below2 o1 o2).alloc (by simp; omega) o3

theorem below4 {w : World} (o1 o2 o3 o4 : Obj) : Below w.heap.size w ((((w.alloc o1).alloc o2).alloc o3).alloc o4) := (below3 o1 o2 o3).alloc (by simp; omega) o4

theorem copy_step {w wr w1 w3 : World} {T k : Nat} {u : Value} {l : List Tm} {xs : List Value} {o1 o2 : Obj} {s s' : ByteArray} {a1 : Option Addr} {n1 c1 g cap : Nat} {c0 : Array Value} (hrow : Row wr (w.heap.size + 3) T (fun _ => False) u (l.take k) xs) (hb : Below w.heap.size w wr)
    (h1 : Blk wr (w.heap.size + 1) c0 T) (h2 : Blk wr (w.heap.size + 1 + 1) #[.string s, u] T) (hsz : w.heap.size + 3 ≤ wr.heap.size) (hlt : k < l.length)
    (hb1 : Below (wr.alloc o1).drew.heap.size (wr.alloc o1).drew w1) (ht : TV w1 (fun b => (wr.alloc o1).drew.heap.size ≤ b) (.agg #[.string s', .slice a1 n1 c1]) l[k])
    (hown : w3.ownsRow (w.heap.size + 3) T 2 (.slice (some ⟨g, 0, none⟩) ((l.take k).length + 1) cap) ((l.take k).length + 1) (xs ++ [.string s', .slice a1 n1 c1])) (hg : (w1.alloc o2).grownBy w3 u.ownBlock) (hat : u.ownBlock = some g ∨ g = (w1.alloc o2).heap.size) :
    let w4 := w3.setCell ⟨w.heap.size + 1 + 1, 1, none⟩ (.slice (some ⟨g, 0, none⟩) ((l.take k).length + 1) cap)
    Row w4 (w.heap.size + 3) T (fun _ => False) (.slice (some ⟨g, 0, none⟩) ((l.take k).length + 1) cap) (l.take (k + 1)) (xs ++ [.string s', .slice a1 n1 c1]) ∧ Below w.heap.size w w4 ∧ Blk w4 (w.heap.size + 1) c0 T ∧ Blk w4 (w.heap.size + 1 + 1) #[.string s, .slice (some ⟨g, 0, none⟩) ((l.take k).length + 1) cap] T ∧ w.heap.size + 3 ≤ w4.heap.size := by
  intro w4
  have hbb : Below wr.heap.size wr (wr.alloc o1).drew := ((Below.refl _ _).alloc (Nat.le_refl _) o1).drew
  have hr1 := hrow.below hbb
  have hlt' := hrow.own.lt
  have hs1 := hb1.size
  have hsg := hg.size
  simp at hs1 hsg
  have hp := hr1.push (w1 := w1) (w2 := w1.alloc o2) (w3 := w3) (by simp; omega) (fun _ h => h.elim) hb1 (ht.mono fun b h _ => Or.inr h) o2 rfl hown hg hat
  have hw3 : Below w.heap.size w w3 := (((hb.trans (hbb.mono (by omega))).trans (hb1.mono (by simp; omega))).alloc (by omega) o2).grown hg (by simp; omega) (fun j hj => by have := (hlt' j hj).1; omega)
  have hA : Below w.heap.size w w4 := hw3.setCell (p := ⟨w.heap.size + 1 + 1, 1, none⟩) (by simp; omega) _
  refine ⟨?_, hA, (copy_blk h1 hb1 hg (fun e => by have := (hlt' _ e.symm).1; omega)).setOther _ _ (by omega), ?_, by simp [w4, World.setCell]; omega⟩
  · rw [List.take_succ_eq_append_getElem hlt]
    exact hp.setCell (by omega) (fun h => h) _
  · exact (copy_blk h2 hb1 hg (fun e => by have := (hlt' _ e.symm).1; omega)).set 1 _

set_option maxHeartbeats 1000000 in
theorem copyOf_any (t : Tm) : ∀ (v : Value) (w : World) (X : Nat → Prop), TV w X v t → sizeL [t] ≤ 1000000 →
    Calls Try.prog 52 #[v] w fun e w' => ∃ v', e = .returned v' ∧ TV w' (fun b => w.heap.size ≤ b) v' t ∧ Below w.heap.size w w' := by
  induction t using Tm.ind with
  | h s l ih =>
    intro v w X hv hsm
    have IH := hide ih
    clear ih
    obtain ⟨a, c, rfl, hs⟩ := hv
    have hl := hs.1
    have hz : sizeL [(⟨s, l⟩ : Tm)] = 1 + sizeL l := by simp [sizeL]
    rw [hz] at hsm
    clear hz
    have hlen := sizeL_len l
    obtain ⟨i0, hi, hz0, hz1, hz2⟩ := info_parts Try.infoTerm
    go_enter Try.func52, Try.ntmps52
    go_wp2_with fail
    go_loopw [12] (fun i wr => ∃ (k : Nat) (u : Value) (xs : List Value), k ≤ l.length ∧ i = .int .i64 k ∧ Row wr (w.heap.size + 3) 28 (fun _ => False) u (l.take k) xs ∧ Below w.heap.size w wr ∧ Blk wr (w.heap.size + 1) #[.string ⟨#[]⟩, .slice none 0 0] 28 ∧ Blk wr (w.heap.size + 1 + 1) #[.string s, u] 28 ∧ w.heap.size + 3 ≤ wr.heap.size) (fun i wr => l.length - (intOf i).toNat)
    case atStart =>
      refine ⟨0, .slice none 0 0, [], Nat.zero_le _, rfl, Row.start _ _ _ _, below3 _ _ _, ?_, ?_, by simp⟩
      · have := ((Blk.new (w.alloc (.cells #[.string s, .slice a l.length c] 28)) #[.string ⟨#[]⟩, .slice none 0 0] 28)).alloc (.cells #[.string s, .slice none 0 0] 28)
        simpa using this
      · have := Blk.new ((w.alloc (.cells #[.string s, .slice a l.length c] 28)).alloc (.cells #[.string ⟨#[]⟩, .slice none 0 0] 28)) #[.string s, .slice none 0 0] 28
        simpa using this
    case round =>
      obtain ⟨k, u, xs, hk, rfl, hrow, hb, hbl1, hbl2, hsz⟩ := hrel
      have HROW := hide hrow
      have HBL1 := hide hbl1
      have HBL2 := hide hbl2
      have HB := hide hb
      clear hrow hbl1
      by_cases hlt : k < l.length
      · obtain ⟨b, o, a', c', rfl, d0, d1, hx⟩ := hs.get hb (fun _ _ h => h) k hlt
        have hc2 : ∀ o, (wr.alloc o).cell? ⟨w.heap.size + 1 + 1, 1, none⟩ = some u := fun o => (hbl2.alloc o).cell 1
        have HX := hide hx
        have hszk : sizeL [l[k]] ≤ 1000000 := by
          have := sizeL_take l k hlt; have := sizeL_take_le l (k + 1); omega
        clear hbl2 hb hx
        go_wp2_with fail
        go_region_law (first
          | (go_simp; go_at_call 52; refine (IH.out _ (List.getElem_mem hlt) _ _ X (by exact (HX.out.alloc _).later (below_drewN (Below.refl _ _) 1)) hszk).mono ?_; rintro e w1 ⟨v1, rfl, ht1, hb1⟩; obtain ⟨a1, c1, rfl, hs1⟩ := ht1; have hc3 : ∀ o, (w1.alloc o).cell? ⟨w.heap.size + 1 + 1, 1, none⟩ = some u := fun o => ((((HBL2.out.alloc _).drewN 1).below hb1 (by simp; omega)).alloc o).cell 1; have hc4 : w1.cell? ⟨w.heap.size + 1 + 1, 1, none⟩ = some u := (((HBL2.out.alloc _).drewN 1).below hb1 (by simp; omega)).cell 1)
          | (refine step_append_lies _ rfl _ _ 26 rfl (w.heap.size + 3) 28 i0 _ 2 40 Try.underlying26 hi hz0 hz1 hz2 rfl (by decide) u (l.take k).length xs rfl (by exact (((HROW.out.below ((Below.refl _ _).alloc (Nat.le_refl _) _)).below (below_drewN (Below.refl _ _) 1)).below hb1).own.alloc _) ⟨w1.heap.size, 0, none⟩ 1 1 [.string l[k].name, .slice a1 l[k].args.length c1] rfl rfl (cell_two_new _ _ _ _) (fun x hx => by simp at hx; rcases hx with rfl | rfl <;> rfl) (by decide) (by unfold maxLen; simp; omega) (by simp; omega) (by have := hb1.size; simp at this ⊢; omega) _ rfl ?_; intro g cap w3 hown3 hgrow3 hat3 hlt3; have hB3 := hide (copy_blk HBL2.out hb1 hgrow3 (HROW.out.ne (Nat.lt_succ_self _))); have hc5 : w3.cell? ⟨w.heap.size + 1 + 1, 1, none⟩ = some u := hB3.out.cell 1; have hf5 := hB3.out.frozen 1))
        all_goals
          have HFIN := hide (copy_step HROW.out HB.out HBL1.out HBL2.out hsz hlt hb1 ⟨a1, c1, rfl, hs1⟩ hown3 hgrow3 hat3)
          clear hown3 hgrow3 hat3 hc2 hc3 hc4
          go_wp2_with fail
          go_roundw
          case rel =>
            have hkl : (l.take k).length = k := by simp; omega
            obtain ⟨r1, r2, r3, r4, r5⟩ := HFIN.out
            simp only [hkl] at r1 r2 r3 r4 r5
            exact ⟨k + 1, _, _, by omega, by go_num, r1, r2, r3, r4, r5⟩
          case measure => simp [intOf]; omega
      · have htk : l.take k = l := List.take_of_length_le (by omega)
        have hc0 := hbl2.cell 0
        have hc1 := hbl2.cell 1
        have hr0 := HBL1.out.cell 0
        have hr1 := HBL1.out.cell 1
        have hrf := HBL1.out.frozen
        obtain ⟨a9, c9, hu9, hsl9⟩ := HROW.out.sl
        rw [htk] at hu9 hsl9
        have HSL := hide hsl9
        subst hu9
        clear hsl9 htk hbl2
        go_wp2_with fail
        refine bodyPost_ret (v := .agg #[.string s, .slice a9 l.length c9]) (by simp [results, Try.results52, go_sem, hr0, hr1, World.cell?_setCell_same, World.cell?_setCell_other]) rfl ⟨_, rfl, ?_, ?_⟩
        · refine ⟨a9, c9, rfl, ?_⟩
          have hk9 : Sl wr (fun b => w.heap.size + 3 ≤ b) a9 l := HSL.out.mono fun b h _ => h.elim False.elim id
          exact ((hk9.kept fun b hb => by rw [Below.heap_setCell _ _ _ _ (by simp; omega), Below.heap_setCell _ _ _ _ (by simp; omega)]).mono fun b hb _ => by omega)
        · exact (HB.out.setCell (by simp) _).setCell (by simp) _
#print axioms copyOf_any
end Go.Proofs.Ytkfppicbningaaa

/- Walks: copies of terms, counted. -/
namespace Go.Proofs.Ytkfppicbningaaa
open Go.RowKit
set_option linter.unusedSimpArgs false
set_option linter.unusedVariables false
set_option maxRecDepth 8000

/-- What a counted making of a term gives: all of it, if it is not too great; else the count is below nought. -/
def CpPost (w : World) (F : Nat) (sv : Value) (t : Tm) (n : Nat) (e : Ending) (w' : World) : Prop :=
  ∃ (s' : ByteArray) (a' : Option Addr) (l' c' : Nat) (m : Int), e = .returned (.agg #[.string s', .slice a' l' c']) ∧ Blk w' F #[.int .i64 m, sv] 102 ∧ Ex F w w' ∧ (sizeL [t] ≤ n → m = (n : Int) - sizeL [t] ∧ s' = t.name ∧ l' = t.args.length ∧ Sl w' (fun b => w.heap.size ≤ b) a' t.args) ∧ (n < sizeL [t] → m = -1)

theorem fcopy_of (F : Nat) (sv : Value) (t : Tm) (n : Nat) (a : Option Addr) (c : Nat) (w : World) (hFl : F < w.heap.size) (h : Calls Try.prog 92 #[.pointer (some ⟨F, 0, none⟩), .agg #[.string t.name, .slice a t.args.length c], .func (.func 93) #[.pointer (some ⟨F, 0, none⟩)] #[]] ((w.alloc (.cells #[.string t.name, .slice a t.args.length c] 28)).alloc (.cells #[.string ⟨#[]⟩, .slice none 0 0] 28)) fun e w' => CpPost ((w.alloc (.cells #[.string t.name, .slice a t.args.length c] 28)).alloc (.cells #[.string ⟨#[]⟩, .slice none 0 0] 28)) F sv t n e w') :
    Calls Try.prog 93 #[.pointer (some ⟨F, 0, none⟩), .agg #[.string t.name, .slice a t.args.length c]] w fun e w' => CpPost w F sv t n e w' := by
  have hmf : ∀ (fn : Fn) (first cap : Array Value) (w : World), (Instr.makeFunc fn first cap).run Try.prog w = .ok (.func fn first cap) w := fun _ _ _ _ => rfl
  have H := hide h
  clear h
  go_enter Try.func93, Try.ntmps93
  go_wp2_with fail
  refine H.out.mono ?_
  rintro e w1 ⟨s', a', l', c', m, rfl, hF1, hx1, hy1, hn1⟩
  have R1 : Hid (Blk w1 (w.heap.size + 1) #[.string ⟨#[]⟩, .slice none 0 0] 28) := by
    have h := (Blk.new (w.alloc (.cells #[.string t.name, .slice a t.args.length c] 28)) #[.string ⟨#[]⟩, .slice none 0 0] 28).ex hx1 (by simp; omega)
    unfold Hid
    simpa using h
  have HX := hide ((((Ex.refl F w).alloc (.cells #[.string t.name, .slice a t.args.length c] 28)).alloc (.cells #[.string ⟨#[]⟩, .slice none 0 0] 28)).trans hx1)
  have HF := hide hF1
  have HY := hide hy1
  have HN := hide hn1
  clear hF1 hx1 hy1 hn1
  have r0 : w1.cell? ⟨w.heap.size + 1, 0, none⟩ = some (.string ⟨#[]⟩) := R1.out.cell 0
  have r1 : w1.cell? ⟨w.heap.size + 1, 1, none⟩ = some (.slice none 0 0) := R1.out.cell 1
  have rf := R1.out.frozen
  go_wp2_with fail
  refine bodyPost_ret (v := .agg #[.string s', .slice a' l' c']) (by simp [results, Try.results93, go_sem, World.cell?_setCell_same, World.cell?_setCell_other, r0, r1]) rfl ?_
  refine ⟨s', a', l', c', m, rfl, (HF.out.setOther _ _ (by omega)).setOther _ _ (by omega), (HX.out.setNew (by omega) _ _).setNew (by omega) _ _, fun h => ?_, HN.out⟩
  obtain ⟨h1, h2, h3, h4⟩ := HY.out h
  refine ⟨h1, h2, h3, (h4.kept fun b hb => ?_).mono fun b hb _ => by simp at hb; omega⟩
  simp at hb
  rw [Below.heap_setCell _ _ _ _ (by simp; omega), Below.heap_setCell _ _ _ _ (by simp; omega)]

theorem Sl.ex {w w' : World} {F : Nat} {X : Nat → Prop} {a : Option Addr} {l : List Tm} (h : Sl w X a l) (he : Ex F w w') (hX : ∀ b, X b → b ≠ F) : Sl w' X a l :=
  ((h.mono (Y := fun b => X b ∧ b < w.heap.size) fun b h1 h2 => ⟨h1, h2⟩).kept fun b hb => he.block b hb.2 (hX b hb.1)).mono fun b hb _ => hb.1

/-- What stands beside the row. -/
def KnSet (w : World) (F O : Nat) (s : ByteArray) (u : Value) (cF : Array Value) (wr : World) : Prop :=
  Ex F w wr ∧ Blk wr (w.heap.size + 1) #[.string ⟨#[]⟩, .slice none 0 0] 28 ∧ Blk wr O #[.string s, u] 28 ∧ Blk wr F cF 102 ∧ O < wr.heap.size

theorem kn_set {w wr w1 w3 : World} {F O : Nat} {s : ByteArray} {u v : Value} {cF cF' : Array Value} {o2 : Obj} (hFw : F < w.heap.size) (hO : w.heap.size + 2 ≤ O) (h : KnSet w F O s u cF wr) (hu : ∀ k, u.ownBlock = some k → O + 1 ≤ k)
    (he1 : Ex F wr w1) (hF1 : Blk w1 F cF' 102) (hg : (w1.alloc o2).grownBy w3 u.ownBlock) : KnSet w F O s v cF' (w3.setCell ⟨O, 1, none⟩ v) := by
  obtain ⟨h1, h2, h3, h4, h5⟩ := h
  have hne : ∀ b, b < O + 1 → some b ≠ u.ownBlock := fun b hb e => by have := hu b e.symm; omega
  have hs1 := he1.size
  have hs3 := hg.size
  simp at hs3
  refine ⟨(((h1.trans he1).alloc o2).grown hg (fun k hk => by have := hu k hk; omega)).setNew (by omega) _ _, ?_, ?_, ?_, by simp [World.setCell]; omega⟩
  · exact (((h2.ex he1 (by omega)).alloc o2).grown hg (hne _ (by omega))).setOther _ _ (by omega)
  · exact (((h3.ex he1 (by omega)).alloc o2).grown hg (hne _ (by omega))).set 1 _
  · exact ((hF1.alloc o2).grown hg (hne _ (by omega))).setOther _ _ (by omega)

theorem kn_row {wr w1 w3 : World} {F O : Nat} {u : Value} {L : List Tm} {xs : List Value} {o2 : Obj} {s' : ByteArray} {a1 : Option Addr} {n1 c1 g cap : Nat} {t : Tm} (hFO : F < O) (hOr : O < wr.heap.size) (hrow : Row wr (O + 1) 28 (fun _ => False) u L xs)
    (he1 : Ex F wr w1) (ht : TV w1 (fun b => wr.heap.size ≤ b) (.agg #[.string s', .slice a1 n1 c1]) t)
    (hown : w3.ownsRow (O + 1) 28 2 (.slice (some ⟨g, 0, none⟩) (L.length + 1) cap) (L.length + 1) (xs ++ [.string s', .slice a1 n1 c1])) (hg : (w1.alloc o2).grownBy w3 u.ownBlock) (hat : u.ownBlock = some g ∨ g = (w1.alloc o2).heap.size) :
    Row (w3.setCell ⟨O, 1, none⟩ (.slice (some ⟨g, 0, none⟩) (L.length + 1) cap)) (O + 1) 28 (fun _ => False) (.slice (some ⟨g, 0, none⟩) (L.length + 1) cap) (L ++ [t]) (xs ++ [.string s', .slice a1 n1 c1]) := by
  obtain ⟨wm, hbm, hsm, hem⟩ := he1.mid
  have hrm := hrow.ex hem (by omega) (fun h => h)
  exact (hrm.push (w1 := w1) (w2 := w1.alloc o2) (w3 := w3) (by omega) (fun _ h => h.elim) hbm (ht.mono fun b h _ => Or.inr (by omega)) o2 rfl hown hg hat).setCell (by omega) (fun h => h) _

def KnInv (w : World) (F O : Nat) (s : ByteArray) (sv : Value) (l : List Tm) (n : Nat) (i : Value) (wr : World) : Prop :=
  ∃ (k : Nat) (u : Value), k ≤ l.length ∧ i = .int .i64 (k : Int) ∧
    ((∃ (m : Nat) (xs : List Value), (m : Int) = (n : Int) - 1 - sizeL (l.take k) ∧ KnSet w F O s u #[.int .i64 (m : Int), sv] wr ∧ Row wr (O + 1) 28 (fun _ => False) u (l.take k) xs) ∨
     (n < 1 + sizeL l ∧ KnSet w F O s u #[.int .i64 (-1), sv] wr ∧ ∃ a9 l9 c9, u = .slice a9 l9 c9))

set_option maxHeartbeats 1000000 in
theorem knotC_any (F : Nat) (sv : Value) (t : Tm) : ∀ (n : Nat) (v : Value) (w : World) (X : Nat → Prop), TV w X v t → (∀ b, X b → b ≠ F) → n ≤ 1000000 → Blk w F #[.int .i64 (n : Int), sv] 102 →
    Calls Try.prog 92 #[.pointer (some ⟨F, 0, none⟩), v, .func (.func 93) #[.pointer (some ⟨F, 0, none⟩)] #[]] w fun e w' => CpPost w F sv t n e w' := by
  induction t using Tm.ind with
  | h s l ih =>
    intro n v w X hv hXF hn hF
    obtain ⟨a, c, rfl, hs⟩ := hv
    have IH := hide ih
    clear ih
    obtain ⟨i0, hi0, hz0, hz1, hz2⟩ := info_parts Try.infoTerm
    have f0 : ∀ o, (w.alloc o).cell? ⟨F, 0, none⟩ = some (.int .i64 (n : Int)) := fun o => (hF.alloc o).cell 0
    have ff : ∀ o, (w.alloc o).frozen? ⟨F, 0, none⟩ = false := fun o => (hF.alloc o).frozen 0
    have hFl : F < w.heap.size := hF.lt
    go_enter Try.func92, Try.ntmps92
    go_wp2_with fail
    have E3 : Hid (KnSet w F (w.heap.size + 1 + 1) s (.slice none 0 0) #[.int .i64 ((n : Int) - 1), sv] ((((w.setCell ⟨F, 0, none⟩ (.int .i64 ((n : Int) - 1))).alloc (.cells #[.string s, .slice a l.length c] 28)).alloc (.cells #[.string ⟨#[]⟩, .slice none 0 0] 28)).alloc (.cells #[.string s, .slice none 0 0] 28))) := by
      refine ⟨((((Ex.refl F w).set 0 _).alloc _).alloc _).alloc _, ?_, ?_, (((hF.set 0 _).alloc _).alloc _).alloc _, by simp [World.setCell]⟩
      · have h := (Blk.new ((w.setCell ⟨F, 0, none⟩ (.int .i64 ((n : Int) - 1))).alloc (.cells #[.string s, .slice a l.length c] 28)) #[.string ⟨#[]⟩, .slice none 0 0] 28).alloc (.cells #[.string s, .slice none 0 0] 28)
        simpa [World.setCell] using h
      · have h := Blk.new (((w.setCell ⟨F, 0, none⟩ (.int .i64 ((n : Int) - 1))).alloc (.cells #[.string s, .slice a l.length c] 28)).alloc (.cells #[.string ⟨#[]⟩, .slice none 0 0] 28)) #[.string s, .slice none 0 0] 28
        simpa [World.setCell] using h
    generalize ((((w.setCell ⟨F, 0, none⟩ (.int .i64 ((n : Int) - 1))).alloc (.cells #[.string s, .slice a l.length c] 28)).alloc (.cells #[.string ⟨#[]⟩, .slice none 0 0] 28)).alloc (.cells #[.string s, .slice none 0 0] 28)) = w3 at *
    generalize hOe : w.heap.size + 1 + 1 = O at *
    have hO : w.heap.size + 2 ≤ O := by omega
    clear hOe
    clear f0 ff
    have HS := hide hs
    have hl := hs.1
    have HXF := hide hXF
    have hz : sizeL [(⟨s, l⟩ : Tm)] = 1 + sizeL l := by simp [sizeL]
    clear hs hXF
    go_loopw [23] (fun i wr => KnInv w F O s sv l n i wr) (fun i wr => l.length - (intOf i).toNat)
    case atStart =>
      refine ⟨0, .slice none 0 0, Nat.zero_le _, rfl, ?_⟩
      by_cases hn0 : n = 0
      · subst hn0
        exact Or.inr ⟨by omega, E3.out, none, 0, 0, rfl⟩
      · refine Or.inl ⟨n - 1, [], by simp [sizeL]; omega, ?_, Row.start _ _ _ _⟩
        rw [show ((n - 1 : Nat) : Int) = (n : Int) - 1 by omega]
        exact E3.out
    case round =>
      obtain ⟨k, u, hk, rfl, hcase⟩ := hrel
      rcases hcase with ⟨m, xs, hm, hset, hrow⟩ | ⟨hbig, hset, a9, l9, c9, rfl⟩
      · have XS := hide hset
        have XW := hide hrow
        have HMM := hide hm
        clear hset hrow
        by_cases hlt : k < l.length
        · obtain ⟨b, o, a', c', rfl, d0, d1, hx⟩ := (HS.out.ex XS.out.1 HXF.out).get (Below.refl _ _) (fun _ _ h => h) k hlt
          obtain ⟨av, cv, ev, hsx⟩ := hx
          simp at ev
          obtain ⟨rfl, rfl⟩ := ev
          have hmn : m ≤ 1000000 := by omega
          have HOF : Hid (O ≠ F) := by unfold Hid; omega
          have HFO1 : Hid (F < O + 1) := by unfold Hid; omega
          have hlen := sizeL_len l
          have hsk : (l.take k).length = k := by simp; omega
          have hkn : k ≤ 1000000 := by have h1 := sizeL_len (l.take k); rw [hsk] at h1; omega
          have HL1 : Hid ((l.take k).length + 1 ≤ maxLen ∧ ((l.take k).length + 1) * 40 ≤ 140737488355328) := by unfold Hid; rw [hsk]; exact ⟨by unfold maxLen; omega, by omega⟩
          clear hsk
          have IHQ : Hid (Calls Try.prog 93 #[.pointer (some ⟨F, 0, none⟩), .agg #[.string l[k].name, .slice a' l[k].args.length c']] (wr.alloc (.cells #[.string l[k].name, .slice a' l[k].args.length c'] 28)).drew fun e w'' => CpPost (wr.alloc (.cells #[.string l[k].name, .slice a' l[k].args.length c'] 28)).drew F sv l[k] m e w'') := fcopy_of F sv l[k] m a' c' _ (by have := XS.out.1.size; simp; omega) (IH.out l[k] (List.getElem_mem hlt) m _ _ X ⟨a', c', rfl, ((hsx.later ((Below.refl _ _).alloc (Nat.le_refl _) (.cells #[.string l[k].name, .slice a' l[k].args.length c'] 28))).later ((Below.refl _ _).drew)).later (((Below.refl _ _).alloc (Nat.le_refl _) _).alloc (by simp) _)⟩ HXF.out hmn (by exact ((((XS.out.2.2.2.1.alloc _).drewN 1).alloc _).alloc _)))
          have f0 : ∀ o, (wr.alloc o).cell? ⟨F, 0, none⟩ = some (.int .i64 (m : Int)) := fun o => (XS.out.2.2.2.1.alloc o).cell 0
          have o1 : ∀ o, (wr.alloc o).cell? ⟨O, 1, none⟩ = some u := fun o => (XS.out.2.2.1.alloc o).cell 1
          have hm0 : ¬ (m : Int) < 0 := by omega
          by_cases hle : sizeL [l[k]] ≤ m
          · have IHG : Hid (Calls Try.prog 93 #[.pointer (some ⟨F, 0, none⟩), .agg #[.string l[k].name, .slice a' l[k].args.length c']] (wr.alloc (.cells #[.string l[k].name, .slice a' l[k].args.length c'] 28)).drew fun e w'' => ∃ a1 c1, e = .returned (.agg #[.string l[k].name, .slice a1 l[k].args.length c1]) ∧ Blk w'' F #[.int .i64 ((m : Int) - sizeL [l[k]]), sv] 102 ∧ Ex F wr w'' ∧ Sl w'' (fun b => wr.heap.size ≤ b) a1 l[k].args) := IHQ.out.mono fun e w'' hp => by
              obtain ⟨s1, a1, l1, c1, m1, h1, h2, h3, h4, _⟩ := hp
              obtain ⟨rfl, rfl, rfl, h5⟩ := h4 hle
              exact ⟨a1, c1, h1, h2, (((Ex.refl F wr).alloc _).drew).trans h3, h5.mono fun b hb _ => by simp at hb; omega⟩
            clear IHQ
            go_wp2_with fail
            go_region_law (first
              | (go_simp; go_at_call 93; refine IHG.out.mono ?_; rintro e w1 ⟨a1, c1, rfl, hF1, he1, hs1⟩; have hc3 : ∀ o, (w1.alloc o).cell? ⟨O, 1, none⟩ = some u := fun o => ((Blk.ex XS.out.2.2.1 he1 HOF.out).alloc o).cell 1; have hc4 : w1.cell? ⟨O, 1, none⟩ = some u := (Blk.ex XS.out.2.2.1 he1 HOF.out).cell 1)
              | (refine step_append_lies _ rfl _ _ 26 rfl (O + 1) 28 i0 _ 2 40 Try.underlying26 hi0 hz0 hz1 hz2 rfl (by decide) u (l.take k).length xs rfl (by exact (Row.ex (B := F) XW.out he1 HFO1.out (fun h => h)).own.alloc _) ⟨w1.heap.size, 0, none⟩ 1 1 [.string l[k].name, .slice a1 l[k].args.length c1] rfl rfl (cell_two_new _ _ _ _) (fun x hx => by simp at hx; rcases hx with rfl | rfl <;> rfl) (by decide) HL1.out.1 HL1.out.2 (by have := he1.size; have := XS.out.2.2.2.2; simp; omega) _ rfl ?_; intro g cap w3 hown3 hgrow3 hat3 hlt3; have hB3 := hide (((Blk.ex XS.out.2.2.1 he1 HOF.out).alloc _).grown hgrow3 (XW.out.ne (Nat.lt_succ_self _))); have hc5 : w3.cell? ⟨O, 1, none⟩ = some u := hB3.out.cell 1; have hf5 := hB3.out.frozen 1))
            all_goals
              have HK := hide (kn_set (v := .slice (some ⟨g, 0, none⟩) ((l.take k).length + 1) cap) hFl hO XS.out (fun j hj => (XW.out.own.lt j hj).1) he1 hF1 hgrow3)
              have HRW := hide (kn_row (by omega) XS.out.2.2.2.2 XW.out he1 ⟨a1, c1, rfl, hs1⟩ hown3 hgrow3 hat3)
              clear hown3 hgrow3 hat3 hc3 hc4 hc5 hf5 hB3 hF1 he1 hs1 hlt3
              go_wp2_with fail
              go_roundw
              case rel =>
                have hkl : (l.take k).length = k := by simp; omega
                have h1 := HK.out
                have h2 := HRW.out
                have hmm := HMM.out
                simp only [hkl] at h1 h2
                refine ⟨k + 1, .slice (some ⟨g, 0, none⟩) (k + 1) cap, by omega, by go_num, Or.inl ⟨m - sizeL [l[k]], xs ++ [.string l[k].name, .slice a1 l[k].args.length c1], by rw [sizeL_take l k hlt]; omega, ?_, ?_⟩⟩
                · rw [show ((m - sizeL [l[k]] : Nat) : Int) = (m : Int) - sizeL [l[k]] by omega]
                  exact h1
                · rw [List.take_succ_eq_append_getElem hlt]
                  exact h2
              case measure => simp [intOf]; omega
          · have IHG : Hid (Calls Try.prog 93 #[.pointer (some ⟨F, 0, none⟩), .agg #[.string l[k].name, .slice a' l[k].args.length c']] (wr.alloc (.cells #[.string l[k].name, .slice a' l[k].args.length c'] 28)).drew fun e w'' => ∃ s1 a1 l1 c1, e = .returned (.agg #[.string s1, .slice a1 l1 c1]) ∧ Blk w'' F #[.int .i64 (-1), sv] 102 ∧ Ex F wr w'') := IHQ.out.mono fun e w'' hp => by
              obtain ⟨s1, a1, l1, c1, m1, h1, h2, h3, _, h4⟩ := hp
              obtain rfl := h4 (by omega)
              exact ⟨s1, a1, l1, c1, h1, h2, (((Ex.refl F wr).alloc _).drew).trans h3⟩
            clear IHQ
            go_wp2_with fail
            go_region_law (first
              | (go_simp; go_at_call 93; refine IHG.out.mono ?_; rintro e w1 ⟨s1, a1, l1, c1, rfl, hF1, he1⟩; have hc3 : ∀ o, (w1.alloc o).cell? ⟨O, 1, none⟩ = some u := fun o => ((Blk.ex XS.out.2.2.1 he1 HOF.out).alloc o).cell 1; have hc4 : w1.cell? ⟨O, 1, none⟩ = some u := (Blk.ex XS.out.2.2.1 he1 HOF.out).cell 1)
              | (refine step_append_lies _ rfl _ _ 26 rfl (O + 1) 28 i0 _ 2 40 Try.underlying26 hi0 hz0 hz1 hz2 rfl (by decide) u (l.take k).length xs rfl (by exact (Row.ex (B := F) XW.out he1 HFO1.out (fun h => h)).own.alloc _) ⟨w1.heap.size, 0, none⟩ 1 1 [.string s1, .slice a1 l1 c1] rfl rfl (cell_two_new _ _ _ _) (fun x hx => by simp at hx; rcases hx with rfl | rfl <;> rfl) (by decide) HL1.out.1 HL1.out.2 (by have := he1.size; have := XS.out.2.2.2.2; simp; omega) _ rfl ?_; intro g cap w3 hown3 hgrow3 hat3 hlt3; have hB3 := hide (((Blk.ex XS.out.2.2.1 he1 HOF.out).alloc _).grown hgrow3 (XW.out.ne (Nat.lt_succ_self _))); have hc5 : w3.cell? ⟨O, 1, none⟩ = some u := hB3.out.cell 1; have hf5 := hB3.out.frozen 1))
            all_goals
              have HK := hide (kn_set (v := .slice (some ⟨g, 0, none⟩) ((l.take k).length + 1) cap) hFl hO XS.out (fun j hj => (XW.out.own.lt j hj).1) he1 hF1 hgrow3)
              clear hown3 hgrow3 hat3 hc3 hc4 hc5 hf5 hB3 hF1 he1 hlt3
              go_wp2_with fail
              go_roundw
              case rel =>
                have hkl : (l.take k).length = k := by simp; omega
                have h0 := HK.out
                have hmm := HMM.out
                simp only [hkl] at h0
                refine ⟨k + 1, .slice (some ⟨g, 0, none⟩) (k + 1) cap, by omega, by go_num, Or.inr ⟨?_, h0, _, _, _, rfl⟩⟩
                have h1 := sizeL_take l k hlt
                have h2 := sizeL_take_le l (k + 1)
                omega
              case measure => simp [intOf]; omega
        · have htk : l.take k = l := List.take_of_length_le (by omega)
          rw [htk] at XW HMM
          obtain ⟨a9, c9, hu9, hsl9⟩ := XW.out.sl
          subst hu9
          have S9 := hide hsl9
          clear hsl9
          have r0 : wr.cell? ⟨w.heap.size + 1, 0, none⟩ = some (.string ⟨#[]⟩) := XS.out.2.1.cell 0
          have r1 : wr.cell? ⟨w.heap.size + 1, 1, none⟩ = some (.slice none 0 0) := XS.out.2.1.cell 1
          have rf := XS.out.2.1.frozen
          have o0 : wr.cell? ⟨O, 0, none⟩ = some (.string s) := XS.out.2.2.1.cell 0
          have o1 : wr.cell? ⟨O, 1, none⟩ = some (.slice a9 l.length c9) := XS.out.2.2.1.cell 1
          go_wp2_with fail
          refine bodyPost_ret (v := .agg #[.string s, .slice a9 l.length c9]) (by simp [results, Try.results92, go_sem, World.cell?_setCell_same, World.cell?_setCell_other, r0, r1]) rfl ?_
          have hmm := HMM.out
          refine ⟨s, a9, l.length, c9, m, rfl, (XS.out.2.2.2.1.setOther _ _ (by omega)).setOther _ _ (by omega), (XS.out.1.setNew (by omega) _ _).setNew (by omega) _ _, fun h => ⟨by rw [hz]; omega, rfl, rfl, (S9.out.kept fun b hb => ?_).mono fun b hb _ => ?_⟩, fun h => by omega⟩
          · have hb' : O + 1 ≤ b := hb.elim False.elim id
            rw [Below.heap_setCell _ _ _ _ (by simp; omega), Below.heap_setCell _ _ _ _ (by simp; omega)]
          · have hb' : O + 1 ≤ b := hb.elim False.elim id
            omega
      · have XS := hide hset
        clear hset
        have f0 : ∀ o, (wr.alloc o).cell? ⟨F, 0, none⟩ = some (.int .i64 (-1)) := fun o => (XS.out.2.2.2.1.alloc o).cell 0
        by_cases hlt : k < l.length
        · obtain ⟨b, o, a', c', rfl, d0, d1, hx⟩ := (HS.out.ex XS.out.1 HXF.out).get (Below.refl _ _) (fun _ _ h => h) k hlt
          clear hx
          have o0 : ∀ o, (wr.alloc o).cell? ⟨O, 0, none⟩ = some (.string s) := fun o => (XS.out.2.2.1.alloc o).cell 0
          have o1 : ∀ o, (wr.alloc o).cell? ⟨O, 1, none⟩ = some (.slice a9 l9 c9) := fun o => (XS.out.2.2.1.alloc o).cell 1
          have r0 : wr.cell? ⟨w.heap.size + 1, 0, none⟩ = some (.string ⟨#[]⟩) := XS.out.2.1.cell 0
          have r1 : wr.cell? ⟨w.heap.size + 1, 1, none⟩ = some (.slice none 0 0) := XS.out.2.1.cell 1
          have rf := XS.out.2.1.frozen
          have hRl : w.heap.size + 1 < wr.heap.size := XS.out.2.1.lt
          go_wp2_with fail
          refine bodyPost_ret (v := .agg #[.string s, .slice a9 l9 c9]) (by simp [results, Try.results92, go_sem, World.cell?_setCell_same, World.cell?_setCell_other, r0, r1, hRl, World.cell?_alloc_old]) rfl ?_
          exact ⟨s, a9, l9, c9, -1, rfl, ((XS.out.2.2.2.1.setOther _ _ (by omega)).setOther _ _ (by omega)).alloc _, ((XS.out.1.setNew (by omega) _ _).setNew (by omega) _ _).alloc _, fun h => by omega, fun _ => rfl⟩
        · have r0 : wr.cell? ⟨w.heap.size + 1, 0, none⟩ = some (.string ⟨#[]⟩) := XS.out.2.1.cell 0
          have r1 : wr.cell? ⟨w.heap.size + 1, 1, none⟩ = some (.slice none 0 0) := XS.out.2.1.cell 1
          have rf := XS.out.2.1.frozen
          have o0 : wr.cell? ⟨O, 0, none⟩ = some (.string s) := XS.out.2.2.1.cell 0
          have o1 : wr.cell? ⟨O, 1, none⟩ = some (.slice a9 l9 c9) := XS.out.2.2.1.cell 1
          go_wp2_with fail
          refine bodyPost_ret (v := .agg #[.string s, .slice a9 l9 c9]) (by simp [results, Try.results92, go_sem, World.cell?_setCell_same, World.cell?_setCell_other, r0, r1]) rfl ?_
          exact ⟨s, a9, l9, c9, -1, rfl, (XS.out.2.2.2.1.setOther _ _ (by omega)).setOther _ _ (by omega), (XS.out.1.setNew (by omega) _ _).setNew (by omega) _ _, fun h => by omega, fun _ => rfl⟩
#print axioms knotC_any
end Go.Proofs.Ytkfppicbningaaa

/- Bindings in memory. -/
namespace Go.Proofs.Ytkfppicbningaaa
open Go.RowKit
set_option linter.unusedSimpArgs false
set_option linter.unusedVariables false

/-- A variable and what stands for it. -/
structure Bd where
  nm : ByteArray
  t : Tm

/-- A list of bindings in memory. -/
def BV (w : World) (X : Nat → Prop) (v : Value) (l : List Bd) : Prop :=
  ∃ a c, v = .slice a l.length c ∧ (l.length ≤ 9223372036854775807 ∧ l.length ≤ c) ∧ (l = [] ∨ ∃ b o, a = some ⟨b, o, none⟩ ∧ X b ∧ ∀ i (h : i < l.length), w.cell? ⟨b, o + i * 3, none⟩ = some (.string l[i].nm) ∧ w.cell? ⟨b, o + i * 3 + 1, none⟩ = some (.string l[i].t.name) ∧ ∃ a' c', w.cell? ⟨b, o + i * 3 + 2, none⟩ = some (.slice a' l[i].t.args.length c') ∧ Sl w X a' l[i].t.args)

theorem BV.kept {w w' : World} {X : Nat → Prop} {v : Value} {l : List Bd} (h : BV w X v l) (hk : ∀ b, X b → w'.heap[b]? = w.heap[b]?) : BV w' X v l := by
  obtain ⟨a, c, e, hl, h⟩ := h
  refine ⟨a, c, e, hl, ?_⟩
  rcases h with h | ⟨b, o, ea, hX, h⟩
  · exact Or.inl h
  · refine Or.inr ⟨b, o, ea, hX, fun i hi => ?_⟩
    obtain ⟨h1, h2, a', c', h3, h4⟩ := h i hi
    have hb := hk b hX
    exact ⟨by simpa [World.cell?, hb] using h1, by simpa [World.cell?, hb] using h2, a', c', by simpa [World.cell?, hb] using h3, h4.kept hk⟩
theorem cell_lt {w : World} {b o : Nat} {v : Value} (h : w.cell? ⟨b, o, none⟩ = some v) : b < w.heap.size := by
  rcases Nat.lt_or_ge b w.heap.size with h' | h'
  · exact h'
  · simp [World.cell?, Array.getElem?_eq_none h'] at h
theorem BV.mono {w : World} {X Y : Nat → Prop} {v : Value} {l : List Bd} (h : BV w X v l) (hk : ∀ b, X b → b < w.heap.size → Y b) : BV w Y v l := by
  obtain ⟨a, c, e, hl, h⟩ := h
  refine ⟨a, c, e, hl, ?_⟩
  rcases h with h | ⟨b, o, ea, hX, h⟩
  · exact Or.inl h
  · by_cases h0 : l = []
    · exact Or.inl h0
    · have hp : 0 < l.length := List.length_pos_iff.2 h0
      refine Or.inr ⟨b, o, ea, hk b hX (cell_lt (h 0 hp).1), fun i hi => ?_⟩
      obtain ⟨h1, h2, a', c', h3, h4⟩ := h i hi
      exact ⟨h1, h2, a', c', h3, h4.mono hk⟩
theorem BV.later {w w' : World} {X : Nat → Prop} {v : Value} {l : List Bd} (h : BV w X v l) (hb : Below w.heap.size w w') : BV w' X v l :=
  ((h.mono (Y := fun b => X b ∧ b < w.heap.size) fun b h1 h2 => ⟨h1, h2⟩).kept fun b hx => hb.block b hx.2).mono fun b hx _ => hx.1
theorem BV.alloc {w : World} {X : Nat → Prop} {v : Value} {l : List Bd} (h : BV w X v l) (o : Obj) : BV (w.alloc o) X v l := h.later ((Below.refl _ _).alloc (Nat.le_refl _) o)
theorem BV.get {w : World} {X : Nat → Prop} {a : Option Addr} {n c : Nat} {l : List Bd} (h : BV w X (.slice a n c) l) (i : Nat) (hi : i < l.length) :
    ∃ b o a' c', a = some ⟨b, o, none⟩ ∧ w.cell? ⟨b, o + i * 3, none⟩ = some (.string l[i].nm) ∧ w.cell? ⟨b, o + i * 3 + 1, none⟩ = some (.string l[i].t.name) ∧ w.cell? ⟨b, o + i * 3 + 2, none⟩ = some (.slice a' l[i].t.args.length c') ∧ Sl w X a' l[i].t.args := by
  obtain ⟨a2, c2, e, hl, h⟩ := h
  simp at e
  obtain ⟨rfl, rfl, rfl⟩ := e
  rcases h with h | ⟨b, o, ea, hX, h⟩
  · subst h; simp at hi
  · obtain ⟨h1, h2, a', c', h3, h4⟩ := h i hi
    exact ⟨b, o, a', c', ea, h1, h2, h3, h4⟩

theorem bytes_inj {a b : ByteArray} (h : a.toList = b.toList) : a = b := by
  rw [ByteArray.toList_eq, ByteArray.toList_eq] at h
  cases a with
  | mk x =>
    cases b with
    | mk y => congr 1; exact Array.toList_inj.1 h
theorem bytes_yes {a b : ByteArray} (h : a = b) : (a.toList == b.toList) = true := by rw [h]; simp
theorem bytes_no {a b : ByteArray} (h : a ≠ b) : (a.toList == b.toList) = false := beq_eq_false_iff_ne.2 fun e => h (bytes_inj e)

/-- What stands for a variable. -/
def forT : List Bd → ByteArray → Option Tm
  | [], _ => none
  | d :: r, n => if d.nm = n then some d.t else forT r n
theorem forT_take {l : List Bd} {n : ByteArray} {k : Nat} (hk : k < l.length) (h : forT (l.take k) n = none) : (l[k].nm = n → forT l n = some l[k].t) ∧ (l[k].nm ≠ n → forT (l.take (k + 1)) n = none) := by
  induction l generalizing k with
  | nil => simp at hk
  | cons d r ih =>
    cases k with
    | zero =>
      refine ⟨fun e => ?_, fun e => ?_⟩
      · simp only [List.getElem_cons_zero] at e; simp [forT, e]
      · simp only [List.getElem_cons_zero] at e; simp [forT, e]
    | succ k =>
      simp only [List.take_succ_cons, forT] at h
      by_cases hd : d.nm = n
      · rw [if_pos hd] at h; cases h
      · rw [if_neg hd] at h
        obtain ⟨h1, h2⟩ := ih (by simpa using hk) h
        refine ⟨fun e => ?_, fun e => ?_⟩
        · rw [forT, if_neg hd]; exact h1 (by simpa using e)
        · rw [List.take_succ_cons, forT, if_neg hd]; exact h2 (by simpa using e)
end Go.Proofs.Ytkfppicbningaaa

/- Maps by texts, as they lie in memory. -/
namespace Go.Proofs.Ytkfppicbningaaa
open Go.RowKit
set_option linter.unusedSimpArgs false
set_option linter.unusedVariables false

def mapGet : List (ByteArray × Value) → ByteArray → Option Value
  | [], _ => none
  | p :: r, n => if p.1 = n then some p.2 else mapGet r n

/-- The entries' stamps: each below the clock, none twice. -/
def Stamps (es : Array MapEntry) (clk : Nat) : Prop := (∀ x ∈ es.toList, x.born < clk) ∧ (es.toList.map (·.born)).Nodup
/-- The map at r has these keys, in the order in which they came, and what stands for them. -/
def MapAt (w : World) (r : Nat) (L : List (ByteArray × Value)) : Prop :=
  ∃ es clk, w.heap[r]? = some (.map es clk) ∧ es.toList.map (fun e => (e.key, e.val)) = L.map (fun p => (Value.string p.1, p.2)) ∧ Stamps es clk
theorem Stamps.push {es : Array MapEntry} {clk : Nat} (h : Stamps es clk) (k v : Value) : Stamps (es.push { key := k, val := v, born := clk }) (clk + 1) := by
  obtain ⟨h1, h2⟩ := h
  refine ⟨fun x hx => ?_, ?_⟩
  · rw [Array.toList_push, List.mem_append] at hx
    rcases hx with hx | hx
    · have := h1 x hx; omega
    · have e : x = { key := k, val := v, born := clk } := by simpa using hx
      subst e; exact Nat.lt_succ_self _
  · rw [Array.toList_push, List.map_append, List.nodup_append]
    refine ⟨h2, by simp, fun a ha b hb => ?_⟩
    obtain ⟨x, hx, rfl⟩ := List.mem_map.1 ha
    have := h1 x hx
    have e : b = clk := by simpa using hb
    omega
theorem map_born_modify (j : Nat) (k v : Value) : ∀ l : List MapEntry, (l.modify j fun e => { e with key := k, val := v }).map (·.born) = l.map (·.born) := by
  induction j with
  | zero => intro l; cases l <;> simp
  | succ j ih => intro l; cases l with
    | nil => simp
    | cons a r => simp [List.modify_succ_cons, ih r]
theorem Stamps.modify {es : Array MapEntry} {clk : Nat} (h : Stamps es clk) (j : Nat) (k v : Value) : Stamps (es.modify j fun e => { e with key := k, val := v }) clk := by
  obtain ⟨h1, h2⟩ := h
  have e := map_born_modify j k v es.toList
  refine ⟨fun x hx => ?_, by rw [Array.toList_modify, e]; exact h2⟩
  rw [Array.toList_modify] at hx
  have : x.born ∈ es.toList.map (·.born) := by rw [← e]; exact List.mem_map.2 ⟨x, hx, rfl⟩
  obtain ⟨y, hy, hb⟩ := List.mem_map.1 this
  rw [← hb]; exact h1 y hy

theorem MapAt.new (w : World) : MapAt (w.alloc (.map #[] 0)) w.heap.size [] := ⟨#[], 0, heap_alloc_new w _, rfl, by simp [Stamps]⟩
theorem MapAt.lt {w : World} {r : Nat} {L : List (ByteArray × Value)} (h : MapAt w r L) : r < w.heap.size := by
  obtain ⟨es, clk, h, _⟩ := h
  exact (Array.getElem?_eq_some_iff.1 h).1
theorem MapAt.kept {w w' : World} {r : Nat} {L : List (ByteArray × Value)} (h : MapAt w r L) (hk : w'.heap[r]? = w.heap[r]?) : MapAt w' r L := by
  obtain ⟨es, clk, h1, h2⟩ := h
  exact ⟨es, clk, hk.trans h1, h2⟩
theorem MapAt.below {w w' : World} {r B : Nat} {L : List (ByteArray × Value)} (h : MapAt w r L) (hb : Below B w w') (hB : r < B) : MapAt w' r L := h.kept (hb.block r hB)

theorem findNow_map (n : ByteArray) : ∀ (l : List MapEntry) (L : List (ByteArray × Value)) (i : Nat), l.map (fun e => (e.key, e.val)) = L.map (fun p => (Value.string p.1, p.2)) →
    (mapGet L n = none → Instr.findNow .string (.string n) l i = some none) ∧ (∀ v, mapGet L n = some v → ∃ j, Instr.findNow .string (.string n) l i = some (some (j, v)))
  | [], [], i, h => ⟨fun _ => rfl, fun v h => by simp [mapGet] at h⟩
  | [], p :: L, i, h => by simp at h
  | e :: l, [], i, h => by simp at h
  | e :: l, p :: L, i, h => by
    simp only [List.map_cons, List.cons.injEq, Prod.mk.injEq] at h
    obtain ⟨⟨hk, hv⟩, ht⟩ := h
    obtain ⟨ih1, ih2⟩ := findNow_map n l L (i + 1) ht
    by_cases hn : p.1 = n
    · have hs : Instr.sameNow .string (.string n) e.key = some true := by
        rw [hk, hn]
        show some (n == n) = some true
        rw [show (n == n) = true from (MapKept.bytes_beq _ _).2 rfl]
      refine ⟨fun h => by simp [mapGet, hn] at h, fun v h => ⟨i, ?_⟩⟩
      simp only [mapGet, hn, if_true, Option.some.injEq] at h
      simp [Instr.findNow, hs, hv, h]
    · have hs : Instr.sameNow .string (.string n) e.key = some false := by
        rw [hk]
        show some (n == p.1) = some false
        have hb : (n == p.1) = false := by
          cases hh : (n == p.1) with
          | false => rfl
          | true => exact absurd ((MapKept.bytes_beq _ _).1 hh).symm hn
        rw [hb]
      refine ⟨fun h => ?_, fun v h => ?_⟩
      · rw [mapGet, if_neg hn] at h
        simp [Instr.findNow, hs, ih1 h]
      · rw [mapGet, if_neg hn] at h
        obtain ⟨j, hj⟩ := ih2 v h
        exact ⟨j, by simp [Instr.findNow, hs, hj]⟩

theorem run_look {P : Program} {w : World} {T kt et : TypeId} {r : Nat} {L : List (ByteArray × Value)} {z : Value} (hm : P.underlying T = some (.map kt et)) (hk : P.underlying kt = some .string) (hz : (zeroValue et).run P w = .ok z w) (h : MapAt w r L) (n : ByteArray) :
    (Instr.lookup T (.map (some r)) (.string n) true).run P w = .ok (.tuple #[(mapGet L n).getD z, .bool (mapGet L n).isSome]) w := by
  obtain ⟨es, clk, hb, he, hst⟩ := h
  obtain ⟨h1, h2⟩ := findNow_map n es.toList L 0 he
  have hc : ∀ b, (Instr.checkKey b 10000 kt (.string n)).run P w = .ok () w := fun b => MapKept.run_checkKey (k := .string n) hk (by simp [MapKept.IsKey]) b 9999
  cases hg : mapGet L n with
  | none => simp [Instr.lookup, run_underlying hm, MapKept.run_getObj_map hb, hc, MapKept.run_findKey hk (h1 hg), Result.andThen, hz]
  | some v =>
    obtain ⟨j, hj⟩ := h2 v hg
    simp [Instr.lookup, run_underlying hm, MapKept.run_getObj_map hb, hc, MapKept.run_findKey hk hj, Result.andThen]

theorem run_put {P : Program} {w : World} {T kt et : TypeId} {r : Nat} {L : List (ByteArray × Value)} (hm : P.underlying T = some (.map kt et)) (hk : P.underlying kt = some .string) (h : MapAt w r L) (n : ByteArray) (v : Value) (hn : mapGet L n = none) :
    ∃ w', (Instr.mapUpdate T (.map (some r)) (.string n) v).run P w = .ok () w' ∧ MapAt w' r (L ++ [(n, v)]) ∧ w'.heap.size = w.heap.size ∧ w'.os = w.os ∧ w'.tape = w.tape ∧ w'.output = w.output ∧ (∀ b, b ≠ r → w'.heap[b]? = w.heap[b]?) := by
  obtain ⟨es, clk, hb, he, hst⟩ := h
  obtain ⟨h1, h2⟩ := findNow_map n es.toList L 0 he
  have hc : (Instr.checkKey false 10000 kt (.string n)).run P w = .ok () w := MapKept.run_checkKey (k := .string n) hk (by simp [MapKept.IsKey]) false 9999
  have hlt : r < w.heap.size := (Array.getElem?_eq_some_iff.1 hb).1
  refine ⟨{ w with heap := w.heap.setIfInBounds r (.map (es.push { key := .string n, val := v, born := clk }) (clk + 1)) }, ?_, ⟨_, _, (MapKept.heap_set hb).1, by simp [he], hst.push _ _⟩, by simp, rfl, rfl, rfl, fun b hne => (MapKept.heap_set hb).2 b hne⟩
  simp [Instr.mapUpdate, run_underlying hm, MapKept.run_getObj_map hb, hc, MapKept.run_findKey hk (h1 hn), MapKept.run_setObj_map _ hb, Result.andThen]
end Go.Proofs.Ytkfppicbningaaa

/- Walks: what stands for variables, in a map; what is looked for there. -/
namespace Go.Proofs.Ytkfppicbningaaa
open Go.RowKit
set_option linter.unusedSimpArgs false
set_option linter.unusedVariables false
set_option maxRecDepth 8000

/-- No variable twice. -/
def Once (ls : List Bd) : Prop := ∀ k (h : k < ls.length), forT (ls.take k) ls[k].nm = none

/-- The map's values are the bindings' terms. -/
def PairsL (w : World) (X : Nat → Prop) : List Bd → List (ByteArray × Value) → Prop
  | [], L => L = []
  | d :: r, L => ∃ a c L', L = (d.nm, .agg #[.string d.t.name, .slice a d.t.args.length c]) :: L' ∧ Sl w X a d.t.args ∧ PairsL w X r L'
theorem PairsL.imp {w w' : World} {X Y : Nat → Prop} (hs : ∀ a l, Sl w X a l → Sl w' Y a l) : ∀ {l : List Bd} {L : List (ByteArray × Value)}, PairsL w X l L → PairsL w' Y l L
  | [], L, h => h
  | d :: r, L, h => by obtain ⟨a, c, L', e, h1, h2⟩ := h; exact ⟨a, c, L', e, hs _ _ h1, PairsL.imp hs h2⟩
theorem PairsL.push {w : World} {X : Nat → Prop} {d : Bd} {a : Option Addr} {c : Nat} (hs : Sl w X a d.t.args) : ∀ {l : List Bd} {L : List (ByteArray × Value)}, PairsL w X l L → PairsL w X (l ++ [d]) (L ++ [(d.nm, .agg #[.string d.t.name, .slice a d.t.args.length c])])
  | [], L, h => by
    have e : L = [] := h
    subst e
    exact ⟨a, c, [], rfl, hs, rfl⟩
  | d' :: r, L, h => by obtain ⟨a', c', L', e, h1, h2⟩ := h; subst e; exact ⟨a', c', _, rfl, h1, PairsL.push hs h2⟩
theorem PairsL.get {w : World} {X : Nat → Prop} (n : ByteArray) : ∀ {l : List Bd} {L : List (ByteArray × Value)}, PairsL w X l L → (forT l n = none → mapGet L n = none) ∧ (∀ t, forT l n = some t → ∃ a c, mapGet L n = some (.agg #[.string t.name, .slice a t.args.length c]) ∧ Sl w X a t.args)
  | [], L, h => by
    have e : L = [] := h
    subst e
    exact ⟨fun _ => rfl, fun t h => by simp [forT] at h⟩
  | d :: r, L, h => by
    obtain ⟨a, c, L', rfl, h1, h2⟩ := h
    obtain ⟨g1, g2⟩ := PairsL.get n h2
    by_cases hd : d.nm = n
    · refine ⟨fun h => by simp [forT, hd] at h, fun t h => ?_⟩
      rw [forT, if_pos hd] at h
      cases h
      exact ⟨a, c, by simp [mapGet, hd], h1⟩
    · refine ⟨fun h => ?_, fun t h => ?_⟩
      · rw [forT, if_neg hd] at h
        simp only [mapGet, hd, if_false]
        exact g1 h
      · rw [forT, if_neg hd] at h
        simp only [mapGet, hd, if_false]
        exact g2 t h

def ByInv (w : World) (X : Nat → Prop) (ls : List Bd) (v : Value) (wr : World) : Prop := ∃ (k : Nat) (L : List (ByteArray × Value)), v = .int .i64 (k : Int) ∧ k ≤ ls.length ∧ MapAt wr w.heap.size L ∧ PairsL wr (fun b => X b ∧ b < w.heap.size) (ls.take k) L ∧ Below w.heap.size w wr

set_option maxHeartbeats 1000000 in
theorem byName_any (ls : List Bd) (ho : Once ls) (u : Value) (w : World) (X : Nat → Prop) (hu : BV w X u ls) :
    Calls Try.prog 28 #[u] w fun e w' => ∃ L, e = .returned (.map (some w.heap.size)) ∧ MapAt w' w.heap.size L ∧ PairsL w' (fun b => X b ∧ b < w.heap.size) ls L ∧ Below w.heap.size w w' := by
  have HU := hide hu
  obtain ⟨a, c, rfl, hl, hu2⟩ := hu
  clear hu2
  have hmm := @run_makeMap Try.prog
  go_enter Try.func28, Try.ntmps28
  go_wp2_with fail
  go_loopw [9] (fun v wr => ByInv w X ls v wr) (fun v wr => ls.length - (intOf v).toNat)
  case atStart => exact ⟨0, [], rfl, Nat.zero_le _, MapAt.new w, rfl, (Below.refl _ _).alloc (Nat.le_refl _) _⟩
  case round =>
    obtain ⟨k, L, rfl, hk, hM, hP, hb⟩ := hrel
    have HM := hide hM
    have HP := hide hP
    have HB := hide hb
    by_cases hlt : k < ls.length
    · obtain ⟨b, o, a', c', rfl, d0, d1, d2, hs⟩ := ((HU.out.mono (Y := fun b => X b ∧ b < w.heap.size) fun b h1 h2 => ⟨h1, h2⟩).later hb).get k hlt
      have hlt2 : (k : Int) < (ls.length : Int) := by omega
      have HX := hide hs
      have hno := (hP.get ls[k].nm).1 (ho k hlt)
      have htk : ls.take (k + 1) = ls.take k ++ [ls[k]] := List.take_succ_eq_append_getElem hlt
      have HTK := hide htk
      have hMr := hM.lt
      clear hb hs hM hP htk
      generalize ls[k] = d at *
      obtain ⟨w2, hrun, hM2, hz2, ho2, ht2, hu2, hk2⟩ := run_put (P := Try.prog) (w := wr.alloc (.cells #[.string d.nm, .string d.t.name, .slice a' d.t.args.length c'] 50)) Try.underlying63 Try.underlying9 (HM.out.kept (Below.heap_alloc _ _ _ hMr)) d.nm (.agg #[.string d.t.name, .slice a' d.t.args.length c']) hno
      have HM2 := hide hM2
      have HB2 : Hid (Below w.heap.size w w2) := by
        have h0 := HB.out.alloc HB.out.size (.cells #[.string d.nm, .string d.t.name, .slice a' d.t.args.length c'] 50)
        exact ⟨ho2.trans h0.os, ht2.trans h0.tape, hu2.trans h0.output, by rw [hz2]; exact h0.size, fun j hj => (hk2 j (by omega)).trans (h0.block j hj)⟩
      have HP2 : Hid (PairsL w2 (fun b => X b ∧ b < w.heap.size) (ls.take (k + 1)) (L ++ [(d.nm, .agg #[.string d.t.name, .slice a' d.t.args.length c'])])) := by
        have hkp : ∀ q l, Sl wr (fun b => X b ∧ b < w.heap.size) q l → Sl w2 (fun b => X b ∧ b < w.heap.size) q l := fun q l h => h.kept fun j hj => (hk2 j (by have := hj.2; omega)).trans (Below.heap_alloc _ _ _ (by have := hj.2; omega))
        unfold Hid
        rw [HTK.out]
        exact PairsL.push (hkp _ _ HX.out) (HP.out.imp hkp)
      clear hM2 hz2 ho2 ht2 hu2 hk2 hno
      go_wp2_with fail
      go_roundw
      case rel => exact ⟨k + 1, _, by go_num, by omega, HM2.out, HP2.out, HB2.out⟩
      case measure => simp [intOf]; omega
    · have htk : ls.take k = ls := List.take_of_length_le (by omega)
      rw [htk] at HP
      clear hP htk
      go_wp2_with fail
      go_ret
      exact ⟨L, rfl, HM.out, HP.out, HB.out⟩
#print axioms byName_any
end Go.Proofs.Ytkfppicbningaaa

/- Walks: bindings looked for by a closure. -/
namespace Go.Proofs.Ytkfppicbningaaa
open Go.RowKit
set_option linter.unusedSimpArgs false
set_option linter.unusedVariables false
set_option maxRecDepth 8000

theorem look_any (r : Nat) (w : World) :
    Calls Try.prog 30 #[.map (some r)] w fun e w' => e = .returned (.func (.func 51) #[] #[.pointer (some ⟨w.heap.size, 0, none⟩)]) ∧ w' = w.alloc (.cells #[.map (some r)] 63) := by
  have hmf : ∀ (fn : Fn) (first cap : Array Value) (w : World), (Instr.makeFunc fn first cap).run Try.prog w = .ok (.func fn first cap) w := fun _ _ _ _ => rfl
  go_enter Try.func30, Try.ntmps30
  go_wp2_with fail
  go_ret
  exact ⟨rfl, rfl⟩

set_option maxHeartbeats 1000000 in
theorem look1_any (ls : List Bd) (n : ByteArray) (B r : Nat) (L : List (ByteArray × Value)) (w : World) (X : Nat → Prop) (hB : Blk w B #[.map (some r)] 63) (hM : MapAt w r L) (hP : PairsL w X ls L) :
    Calls Try.prog 51 #[.string n, .pointer (some ⟨B, 0, none⟩)] w fun e w' => Below w.heap.size w w' ∧ ((∃ t a c, forT ls n = some t ∧ e = .returned (.tuple #[.agg #[.string t.name, .slice a t.args.length c], .bool true]) ∧ Sl w X a t.args) ∨ (forT ls n = none ∧ e = .returned (.tuple #[.agg #[.string ⟨#[]⟩, .slice none 0 0], .bool false]))) := by
  have c0 : ∀ o, (w.alloc o).cell? ⟨B, 0, none⟩ = some (.map (some r)) := fun o => (hB.alloc o).cell 0
  have hlt : B < w.heap.size := hB.lt
  have hz : ∀ w', (zeroValue 28).run Try.prog w' = .ok (.agg #[.string ⟨#[]⟩, .slice none 0 0]) w' := fun w' => Try.zeroValue28 w'
  have hM' := fun o : Obj => hM.kept (Below.heap_alloc w o _ hM.lt)
  cases hf : forT ls n with
  | none =>
    have hg := (hP.get n).1 hf
    have hlook : ∀ o, (Instr.lookup 63 (.map (some r)) (.string n) true).run Try.prog (w.alloc o) = .ok (.tuple #[.agg #[.string ⟨#[]⟩, .slice none 0 0], .bool false]) (w.alloc o) := fun o => by
      rw [run_look (P := Try.prog) Try.underlying63 Try.underlying9 (hz _) (hM' o) n, hg]; rfl
    have HF := hide hf
    clear hf hg hM' hP hM hB
    go_enter Try.func51, Try.ntmps51
    go_wp2_with fail
    have q0 := ((Blk.new w #[.string ⟨#[]⟩, .slice none 0 0] 28).alloc (.cells #[.string ⟨#[]⟩, .slice none 0 0] 28)).cell 0
    have q1 := ((Blk.new w #[.string ⟨#[]⟩, .slice none 0 0] 28).alloc (.cells #[.string ⟨#[]⟩, .slice none 0 0] 28)).cell 1
    simp at q0 q1
    refine bodyPost_ret (v := .tuple #[.agg #[.string ⟨#[]⟩, .slice none 0 0], .bool false]) (by simp [results, Try.results51, go_sem, q0, q1]) rfl ?_
    exact ⟨((Below.refl _ _).alloc (Nat.le_refl _) _).alloc (by simp) _, Or.inr ⟨by trivial, rfl⟩⟩
  | some t =>
    obtain ⟨a, c, hg, hs⟩ := (hP.get n).2 t hf
    have hlook : ∀ o, (Instr.lookup 63 (.map (some r)) (.string n) true).run Try.prog (w.alloc o) = .ok (.tuple #[.agg #[.string t.name, .slice a t.args.length c], .bool true]) (w.alloc o) := fun o => by
      rw [run_look (P := Try.prog) Try.underlying63 Try.underlying9 (hz _) (hM' o) n, hg]; rfl
    have HF := hide hf
    have HS := hide hs
    clear hf hg hs hM' hP hM hB
    go_enter Try.func51, Try.ntmps51
    go_wp2_with fail
    have q0 := ((Blk.new w #[.string t.name, .slice a t.args.length c] 28).alloc (.cells #[.string t.name, .slice a t.args.length c] 28)).cell 0
    have q1 := ((Blk.new w #[.string t.name, .slice a t.args.length c] 28).alloc (.cells #[.string t.name, .slice a t.args.length c] 28)).cell 1
    simp at q0 q1
    refine bodyPost_ret (v := .tuple #[.agg #[.string t.name, .slice a t.args.length c], .bool true]) (by simp [results, Try.results51, go_sem, q0, q1]) rfl ?_
    exact ⟨((Below.refl _ _).alloc (Nat.le_refl _) _).alloc (by simp) _, Or.inl ⟨t, a, c, rfl, rfl, HS.out⟩⟩
#print axioms look1_any
end Go.Proofs.Ytkfppicbningaaa

/- Walks: a term is filled. -/
namespace Go.Proofs.Ytkfppicbningaaa
open Go.RowKit
set_option linter.unusedSimpArgs false
set_option linter.unusedVariables false
set_option maxRecDepth 8000

def fN (ls : List Bd) (s : ByteArray) (bs : List Tm) : Tm := if varB s = true then (match forT ls s with | some x => x | none => ⟨s, bs⟩) else ⟨s, bs⟩
def fL (ls : List Bd) : List Tm → List Tm
  | [] => []
  | ⟨s, a⟩ :: r => fN ls s (fL ls a) :: fL ls r
def fT (ls : List Bd) (t : Tm) : Tm := fN ls t.name (fL ls t.args)

/-- What is looked at while a term is filled. -/
def Env (w : World) (B r : Nat) (X : Nat → Prop) (ls : List Bd) (L : List (ByteArray × Value)) : Prop := Blk w B #[.map (some r)] 63 ∧ MapAt w r L ∧ PairsL w X ls L
theorem Env.ex {w w' : World} {B r F : Nat} {X : Nat → Prop} {ls : List Bd} {L : List (ByteArray × Value)} (h : Env w B r X ls L) (he : Ex F w w') (hB : B ≠ F) (hr : r ≠ F) (hX : ∀ b, X b → b ≠ F) : Env w' B r X ls L :=
  ⟨h.1.ex he hB, h.2.1.kept (he.block r h.2.1.lt hr), h.2.2.imp fun a l hs => hs.ex he hX⟩
theorem Env.later {w w' : World} {B r : Nat} {X : Nat → Prop} {ls : List Bd} {L : List (ByteArray × Value)} (h : Env w B r X ls L) (hb : Below w.heap.size w w') : Env w' B r X ls L :=
  ⟨h.1.below hb h.1.lt, h.2.1.below hb h.2.1.lt, h.2.2.imp fun a l hs => hs.later hb⟩

theorem way1 {w0 w1 : World} (h : Below w0.drew.heap.size w0.drew w1) : Below w0.heap.size w0 w1 := ((Below.refl w0.heap.size w0).drew).trans h
theorem way2 {w0 w1 : World} {o : Obj} (h : Below (w0.alloc o).drew.heap.size (w0.alloc o).drew w1) : Below w0.heap.size w0 w1 := (((Below.refl w0.heap.size w0).alloc (Nat.le_refl _) o).drew).trans (h.mono (by simp))
theorem way2b {w0 w1 : World} {cs : Array Value} {T : Nat} (h : Below (w0.alloc (.cells cs T)).drew.heap.size (w0.alloc (.cells cs T)).drew w1) : Blk w1 w0.heap.size cs T := ((Blk.new w0 cs T).drewN 1).below h (by simp)

theorem ff_end {w W w9 : World} {F : Nat} {sv : Value} {t : Tm} {n : Nat} {s' : ByteArray} {a' : Option Addr} {l' c' : Nat} {m : Int} {v0 v1 : Value} (hF : F < w.heap.size) (hW : w.heap.size + 2 ≤ W.heap.size) (h1 : Blk w9 F #[.int .i64 m, sv] 102) (hx : Ex F w w9) (hy : sizeL [t] ≤ n → m = (n : Int) - sizeL [t] ∧ s' = t.name ∧ l' = t.args.length ∧ Sl w9 (fun b => W.heap.size ≤ b) a' t.args) (hn : n < sizeL [t] → m = -1) :
    CpPost w F sv t n (.returned (.agg #[.string s', .slice a' l' c'])) ((w9.setCell ⟨w.heap.size + 1, 0, none⟩ v0).setCell ⟨w.heap.size + 1, 1, none⟩ v1) := by
  refine ⟨s', a', l', c', m, rfl, (h1.setOther _ _ (by omega)).setOther _ _ (by omega), (hx.setNew (by omega) _ _).setNew (by omega) _ _, fun h => ?_, hn⟩
  obtain ⟨e1, e2, e3, e4⟩ := hy h
  refine ⟨e1, e2, e3, (e4.kept fun b hb => ?_).mono fun b hb _ => by omega⟩
  rw [Below.heap_setCell _ _ _ _ (by simp; omega), Below.heap_setCell _ _ _ _ (by simp; omega)]

theorem Ex.ofBelow {B : Nat} {w w' : World} (h : Below w.heap.size w w') : Ex B w w' := ⟨h.os, h.tape, h.output, h.size, fun k hk _ => h.block k hk⟩
theorem two_keep {w : World} {F T b : Nat} {u v x : Value} {i j k : Nat} (h : w.cell? ⟨F, i, none⟩ = some u ∧ w.cell? ⟨T, j, none⟩ = some v) (h1 : b ≠ F) (h2 : b ≠ T) : (w.setCell ⟨b, k, none⟩ x).cell? ⟨F, i, none⟩ = some u ∧ (w.setCell ⟨b, k, none⟩ x).cell? ⟨T, j, none⟩ = some v :=
  ⟨(World.cell?_setCell_other _ _ _ _ (fun e => h1 (by injection e))).trans h.1, (World.cell?_setCell_other _ _ _ _ (fun e => h2 (by injection e))).trans h.2⟩

set_option maxHeartbeats 1000000 in
theorem ffill_of (F B r : Nat) (ls : List Bd) (L : List (ByteArray × Value)) (t : Tm) (n : Nat) (a : Option Addr) (c : Nat) (w : World) (X : Nat → Prop) (hn : n ≤ 1000000) (hXF : ∀ b, X b → b ≠ F) (hBF : B ≠ F) (hrF : r ≠ F) (hs : Sl w X a t.args) (hF : Blk w F #[.int .i64 (n : Int), .func (.func 51) #[] #[.pointer (some ⟨B, 0, none⟩)]] 102) (hE : Env w B r X ls L)
    (h : ∀ w', Sl w' X a t.args → Blk w' F #[.int .i64 (n : Int), .func (.func 51) #[] #[.pointer (some ⟨B, 0, none⟩)]] 102 → Env w' B r X ls L → Calls Try.prog 92 #[.pointer (some ⟨F, 0, none⟩), .agg #[.string t.name, .slice a t.args.length c], .func (.func 75) #[.pointer (some ⟨F, 0, none⟩)] #[]] w' fun e w'' => CpPost w' F (.func (.func 51) #[] #[.pointer (some ⟨B, 0, none⟩)]) ⟨t.name, fL ls t.args⟩ n e w'') :
    Calls Try.prog 75 #[.pointer (some ⟨F, 0, none⟩), .agg #[.string t.name, .slice a t.args.length c]] w fun e w' => CpPost w F (.func (.func 51) #[] #[.pointer (some ⟨B, 0, none⟩)]) (fT ls t) n e w' := by
  have hmf : ∀ (fn : Fn) (first cap : Array Value) (w : World), (Instr.makeFunc fn first cap).run Try.prog w = .ok (.func fn first cap) w := fun _ _ _ _ => rfl
  have H := hide h
  have HS := hide hs
  have HF := hide hF
  have HE := hide hE
  have hFl : F < w.heap.size := hF.lt
  clear h hs hF hE
  have HB0 := hide (((Below.refl w.heap.size w).alloc (Nat.le_refl _) (.cells #[.string t.name, .slice a t.args.length c] 28)).alloc (by simp) (.cells #[.string ⟨#[]⟩, .slice none 0 0] 28))
  have f1 : ∀ o o', ((w.alloc o).alloc o').cell? ⟨F, 1, none⟩ = some (.func (.func 51) #[] #[.pointer (some ⟨B, 0, none⟩)]) := fun o o' => ((HF.out.alloc o).alloc o').cell 1
  cases hv : varB t.name with
  | false =>
    have HV := hide hv
    have HT : Hid (fT ls t = ⟨t.name, fL ls t.args⟩) := by unfold Hid fT fN; rw [hv]; rfl
    clear hv
    go_enter Try.func75, Try.ntmps75
    go_wp2_with (go_at_call 49; refine (isVariable_all _ _).mono ?_; rintro e w' ⟨rfl, rfl⟩; rw [HV.out])
    have RW : Hid (Blk ((w.alloc (.cells #[.string t.name, .slice a t.args.length c] 28)).alloc (.cells #[.string ⟨#[]⟩, .slice none 0 0] 28)) (w.heap.size + 1) #[.string ⟨#[]⟩, .slice none 0 0] 28) := by
      have h := Blk.new (w.alloc (.cells #[.string t.name, .slice a t.args.length c] 28)) #[.string ⟨#[]⟩, .slice none 0 0] 28
      unfold Hid
      simpa using h
    have EXW := hide (((Ex.refl F w).alloc (.cells #[.string t.name, .slice a t.args.length c] 28)).alloc (.cells #[.string ⟨#[]⟩, .slice none 0 0] 28))
    have hW2 : Hid (w.heap.size + 2 ≤ ((w.alloc (.cells #[.string t.name, .slice a t.args.length c] 28)).alloc (.cells #[.string ⟨#[]⟩, .slice none 0 0] 28)).heap.size) := by unfold Hid; simp
    refine (H.out _ (HS.out.later HB0.out) (by exact (HF.out.alloc _).alloc _) (HE.out.later HB0.out)).mono ?_
    rintro e w9 ⟨s', a', l', c', m, rfl, hF1, hx1, hy1, hn1⟩
    have R9 := hide (RW.out.ex hx1 (by omega))
    have HX9 := hide (EXW.out.trans hx1)
    have HF9 := hide hF1
    have HY := hide hy1
    have HN := hide hn1
    have HSZ := hide (EXW.out.size)
    clear hF1 hx1 hy1 hn1
    have r0 : w9.cell? ⟨w.heap.size + 1, 0, none⟩ = some (.string ⟨#[]⟩) := R9.out.cell 0
    have r1 : w9.cell? ⟨w.heap.size + 1, 1, none⟩ = some (.slice none 0 0) := R9.out.cell 1
    have rf := R9.out.frozen
    go_wp2_with fail
    refine bodyPost_ret (v := .agg #[.string s', .slice a' l' c']) (by simp [results, Try.results75, go_sem, World.cell?_setCell_same, World.cell?_setCell_other, r0, r1]) rfl ?_
    rw [HT.out]
    exact ff_end (by omega) hW2.out HF9.out HX9.out HY.out HN.out
  | true =>
    have HV := hide hv
    clear hv
    have RW : Hid (Blk ((w.alloc (.cells #[.string t.name, .slice a t.args.length c] 28)).alloc (.cells #[.string ⟨#[]⟩, .slice none 0 0] 28)) (w.heap.size + 1) #[.string ⟨#[]⟩, .slice none 0 0] 28) := by
      have h := Blk.new (w.alloc (.cells #[.string t.name, .slice a t.args.length c] 28)) #[.string ⟨#[]⟩, .slice none 0 0] 28
      unfold Hid
      simpa using h
    have EXW := hide (((Ex.refl F w).alloc (.cells #[.string t.name, .slice a t.args.length c] 28)).alloc (.cells #[.string ⟨#[]⟩, .slice none 0 0] 28))
    have hW2 : Hid (w.heap.size + 2 ≤ ((w.alloc (.cells #[.string t.name, .slice a t.args.length c] 28)).alloc (.cells #[.string ⟨#[]⟩, .slice none 0 0] 28)).heap.size) := by unfold Hid; simp
    have E0 := hide (HE.out.later HB0.out)
    have F0 := hide ((HF.out.alloc (.cells #[.string t.name, .slice a t.args.length c] 28)).alloc (.cells #[.string ⟨#[]⟩, .slice none 0 0] 28))
    have S0 := hide (HS.out.later HB0.out)
    have T0 := hide ((Blk.new w #[.string t.name, .slice a t.args.length c] 28).alloc (.cells #[.string ⟨#[]⟩, .slice none 0 0] 28))
    have g1 := F0.out.cell 1
    have g0 := T0.out.cell 0
    simp only [List.getElem?_toArray, List.getElem?_cons_succ, List.getElem?_cons_zero] at g1 g0
    cases hf : forT ls t.name with
    | some x =>
      have HT : Hid (fT ls t = x) := by unfold Hid fT fN; rw [HV.out, hf]; rfl
      have LKA : Hid (∀ w', Below ((w.alloc (.cells #[.string t.name, .slice a t.args.length c] 28)).alloc (.cells #[.string ⟨#[]⟩, .slice none 0 0] 28)).heap.size ((w.alloc (.cells #[.string t.name, .slice a t.args.length c] 28)).alloc (.cells #[.string ⟨#[]⟩, .slice none 0 0] 28)) w' → Calls Try.prog 51 #[.string t.name, .pointer (some ⟨B, 0, none⟩)] w' fun e w'' => ∃ ax cx, e = .returned (.tuple #[.agg #[.string x.name, .slice ax x.args.length cx], .bool true]) ∧ Below w'.heap.size w' w'' ∧ Sl w'' (fun b => X b ∧ b < w.heap.size) ax x.args) := fun w' hb => by
        have E1 : Env w B r (fun b => X b ∧ b < w.heap.size) ls L := ⟨HE.out.1, HE.out.2.1, HE.out.2.2.imp fun a l hs => hs.mono fun b h1 h2 => ⟨h1, h2⟩⟩
        obtain ⟨h1, h2, h3⟩ := (E1.later HB0.out).later hb
        refine (look1_any ls t.name B r L w' _ h1 h2 h3).mono fun e w'' hp => ?_
        obtain ⟨hb2, hc⟩ := hp
        rcases hc with ⟨y, ay, cy, hy, he, hsy⟩ | ⟨hy, _⟩
        · rw [hf] at hy; cases hy; exact ⟨ay, cy, he, hb2, hsy.later hb2⟩
        · rw [hf] at hy; cases hy
      have HKP : Hid (∀ w', Below ((w.alloc (.cells #[.string t.name, .slice a t.args.length c] 28)).alloc (.cells #[.string ⟨#[]⟩, .slice none 0 0] 28)).heap.size ((w.alloc (.cells #[.string t.name, .slice a t.args.length c] 28)).alloc (.cells #[.string ⟨#[]⟩, .slice none 0 0] 28)) w' → w'.cell? ⟨F, 1, none⟩ = some (.func (.func 51) #[] #[.pointer (some ⟨B, 0, none⟩)]) ∧ w'.cell? ⟨w.heap.size, 0, none⟩ = some (.string t.name)) := fun w' hb => ⟨(F0.out.below hb F0.out.lt).cell 1, (T0.out.below hb T0.out.lt).cell 0⟩
      have nF : ((w.alloc (.cells #[.string t.name, .slice a t.args.length c] 28)).alloc (.cells #[.string ⟨#[]⟩, .slice none 0 0] 28)).heap.size ≠ F := by have := hW2.out; omega
      have nT : ((w.alloc (.cells #[.string t.name, .slice a t.args.length c] 28)).alloc (.cells #[.string ⟨#[]⟩, .slice none 0 0] 28)).heap.size ≠ w.heap.size := by have := hW2.out; omega
      clear hf f1
      go_enter Try.func75, Try.ntmps75
      go_wp2_with (go_at_call 49; refine (isVariable_all _ _).mono ?_; rintro e w' ⟨rfl, rfl⟩; rw [HV.out])
      generalize ((w.alloc (.cells #[.string t.name, .slice a t.args.length c] 28)).alloc (.cells #[.string ⟨#[]⟩, .slice none 0 0] 28)) = w0 at *
      go_region_held3 (fun w' => w'.cell? ⟨F, 1, none⟩ = some (.func (.func 51) #[] #[.pointer (some ⟨B, 0, none⟩)]) ∧ w'.cell? ⟨w.heap.size, 0, none⟩ = some (.string t.name)) (first | exact hS | exact ⟨g1, g0⟩ | exact two_keep hS nF nT | exact two_keep (two_keep hS nF nT) nF nT | go_keep)
        ((go_at_call 51; refine (LKA.out _ (by first | exact (Below.refl _ _).drew | exact ((Below.refl _ _).alloc (Nat.le_refl _) _).drew)).mono ?_; rintro e w1 ⟨ax, cx, rfl, hb1, hsx⟩; have HSX := hide hsx; clear hsx; (first | (have hB0 := way1 hb1; have hS := HKP.out _ hB0) | (have hB0 := way2 hb1; have xb := hide (way2b hb1); have x0 := xb.out.cell 0; have x1 := xb.out.cell 1; have xf := xb.out.frozen; have hS := HKP.out _ hB0))))
      · generalize hz : (w1.alloc (Obj.cells #[Value.string x.name, Value.slice ax x.args.length cx] 28)) = wz at *
        have hbz : Below w0.heap.size w0 wz := by rw [← hz]; exact hB0.alloc hB0.size _
        have HSZ : Hid (Sl wz (fun b => X b ∧ b < w.heap.size) ax x.args) := by rw [← hz]; exact HSX.out.later ((Below.refl _ _).alloc (Nat.le_refl _) _)
        have q0 : wz.cell? ⟨w1.heap.size, 0, none⟩ = some (.string x.name) := by rw [← hz]; exact (Blk.new w1 _ _).cell 0
        have q1 : wz.cell? ⟨w1.heap.size, 1, none⟩ = some (.slice ax x.args.length cx) := by rw [← hz]; exact (Blk.new w1 _ _).cell 1
        have hwz : Hid (w.heap.size + 2 ≤ wz.heap.size) := Nat.le_trans hW2.out hbz.size
        have HBZ := hide hbz
        clear hbz hz
        go_wp2_with fail
        refine (knotC_any F _ x n _ wz (fun b => X b ∧ b < w.heap.size) ⟨ax, cx, rfl, HSZ.out⟩ (fun b hb => hXF b hb.1) hn (F0.out.below HBZ.out F0.out.lt)).mono ?_
        rintro e w9 ⟨s', a', l', c', m, rfl, hF1, hx1, hy1, hn1⟩
        have R9 := hide ((RW.out.below HBZ.out RW.out.lt).ex hx1 (by omega))
        have HX9 := hide ((EXW.out.trans (Ex.ofBelow HBZ.out)).trans hx1)
        have HF9 := hide hF1
        have HY := hide hy1
        have HN := hide hn1
        clear hF1 hx1 hy1 hn1
        have r0 : w9.cell? ⟨w.heap.size + 1, 0, none⟩ = some (.string ⟨#[]⟩) := R9.out.cell 0
        have r1 : w9.cell? ⟨w.heap.size + 1, 1, none⟩ = some (.slice none 0 0) := R9.out.cell 1
        have rf := R9.out.frozen
        go_wp2_with fail
        refine bodyPost_ret (v := .agg #[.string s', .slice a' l' c']) (by simp [results, Try.results75, go_sem, World.cell?_setCell_same, World.cell?_setCell_other, r0, r1]) rfl ?_
        rw [HT.out]
        exact ff_end (by omega) hwz.out HF9.out HX9.out HY.out HN.out
      · generalize hz : ((w1.setCell { block := w0.heap.size, off := 0 } (Value.string x.name)).setCell { block := w0.heap.size, off := 1 } (Value.slice ax x.args.length cx)) = wz at *
        have hbz : Below w0.heap.size w0 wz := by rw [← hz]; exact (hB0.setCell (Nat.le_refl _) _).setCell (Nat.le_refl _) _
        have HSZ : Hid (Sl wz (fun b => X b ∧ b < w.heap.size) ax x.args) := by
          rw [← hz]
          refine HSX.out.kept fun b hb => ?_
          have hb2 := hb.2
          have hb3 := hW2.out
          rw [Below.heap_setCell _ _ _ _ (by simp; omega), Below.heap_setCell _ _ _ _ (by simp; omega)]
        have q0 : wz.cell? ⟨w0.heap.size, 0, none⟩ = some (.string x.name) := by rw [← hz]; simp [World.cell?_setCell_same, World.cell?_setCell_other, x0, x1]
        have q1 : wz.cell? ⟨w0.heap.size, 1, none⟩ = some (.slice ax x.args.length cx) := by rw [← hz]; simp [World.cell?_setCell_same, World.cell?_setCell_other, x0, x1]
        have hwz : Hid (w.heap.size + 2 ≤ wz.heap.size) := Nat.le_trans hW2.out hbz.size
        have HBZ := hide hbz
        clear hbz hz
        go_wp2_with fail
        refine (knotC_any F _ x n _ wz (fun b => X b ∧ b < w.heap.size) ⟨ax, cx, rfl, HSZ.out⟩ (fun b hb => hXF b hb.1) hn (F0.out.below HBZ.out F0.out.lt)).mono ?_
        rintro e w9 ⟨s', a', l', c', m, rfl, hF1, hx1, hy1, hn1⟩
        have R9 := hide ((RW.out.below HBZ.out RW.out.lt).ex hx1 (by omega))
        have HX9 := hide ((EXW.out.trans (Ex.ofBelow HBZ.out)).trans hx1)
        have HF9 := hide hF1
        have HY := hide hy1
        have HN := hide hn1
        clear hF1 hx1 hy1 hn1
        have r0 : w9.cell? ⟨w.heap.size + 1, 0, none⟩ = some (.string ⟨#[]⟩) := R9.out.cell 0
        have r1 : w9.cell? ⟨w.heap.size + 1, 1, none⟩ = some (.slice none 0 0) := R9.out.cell 1
        have rf := R9.out.frozen
        go_wp2_with fail
        refine bodyPost_ret (v := .agg #[.string s', .slice a' l' c']) (by simp [results, Try.results75, go_sem, World.cell?_setCell_same, World.cell?_setCell_other, r0, r1]) rfl ?_
        rw [HT.out]
        exact ff_end (by omega) hwz.out HF9.out HX9.out HY.out HN.out
    | none =>
      have HT : Hid (fT ls t = ⟨t.name, fL ls t.args⟩) := by unfold Hid fT fN; rw [HV.out, hf]; rfl
      have LKA : Hid (∀ w', Below ((w.alloc (.cells #[.string t.name, .slice a t.args.length c] 28)).alloc (.cells #[.string ⟨#[]⟩, .slice none 0 0] 28)).heap.size ((w.alloc (.cells #[.string t.name, .slice a t.args.length c] 28)).alloc (.cells #[.string ⟨#[]⟩, .slice none 0 0] 28)) w' → Calls Try.prog 51 #[.string t.name, .pointer (some ⟨B, 0, none⟩)] w' fun e w'' => e = .returned (.tuple #[.agg #[.string ⟨#[]⟩, .slice none 0 0], .bool false]) ∧ Below w'.heap.size w' w'') := fun w' hb => by
        obtain ⟨h1, h2, h3⟩ := E0.out.later hb
        refine (look1_any ls t.name B r L w' X h1 h2 h3).mono fun e w'' hp => ?_
        obtain ⟨hb2, hc⟩ := hp
        rcases hc with ⟨x, _, _, hx, _⟩ | ⟨_, he⟩
        · rw [hf] at hx; cases hx
        · exact ⟨he, hb2⟩
      have HKP : Hid (∀ w', Below ((w.alloc (.cells #[.string t.name, .slice a t.args.length c] 28)).alloc (.cells #[.string ⟨#[]⟩, .slice none 0 0] 28)).heap.size ((w.alloc (.cells #[.string t.name, .slice a t.args.length c] 28)).alloc (.cells #[.string ⟨#[]⟩, .slice none 0 0] 28)) w' → w'.cell? ⟨F, 1, none⟩ = some (.func (.func 51) #[] #[.pointer (some ⟨B, 0, none⟩)]) ∧ w'.cell? ⟨w.heap.size, 0, none⟩ = some (.string t.name)) := fun w' hb => ⟨(F0.out.below hb F0.out.lt).cell 1, (T0.out.below hb T0.out.lt).cell 0⟩
      have nF : ((w.alloc (.cells #[.string t.name, .slice a t.args.length c] 28)).alloc (.cells #[.string ⟨#[]⟩, .slice none 0 0] 28)).heap.size ≠ F := by have := hW2.out; omega
      have nT : ((w.alloc (.cells #[.string t.name, .slice a t.args.length c] 28)).alloc (.cells #[.string ⟨#[]⟩, .slice none 0 0] 28)).heap.size ≠ w.heap.size := by have := hW2.out; omega
      clear hf f1
      go_enter Try.func75, Try.ntmps75
      go_wp2_with (go_at_call 49; refine (isVariable_all _ _).mono ?_; rintro e w' ⟨rfl, rfl⟩; rw [HV.out])
      generalize ((w.alloc (.cells #[.string t.name, .slice a t.args.length c] 28)).alloc (.cells #[.string ⟨#[]⟩, .slice none 0 0] 28)) = w0 at *
      go_region_held3 (fun w' => w'.cell? ⟨F, 1, none⟩ = some (.func (.func 51) #[] #[.pointer (some ⟨B, 0, none⟩)]) ∧ w'.cell? ⟨w.heap.size, 0, none⟩ = some (.string t.name)) (first | exact hS | exact ⟨g1, g0⟩ | exact two_keep hS nF nT | exact two_keep (two_keep hS nF nT) nF nT | go_keep)
        ((go_at_call 51; refine (LKA.out _ (by first | exact (Below.refl _ _).drew | exact ((Below.refl _ _).alloc (Nat.le_refl _) _).drew)).mono ?_; rintro e w1 ⟨rfl, hb1⟩; (first | (have hB0 := way1 hb1; have hS := HKP.out _ hB0) | (have hB0 := way2 hb1; have xb := hide (way2b hb1); have x0 := xb.out.cell 0; have x1 := xb.out.cell 1; have xf := xb.out.frozen; have hS := HKP.out _ hB0))))
      · generalize hz : (w1.alloc (Obj.cells #[Value.string { data := #[] }, Value.slice none 0 0] 28)) = wz at *
        have hbz : Below w0.heap.size w0 wz := by rw [← hz]; exact hB0.alloc hB0.size _
        have t0 : wz.cell? ⟨w.heap.size, 0, none⟩ = some (.string t.name) := (T0.out.below hbz T0.out.lt).cell 0
        have t1 : wz.cell? ⟨w.heap.size, 1, none⟩ = some (.slice a t.args.length c) := (T0.out.below hbz T0.out.lt).cell 1
        have hwz : Hid (w.heap.size + 2 ≤ wz.heap.size) := Nat.le_trans hW2.out hbz.size
        have HBZ := hide hbz
        clear hbz
        go_wp2_with fail
        refine (H.out _ (S0.out.later HBZ.out) (F0.out.below HBZ.out F0.out.lt) (E0.out.later HBZ.out)).mono ?_
        rintro e w9 ⟨s', a', l', c', m, rfl, hF1, hx1, hy1, hn1⟩
        have R9 := hide ((RW.out.below HBZ.out RW.out.lt).ex hx1 (by omega))
        have HX9 := hide ((EXW.out.trans (Ex.ofBelow HBZ.out)).trans hx1)
        have HF9 := hide hF1
        have HY := hide hy1
        have HN := hide hn1
        clear hF1 hx1 hy1 hn1
        have r0 : w9.cell? ⟨w.heap.size + 1, 0, none⟩ = some (.string ⟨#[]⟩) := R9.out.cell 0
        have r1 : w9.cell? ⟨w.heap.size + 1, 1, none⟩ = some (.slice none 0 0) := R9.out.cell 1
        have rf := R9.out.frozen
        go_wp2_with fail
        refine bodyPost_ret (v := .agg #[.string s', .slice a' l' c']) (by simp [results, Try.results75, go_sem, World.cell?_setCell_same, World.cell?_setCell_other, r0, r1]) rfl ?_
        rw [HT.out]
        exact ff_end (by omega) hwz.out HF9.out HX9.out HY.out HN.out
      · generalize hz : ((w1.setCell { block := w0.heap.size, off := 0 } (Value.string { data := #[] })).setCell { block := w0.heap.size, off := 1 } (Value.slice none 0 0)) = wz at *
        have hbz : Below w0.heap.size w0 wz := by rw [← hz]; exact (hB0.setCell (Nat.le_refl _) _).setCell (Nat.le_refl _) _
        have t0 : wz.cell? ⟨w.heap.size, 0, none⟩ = some (.string t.name) := (T0.out.below hbz T0.out.lt).cell 0
        have t1 : wz.cell? ⟨w.heap.size, 1, none⟩ = some (.slice a t.args.length c) := (T0.out.below hbz T0.out.lt).cell 1
        have hwz : Hid (w.heap.size + 2 ≤ wz.heap.size) := Nat.le_trans hW2.out hbz.size
        have HBZ := hide hbz
        clear hbz
        go_wp2_with fail
        refine (H.out _ (S0.out.later HBZ.out) (F0.out.below HBZ.out F0.out.lt) (E0.out.later HBZ.out)).mono ?_
        rintro e w9 ⟨s', a', l', c', m, rfl, hF1, hx1, hy1, hn1⟩
        have R9 := hide ((RW.out.below HBZ.out RW.out.lt).ex hx1 (by omega))
        have HX9 := hide ((EXW.out.trans (Ex.ofBelow HBZ.out)).trans hx1)
        have HF9 := hide hF1
        have HY := hide hy1
        have HN := hide hn1
        clear hF1 hx1 hy1 hn1
        have r0 : w9.cell? ⟨w.heap.size + 1, 0, none⟩ = some (.string ⟨#[]⟩) := R9.out.cell 0
        have r1 : w9.cell? ⟨w.heap.size + 1, 1, none⟩ = some (.slice none 0 0) := R9.out.cell 1
        have rf := R9.out.frozen
        go_wp2_with fail
        refine bodyPost_ret (v := .agg #[.string s', .slice a' l' c']) (by simp [results, Try.results75, go_sem, World.cell?_setCell_same, World.cell?_setCell_other, r0, r1]) rfl ?_
        rw [HT.out]
        exact ff_end (by omega) hwz.out HF9.out HX9.out HY.out HN.out
end Go.Proofs.Ytkfppicbningaaa

/- Walks: what lies below a knot is filled. -/
namespace Go.Proofs.Ytkfppicbningaaa
open Go.RowKit
set_option linter.unusedSimpArgs false
set_option linter.unusedVariables false
set_option maxRecDepth 8000

theorem fL_map (ls : List Bd) : ∀ l : List Tm, fL ls l = l.map (fT ls)
  | [] => by simp [fL]
  | ⟨s, a⟩ :: r => by rw [fL, fL_map ls r]; rfl

set_option maxHeartbeats 1000000 in
theorem knotF_any (F B r : Nat) (ls : List Bd) (L : List (ByteArray × Value)) (hBF : B ≠ F) (hrF : r ≠ F) (t : Tm) : ∀ (n : Nat) (v : Value) (w : World) (X : Nat → Prop), TV w X v t → (∀ b, X b → b ≠ F) → n ≤ 1000000 → Blk w F #[.int .i64 (n : Int), .func (.func 51) #[] #[.pointer (some ⟨B, 0, none⟩)]] 102 → Env w B r X ls L →
    Calls Try.prog 92 #[.pointer (some ⟨F, 0, none⟩), v, .func (.func 75) #[.pointer (some ⟨F, 0, none⟩)] #[]] w fun e w' => CpPost w F (.func (.func 51) #[] #[.pointer (some ⟨B, 0, none⟩)]) ⟨t.name, fL ls t.args⟩ n e w' := by
  induction t using Tm.ind with
  | h s l ih =>
    intro n v w X hv hXF hn hF hE
    obtain ⟨a, c, rfl, hs⟩ := hv
    dsimp only
    generalize hsv : Value.func (.func 51) #[] #[.pointer (some ⟨B, 0, none⟩)] = sv at *
    obtain ⟨M, hM⟩ : ∃ M, fL ls l = M := ⟨_, rfl⟩
    rw [hM]
    have hML : M.length = l.length := by rw [← hM, fL_map]; simp
    have HMK : Hid (∀ k (h : k < M.length) (h' : k < l.length), M[k] = fT ls l[k]) := fun k h h' => by subst hM; simp [fL_map]
    have HE := hide hE
    clear hE hM
    have IH := hide ih
    clear ih
    obtain ⟨i0, hi0, hz0, hz1, hz2⟩ := info_parts Try.infoTerm
    have f0 : ∀ o, (w.alloc o).cell? ⟨F, 0, none⟩ = some (.int .i64 (n : Int)) := fun o => (hF.alloc o).cell 0
    have ff : ∀ o, (w.alloc o).frozen? ⟨F, 0, none⟩ = false := fun o => (hF.alloc o).frozen 0
    have hFl : F < w.heap.size := hF.lt
    go_enter Try.func92, Try.ntmps92
    go_wp2_with fail
    have E3 : Hid (KnSet w F (w.heap.size + 1 + 1) s (.slice none 0 0) #[.int .i64 ((n : Int) - 1), sv] ((((w.setCell ⟨F, 0, none⟩ (.int .i64 ((n : Int) - 1))).alloc (.cells #[.string s, .slice a l.length c] 28)).alloc (.cells #[.string ⟨#[]⟩, .slice none 0 0] 28)).alloc (.cells #[.string s, .slice none 0 0] 28))) := by
      refine ⟨((((Ex.refl F w).set 0 _).alloc _).alloc _).alloc _, ?_, ?_, (((hF.set 0 _).alloc _).alloc _).alloc _, by simp [World.setCell]⟩
      · have h := (Blk.new ((w.setCell ⟨F, 0, none⟩ (.int .i64 ((n : Int) - 1))).alloc (.cells #[.string s, .slice a l.length c] 28)) #[.string ⟨#[]⟩, .slice none 0 0] 28).alloc (.cells #[.string s, .slice none 0 0] 28)
        simpa [World.setCell] using h
      · have h := Blk.new (((w.setCell ⟨F, 0, none⟩ (.int .i64 ((n : Int) - 1))).alloc (.cells #[.string s, .slice a l.length c] 28)).alloc (.cells #[.string ⟨#[]⟩, .slice none 0 0] 28)) #[.string s, .slice none 0 0] 28
        simpa [World.setCell] using h
    generalize ((((w.setCell ⟨F, 0, none⟩ (.int .i64 ((n : Int) - 1))).alloc (.cells #[.string s, .slice a l.length c] 28)).alloc (.cells #[.string ⟨#[]⟩, .slice none 0 0] 28)).alloc (.cells #[.string s, .slice none 0 0] 28)) = w3 at *
    generalize hOe : w.heap.size + 1 + 1 = O at *
    have hO : w.heap.size + 2 ≤ O := by omega
    clear hOe
    clear f0 ff
    have HS := hide hs
    have hl := hs.1
    have HXF := hide hXF
    have hz : sizeL [(⟨s, M⟩ : Tm)] = 1 + sizeL M := by simp [sizeL]
    clear hs hXF
    go_loopw [23] (fun i wr => KnInv w F O s sv M n i wr) (fun i wr => l.length - (intOf i).toNat)
    case atStart =>
      refine ⟨0, .slice none 0 0, Nat.zero_le _, rfl, ?_⟩
      by_cases hn0 : n = 0
      · subst hn0
        exact Or.inr ⟨by omega, E3.out, none, 0, 0, rfl⟩
      · refine Or.inl ⟨n - 1, [], by simp [sizeL]; omega, ?_, Row.start _ _ _ _⟩
        rw [show ((n - 1 : Nat) : Int) = (n : Int) - 1 by omega]
        exact E3.out
    case round =>
      obtain ⟨k, u, hk, rfl, hcase⟩ := hrel
      rcases hcase with ⟨m, xs, hm, hset, hrow⟩ | ⟨hbig, hset, a9, l9, c9, rfl⟩
      · have XS := hide hset
        have XW := hide hrow
        have HMM := hide hm
        clear hset hrow
        by_cases hlt : k < l.length
        · obtain ⟨b, o, a', c', rfl, d0, d1, hx⟩ := (HS.out.ex XS.out.1 HXF.out).get (Below.refl _ _) (fun _ _ h => h) k hlt
          obtain ⟨av, cv, ev, hsx⟩ := hx
          simp at ev
          obtain ⟨rfl, rfl⟩ := ev
          have hltM : k < M.length := by omega
          obtain ⟨y, hy⟩ : ∃ y, fT ls l[k] = y := ⟨_, rfl⟩
          have hMy : Hid (M[k] = y) := by unfold Hid; rw [HMK.out k hltM hlt, hy]
          have hmn : m ≤ 1000000 := by omega
          have HOF : Hid (O ≠ F) := by unfold Hid; omega
          have HFO1 : Hid (F < O + 1) := by unfold Hid; omega
          have hlen := sizeL_len M
          have hsk : (M.take k).length = k := by simp; omega
          have hkn : k ≤ 1000000 := by have h1 := sizeL_len (M.take k); rw [hsk] at h1; omega
          have HL1 : Hid ((M.take k).length + 1 ≤ maxLen ∧ ((M.take k).length + 1) * 40 ≤ 140737488355328) := by unfold Hid; rw [hsk]; exact ⟨by unfold maxLen; omega, by omega⟩
          clear hsk
          have IHQ : Hid (Calls Try.prog 75 #[.pointer (some ⟨F, 0, none⟩), .agg #[.string l[k].name, .slice a' l[k].args.length c']] (wr.alloc (.cells #[.string l[k].name, .slice a' l[k].args.length c'] 28)).drew fun e w'' => CpPost (wr.alloc (.cells #[.string l[k].name, .slice a' l[k].args.length c'] 28)).drew F sv y m e w'') := by
            have hEr : Env (wr.alloc (.cells #[.string l[k].name, .slice a' l[k].args.length c'] 28)).drew B r X ls L := ((HE.out.ex XS.out.1 hBF hrF HXF.out).later ((Below.refl _ _).alloc (Nat.le_refl _) _)).later ((Below.refl _ _).drew)
            have hFr : Blk (wr.alloc (.cells #[.string l[k].name, .slice a' l[k].args.length c'] 28)).drew F #[.int .i64 (m : Int), sv] 102 := (XS.out.2.2.2.1.alloc _).drewN 1
            have hSr : Sl (wr.alloc (.cells #[.string l[k].name, .slice a' l[k].args.length c'] 28)).drew X a' l[k].args := (hsx.later ((Below.refl _ _).alloc (Nat.le_refl _) _)).later ((Below.refl _ _).drew)
            have IH2 := IH.out l[k] (List.getElem_mem hlt) m
            rw [← hy]
            clear HMM XS XW
            subst hsv
            exact ffill_of F B r ls L l[k] m a' c' _ X hmn HXF.out hBF hrF hSr hFr hEr (fun w' h1 h2 h3 => IH2 _ w' X ⟨a', c', rfl, h1⟩ HXF.out hmn h2 h3)
          have f0 : ∀ o, (wr.alloc o).cell? ⟨F, 0, none⟩ = some (.int .i64 (m : Int)) := fun o => (XS.out.2.2.2.1.alloc o).cell 0
          have o1 : ∀ o, (wr.alloc o).cell? ⟨O, 1, none⟩ = some u := fun o => (XS.out.2.2.1.alloc o).cell 1
          have hm0 : ¬ (m : Int) < 0 := by omega
          by_cases hle : sizeL [y] ≤ m
          · have IHG : Hid (Calls Try.prog 75 #[.pointer (some ⟨F, 0, none⟩), .agg #[.string l[k].name, .slice a' l[k].args.length c']] (wr.alloc (.cells #[.string l[k].name, .slice a' l[k].args.length c'] 28)).drew fun e w'' => ∃ a1 c1, e = .returned (.agg #[.string y.name, .slice a1 y.args.length c1]) ∧ Blk w'' F #[.int .i64 ((m : Int) - sizeL [y]), sv] 102 ∧ Ex F wr w'' ∧ Sl w'' (fun b => wr.heap.size ≤ b) a1 y.args) := IHQ.out.mono fun e w'' hp => by
              obtain ⟨s1, a1, l1, c1, m1, h1, h2, h3, h4, _⟩ := hp
              obtain ⟨rfl, rfl, rfl, h5⟩ := h4 hle
              exact ⟨a1, c1, h1, h2, (((Ex.refl F wr).alloc _).drew).trans h3, h5.mono fun b hb _ => by simp at hb; omega⟩
            clear IHQ
            go_wp2_with fail
            go_region_law (first
              | (go_simp; go_at_call 75; refine IHG.out.mono ?_; rintro e w1 ⟨a1, c1, rfl, hF1, he1, hs1⟩; have hc3 : ∀ o, (w1.alloc o).cell? ⟨O, 1, none⟩ = some u := fun o => ((Blk.ex XS.out.2.2.1 he1 HOF.out).alloc o).cell 1; have hc4 : w1.cell? ⟨O, 1, none⟩ = some u := (Blk.ex XS.out.2.2.1 he1 HOF.out).cell 1)
              | (refine step_append_lies _ rfl _ _ 26 rfl (O + 1) 28 i0 _ 2 40 Try.underlying26 hi0 hz0 hz1 hz2 rfl (by decide) u (M.take k).length xs rfl (by exact (Row.ex (B := F) XW.out he1 HFO1.out (fun h => h)).own.alloc _) ⟨w1.heap.size, 0, none⟩ 1 1 [.string y.name, .slice a1 y.args.length c1] rfl rfl (cell_two_new _ _ _ _) (fun x hx => by simp at hx; rcases hx with rfl | rfl <;> rfl) (by decide) HL1.out.1 HL1.out.2 (by have := he1.size; have := XS.out.2.2.2.2; simp; omega) _ rfl ?_; intro g cap w3 hown3 hgrow3 hat3 hlt3; have hB3 := hide (((Blk.ex XS.out.2.2.1 he1 HOF.out).alloc _).grown hgrow3 (XW.out.ne (Nat.lt_succ_self _))); have hc5 : w3.cell? ⟨O, 1, none⟩ = some u := hB3.out.cell 1; have hf5 := hB3.out.frozen 1))
            all_goals
              have HK := hide (kn_set (v := .slice (some ⟨g, 0, none⟩) ((M.take k).length + 1) cap) hFl hO XS.out (fun j hj => (XW.out.own.lt j hj).1) he1 hF1 hgrow3)
              have HRW := hide (kn_row (by omega) XS.out.2.2.2.2 XW.out he1 ⟨a1, c1, rfl, hs1⟩ hown3 hgrow3 hat3)
              clear hown3 hgrow3 hat3 hc3 hc4 hc5 hf5 hB3 hF1 he1 hs1 hlt3
              go_wp2_with fail
              go_roundw
              case rel =>
                have hkl : (M.take k).length = k := by simp; omega
                have h1 := HK.out
                have h2 := HRW.out
                have hmm := HMM.out
                simp only [hkl] at h1 h2
                have hmk : min k l.length = k := by omega
                simp only [hmk]
                refine ⟨k + 1, .slice (some ⟨g, 0, none⟩) (k + 1) cap, by omega, by go_num, Or.inl ⟨m - sizeL [y], xs ++ [.string y.name, .slice a1 y.args.length c1], by rw [sizeL_take M k hltM, hMy.out]; omega, ?_, ?_⟩⟩
                · rw [show ((m - sizeL [y] : Nat) : Int) = (m : Int) - sizeL [y] by omega]
                  exact h1
                · rw [List.take_succ_eq_append_getElem hltM, hMy.out]
                  exact h2
              case measure => simp [intOf]; omega
          · have IHG : Hid (Calls Try.prog 75 #[.pointer (some ⟨F, 0, none⟩), .agg #[.string l[k].name, .slice a' l[k].args.length c']] (wr.alloc (.cells #[.string l[k].name, .slice a' l[k].args.length c'] 28)).drew fun e w'' => ∃ s1 a1 l1 c1, e = .returned (.agg #[.string s1, .slice a1 l1 c1]) ∧ Blk w'' F #[.int .i64 (-1), sv] 102 ∧ Ex F wr w'') := IHQ.out.mono fun e w'' hp => by
              obtain ⟨s1, a1, l1, c1, m1, h1, h2, h3, _, h4⟩ := hp
              obtain rfl := h4 (by omega)
              exact ⟨s1, a1, l1, c1, h1, h2, (((Ex.refl F wr).alloc _).drew).trans h3⟩
            clear IHQ
            go_wp2_with fail
            go_region_law (first
              | (go_simp; go_at_call 75; refine IHG.out.mono ?_; rintro e w1 ⟨s1, a1, l1, c1, rfl, hF1, he1⟩; have hc3 : ∀ o, (w1.alloc o).cell? ⟨O, 1, none⟩ = some u := fun o => ((Blk.ex XS.out.2.2.1 he1 HOF.out).alloc o).cell 1; have hc4 : w1.cell? ⟨O, 1, none⟩ = some u := (Blk.ex XS.out.2.2.1 he1 HOF.out).cell 1)
              | (refine step_append_lies _ rfl _ _ 26 rfl (O + 1) 28 i0 _ 2 40 Try.underlying26 hi0 hz0 hz1 hz2 rfl (by decide) u (M.take k).length xs rfl (by exact (Row.ex (B := F) XW.out he1 HFO1.out (fun h => h)).own.alloc _) ⟨w1.heap.size, 0, none⟩ 1 1 [.string s1, .slice a1 l1 c1] rfl rfl (cell_two_new _ _ _ _) (fun x hx => by simp at hx; rcases hx with rfl | rfl <;> rfl) (by decide) HL1.out.1 HL1.out.2 (by have := he1.size; have := XS.out.2.2.2.2; simp; omega) _ rfl ?_; intro g cap w3 hown3 hgrow3 hat3 hlt3; have hB3 := hide (((Blk.ex XS.out.2.2.1 he1 HOF.out).alloc _).grown hgrow3 (XW.out.ne (Nat.lt_succ_self _))); have hc5 : w3.cell? ⟨O, 1, none⟩ = some u := hB3.out.cell 1; have hf5 := hB3.out.frozen 1))
            all_goals
              have HK := hide (kn_set (v := .slice (some ⟨g, 0, none⟩) ((M.take k).length + 1) cap) hFl hO XS.out (fun j hj => (XW.out.own.lt j hj).1) he1 hF1 hgrow3)
              clear hown3 hgrow3 hat3 hc3 hc4 hc5 hf5 hB3 hF1 he1 hlt3
              go_wp2_with fail
              go_roundw
              case rel =>
                have hkl : (M.take k).length = k := by simp; omega
                have h0 := HK.out
                have hmm := HMM.out
                simp only [hkl] at h0
                have hmk : min k l.length = k := by omega
                simp only [hmk]
                refine ⟨k + 1, .slice (some ⟨g, 0, none⟩) (k + 1) cap, by omega, by go_num, Or.inr ⟨?_, h0, _, _, _, rfl⟩⟩
                have h1 := sizeL_take M k hltM
                rw [hMy.out] at h1
                have h2 := sizeL_take_le M (k + 1)
                omega
              case measure => simp [intOf]; omega
        · have htk : M.take k = M := List.take_of_length_le (by omega)
          rw [htk] at XW HMM
          obtain ⟨a9, c9, hu9, hsl9⟩ := XW.out.sl
          subst hu9
          have S9 := hide hsl9
          clear hsl9
          have r0 : wr.cell? ⟨w.heap.size + 1, 0, none⟩ = some (.string ⟨#[]⟩) := XS.out.2.1.cell 0
          have r1 : wr.cell? ⟨w.heap.size + 1, 1, none⟩ = some (.slice none 0 0) := XS.out.2.1.cell 1
          have rf := XS.out.2.1.frozen
          have o0 : wr.cell? ⟨O, 0, none⟩ = some (.string s) := XS.out.2.2.1.cell 0
          have o1 : wr.cell? ⟨O, 1, none⟩ = some (.slice a9 M.length c9) := XS.out.2.2.1.cell 1
          go_wp2_with fail
          refine bodyPost_ret (v := .agg #[.string s, .slice a9 M.length c9]) (by simp [results, Try.results92, go_sem, World.cell?_setCell_same, World.cell?_setCell_other, r0, r1, hML]) rfl ?_
          have hmm := HMM.out
          refine ⟨s, a9, M.length, c9, m, rfl, (XS.out.2.2.2.1.setOther _ _ (by omega)).setOther _ _ (by omega), (XS.out.1.setNew (by omega) _ _).setNew (by omega) _ _, fun h => ⟨by rw [hz]; omega, rfl, rfl, (S9.out.kept fun b hb => ?_).mono fun b hb _ => ?_⟩, fun h => by omega⟩
          · have hb' : O + 1 ≤ b := hb.elim False.elim id
            rw [Below.heap_setCell _ _ _ _ (by simp; omega), Below.heap_setCell _ _ _ _ (by simp; omega)]
          · have hb' : O + 1 ≤ b := hb.elim False.elim id
            omega
      · have XS := hide hset
        clear hset
        have f0 : ∀ o, (wr.alloc o).cell? ⟨F, 0, none⟩ = some (.int .i64 (-1)) := fun o => (XS.out.2.2.2.1.alloc o).cell 0
        by_cases hlt : k < l.length
        · obtain ⟨b, o, a', c', rfl, d0, d1, hx⟩ := (HS.out.ex XS.out.1 HXF.out).get (Below.refl _ _) (fun _ _ h => h) k hlt
          clear hx
          have o0 : ∀ o, (wr.alloc o).cell? ⟨O, 0, none⟩ = some (.string s) := fun o => (XS.out.2.2.1.alloc o).cell 0
          have o1 : ∀ o, (wr.alloc o).cell? ⟨O, 1, none⟩ = some (.slice a9 l9 c9) := fun o => (XS.out.2.2.1.alloc o).cell 1
          have r0 : wr.cell? ⟨w.heap.size + 1, 0, none⟩ = some (.string ⟨#[]⟩) := XS.out.2.1.cell 0
          have r1 : wr.cell? ⟨w.heap.size + 1, 1, none⟩ = some (.slice none 0 0) := XS.out.2.1.cell 1
          have rf := XS.out.2.1.frozen
          have hRl : w.heap.size + 1 < wr.heap.size := XS.out.2.1.lt
          go_wp2_with fail
          refine bodyPost_ret (v := .agg #[.string s, .slice a9 l9 c9]) (by simp [results, Try.results92, go_sem, World.cell?_setCell_same, World.cell?_setCell_other, r0, r1, hRl, World.cell?_alloc_old]) rfl ?_
          exact ⟨s, a9, l9, c9, -1, rfl, ((XS.out.2.2.2.1.setOther _ _ (by omega)).setOther _ _ (by omega)).alloc _, ((XS.out.1.setNew (by omega) _ _).setNew (by omega) _ _).alloc _, fun h => by omega, fun _ => rfl⟩
        · have r0 : wr.cell? ⟨w.heap.size + 1, 0, none⟩ = some (.string ⟨#[]⟩) := XS.out.2.1.cell 0
          have r1 : wr.cell? ⟨w.heap.size + 1, 1, none⟩ = some (.slice none 0 0) := XS.out.2.1.cell 1
          have rf := XS.out.2.1.frozen
          have o0 : wr.cell? ⟨O, 0, none⟩ = some (.string s) := XS.out.2.2.1.cell 0
          have o1 : wr.cell? ⟨O, 1, none⟩ = some (.slice a9 l9 c9) := XS.out.2.2.1.cell 1
          go_wp2_with fail
          refine bodyPost_ret (v := .agg #[.string s, .slice a9 l9 c9]) (by simp [results, Try.results92, go_sem, World.cell?_setCell_same, World.cell?_setCell_other, r0, r1]) rfl ?_
          exact ⟨s, a9, l9, c9, -1, rfl, (XS.out.2.2.2.1.setOther _ _ (by omega)).setOther _ _ (by omega), (XS.out.1.setNew (by omega) _ _).setNew (by omega) _ _, fun h => by omega, fun _ => rfl⟩
#print axioms knotF_any
end Go.Proofs.Ytkfppicbningaaa

/- Walks: Fill. -/
namespace Go.Proofs.Ytkfppicbningaaa
open Go.RowKit
set_option linter.unusedSimpArgs false
set_option linter.unusedVariables false
set_option maxRecDepth 8000

theorem ffill_any (F B r : Nat) (ls : List Bd) (L : List (ByteArray × Value)) (t : Tm) (n : Nat) (a : Option Addr) (c : Nat) (w : World) (X : Nat → Prop) (hn : n ≤ 1000000) (hXF : ∀ b, X b → b ≠ F) (hBF : B ≠ F) (hrF : r ≠ F) (hs : Sl w X a t.args) (hF : Blk w F #[.int .i64 (n : Int), .func (.func 51) #[] #[.pointer (some ⟨B, 0, none⟩)]] 102) (hE : Env w B r X ls L) :
    Calls Try.prog 75 #[.pointer (some ⟨F, 0, none⟩), .agg #[.string t.name, .slice a t.args.length c]] w fun e w' => CpPost w F (.func (.func 51) #[] #[.pointer (some ⟨B, 0, none⟩)]) (fT ls t) n e w' :=
  ffill_of F B r ls L t n a c w X hn hXF hBF hrF hs hF hE (fun w' h1 h2 h3 => knotF_any F B r ls L hBF hrF t n _ w' X ⟨a, c, rfl, h1⟩ hXF hn h2 h3)

set_option maxHeartbeats 1000000 in
theorem fill_any (B r : Nat) (ls : List Bd) (L : List (ByteArray × Value)) (t : Tm) (n : Nat) (a : Option Addr) (c : Nat) (w : World) (X : Nat → Prop) (hn : n ≤ 1000000) (hs : Sl w X a t.args) (hE : Env w B r X ls L) :
    Calls Try.prog 50 #[.agg #[.string t.name, .slice a t.args.length c], .int .i64 (n : Int), .func (.func 51) #[] #[.pointer (some ⟨B, 0, none⟩)]] w fun e w' => Below w.heap.size w w' ∧
      ((sizeL [fT ls t] ≤ n ∧ ∃ a' c', e = .returned (.tuple #[.agg #[.string (fT ls t).name, .slice a' (fT ls t).args.length c'], .bool true]) ∧ Sl w' (fun b => w.heap.size ≤ b) a' (fT ls t).args) ∨ (n < sizeL [fT ls t] ∧ e = .returned (.tuple #[.agg #[.string ⟨#[]⟩, .slice none 0 0], .bool false]))) := by
  have hmf : ∀ (fn : Fn) (first cap : Array Value) (w : World), (Instr.makeFunc fn first cap).run Try.prog w = .ok (.func fn first cap) w := fun _ _ _ _ => rfl
  have HS := hide (hs.mono (Y := fun b => X b ∧ b < w.heap.size) fun b h1 h2 => ⟨h1, h2⟩)
  have HE : Hid (Env w B r (fun b => X b ∧ b < w.heap.size) ls L) := ⟨hE.1, hE.2.1, hE.2.2.imp fun a l hs => hs.mono fun b h1 h2 => ⟨h1, h2⟩⟩
  have hBl : B < w.heap.size := hE.1.lt
  have hrl : r < w.heap.size := hE.2.1.lt
  clear hs hE
  go_enter Try.func50, Try.ntmps50
  go_wp2_with fail
  have HB3 : Hid (Below w.heap.size w (((w.alloc (.cells #[.string t.name, .slice a t.args.length c] 28)).alloc (.cells #[.string ⟨#[]⟩, .slice none 0 0] 28)).alloc (.cells #[.int .i64 (n : Int), .func (.func 51) #[] #[.pointer (some ⟨B, 0, none⟩)]] 102))) := ((((Below.refl w.heap.size w).alloc (Nat.le_refl _) _).alloc (by simp) _).alloc (by simp; omega) _)
  have F3 : Hid (Blk (((w.alloc (.cells #[.string t.name, .slice a t.args.length c] 28)).alloc (.cells #[.string ⟨#[]⟩, .slice none 0 0] 28)).alloc (.cells #[.int .i64 (n : Int), .func (.func 51) #[] #[.pointer (some ⟨B, 0, none⟩)]] 102)) (w.heap.size + 1 + 1) #[.int .i64 (n : Int), .func (.func 51) #[] #[.pointer (some ⟨B, 0, none⟩)]] 102) := by
    have h := Blk.new ((w.alloc (.cells #[.string t.name, .slice a t.args.length c] 28)).alloc (.cells #[.string ⟨#[]⟩, .slice none 0 0] 28)) #[.int .i64 (n : Int), .func (.func 51) #[] #[.pointer (some ⟨B, 0, none⟩)]] 102
    unfold Hid
    simpa using h
  have R3 : Hid (Blk (((w.alloc (.cells #[.string t.name, .slice a t.args.length c] 28)).alloc (.cells #[.string ⟨#[]⟩, .slice none 0 0] 28)).alloc (.cells #[.int .i64 (n : Int), .func (.func 51) #[] #[.pointer (some ⟨B, 0, none⟩)]] 102)) (w.heap.size + 1) #[.string ⟨#[]⟩, .slice none 0 0] 28) := by
    have h := (Blk.new (w.alloc (.cells #[.string t.name, .slice a t.args.length c] 28)) #[.string ⟨#[]⟩, .slice none 0 0] 28).alloc (.cells #[.int .i64 (n : Int), .func (.func 51) #[] #[.pointer (some ⟨B, 0, none⟩)]] 102)
    unfold Hid
    simpa using h
  have z3 : (((w.alloc (.cells #[.string t.name, .slice a t.args.length c] 28)).alloc (.cells #[.string ⟨#[]⟩, .slice none 0 0] 28)).alloc (.cells #[.int .i64 (n : Int), .func (.func 51) #[] #[.pointer (some ⟨B, 0, none⟩)]] 102)).heap.size = w.heap.size + 3 := by simp
  generalize (((w.alloc (.cells #[.string t.name, .slice a t.args.length c] 28)).alloc (.cells #[.string ⟨#[]⟩, .slice none 0 0] 28)).alloc (.cells #[.int .i64 (n : Int), .func (.func 51) #[] #[.pointer (some ⟨B, 0, none⟩)]] 102)) = w3 at *
  refine (ffill_any (w.heap.size + 1 + 1) B r ls L t n a c w3 (fun b => X b ∧ b < w.heap.size) hn (fun b hb => by have := hb.2; omega) (by omega) (by omega) (HS.out.later HB3.out) F3.out (HE.out.later HB3.out)).mono ?_
  rintro e w9 ⟨s', a', l', c', m, rfl, hF9, hx9, hy, hno⟩
  have HF9 := hide hF9
  have HX9 := hide hx9
  have R9 := hide (R3.out.ex hx9 (by omega))
  have hz9 := hx9.size
  clear hF9 hx9
  have r0 : w9.cell? ⟨w.heap.size + 1, 0, none⟩ = some (.string ⟨#[]⟩) := R9.out.cell 0
  have r1 : w9.cell? ⟨w.heap.size + 1, 1, none⟩ = some (.slice none 0 0) := R9.out.cell 1
  have rf := R9.out.frozen
  have hRl : w.heap.size + 1 < w9.heap.size := R9.out.lt
  have HBW : Hid (Below w.heap.size w w9) := ⟨HX9.out.os.trans HB3.out.os, HX9.out.tape.trans HB3.out.tape, HX9.out.output.trans HB3.out.output, by omega, fun k hk => (HX9.out.block k (by omega) (by omega)).trans (HB3.out.block k hk)⟩
  by_cases hle : sizeL [fT ls t] ≤ n
  · obtain ⟨rfl, rfl, rfl, hsl⟩ := hy hle
    have HSL := hide hsl
    clear hy hno hsl
    have f0 : ∀ o, (w9.alloc o).cell? ⟨w.heap.size + 1 + 1, 0, none⟩ = some (.int .i64 ((n : Int) - sizeL [fT ls t])) := fun o => (HF9.out.alloc o).cell 0
    have hlt : ¬ ((n : Int) - sizeL [fT ls t]) < 0 := by omega
    go_wp2_with fail
    refine bodyPost_ret (v := .tuple #[.agg #[.string (fT ls t).name, .slice a' (fT ls t).args.length c'], .bool true]) (by simp [results, Try.results50, go_sem, World.cell?_setCell_same, World.cell?_setCell_other, r0, r1, hRl, World.cell?_alloc_old]) rfl ?_
    refine ⟨((HBW.out.setCell (by simp) _).setCell (by simp) _).alloc (by simp [World.setCell]; omega) _, Or.inl ⟨hle, a', c', rfl, ((HSL.out.kept fun b hb => ?_).later ((Below.refl _ _).alloc (Nat.le_refl _) _)).mono fun b hb _ => by omega⟩⟩
    rw [Below.heap_setCell _ _ _ _ (by simp; omega), Below.heap_setCell _ _ _ _ (by simp; omega)]
  · obtain rfl := hno (by omega)
    clear hy hno
    have f0 : ∀ o, (w9.alloc o).cell? ⟨w.heap.size + 1 + 1, 0, none⟩ = some (.int .i64 (-1)) := fun o => (HF9.out.alloc o).cell 0
    go_wp2_with fail
    refine bodyPost_ret (v := .tuple #[.agg #[.string ⟨#[]⟩, .slice none 0 0], .bool false]) (by simp [results, Try.results50, go_sem, World.cell?_setCell_same, World.cell?_setCell_other, r0, r1, hRl, World.cell?_alloc_old]) rfl ?_
    exact ⟨((HBW.out.setCell (by simp) _).setCell (by simp) _).alloc (by simp [World.setCell]; omega) _, Or.inr ⟨by omega, rfl⟩⟩
#print axioms fill_any
end Go.Proofs.Ytkfppicbningaaa

/- Walks: subst's fill. -/
namespace Go.Proofs.Ytkfppicbningaaa
open Go.RowKit
set_option linter.unusedSimpArgs false
set_option linter.unusedVariables false
set_option maxRecDepth 8000

set_option maxHeartbeats 1000000 in
theorem sfill_any (B r : Nat) (ls : List Bd) (L : List (ByteArray × Value)) (t : Tm) (a : Option Addr) (c : Nat) (w : World) (X : Nat → Prop) (hs : Sl w X a t.args) (hE : Env w B r X ls L) :
    Calls Try.prog 29 #[.agg #[.string t.name, .slice a t.args.length c], .func (.func 51) #[] #[.pointer (some ⟨B, 0, none⟩)]] w fun e w' => Below w.heap.size w w' ∧
      ((sizeL [fT ls t] ≤ 2000 ∧ ∃ a' c', e = .returned (.tuple #[.agg #[.string (fT ls t).name, .slice a' (fT ls t).args.length c'], .int .i64 0]) ∧ Sl w' (fun b => w.heap.size ≤ b) a' (fT ls t).args) ∨ (2000 < sizeL [fT ls t] ∧ e = .returned (.tuple #[.agg #[.string ⟨#[]⟩, .slice none 0 0], .int .i64 8]))) := by
  have HS := hide hs
  have HE := hide hE
  clear hs hE
  go_enter Try.func29, Try.ntmps29
  go_wp2_with fail
  have HB3 : Hid (Below w.heap.size w ((w.alloc (.cells #[.string t.name, .slice a t.args.length c] 28)).alloc (.cells #[.string ⟨#[]⟩, .slice none 0 0] 28))) := (((Below.refl w.heap.size w).alloc (Nat.le_refl _) _).alloc (by simp) _)
  have R3 : Hid (Blk ((w.alloc (.cells #[.string t.name, .slice a t.args.length c] 28)).alloc (.cells #[.string ⟨#[]⟩, .slice none 0 0] 28)) (w.heap.size + 1) #[.string ⟨#[]⟩, .slice none 0 0] 28) := by
    have h := (Blk.new (w.alloc (.cells #[.string t.name, .slice a t.args.length c] 28)) #[.string ⟨#[]⟩, .slice none 0 0] 28)
    unfold Hid
    simpa using h
  have z3 : ((w.alloc (.cells #[.string t.name, .slice a t.args.length c] 28)).alloc (.cells #[.string ⟨#[]⟩, .slice none 0 0] 28)).heap.size = w.heap.size + 2 := by simp
  generalize ((w.alloc (.cells #[.string t.name, .slice a t.args.length c] 28)).alloc (.cells #[.string ⟨#[]⟩, .slice none 0 0] 28)) = w3 at *
  refine (fill_any B r ls L t 2000 a c w3 X (by decide) (HS.out.later HB3.out) (HE.out.later HB3.out)).mono ?_
  rintro e w9 ⟨hb9, hcase⟩
  have R9 := hide (R3.out.below hb9 R3.out.lt)
  have HBW := hide (HB3.out.trans (hb9.mono (by omega)))
  have hz9 := hb9.size
  clear hb9
  have r0 : w9.cell? ⟨w.heap.size + 1, 0, none⟩ = some (.string ⟨#[]⟩) := R9.out.cell 0
  have r1 : w9.cell? ⟨w.heap.size + 1, 1, none⟩ = some (.slice none 0 0) := R9.out.cell 1
  have rf := R9.out.frozen
  have hRl : w.heap.size + 1 < w9.heap.size := R9.out.lt
  rcases hcase with ⟨hle, a', c', rfl, hsl⟩ | ⟨hle, rfl⟩
  · have HSL := hide hsl
    clear hsl
    go_wp2_with fail
    refine bodyPost_ret (v := .tuple #[.agg #[.string (fT ls t).name, .slice a' (fT ls t).args.length c'], .int .i64 0]) (by simp [results, Try.results29, go_sem, World.cell?_setCell_same, World.cell?_setCell_other, r0, r1, hRl, World.cell?_alloc_old]) rfl ?_
    refine ⟨((HBW.out.setCell (by simp) _).setCell (by simp) _).alloc (by simp [World.setCell]; omega) _, Or.inl ⟨hle, a', c', rfl, ((HSL.out.kept fun b hb => ?_).later ((Below.refl _ _).alloc (Nat.le_refl _) _)).mono fun b hb _ => by omega⟩⟩
    rw [Below.heap_setCell _ _ _ _ (by simp; omega), Below.heap_setCell _ _ _ _ (by simp; omega)]
  · go_wp2_with fail
    refine bodyPost_ret (v := .tuple #[.agg #[.string ⟨#[]⟩, .slice none 0 0], .int .i64 8]) (by simp [results, Try.results29, go_sem, World.cell?_setCell_same, World.cell?_setCell_other, r0, r1, hRl, World.cell?_alloc_old]) rfl ?_
    exact ⟨((HBW.out.setCell (by simp) _).setCell (by simp) _).alloc (by simp [World.setCell]; omega) _, Or.inr ⟨hle, rfl⟩⟩
#print axioms sfill_any
end Go.Proofs.Ytkfppicbningaaa

/- What is wrong with bindings. -/
namespace Go.Proofs.Ytkfppicbningaaa
open Go.RowKit
set_option linter.unusedSimpArgs false
set_option linter.unusedVariables false

/-- A text is not above another one. -/
def leB (a b : ByteArray) : Bool := Op.bytesLess a.toList b.toList || a.toList == b.toList
def prevN (ls : List Bd) (k : Nat) : Option ByteArray := if k = 0 then none else (ls[k - 1]?).map Bd.nm
/-- What is wrong with a binding behind another one. -/
def bmB (p : Option ByteArray) (d : Bd) : Int :=
  if (nameB d.nm && varB d.nm) = false then 1 else if (match p with | some q => leB d.nm q | none => false) = true then 14 else mayE d.t
def bmK (ls : List Bd) (k : Nat) : Int := match ls[k]? with
  | some d => bmB (prevN ls k) d
  | none => 0
def bmT (ls : List Bd) : Nat → Int
  | 0 => 0
  | n + 1 => if bmT ls n = 0 then bmK ls n else bmT ls n
/-- What is wrong with a list of bindings. -/
def bindsE (ls : List Bd) : Int := if 40 < ls.length then 3 else bmT ls ls.length

theorem bmT_stays {ls : List Bd} {k : Nat} (h : bmT ls k ≠ 0) : ∀ n, k ≤ n → bmT ls n = bmT ls k
  | 0, hn => by have : k = 0 := by omega
                subst this; rfl
  | n + 1, hn => by
    by_cases e : k = n + 1
    · rw [e]
    · have ih := bmT_stays h n (by omega)
      rw [bmT, if_neg (by rw [ih]; exact h), ih]
theorem bmT_err {ls : List Bd} {k : Nat} {z : Int} (hk : k < ls.length) (h40 : ¬ 40 < ls.length) (h0 : bmT ls k = 0) (hz : bmK ls k = z) (hne : z ≠ 0) : bindsE ls = z := by
  have h1 : bmT ls (k + 1) = z := by rw [bmT, if_pos h0, hz]
  unfold bindsE
  rw [if_neg h40, bmT_stays (k := k + 1) (by rw [h1]; exact hne) _ (by omega), h1]
theorem bmT_next {ls : List Bd} {k : Nat} (h0 : bmT ls k = 0) (hz : bmK ls k = 0) : bmT ls (k + 1) = 0 := by rw [bmT, if_pos h0, hz]
theorem bmK_name {ls : List Bd} {k : Nat} (hk : k < ls.length) (h : (nameB ls[k].nm && varB ls[k].nm) = false) : bmK ls k = 1 := by
  unfold bmK bmB
  rw [List.getElem?_eq_getElem hk]
  simp only [h, if_true]
theorem bmK_order {ls : List Bd} {j : Nat} (hk : j + 1 < ls.length) (h : (nameB ls[j + 1].nm && varB ls[j + 1].nm) = true) (hle : leB ls[j + 1].nm (ls[j]'(by omega)).nm = true) : bmK ls (j + 1) = 14 := by
  unfold bmK bmB prevN
  rw [List.getElem?_eq_getElem hk]
  simp only [h, Nat.add_sub_cancel, Nat.succ_ne_zero, if_false, Bool.true_eq_false]
  rw [List.getElem?_eq_getElem (by omega : j < ls.length)]
  simp only [Option.map_some, hle, if_true]
theorem bmK_may {ls : List Bd} {j : Nat} (hk : j + 1 < ls.length) (h : (nameB ls[j + 1].nm && varB ls[j + 1].nm) = true) (hle : leB ls[j + 1].nm (ls[j]'(by omega)).nm = false) : bmK ls (j + 1) = mayE ls[j + 1].t := by
  unfold bmK bmB prevN
  rw [List.getElem?_eq_getElem hk]
  simp only [h, Nat.add_sub_cancel, Nat.succ_ne_zero, if_false, Bool.true_eq_false]
  rw [List.getElem?_eq_getElem (by omega : j < ls.length)]
  simp only [Option.map_some, hle, Bool.false_eq_true, if_false]
theorem bmK_first {ls : List Bd} (hk : 0 < ls.length) (h : (nameB ls[0].nm && varB ls[0].nm) = true) : bmK ls 0 = mayE ls[0].t := by
  unfold bmK bmB prevN
  rw [List.getElem?_eq_getElem hk]
  simp only [h, if_true, Bool.true_eq_false, Bool.false_eq_true, if_false]
end Go.Proofs.Ytkfppicbningaaa

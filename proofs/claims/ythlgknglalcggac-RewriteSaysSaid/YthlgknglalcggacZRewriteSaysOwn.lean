/- Several texts in one. -/
import Derived.WalkKit
import Derived.WalkSpells
import Derived.WalkLawsBesides
import Derived.Test.YthlgknglalcggacRows
import Derived.BigQuiet
import Derived.Deep.AppendLies
import Derived.Deep.AppendSrc
import Derived.Lib.Builder
import Derived.Test.YthlgknglalcggacShelf
import Derived.RangeFuncNested
import Derived.RangeFuncBound
import Derived.RangeFuncCalls
import Derived.RangeFuncLeaves
import Derived.RangeFuncWrites
import Derived.Shelf.Abstract
import Derived.Shelf.RegionOpen
import Derived.OwnWalkIn
import Derived.TacticsInMore
import Derived.LoopNIn
import Derived.LoopIn
import Derived.Deep.RegionHeld3
import Derived.Deep.RegionHeld
/- The tree that a term is, and how it lies in memory: plain mathematics of terms, and what stays where it was. -/
namespace Go.Proofs.Ythlgknglalcggac
open Go.RowKit

/-- Kept from the walk. -/
theorem hide {p : Prop} (h : p) : Hid p := h

/-- A term as a tree. -/
structure Tm where
  name : ByteArray
  args : List Tm

theorem Tm.ind {P : Tm → Prop} (h : ∀ s l, (∀ x ∈ l, P x) → P ⟨s, l⟩) (t : Tm) : P t :=
  Tm.rec (motive_1 := P) (motive_2 := fun l => ∀ x ∈ l, P x) (fun s l ih => h s l ih) (fun x hx => by cases hx)
    (fun a l ha hl x hx => by
      rcases List.mem_cons.1 hx with e | e
      · subst e; exact ha
      · exact hl x e) t

theorem Tm.indL {P : List Tm → Prop} (h0 : P []) (h : ∀ s l r, P l → P r → P (⟨s, l⟩ :: r)) (l : List Tm) : P l :=
  Tm.rec_1 (motive_1 := fun t => P t.args) (motive_2 := P) (fun _ _ ih => ih) h0 (fun a l ha hl => by obtain ⟨s, k⟩ := a; exact h s k l ha hl) l

/-- The knots of a list of terms. -/
def sizeL : List Tm → Nat
  | [] => 0
  | ⟨_, l⟩ :: r => 1 + sizeL l + sizeL r

theorem sizeL_append (a b : List Tm) : sizeL (a ++ b) = sizeL a + sizeL b := by
  induction a with
  | nil => simp [sizeL]
  | cons t r ih => obtain ⟨s, l⟩ := t; simp only [List.cons_append, sizeL, ih]; omega

/-- A list of terms lies in a row of cells, two a term, in blocks that X lets. -/
def Lies (w : World) (X : Nat → Prop) : Nat → Nat → List Tm → Prop
  | _, _, [] => True
  | b, o, ⟨s, l⟩ :: r => X b ∧ w.cell? ⟨b, o, none⟩ = some (.string s) ∧
      (∃ a c, w.cell? ⟨b, o + 1, none⟩ = some (.slice a l.length c) ∧ l.length ≤ 9223372036854775807 ∧ (l = [] ∨ ∃ b' o', a = some ⟨b', o', none⟩ ∧ Lies w X b' o' l)) ∧ Lies w X b (o + 2) r

/-- What a slice of terms holds. -/
def Sl (w : World) (X : Nat → Prop) (a : Option Addr) (l : List Tm) : Prop := l.length ≤ 9223372036854775807 ∧ (l = [] ∨ ∃ b o, a = some ⟨b, o, none⟩ ∧ Lies w X b o l)

/-- What a term's value holds. -/
def TV (w : World) (X : Nat → Prop) (v : Value) (t : Tm) : Prop := ∃ a c, v = .agg #[.string t.name, .slice a t.args.length c] ∧ Sl w X a t.args

theorem lies_kept {w w' : World} {X : Nat → Prop} (h : ∀ b, X b → w'.heap[b]? = w.heap[b]?) (l : List Tm) : ∀ b o, Lies w X b o l → Lies w' X b o l := by
  induction l using Tm.indL with
  | h0 => intro b o _; simp [Lies]
  | h s l r ihl ihr =>
    intro b o hl
    simp only [Lies] at hl ⊢
    obtain ⟨hx, h1, ⟨a, c, h2, h2', h3⟩, h4⟩ := hl
    refine ⟨hx, by rw [World.cell?_of_block (h b hx)]; exact h1, ⟨a, c, by rw [World.cell?_of_block (h b hx)]; exact h2, h2', ?_⟩, ihr _ _ h4⟩
    rcases h3 with h3 | ⟨b', o', h3, h5⟩
    · exact Or.inl h3
    · exact Or.inr ⟨b', o', h3, ihl _ _ h5⟩

theorem lies_mono {w : World} {X Y : Nat → Prop} (h : ∀ b, X b → b < w.heap.size → Y b) (l : List Tm) : ∀ b o, Lies w X b o l → Lies w Y b o l := by
  induction l using Tm.indL with
  | h0 => intro b o _; simp [Lies]
  | h s l r ihl ihr =>
    intro b o hl
    simp only [Lies] at hl ⊢
    obtain ⟨hx, h1, ⟨a, c, h2, h2', h3⟩, h4⟩ := hl
    have hb : b < w.heap.size := by
      apply Classical.byContradiction
      intro hn
      have e : w.heap[b]? = none := Array.getElem?_eq_none (by omega)
      simp [World.cell?, e] at h1
    refine ⟨h b hx hb, h1, ⟨a, c, h2, h2', ?_⟩, ihr _ _ h4⟩
    rcases h3 with h3 | ⟨b', o', h3, h5⟩
    · exact Or.inl h3
    · exact Or.inr ⟨b', o', h3, ihl _ _ h5⟩

theorem Sl.kept {w w' : World} {X : Nat → Prop} {a : Option Addr} {l : List Tm} (h : Sl w X a l) (hk : ∀ b, X b → w'.heap[b]? = w.heap[b]?) : Sl w' X a l := by
  obtain ⟨hl, h⟩ := h
  refine ⟨hl, ?_⟩
  rcases h with h | ⟨b, o, e, h⟩
  · exact Or.inl h
  · exact Or.inr ⟨b, o, e, lies_kept hk _ _ _ h⟩

theorem Sl.mono {w : World} {X Y : Nat → Prop} {a : Option Addr} {l : List Tm} (h : Sl w X a l) (hk : ∀ b, X b → b < w.heap.size → Y b) : Sl w Y a l := by
  obtain ⟨hl, h⟩ := h
  refine ⟨hl, ?_⟩
  rcases h with h | ⟨b, o, e, h⟩
  · exact Or.inl h
  · exact Or.inr ⟨b, o, e, lies_mono hk _ _ _ h⟩

theorem Sl.below {w w' : World} {X : Nat → Prop} {a : Option Addr} {l : List Tm} {B : Nat} (h : Sl w X a l) (hb : Below B w w') (hX : ∀ b, X b → b < w.heap.size → b < B) : Sl w' X a l := by
  have h1 : Sl w (fun b => X b ∧ b < B) a l := h.mono fun b hx hs => ⟨hx, hX b hx hs⟩
  have h2 : Sl w' (fun b => X b ∧ b < B) a l := h1.kept fun b hx => hb.block b hx.2
  exact h2.mono fun b hx _ => hx.1

theorem TV.kept {w w' : World} {X : Nat → Prop} {v : Value} {t : Tm} (h : TV w X v t) (hk : ∀ b, X b → w'.heap[b]? = w.heap[b]?) : TV w' X v t := by
  obtain ⟨a, c, e, h⟩ := h
  exact ⟨a, c, e, h.kept hk⟩

theorem TV.mono {w : World} {X Y : Nat → Prop} {v : Value} {t : Tm} (h : TV w X v t) (hk : ∀ b, X b → b < w.heap.size → Y b) : TV w Y v t := by
  obtain ⟨a, c, e, h⟩ := h
  exact ⟨a, c, e, h.mono hk⟩

theorem TV.below {w w' : World} {X : Nat → Prop} {v : Value} {t : Tm} {B : Nat} (h : TV w X v t) (hb : Below B w w') (hX : ∀ b, X b → b < w.heap.size → b < B) : TV w' X v t := by
  obtain ⟨a, c, e, h⟩ := h
  exact ⟨a, c, e, h.below hb hX⟩

theorem TV.alloc {w : World} {X : Nat → Prop} {v : Value} {t : Tm} (h : TV w X v t) (o : Obj) : TV (w.alloc o) X v t :=
  h.below ((Below.refl _ _).alloc (Nat.le_refl _) o) (fun _ _ h => h)

theorem TV.later {w w' : World} {X : Nat → Prop} {v : Value} {t : Tm} (h : TV w X v t) (hb : Below w.heap.size w w') : TV w' X v t := h.below hb (fun _ _ h => h)

theorem Sl.later {w w' : World} {X : Nat → Prop} {a : Option Addr} {l : List Tm} (h : Sl w X a l) (hb : Below w.heap.size w w') : Sl w' X a l := h.below hb (fun _ _ h => h)

/-- One of a row. -/
theorem lies_get {w : World} {X : Nat → Prop} : ∀ (l : List Tm) (b o : Nat), Lies w X b o l → ∀ i (h : i < l.length),
    X b ∧ w.cell? ⟨b, o + i * 2, none⟩ = some (.string l[i].name) ∧ ∃ a c, w.cell? ⟨b, o + i * 2 + 1, none⟩ = some (.slice a l[i].args.length c) ∧ Sl w X a l[i].args := by
  intro l
  induction l with
  | nil => intro b o _ i h; simp at h
  | cons t r ih =>
    intro b o hl i h
    obtain ⟨s, k⟩ := t
    simp only [Lies] at hl
    obtain ⟨hx, h1, ⟨a, c, h2, h3⟩, h4⟩ := hl
    cases i with
    | zero => exact ⟨hx, h1, a, c, h2, h3⟩
    | succ i =>
      have := ih b (o + 2) h4 i (by simpa using h)
      simp only [List.getElem_cons_succ]
      rw [show o + (i + 1) * 2 = o + 2 + i * 2 by omega]
      exact this

theorem lies_mk {w : World} {X : Nat → Prop} : ∀ (l : List Tm) (b o : Nat), (∀ i (h : i < l.length),
    X b ∧ w.cell? ⟨b, o + i * 2, none⟩ = some (.string l[i].name) ∧ ∃ a c, w.cell? ⟨b, o + i * 2 + 1, none⟩ = some (.slice a l[i].args.length c) ∧ Sl w X a l[i].args) → Lies w X b o l := by
  intro l
  induction l with
  | nil => intro b o _; simp [Lies]
  | cons t r ih =>
    intro b o hl
    obtain ⟨s, k⟩ := t
    simp only [Lies]
    obtain ⟨hx, h1, a, c, h2, h3⟩ := hl 0 (by simp)
    refine ⟨hx, h1, ⟨a, c, h2, h3⟩, ih b (o + 2) fun i h => ?_⟩
    have := hl (i + 1) (by simpa using h)
    simp only [List.getElem_cons_succ] at this
    rw [show o + (i + 1) * 2 = o + 2 + i * 2 by omega] at this
    exact this

/-- One of a slice, in a later world. -/
theorem Sl.get {w wr : World} {X : Nat → Prop} {a : Option Addr} {l : List Tm} {B : Nat} (h : Sl w X a l) (hb : Below B w wr) (hX : ∀ b, X b → b < w.heap.size → b < B) (k : Nat) (hk : k < l.length) :
    ∃ b o a' c', a = some ⟨b, o, none⟩ ∧ wr.cell? ⟨b, o + k * 2, none⟩ = some (.string l[k].name) ∧ wr.cell? ⟨b, o + k * 2 + 1, none⟩ = some (.slice a' l[k].args.length c') ∧ TV wr X (.agg #[.string l[k].name, .slice a' l[k].args.length c']) l[k] := by
  have h' := h.below hb hX
  obtain ⟨_, h1⟩ := h'
  rcases h1 with h1 | ⟨b, o, e, h1⟩
  · subst h1; simp at hk
  · obtain ⟨_, h2, a', c', h3, h4⟩ := lies_get _ _ _ h1 k hk
    exact ⟨b, o, a', c', e, h2, h3, a', c', rfl, h4⟩

#print axioms lies_mk
end Go.Proofs.Ythlgknglalcggac

/- Rows of terms that a call makes. -/
namespace Go.Proofs.Ythlgknglalcggac
open Go.RowKit
set_option linter.unusedSimpArgs false
set_option linter.unusedVariables false

/-- These cells are these terms. -/
def RowT (w : World) (X : Nat → Prop) : List Tm → List Value → Prop
  | [], xs => xs = []
  | t :: l, xs => ∃ a c r, xs = .string t.name :: .slice a t.args.length c :: r ∧ Sl w X a t.args ∧ RowT w X l r

theorem RowT.len {w : World} {X : Nat → Prop} : ∀ {l : List Tm} {xs : List Value}, RowT w X l xs → xs.length = l.length * 2
  | [], xs, h => by simp [RowT] at h; simp [h]
  | t :: l, xs, h => by
    obtain ⟨a, c, r, rfl, _, h⟩ := h
    simp only [List.length_cons]
    rw [RowT.len h]; omega

theorem RowT.append {w : World} {X : Nat → Prop} : ∀ {l k : List Tm} {xs ys : List Value}, RowT w X l xs → RowT w X k ys → RowT w X (l ++ k) (xs ++ ys)
  | [], k, xs, ys, h, h' => by simp [RowT] at h; subst h; simpa using h'
  | t :: l, k, xs, ys, h, h' => by
    obtain ⟨a, c, r, rfl, hs, h⟩ := h
    exact ⟨a, c, r ++ ys, rfl, hs, RowT.append h h'⟩

theorem RowT.one {w : World} {X : Nat → Prop} : ∀ {l : List Tm} {xs : List Value}, RowT w X l xs → ∀ u ∈ xs, u.oneCell' = true
  | [], xs, h, u, hu => by simp [RowT] at h; subst h; cases hu
  | t :: l, xs, h, u, hu => by
    obtain ⟨a, c, r, rfl, _, h⟩ := h
    rcases List.mem_cons.1 hu with e | hu
    · subst e; rfl
    · rcases List.mem_cons.1 hu with e | hu
      · subst e; rfl
      · exact RowT.one h u hu

theorem RowT.imp {w w' : World} {X Y : Nat → Prop} (hs : ∀ a l, Sl w X a l → Sl w' Y a l) : ∀ {l : List Tm} {xs : List Value}, RowT w X l xs → RowT w' Y l xs
  | [], xs, h => h
  | t :: l, xs, h => by
    obtain ⟨a, c, r, e, h1, h⟩ := h
    exact ⟨a, c, r, e, hs _ _ h1, RowT.imp hs h⟩

theorem RowT.get {w : World} {X : Nat → Prop} : ∀ {l : List Tm} {xs : List Value}, RowT w X l xs → ∀ i (h : i < l.length),
    xs[i * 2]? = some (.string l[i].name) ∧ ∃ a c, xs[i * 2 + 1]? = some (.slice a l[i].args.length c) ∧ Sl w X a l[i].args
  | [], xs, h, i, hi => by simp at hi
  | t :: l, xs, h, i, hi => by
    obtain ⟨a, c, r, rfl, h1, h⟩ := h
    cases i with
    | zero => exact ⟨rfl, a, c, rfl, h1⟩
    | succ i =>
      have := RowT.get h i (by simpa using hi)
      rw [show (i + 1) * 2 = i * 2 + 2 by omega, show i * 2 + 2 + 1 = (i * 2 + 1) + 2 by omega]
      simpa using this

theorem sizeL_len (l : List Tm) : l.length ≤ sizeL l := by
  induction l with
  | nil => simp
  | cons t r ih => obtain ⟨s, k⟩ := t; simp only [List.length_cons, sizeL]; omega

/-- A row out of what lies. -/
theorem rowT_of_lies {w : World} {X : Nat → Prop} : ∀ (l : List Tm) (b o : Nat), Lies w X b o l → ∃ xs, RowT w X l xs ∧ ∀ j u, xs[j]? = some u → w.cell? ⟨b, o + j, none⟩ = some u := by
  intro l
  induction l with
  | nil => intro b o _; exact ⟨[], rfl, by simp⟩
  | cons t r ih =>
    intro b o h
    obtain ⟨s, k⟩ := t
    simp only [Lies] at h
    obtain ⟨hx, h1, ⟨a, c, h2, h3, h4⟩, h5⟩ := h
    obtain ⟨xs, hr, hc⟩ := ih b (o + 2) h5
    refine ⟨.string s :: .slice a k.length c :: xs, ⟨a, c, xs, rfl, ⟨h3, h4⟩, hr⟩, fun j u hj => ?_⟩
    match j, hj with
    | 0, hj => simp at hj; subst hj; exact h1
    | 1, hj => simp at hj; subst hj; exact h2
    | j + 2, hj => rw [show o + (j + 2) = o + 2 + j by omega]; exact hc j u (by simpa using hj)

theorem lies_of_rowT {w w' : World} {X Y : Nat → Prop} (b : Nat) (hb : Y b) : ∀ (l : List Tm) (xs : List Value) (o : Nat), RowT w X l xs → (∀ a k, Sl w X a k → Sl w' Y a k) → (∀ j u, xs[j]? = some u → w'.cell? ⟨b, o + j, none⟩ = some u) → Lies w' Y b o l := by
  intro l
  induction l with
  | nil => intro xs o _ _ _; simp [Lies]
  | cons t r ih =>
    intro xs o h hs hc
    obtain ⟨s, k⟩ := t
    obtain ⟨a, c, r', rfl, h1, h2⟩ := h
    simp only [Lies]
    obtain ⟨h3, h4⟩ := hs _ _ h1
    refine ⟨hb, hc 0 _ rfl, ⟨a, c, hc 1 _ rfl, h3, h4⟩, ih r' (o + 2) h2 hs fun j u hj => ?_⟩
    have := hc (j + 2) u (by simpa using hj)
    rwa [show o + (j + 2) = o + 2 + j by omega] at this

/-- The knots, each ahead of those below it. -/
def preL : List Tm → List Tm
  | [] => []
  | ⟨s, l⟩ :: r => ⟨s, l⟩ :: (preL l ++ preL r)

theorem preL_append (a b : List Tm) : preL (a ++ b) = preL a ++ preL b := by
  induction a with
  | nil => simp [preL]
  | cons t r ih => obtain ⟨s, l⟩ := t; simp [preL, ih]

theorem preL_take (l : List Tm) (k : Nat) (h : k < l.length) : preL (l.take (k + 1)) = preL (l.take k) ++ preL [l[k]] := by
  rw [List.take_succ_eq_append_getElem h, preL_append]

theorem preL_length (l : List Tm) : (preL l).length = sizeL l := by
  induction l using Tm.indL with
  | h0 => simp [preL, sizeL]
  | h s l r ihl ihr => simp [preL, sizeL, ihl, ihr]; omega

/-- Old memory, told by the world that was. -/
theorem Sl.back {w w' : World} {X : Nat → Prop} {a : Option Addr} {l : List Tm} {B : Nat} (h : Sl w' X a l) (hb : Below B w w') (hX : ∀ b, X b → b < B) : Sl w X a l :=
  h.kept fun b hx => (hb.block b (hX b hx)).symm

/-- What a row that is owned says of the slice. -/
theorem owned_val {w : World} {base e size : Nat} {v : Value} {n : Nat} {xs : List Value} (h : w.ownsRow base e size v n xs) (hn : 0 < n) :
    ∃ g cap, v = .slice (some ⟨g, 0, none⟩) n cap ∧ base ≤ g ∧ g < w.heap.size ∧ ∀ j u, xs[j]? = some u → w.cell? ⟨g, j, none⟩ = some u := by
  have h' := h
  obtain ⟨hl, h1⟩ := h
  rcases h1 with ⟨_, h0⟩ | ⟨g, cap, cur, hv, hg, hh, _⟩
  · omega
  · subst hv
    have hlt := (h'.lt g rfl).2
    refine ⟨g, cap, rfl, hg, hlt, fun j u hj => ?_⟩
    have := h'.cells (g := g) rfl j u hj
    by_cases h0 : j = 0
    · subst h0; simpa [Addr.add] using this
    · simpa [Addr.add, h0] using this

/-- An append whose outcome is known. -/
theorem wpList_append_eq {P : Program} {ops : Array Oper} {rest : List Oper} {o : Oper} {a : Act} {Q : Exit → Act → World → Prop} {w w' : World} {v u v' : Value} (hgd : o.guard = none) (s x : Operand) (t t' : TypeId)
    (ho : o.op = .call { callee := .builtin .append, args := #[s, x], argTypes := #[t, t'] }) (hs : a.eval s = v) (hx : a.eval x = u)
    (hr : (Builtin.append_ #[t, t'] o.type #[v, u]).run P w = .ok v' w') (h : wpList P ops Q rest (a.put o.dst v') w') : wpList P ops Q (o :: rest) a w :=
  wpList_plain hgd fun K hK => by
    unfold Oper.wp execOp
    simp only [ho, resolve, invoke, builtin, Sem.run_bind, Sem.run_pure, Result.andThen_ok, List.map_toArray, List.map_cons, List.map_nil, hs, hx, hr]
    exact hK _ _ h

#print axioms lies_of_rowT
end Go.Proofs.Ythlgknglalcggac

/- Lists of things of one cell each. -/
namespace Go.Proofs.Ythlgknglalcggac
open Go.RowKit
set_option linter.unusedSimpArgs false
set_option linter.unusedVariables false

/-- A list in memory, a cell each. -/
def LV {α : Type} (f : α → Value) (w : World) (X : Nat → Prop) (v : Value) (l : List α) : Prop :=
  ∃ a c, v = .slice a l.length c ∧ (l.length ≤ 9223372036854775807 ∧ l.length ≤ c) ∧ (l = [] ∨ ∃ b o, a = some ⟨b, o, none⟩ ∧ X b ∧ ∀ i (h : i < l.length), w.cell? ⟨b, o + i, none⟩ = some (f l[i]))

theorem LV.kept {α : Type} {f : α → Value} {w w' : World} {X : Nat → Prop} {v : Value} {l : List α} (h : LV f w X v l) (hk : ∀ b, X b → w'.heap[b]? = w.heap[b]?) : LV f w' X v l := by
  obtain ⟨a, c, e, hl, h⟩ := h
  refine ⟨a, c, e, hl, ?_⟩
  rcases h with h | ⟨b, o, e, hx, h⟩
  · exact Or.inl h
  · exact Or.inr ⟨b, o, e, hx, fun i hi => by rw [World.cell?_of_block (hk b hx)]; exact h i hi⟩

theorem LV.mono {α : Type} {f : α → Value} {w : World} {X Y : Nat → Prop} {v : Value} {l : List α} (h : LV f w X v l) (hk : ∀ b, X b → b < w.heap.size → Y b) : LV f w Y v l := by
  obtain ⟨a, c, e, hl, h⟩ := h
  refine ⟨a, c, e, hl, ?_⟩
  rcases h with h | ⟨b, o, e, hx, h⟩
  · exact Or.inl h
  · by_cases h0 : l = []
    · exact Or.inl h0
    · have hp : 0 < l.length := List.length_pos_iff.2 h0
      exact Or.inr ⟨b, o, e, hk b hx (World.block_lt_of_cell? w _ (h 0 hp)), h⟩

theorem LV.below {α : Type} {f : α → Value} {w w' : World} {X : Nat → Prop} {v : Value} {l : List α} {B : Nat} (h : LV f w X v l) (hb : Below B w w') (hX : ∀ b, X b → b < w.heap.size → b < B) : LV f w' X v l := by
  have h1 : LV f w (fun b => X b ∧ b < B) v l := h.mono fun b hx hs => ⟨hx, hX b hx hs⟩
  have h2 : LV f w' (fun b => X b ∧ b < B) v l := h1.kept fun b hx => hb.block b hx.2
  exact h2.mono fun b hx _ => hx.1

theorem LV.later {α : Type} {f : α → Value} {w w' : World} {X : Nat → Prop} {v : Value} {l : List α} (h : LV f w X v l) (hb : Below w.heap.size w w') : LV f w' X v l := h.below hb (fun _ _ h => h)
theorem LV.alloc {α : Type} {f : α → Value} {w : World} {X : Nat → Prop} {v : Value} {l : List α} (h : LV f w X v l) (o : Obj) : LV f (w.alloc o) X v l := h.later ((Below.refl _ _).alloc (Nat.le_refl _) o)

/-- Out of a row that a call owns. -/
theorem LV.of_own {α : Type} {f : α → Value} {w : World} {N T : Nat} {v : Value} {l : List α} (h : w.ownsRow N T 1 v l.length (l.map f)) : LV f w (fun b => N ≤ b) v l := by
  have h' := h
  obtain ⟨_, h1⟩ := h
  rcases h1 with ⟨rfl, h0⟩ | ⟨g, cap, cur, hv, hg, hh, hnc, hcm, _⟩
  · have e : l = [] := List.length_eq_zero_iff.1 h0
    subst e
    exact ⟨none, 0, rfl, by simp, Or.inl rfl⟩
  · unfold maxLen at hcm
    refine ⟨some ⟨g, 0, none⟩, cap, hv, ⟨by omega, hnc⟩, ?_⟩
    by_cases h0 : l = []
    · exact Or.inl h0
    · have hp : 0 < l.length := List.length_pos_iff.2 h0
      obtain ⟨g2, cap2, hv2, _, _, hc⟩ := owned_val h' hp
      rw [hv] at hv2
      simp at hv2
      obtain ⟨rfl, rfl⟩ := hv2
      exact Or.inr ⟨g, 0, rfl, hg, fun i hi => by rw [Nat.zero_add]; exact hc i _ (by simp [hi])⟩
#print axioms LV.of_own
end Go.Proofs.Ythlgknglalcggac

/- Walks: letters, digits, names. -/
namespace Go.Proofs.Ythlgknglalcggac
open Go.RowKit
set_option linter.unusedSimpArgs false
set_option linter.unusedVariables false

def digB (n : Int) : Bool := decide (48 ≤ n) && decide (n ≤ 57)
def capB (n : Int) : Bool := decide (65 ≤ n) && decide (n ≤ 90)
def lowB (n : Int) : Bool := decide (97 ≤ n) && decide (n ≤ 122)
def letB (n : Int) : Bool := lowB n || capB n
def alnB (n : Int) : Bool := letB n || digB n

theorem ret_bool {a b : Bool} (h : a = b) : Ending.returned (.bool a) = .returned (.bool b) := by rw [h]

set_option maxHeartbeats 400000 in
theorem isDigit_any (n : Int) (w : World) : Calls Try.prog 73 #[.int .u8 n] w fun e w' => e = .returned (.bool (digB n)) ∧ w' = w := by
  go_enter Try.func73, Try.ntmps73
  go_wp2_with fail
  all_goals (go_ret; refine ⟨ret_bool ?_, rfl⟩; rw [Bool.eq_iff_iff]; simp [alnB, letB, lowB, capB, digB] <;> omega)

set_option maxHeartbeats 400000 in
theorem isCapital_any (n : Int) (w : World) : Calls Try.prog 75 #[.int .u8 n] w fun e w' => e = .returned (.bool (capB n)) ∧ w' = w := by
  go_enter Try.func75, Try.ntmps75
  go_wp2_with fail
  all_goals (go_ret; refine ⟨ret_bool ?_, rfl⟩; rw [Bool.eq_iff_iff]; simp [alnB, letB, lowB, capB, digB] <;> omega)

set_option maxHeartbeats 400000 in
theorem isLetter_any (n : Int) (w : World) : Calls Try.prog 74 #[.int .u8 n] w fun e w' => e = .returned (.bool (letB n)) ∧ w' = w := by
  go_enter Try.func74, Try.ntmps74
  go_wp2_with (go_at_call 75; refine (isCapital_any _ _).mono ?_; rintro e w' ⟨rfl, rfl⟩)
  all_goals (go_ret; refine ⟨ret_bool ?_, rfl⟩; rw [Bool.eq_iff_iff]; simp [alnB, letB, lowB, capB, digB] <;> omega)

set_option maxHeartbeats 400000 in
theorem isLetterR_any (n : Int) (w : World) : Calls Try.prog 66 #[.int .u8 n] w fun e w' => e = .returned (.bool (alnB n)) ∧ w' = w := by
  go_enter Try.func66, Try.ntmps66
  go_wp2_with fail
  all_goals (go_ret; refine ⟨ret_bool ?_, rfl⟩; rw [Bool.eq_iff_iff]; simp [alnB, letB, lowB, capB, digB] <;> omega)
end Go.Proofs.Ythlgknglalcggac


/- Walks: lists that are the same; whether a text is in a list. -/
namespace Go.Proofs.Ythlgknglalcggac
open Go.RowKit
set_option linter.unusedSimpArgs false
set_option linter.unusedVariables false

/-- Is a text in a list? -/
def inB (x : ByteArray) (l : List ByteArray) : Bool := l.any fun y => y.toList == x.toList
theorem inB_take {x : ByteArray} {l : List ByteArray} {k : Nat} (h : k < l.length) (h0 : inB x (l.take k) = false) (h1 : (l[k].toList == x.toList) = false) : inB x (l.take (k + 1)) = false := by
  unfold inB at *
  rw [List.take_succ_eq_append_getElem h, List.any_append, h0]
  simpa using h1
theorem inB_yes {x : ByteArray} {l : List ByteArray} {k : Nat} (h : k < l.length) (h1 : (l[k].toList == x.toList) = true) : inB x l = true := by
  unfold inB
  rw [List.any_eq_true]
  exact ⟨l[k], List.getElem_mem h, h1⟩

set_option maxHeartbeats 400000 in
theorem in_any (x : ByteArray) (l : List ByteArray) (v : Value) (w : World) (X : Nat → Prop) (hv : LV Value.string w X v l) :
    Calls Try.prog 36 #[.string x, v] w fun e w' => e = .returned (.bool (inB x l)) ∧ w' = w := by
  obtain ⟨a, c, rfl, ⟨hl, _⟩, h1⟩ := hv
  go_enter Try.func36, Try.ntmps36
  go_wp2_with fail
  go_loop [5] (fun i => ∃ k : Nat, k ≤ l.length ∧ i = .int .i64 k ∧ inB x (l.take k) = false) (fun i => l.length - (intOf i).toNat)
  case atStart => exact ⟨0, Nat.zero_le _, rfl, by simp [inB]⟩
  case round =>
    obtain ⟨k, hk, rfl, ha⟩ := hrel
    have HA := hide ha
    clear ha
    by_cases hlt : k < l.length
    · obtain ⟨b, o, rfl, _, hc⟩ := h1.resolve_left (fun h => by rw [h] at hlt; simp at hlt)
      have d1 := hc k hlt
      clear hc h1
      cases hq : (l[k].toList == x.toList) with
      | true =>
        have HQ := hide (inB_yes hlt hq)
        go_wp2_with fail
        go_ret
        exact ⟨ret_bool HQ.out.symm, rfl⟩
      | false =>
        have HQ := hide (inB_take hlt HA.out hq)
        go_wp2_with fail
        go_round
        case rel => exact ⟨k + 1, by omega, by go_num, HQ.out⟩
        case measure => simp [intOf]; omega
    · have htk : l.take k = l := List.take_of_length_le (by omega)
      have HF : Hid (false = inB x l) := by unfold Hid; rw [← HA.out, htk]
      go_wp2_with fail
      go_ret
      exact ⟨ret_bool HF.out, rfl⟩
#print axioms in_any
end Go.Proofs.Ythlgknglalcggac

/- Walks: how many knots a term has. -/
namespace Go.Proofs.Ythlgknglalcggac
open Go.RowKit

/-- Behind a call that makes memory: old cells and marks read as before. -/
theorem bcell {W w1 : World} {B : Nat} (hb : Below B W w1) : (∀ b o, b < B → w1.cell? ⟨b, o, none⟩ = W.cell? ⟨b, o, none⟩) ∧ (∀ b o, b < B → w1.frozen? ⟨b, o, none⟩ = W.frozen? ⟨b, o, none⟩) :=
  ⟨fun b o h => hb.cell (p := ⟨b, o, none⟩) h, fun b o h => hb.frozen (p := ⟨b, o, none⟩) h⟩

theorem sizeL_take (l : List Tm) (k : Nat) (h : k < l.length) : sizeL (l.take (k + 1)) = sizeL (l.take k) + sizeL [l[k]] := by
  rw [List.take_succ_eq_append_getElem h, sizeL_append]

theorem sizeL_take_le (l : List Tm) (k : Nat) : sizeL (l.take k) ≤ sizeL l := by
  have := sizeL_append (l.take k) (l.drop k)
  rw [List.take_append_drop] at this
  omega

theorem ret_int {k : IntKind} {a b : Int} (h : a = b) : Ending.returned (.int k a) = .returned (.int k b) := by rw [h]

/-- Behind a call whose first deed was to lay its parameter down. -/
theorem below_box {w wr : World} {o : Obj} (hb : Below (w.heap.size + 1) (w.alloc o) wr) : Below w.heap.size w wr :=
  ((Below.refl _ _).alloc (Nat.le_refl _) _).trans (hb.mono (Nat.le_succ _))

set_option maxHeartbeats 400000 in
theorem size_any (t : Tm) : ∀ (v : Value) (most : Int) (w : World) (X : Nat → Prop), TV w X v t → 0 ≤ most → most ≤ 1000000 →
    Calls Try.prog 10 #[v, .int .i64 most] w fun e w' => e = .returned (.int .i64 (min (sizeL [t]) (most + 1))) ∧ Below w.heap.size w w' := by
  induction t using Tm.ind with
  | h s l ih =>
    intro v most w X hv hm0 hm1
    obtain ⟨a, c, rfl, hs⟩ := hv
    have IH := hide ih
    clear ih
    go_enter Try.func10, Try.ntmps10
    go_wp2_with fail
    go_loopw [5, 6] (fun n i wr => ∃ k : Nat, k ≤ l.length ∧ i = .int .i64 k ∧ n = .int .i64 (min (1 + sizeL (l.take k)) (most + 1)) ∧ Below (w.heap.size + 1) (w.alloc (Obj.cells #[Value.string s, Value.slice a l.length c] 25)) wr) (fun n i wr => l.length - (intOf i).toNat)
    case atStart => exact ⟨0, Nat.zero_le _, rfl, by simp [sizeL]; omega, Below.refl _ _⟩
    case round =>
      obtain ⟨k, hk, rfl, rfl, hb⟩ := hrel
      have hc := bcell hb
      have c0 : wr.cell? ⟨w.heap.size, 0, none⟩ = some (.string s) := by rw [hc.1 _ _ (by omega)]; simp
      have c1 : wr.cell? ⟨w.heap.size, 1, none⟩ = some (.slice a l.length c) := by rw [hc.1 _ _ (by omega)]; simp
      have hl := hs.1
      have hn : 0 ≤ ((1 : Int) + sizeL (l.take k)) := by omega
      by_cases hlt : k < l.length
      · obtain ⟨b, o, a', c', rfl, d0, d1, hx⟩ := hs.get (((Below.refl _ _).alloc (Nat.le_refl _) _).trans (hb.mono (Nat.le_succ _))) (fun _ _ h => h) k hlt
        by_cases hle : 1 + (sizeL (l.take k) : Int) ≤ most
        · have hmin : min (1 + (sizeL (l.take k) : Int)) (most + 1) = 1 + (sizeL (l.take k) : Int) := by omega
          rw [hmin]
          go_wp2_with fail
          refine (IH.out _ (List.getElem_mem hlt) _ _ _ X hx (by omega) (by omega)).mono ?_
          rintro e w1 ⟨rfl, hb1⟩
          have hsz : w.heap.size + 1 ≤ wr.heap.size := by have := hb.size; simpa using this
          have Hst := hide (sizeL_take l k hlt)
          have hm2 : 0 ≤ min ((sizeL [l[k]] : Int)) (most - (1 + (sizeL (l.take k) : Int)) + 1) := by omega
          have hm3 : min ((sizeL [l[k]] : Int)) (most - (1 + (sizeL (l.take k) : Int)) + 1) ≤ 1000001 := by omega
          go_wp2_with fail
          go_roundw
          case rel => exact ⟨k + 1, by omega, by go_num, by rw [Hst.out]; congr 1; omega, hb.trans (hb1.mono hsz)⟩
          case measure => simp [intOf]; omega
        · have hmin : min (1 + (sizeL (l.take k) : Int)) (most + 1) = most + 1 := by omega
          rw [hmin]
          have hz : (sizeL [(⟨s, l⟩ : Tm)] : Int) = 1 + sizeL l := by simp [sizeL]
          have hle2 : sizeL (l.take k) ≤ sizeL l := sizeL_take_le l k
          have HF := hide (show (most + 1 : Int) = min (sizeL [(⟨s, l⟩ : Tm)] : Int) (most + 1) by omega)
          clear hz
          go_wp2_with fail
          go_ret
          exact ⟨ret_int HF.out, below_box hb⟩
      · have htk : l.take k = l := List.take_of_length_le (by omega)
        rw [htk]
        have hz : (sizeL [(⟨s, l⟩ : Tm)] : Int) = 1 + sizeL l := by simp [sizeL]
        have HZ := hide hz
        clear hz
        go_wp2_with fail
        · go_ret
          exact ⟨ret_int (by have := HZ.out; omega), below_box hb⟩
        · go_ret
          exact ⟨ret_int (by have := HZ.out; omega), below_box hb⟩

#print axioms size_any
end Go.Proofs.Ythlgknglalcggac

/- Walks: which texts are names, and which of them are variables'. -/
namespace Go.Proofs.Ythlgknglalcggac
open Go.RowKit
set_option linter.unusedSimpArgs false
set_option linter.unusedVariables false

def byteAt (s : ByteArray) (i : Nat) : Int := if h : i < s.size then (s[i].toNat : Int) else 0
theorem byteAt_of {s : ByteArray} {i : Nat} (h : i < s.size) : (s[i].toNat : Int) = byteAt s i := by simp [byteAt, h]
def varB (s : ByteArray) : Bool := capB (byteAt s 0)
def alnTo (s : ByteArray) (k : Nat) : Bool := (List.range k).all fun i => alnB (byteAt s i)
def nameB (s : ByteArray) : Bool := decide (1 ≤ s.size) && decide (s.size ≤ 8) && !digB (byteAt s 0) && alnTo s s.size

theorem isEmpty_pos {s : ByteArray} (h : 0 < s.size) : s.toList.isEmpty = false := by
  rw [ByteArray.toList_eq, List.isEmpty_eq_false_iff, ← List.length_pos_iff]
  simpa using h
theorem isEmpty_zero {s : ByteArray} (h : ¬ 0 < s.size) : s.toList.isEmpty = true := by
  rw [ByteArray.toList_eq, List.isEmpty_iff, ← List.length_eq_zero_iff]
  have : s.size = 0 := by omega
  simpa using this
theorem alnTo_succ (s : ByteArray) (k : Nat) : alnTo s (k + 1) = (alnTo s k && alnB (byteAt s k)) := by
  simp [alnTo, List.range_succ, List.all_append]
theorem alnTo_false {s : ByteArray} {k n : Nat} (h : k ≤ n) (hf : alnTo s k = false) : alnTo s n = false := by
  cases hn : alnTo s n with
  | false => rfl
  | true =>
    rw [← hf]; symm
    unfold alnTo at hn ⊢
    rw [List.all_eq_true] at hn ⊢
    intro x hx; exact hn x (by rw [List.mem_range] at hx ⊢; omega)
theorem byte_bd (s : ByteArray) (k : Nat) : 0 ≤ byteAt s k ∧ byteAt s k ≤ 255 := by
  unfold byteAt
  split
  · have := (s[k]).toNat_lt; omega
  · omega

set_option maxHeartbeats 400000 in
theorem isVarR_any (s : ByteArray) (w : World) : Calls Try.prog 35 #[.string s] w fun e w' => e = .returned (.bool (varB s)) ∧ w' = w := by
  by_cases h : 0 < s.size
  · have hb := hide (byteAt_of h)
    have he := isEmpty_pos h
    go_enter Try.func35, Try.ntmps35
    go_wp2_with fail
    all_goals (go_ret; refine ⟨ret_bool ?_, rfl⟩; have hb' := hb.out; rw [Bool.eq_iff_iff]; simp [varB, capB] <;> omega)
  · have he := isEmpty_zero h
    have hv : Hid (false = varB s) := by simp [Hid, varB, byteAt, h, capB]
    go_enter Try.func35, Try.ntmps35
    go_wp2_with fail
    go_ret
    exact ⟨ret_bool hv.out, rfl⟩

set_option maxHeartbeats 400000 in
theorem isVariable_all (s : ByteArray) (w : World) : Calls Try.prog 47 #[.string s] w fun e w' => e = .returned (.bool (varB s)) ∧ w' = w := by
  by_cases h : 0 < s.size
  · have hb := hide (byteAt_of h)
    have he := isEmpty_pos h
    go_enter Try.func47, Try.ntmps47
    go_wp2_with (go_at_call 75; refine (isCapital_any _ _).mono ?_; rintro e w' ⟨rfl, rfl⟩)
    go_ret
    refine ⟨ret_bool ?_, rfl⟩
    rw [hb.out]; rfl
  · have he := isEmpty_zero h
    have hv : Hid (false = varB s) := by simp [Hid, varB, byteAt, h, capB]
    go_enter Try.func47, Try.ntmps47
    go_wp2_with fail
    go_ret
    exact ⟨ret_bool hv.out, rfl⟩
theorem isVariable_any (s : ByteArray) (w : World) (h : 0 < s.size) : Calls Try.prog 47 #[.string s] w fun e w' => e = .returned (.bool (varB s)) ∧ w' = w := isVariable_all s w

theorem nameB_no {s : ByteArray} {k : Nat} (hk : k < s.size) (h : alnB (byteAt s k) = false) : nameB s = false := by
  have h1 : alnTo s (k + 1) = false := by rw [alnTo_succ, h]; simp
  have h2 := alnTo_false (n := s.size) (by omega) h1
  simp [nameB, h2]

set_option maxHeartbeats 400000 in
theorem isName_any (s : ByteArray) (w : World) : Calls Try.prog 46 #[.string s] w fun e w' => e = .returned (.bool (nameB s)) ∧ w' = w := by
  by_cases h0 : s.size < 1
  · have hn : Hid (false = nameB s) := by simp [Hid, nameB]; omega
    go_enter Try.func46, Try.ntmps46
    go_wp2_with fail
    go_ret
    exact ⟨ret_bool hn.out, rfl⟩
  · by_cases h8 : 8 < s.size
    · have hn : Hid (false = nameB s) := by simp [Hid, nameB]; omega
      go_enter Try.func46, Try.ntmps46
      go_wp2_with fail
      all_goals (go_ret; exact ⟨ret_bool hn.out, rfl⟩)
    · have hb := hide (byteAt_of (s := s) (i := 0) (by omega))
      by_cases hd : digB (byteAt s 0) = true
      · have hn : Hid (false = nameB s) := by simp [Hid, nameB, hd]
        have hd' := hide hd
        clear hd
        go_enter Try.func46, Try.ntmps46
        go_wp2_with (go_at_call 73; refine (isDigit_any _ _).mono ?_; rintro e w' ⟨rfl, rfl⟩; rw [hb.out, hd'.out])
        all_goals (go_ret; exact ⟨ret_bool hn.out, rfl⟩)
      · have hd' : Hid (digB (byteAt s 0) = false) := by simpa [Hid] using hd
        clear hd
        go_enter Try.func46, Try.ntmps46
        go_wp2_with (go_at_call 73; refine (isDigit_any _ _).mono ?_; rintro e w' ⟨rfl, rfl⟩; rw [hb.out, hd'.out])
        go_loop [19] (fun i => ∃ k : Nat, k ≤ s.size ∧ i = .int .i64 k ∧ alnTo s k = true) (fun i => s.size - (intOf i).toNat)
        case atStart => exact ⟨0, Nat.zero_le _, rfl, rfl⟩
        case round =>
          obtain ⟨k, hk, rfl, ha⟩ := hrel
          have HA := hide ha
          clear ha
          by_cases hlt : k < s.size
          · have hbk := hide (byteAt_of hlt)
            have hsuc := hide (alnTo_succ s k)
            cases hl : letB (byteAt s k) with
            | true =>
              have HL := hide hl
              clear hl
              go_wp2_with (go_at_call 74; refine (isLetter_any _ _).mono ?_; rintro e w' ⟨rfl, rfl⟩; rw [hbk.out, HL.out])
              go_round
              case rel => exact ⟨k + 1, by omega, by go_num, by rw [hsuc.out, HA.out, alnB, HL.out]; rfl⟩
              case measure => simp [intOf]; omega
            | false =>
              have HL := hide hl
              clear hl
              cases hg : digB (byteAt s k) with
              | true =>
                have HG := hide hg
                clear hg
                go_wp2_with (first | (go_at_call 74; refine (isLetter_any _ _).mono ?_; rintro e w' ⟨rfl, rfl⟩; rw [hbk.out, HL.out]) | (go_at_call 73; refine (isDigit_any _ _).mono ?_; rintro e w' ⟨rfl, rfl⟩; rw [hbk.out, HG.out]))
                go_round
                case rel => exact ⟨k + 1, by omega, by go_num, by rw [hsuc.out, HA.out, alnB, HL.out, HG.out]; rfl⟩
                case measure => simp [intOf]; omega
              | false =>
                have HG := hide hg
                clear hg
                go_wp2_with (first | (go_at_call 74; refine (isLetter_any _ _).mono ?_; rintro e w' ⟨rfl, rfl⟩; rw [hbk.out, HL.out]) | (go_at_call 73; refine (isDigit_any _ _).mono ?_; rintro e w' ⟨rfl, rfl⟩; rw [hbk.out, HG.out]))
                go_ret
                exact ⟨ret_bool (nameB_no hlt (by rw [alnB, HL.out, HG.out]; rfl)).symm, rfl⟩
          · have hn : Hid (true = nameB s) := by
              have e : k = s.size := by omega
              have := HA.out
              rw [e] at this
              simp [Hid, nameB, this, hd'.out]; omega
            go_wp2_with fail
            go_ret
            exact ⟨ret_bool hn.out, rfl⟩

set_option maxHeartbeats 400000 in
theorem isNameR_any (s : ByteArray) (w : World) : Calls Try.prog 34 #[.string s] w fun e w' => e = .returned (.bool (nameB s)) ∧ w' = w := by
  by_cases h0 : 0 < s.size
  · have he := isEmpty_pos h0
    have hb := hide (byteAt_of h0)
    by_cases h8 : 8 < s.size
    · have hn : Hid (false = nameB s) := by simp [Hid, nameB]; omega
      go_enter Try.func34, Try.ntmps34
      go_wp2_with fail
      all_goals (go_ret; exact ⟨ret_bool hn.out, rfl⟩)
    · cases hd : digB (byteAt s 0) with
      | true =>
        have hn : Hid (false = nameB s) := by simp [Hid, nameB, hd]
        have hd1 : 48 ≤ (s[0].toNat : Int) := by rw [hb.out]; simp [digB] at hd; exact hd.1
        have hd2 : (s[0].toNat : Int) ≤ 57 := by rw [hb.out]; simp [digB] at hd; exact hd.2
        clear hd
        go_enter Try.func34, Try.ntmps34
        go_wp2_with fail
        all_goals (go_ret; exact ⟨ret_bool hn.out, rfl⟩)
      | false =>
        have HD := hide hd
        clear hd
        have hor : (s[0].toNat : Int) < 48 ∨ (48 ≤ (s[0].toNat : Int) ∧ 57 < (s[0].toNat : Int)) := by
          have := HD.out; rw [hb.out]; simp [digB] at this; omega
        rcases hor with h1 | ⟨h1, h2⟩
        all_goals
          go_enter Try.func34, Try.ntmps34
          go_wp2_with fail
          go_loop [3] (fun i => ∃ k : Nat, k ≤ s.size ∧ i = .int .i64 k ∧ alnTo s k = true) (fun i => s.size - (intOf i).toNat)
          case atStart => exact ⟨0, Nat.zero_le _, rfl, rfl⟩
          case round =>
            obtain ⟨k, hk, rfl, ha⟩ := hrel
            have HA := hide ha
            clear ha
            by_cases hlt : k < s.size
            · have hbk := hide (byteAt_of hlt)
              have hsuc := hide (alnTo_succ s k)
              cases hl : alnB (byteAt s k) with
              | true =>
                have HL := hide hl
                clear hl
                go_wp2_with (go_at_call 66; refine (isLetterR_any _ _).mono ?_; rintro e w' ⟨rfl, rfl⟩; rw [hbk.out, HL.out])
                go_round
                case rel => exact ⟨k + 1, by omega, by go_num, by rw [hsuc.out, HA.out, HL.out]; rfl⟩
                case measure => simp [intOf]; omega
              | false =>
                have HL := hide hl
                clear hl
                go_wp2_with (go_at_call 66; refine (isLetterR_any _ _).mono ?_; rintro e w' ⟨rfl, rfl⟩; rw [hbk.out, HL.out])
                go_ret
                exact ⟨ret_bool (nameB_no hlt HL.out).symm, rfl⟩
            · have hn : Hid (true = nameB s) := by
                have e : k = s.size := by omega
                have := HA.out
                rw [e] at this
                simp [Hid, nameB, this, HD.out]; omega
              go_wp2_with fail
              go_ret
              exact ⟨ret_bool hn.out, rfl⟩
  · have he := isEmpty_zero h0
    have hn : Hid (false = nameB s) := by simp [Hid, nameB]; omega
    go_enter Try.func34, Try.ntmps34
    go_wp2_with fail
    all_goals (go_ret; exact ⟨ret_bool hn.out, rfl⟩)
#print axioms isName_any
#print axioms isNameR_any
end Go.Proofs.Ythlgknglalcggac

/- Walks: counting knots with a bound; what is wrong with a term. -/
namespace Go.Proofs.Ythlgknglalcggac
open Go.RowKit
set_option linter.unusedSimpArgs false
set_option linter.unusedVariables false

theorem argsOf_any (s : ByteArray) (a : Option Addr) (n c : Nat) (w : World) :
    Calls Try.prog 114 #[.agg #[.string s, .slice a n c]] w fun e w' => e = .returned (.slice a n c) ∧ w' = w.alloc (.cells #[.string s, .slice a n c] 25) := by
  go_enter Try.func114, Try.ntmps114
  go_wp2_with fail
  go_ret
  exact ⟨rfl, rfl⟩

set_option maxHeartbeats 400000 in
theorem countOn_any (M : Int) (hM0 : 0 ≤ M) (hM1 : M ≤ 1000000) (t : Tm) : ∀ (v : Value) (n : Int) (w : World) (X : Nat → Prop), TV w X v t → 0 ≤ n → n ≤ M →
    Calls Try.prog 129 #[v, .func (.func 114) #[] #[], .int .i64 M, .int .i64 n] w fun e w' => e = .returned (.int .i64 (min (n + sizeL [t]) (M + 1))) ∧ Below w.heap.size w w' := by
  induction t using Tm.ind with
  | h s l ih =>
    intro v n w X hv hn0 hn1
    obtain ⟨a, c, rfl, hs⟩ := hv
    have IH := hide ih
    clear ih
    have hz : Hid ((sizeL [(⟨s, l⟩ : Tm)] : Int) = 1 + sizeL l) := by simp [Hid, sizeL]
    go_enter Try.func129, Try.ntmps129
    go_wp2_with (go_at_call 114; refine (argsOf_any _ _ _ _ _).mono ?_; rintro e w' ⟨rfl, rfl⟩)
    have hB0 : Hid (Below w.heap.size w ((w.alloc (Obj.cells #[Value.string s, Value.slice a l.length c] 25)).alloc (Obj.cells #[Value.string s, Value.slice a l.length c] 25))) := ((Below.refl _ _).alloc (Nat.le_refl _) _).alloc (by simp) _
    have hZ0 : Hid (w.heap.size + 2 ≤ ((w.alloc (Obj.cells #[Value.string s, Value.slice a l.length c] 25)).alloc (Obj.cells #[Value.string s, Value.slice a l.length c] 25)).heap.size) := by simp [Hid]
    generalize ((w.alloc (Obj.cells #[Value.string s, Value.slice a l.length c] 25)).alloc (Obj.cells #[Value.string s, Value.slice a l.length c] 25)) = w0 at *
    go_loopw [9, 18] (fun m i wr => ∃ k : Nat, k ≤ l.length ∧ i = .int .i64 k ∧ m = .int .i64 (min (n + 1 + sizeL (l.take k)) (M + 1)) ∧ Below w.heap.size w wr) (fun m i wr => l.length - (intOf i).toNat)
    case atStart => exact ⟨0, Nat.zero_le _, rfl, by rw [show sizeL (l.take 0) = 0 by simp [sizeL]]; congr 1; omega, hB0.out⟩
    case round =>
      obtain ⟨k, hk, rfl, rfl, hb⟩ := hrel
      have hl := hs.1
      have hsz : w.heap.size ≤ wr.heap.size := hb.size
      by_cases hlt : k < l.length
      · obtain ⟨b, o, a', c', rfl, d0, d1, hx⟩ := hs.get hb (fun _ _ h => h) k hlt
        by_cases hle : n + 1 + (sizeL (l.take k) : Int) ≤ M
        · have hmin : min (n + 1 + (sizeL (l.take k) : Int)) (M + 1) = n + 1 + (sizeL (l.take k) : Int) := by omega
          rw [hmin]
          go_wp2_with fail
          refine (IH.out _ (List.getElem_mem hlt) _ _ _ X (hx.alloc _) (by omega) (by omega)).mono ?_
          rintro e w1 ⟨rfl, hb1⟩
          have Hst := hide (sizeL_take l k hlt)
          go_wp2_with fail
          go_roundw
          case rel => exact ⟨k + 1, by omega, by go_num, by rw [Hst.out]; congr 1; omega, (hb.alloc hsz _).trans (hb1.mono (by simp; omega))⟩
          case measure => simp [intOf]; omega
        · have hmin : min (n + 1 + (sizeL (l.take k) : Int)) (M + 1) = M + 1 := by omega
          rw [hmin]
          have hle2 : sizeL (l.take k) ≤ sizeL l := sizeL_take_le l k
          go_wp2_with fail
          go_ret
          refine ⟨ret_int (by have := hz.out; omega), ?_⟩
          exact hb.alloc (by omega) _
      · have htk : l.take k = l := List.take_of_length_le (by omega)
        rw [htk]
        go_wp2_with fail
        go_ret
        exact ⟨ret_int (by have := hz.out; omega), hb⟩

theorem countT_any (M : Int) (hM0 : 0 ≤ M) (hM1 : M ≤ 1000000) (t : Tm) (v : Value) (w : World) (X : Nat → Prop) (hv : TV w X v t) :
    Calls Try.prog 113 #[v, .func (.func 114) #[] #[], .int .i64 M] w fun e w' => e = .returned (.int .i64 (min (sizeL [t] : Int) (M + 1))) ∧ Below w.heap.size w w' := by
  obtain ⟨a, c, rfl, hs⟩ := hv
  have hv : TV w X (.agg #[.string t.name, .slice a t.args.length c]) t := ⟨a, c, rfl, hs⟩
  go_enter Try.func113, Try.ntmps113
  go_wp2_with fail
  refine (countOn_any M hM0 hM1 t _ _ _ X (hv.alloc _) (by omega) (by omega)).mono ?_
  rintro e w1 ⟨rfl, hb1⟩
  go_wp2_with fail
  go_ret
  exact ⟨ret_int (by omega), ((Below.refl _ _).alloc (Nat.le_refl _) _).trans (hb1.mono (by simp))⟩

theorem count_any (M : Int) (hM0 : 0 ≤ M) (hM1 : M ≤ 1000000) (t : Tm) (v : Value) (w : World) (X : Nat → Prop) (hv : TV w X v t) :
    Calls Try.prog 89 #[v, .int .i64 M] w fun e w' => e = .returned (.int .i64 (min (sizeL [t] : Int) (M + 1))) ∧ Below w.heap.size w w' := by
  obtain ⟨a, c, rfl, hs⟩ := hv
  have hv : TV w X (.agg #[.string t.name, .slice a t.args.length c]) t := ⟨a, c, rfl, hs⟩
  go_enter Try.func89, Try.ntmps89
  go_wp2_with fail
  refine (countT_any M hM0 hM1 t _ _ X (hv.alloc _)).mono ?_
  rintro e w1 ⟨rfl, hb1⟩
  go_wp2_with fail
  go_ret
  exact ⟨ret_int (by omega), ((Below.refl _ _).alloc (Nat.le_refl _) _).trans (hb1.mono (by simp))⟩

/-- What is wrong, knot by knot: 0 nothing, 1 no name, 2 a variable with terms below it. -/
def errL : List Tm → Int
  | [] => 0
  | ⟨s, l⟩ :: r => if nameB s = true then (if (varB s && decide (0 < l.length)) = true then 2 else if errL l = 0 then errL r else errL l) else 1

theorem errL_cons (t : Tm) (r : List Tm) : errL (t :: r) = if errL [t] = 0 then errL r else errL [t] := by
  obtain ⟨s, l⟩ := t
  simp only [errL]
  split
  · split
    · simp
    · split <;> simp_all
  · simp

theorem errL_append (a b : List Tm) : errL (a ++ b) = if errL a = 0 then errL b else errL a := by
  induction a with
  | nil => simp [errL]
  | cons t r ih =>
    rw [List.cons_append, errL_cons, errL_cons t r, ih]
    by_cases h : errL [t] = 0 <;> simp [h]

theorem errL_take (l : List Tm) (k : Nat) (h : k < l.length) : errL (l.take (k + 1)) = if errL (l.take k) = 0 then errL [l[k]] else errL (l.take k) := by
  rw [List.take_succ_eq_append_getElem h, errL_append]

theorem errL_of_take {l : List Tm} {k : Nat} (h : errL (l.take k) ≠ 0) : errL l = errL (l.take k) := by
  have := errL_append (l.take k) (l.drop k)
  rw [List.take_append_drop, if_neg h] at this
  exact this

theorem name_pos {s : ByteArray} (h : nameB s = true) : 0 < s.size := by
  simp [nameB] at h; omega

set_option maxHeartbeats 400000 in
theorem checkKnots_any (t : Tm) : ∀ (v : Value) (w : World) (X : Nat → Prop), TV w X v t →
    Calls Try.prog 93 #[v] w fun e w' => e = .returned (.int .i64 (errL [t])) ∧ Below w.heap.size w w' := by
  induction t using Tm.ind with
  | h s l ih =>
    intro v w X hv
    obtain ⟨a, c, rfl, hs⟩ := hv
    have IH := hide ih
    clear ih
    have hl := hs.1
    cases hn : nameB s with
    | false =>
      have hz : Hid (1 = errL [(⟨s, l⟩ : Tm)]) := by simp [Hid, errL, hn]
      have HN := hide hn
      clear hn
      go_enter Try.func93, Try.ntmps93
      go_wp2_with (go_at_call 46; refine (isName_any _ _).mono ?_; rintro e w' ⟨rfl, rfl⟩; rw [HN.out])
      go_ret
      exact ⟨ret_int hz.out, (Below.refl _ _).alloc (Nat.le_refl _) _⟩
    | true =>
      have HN := hide hn
      have hpos := name_pos hn
      by_cases hvl : varB s = true ∧ 0 < l.length
      · obtain ⟨hv, hlp⟩ := hvl
        have hz : Hid (2 = errL [(⟨s, l⟩ : Tm)]) := by simp [Hid, errL, hn, hv, hlp]
        have HV := hide hv
        clear hn hv
        go_enter Try.func93, Try.ntmps93
        go_wp2_with (first | (go_at_call 46; refine (isName_any _ _).mono ?_; rintro e w' ⟨rfl, rfl⟩; rw [HN.out]) | (go_at_call 47; refine (isVariable_any _ _ hpos).mono ?_; rintro e w' ⟨rfl, rfl⟩; rw [HV.out]))
        go_ret
        exact ⟨ret_int hz.out, (Below.refl _ _).alloc (Nat.le_refl _) _⟩
      · have hz : Hid (errL [(⟨s, l⟩ : Tm)] = errL l) := by
          have : (varB s && decide (0 < l.length)) = false := by
            rw [Bool.eq_false_iff]; intro h; simp at h; exact hvl ⟨h.1, by omega⟩
          simp only [Hid, errL, hn, this]
          by_cases h0 : errL l = 0 <;> simp [h0]
        have hcase : (varB s = true ∧ l.length < 1) ∨ varB s = false := by
          cases hv : varB s with
          | true => exact Or.inl ⟨rfl, by apply Classical.byContradiction; intro h; exact hvl ⟨hv, by omega⟩⟩
          | false => exact Or.inr rfl
        clear hn hvl
        rcases hcase with ⟨hv, hl0⟩ | hv
        · have e0 : l = [] := List.length_eq_zero_iff.1 (by omega)
          subst e0
          have HV := hide hv
          clear hv
          go_enter Try.func93, Try.ntmps93
          go_wp2_with (first | (go_at_call 46; refine (isName_any _ _).mono ?_; rintro e w' ⟨rfl, rfl⟩; rw [HN.out]) | (go_at_call 47; refine (isVariable_any _ _ hpos).mono ?_; rintro e w' ⟨rfl, rfl⟩; rw [HV.out]))
          go_loop [22] (fun i => i = .int .i64 0) (fun i => 0)
          case atStart => rfl
          case round =>
            subst hrel
            have HZ : Hid (0 = errL [(⟨s, []⟩ : Tm)]) := by unfold Hid; rw [hz.out]; simp [errL]
            go_wp2_with fail
            go_ret
            exact ⟨ret_int HZ.out, (Below.refl _ _).alloc (Nat.le_refl _) _⟩
        · have HV := hide hv
          clear hv
          go_enter Try.func93, Try.ntmps93
          go_wp2_with (first | (go_at_call 46; refine (isName_any _ _).mono ?_; rintro e w' ⟨rfl, rfl⟩; rw [HN.out]) | (go_at_call 47; refine (isVariable_any _ _ hpos).mono ?_; rintro e w' ⟨rfl, rfl⟩; rw [HV.out]))
          go_loopw [22] (fun i wr => ∃ k : Nat, k ≤ l.length ∧ i = .int .i64 k ∧ errL (l.take k) = 0 ∧ Below (w.heap.size + 1) (w.alloc (Obj.cells #[Value.string s, Value.slice a l.length c] 25)) wr) (fun i wr => l.length - (intOf i).toNat)
          case atStart => exact ⟨0, Nat.zero_le _, rfl, by simp [errL], Below.refl _ _⟩
          case round =>
            obtain ⟨k, hk, rfl, he, hb⟩ := hrel
            have HE := hide he
            clear he
            have hsz : w.heap.size + 1 ≤ wr.heap.size := by have := hb.size; simpa using this
            by_cases hlt : k < l.length
            · obtain ⟨b, o, a', c', rfl, d0, d1, hx⟩ := hs.get (below_box hb) (fun _ _ h => h) k hlt
              have HT := hide (errL_take l k hlt)
              go_wp2_with fail
              refine (IH.out _ (List.getElem_mem hlt) _ _ X (hx.alloc _)).mono ?_
              rintro e w1 ⟨rfl, hb1⟩
              by_cases hez : errL [l[k]] = 0
              · have HZ := hide hez
                rw [hez]
                clear hez
                go_wp2_with fail
                go_roundw
                case rel => exact ⟨k + 1, by omega, by go_num, by rw [HT.out, HE.out, HZ.out]; rfl, (hb.alloc hsz _).trans (hb1.mono (by simp; omega))⟩
                case measure => simp [intOf]; omega
              · have hez' : (errL [l[k]] == 0) = false := by simpa using hez
                have HZ : Hid (errL [l[k]] = errL [(⟨s, l⟩ : Tm)]) := by
                  have h1 : errL (l.take (k + 1)) = errL [l[k]] := by rw [HT.out, HE.out]; rfl
                  unfold Hid
                  rw [hz.out, errL_of_take (l := l) (k := k + 1) (by rw [h1]; exact hez), h1]
                go_wp2_with fail
                go_ret
                exact ⟨ret_int HZ.out, ((below_box hb).alloc (by omega) _).trans (hb1.mono (by simp; omega))⟩
            · have htk : l.take k = l := List.take_of_length_le (by omega)
              have HZ : Hid (0 = errL [(⟨s, l⟩ : Tm)]) := by unfold Hid; rw [hz.out, ← htk, HE.out]
              go_wp2_with fail
              go_ret
              exact ⟨ret_int HZ.out, below_box hb⟩

/-- What is wrong with a term. -/
def mayE (t : Tm) : Int := if 200 < sizeL [t] then 3 else errL [t]

set_option maxHeartbeats 400000 in
theorem check_any (t : Tm) (v : Value) (w : World) (X : Nat → Prop) (hv : TV w X v t) :
    Calls Try.prog 68 #[v] w fun e w' => e = .returned (.int .i64 (mayE t)) ∧ Below w.heap.size w w' := by
  obtain ⟨a, c, rfl, hs⟩ := hv
  have hv : TV w X (.agg #[.string t.name, .slice a t.args.length c]) t := ⟨a, c, rfl, hs⟩
  go_enter Try.func68, Try.ntmps68
  go_wp2_with fail
  refine (count_any 200 (by omega) (by omega) t _ _ X (hv.alloc _)).mono ?_
  rintro e w1 ⟨rfl, hb1⟩
  have c0 : w1.cell? ⟨w.heap.size, 0, none⟩ = some (.string t.name) := by rw [hb1.cell (p := ⟨_, _, none⟩) (by simp)]; simp
  have c1 : w1.cell? ⟨w.heap.size, 1, none⟩ = some (.slice a t.args.length c) := by rw [hb1.cell (p := ⟨_, _, none⟩) (by simp)]; simp
  have hb2 : Below w.heap.size w w1 := ((Below.refl _ _).alloc (Nat.le_refl _) _).trans (hb1.mono (by simp))
  by_cases h : 200 < sizeL [t]
  · have hm : Hid (3 = mayE t) := by simp [Hid, mayE, h]
    have e : min (sizeL [t] : Int) (200 + 1) = 201 := by omega
    rw [e]
    go_wp2_with fail
    go_ret
    exact ⟨ret_int hm.out, hb2⟩
  · have hm : Hid (errL [t] = mayE t) := by simp [Hid, mayE, h]
    have e : min (sizeL [t] : Int) (200 + 1) = sizeL [t] := by omega
    rw [e]
    go_wp2_with fail
    refine (checkKnots_any t _ _ X (hv.later hb2)).mono ?_
    rintro e w2 ⟨rfl, hb3⟩
    go_wp2_with fail
    go_ret
    exact ⟨ret_int hm.out, hb2.trans (hb3.mono hb2.size)⟩
#print axioms check_any
end Go.Proofs.Ythlgknglalcggac

/- Walks: all knots of a term. -/
namespace Go.Proofs.Ythlgknglalcggac
open Go.RowKit
set_option linter.unusedSimpArgs false
set_option linter.unusedVariables false

theorem Try.infoTerm : (Try.prog.info? 25).map (fun i => (i.zero, i.size, i.bytes)) = some (some (.agg #[.string ByteArray.empty, .slice none 0 0]), 2, 40) := by kernel_rfl

theorem ownsRow_base {w : World} {base base' e size : Nat} {v : Value} {n : Nat} {xs : List Value} (h : w.ownsRow base e size v n xs) (hb : base' ≤ base) : w.ownsRow base' e size v n xs := by
  obtain ⟨h0, h1⟩ := h
  refine ⟨h0, ?_⟩
  rcases h1 with h1 | ⟨g, cap, cur, hv, hg, r⟩
  · exact Or.inl h1
  · exact Or.inr ⟨g, cap, cur, hv, Nat.le_trans hb hg, r⟩

set_option maxHeartbeats 400000 in
theorem knots_any (t : Tm) : ∀ (v : Value) (w : World) (X : Nat → Prop), TV w X v t → sizeL [t] ≤ 1000000 →
    Calls Try.prog 37 #[v] w fun e w' => ∃ v' xs, e = .returned v' ∧ w'.ownsRow w.heap.size 25 2 v' (sizeL [t]) xs ∧ RowT w X (preL [t]) xs ∧ Below w.heap.size w w' := by
  induction t using Tm.ind with
  | h s l ih =>
    intro v w X0 hv0 hsm
    obtain ⟨X, hX, hXX, hv⟩ : ∃ X : Nat → Prop, (∀ b, X b → b < w.heap.size) ∧ (∀ b, X b → X0 b) ∧ TV w X v ⟨s, l⟩ := ⟨fun b => X0 b ∧ b < w.heap.size, fun _ h => h.2, fun _ h => h.1, hv0.mono fun b h1 h2 => ⟨h1, h2⟩⟩
    clear hv0
    obtain ⟨a, c, rfl, hs⟩ := hv
    have IH := hide ih
    clear ih
    have hl := hs.1
    have hz : sizeL [(⟨s, l⟩ : Tm)] = 1 + sizeL l := by simp [sizeL]
    rw [hz] at hsm ⊢
    clear hz
    obtain ⟨i0, hi, hz0, hz1, hz2⟩ := info_parts Try.infoTerm
    go_enter Try.func37, Try.ntmps37
    go_wp2_with fail
    go_loopw [3, 4] (fun v i wr => ∃ (k : Nat) (xs : List Value), k ≤ l.length ∧ i = .int .i64 k ∧ wr.ownsRow (w.heap.size + 1) 25 2 v (1 + sizeL (l.take k)) xs ∧ RowT w X (⟨s, l⟩ :: preL (l.take k)) xs ∧ Below (w.heap.size + 1) (w.alloc (Obj.cells #[Value.string s, Value.slice a l.length c] 25)) wr) (fun v i wr => l.length - (intOf i).toNat)
    case atStart =>
      refine ⟨0, [.string s, .slice a l.length c], Nat.zero_le _, rfl, ⟨by simp [sizeL], Or.inr ⟨w.heap.size + 1, 1, #[.string s, .slice a l.length c], by simp [sizeL], Nat.le_refl _, ?_, by simp [sizeL], by decide, by simp, by simp [sizeL]⟩⟩, ⟨a, c, [], rfl, hs, by simp [preL, RowT]⟩, (Below.refl _ _).alloc (by simp) _⟩
      have := heap_alloc_new (w.alloc (Obj.cells #[Value.string s, Value.slice a l.length c] 25)) (Obj.cells #[Value.string s, Value.slice a l.length c] 25)
      simpa using this
    case round =>
      obtain ⟨k, xs, hk, rfl, hown, hrow, hb⟩ := hrel
      have HROW := hide hrow
      clear hrow
      have hc := bcell hb
      have c0 : wr.cell? ⟨w.heap.size, 0, none⟩ = some (.string s) := by rw [hc.1 _ _ (by omega)]; simp
      have c1 : wr.cell? ⟨w.heap.size, 1, none⟩ = some (.slice a l.length c) := by rw [hc.1 _ _ (by omega)]; simp
      clear hc
      have hsz : w.heap.size + 1 ≤ wr.heap.size := by have := hb.size; simpa using this
      by_cases hlt : k < l.length
      · obtain ⟨b, o, a', c', rfl, d0, d1, hx⟩ := hs.get (below_box hb) (fun _ _ h => h) k hlt
        have Hst := hide (sizeL_take l k hlt)
        have hle := sizeL_take_le l (k + 1)
        have hle1 : sizeL (l.take k) + sizeL [l[k]] ≤ sizeL l := by rw [← Hst.out]; exact hle
        have hpos : 0 < sizeL [l[k]] := by generalize l[k] = t; obtain ⟨s', l'⟩ := t; simp [sizeL]; omega
        clear hle
        go_wp2_with fail
        refine (IH.out _ (List.getElem_mem hlt) _ _ X hx (by omega)).mono ?_
        rintro e w1 ⟨v1, ys, rfl, hown1, hrow1, hb1⟩
        have HROW1 : Hid (RowT w X (preL [l[k]]) ys) := hrow1.imp fun a l h => h.back (below_box hb) hX
        have hlen1 := hide hown1.1
        have hcells := hide (owned_val hown1 hpos)
        obtain ⟨g1, cap1, rfl, hg1, hg1', hcel⟩ := hcells.out
        have hownw1 : w1.ownsRow (w.heap.size + 1) 25 2 _ (1 + sizeL (l.take k)) xs := hown.kept (w' := w1) (row := none) ⟨hb1.os, hb1.tape, hb1.output, hb1.size, fun j hj _ => hb1.block j hj⟩ (by rcases Option.eq_none_or_eq_some (Value.ownBlock _) with h | ⟨x, h⟩; exact Or.inl h; exact Or.inr (by rw [h]; simp))
        have hyl : ys.length = sizeL [l[k]] * 2 := hlen1.out
        obtain ⟨v2, w2, hr2, hown2, hgr2, hnil2⟩ := run_append_own (P := Try.prog) w1 (w.heap.size + 1) 23 23 25 i0 _ 2 40 Try.underlying23 hi hz0 hz1 hz2 rfl (by decide) _ _ xs hownw1
          ⟨g1, 0, none⟩ (sizeL [l[k]]) cap1 ys hyl (fun j u hj => by
            have := hcel j u hj
            by_cases h0 : j = 0
            · subst h0; simpa [Addr.add] using this
            · simpa [Addr.add, h0] using this) HROW1.out.one (by unfold maxLen; omega) (by omega) (by have := hb1.size; omega)
        clear hnil2
        have hb2 : Hid (Below (w.heap.size + 1) (w.alloc (Obj.cells #[Value.string s, Value.slice (some ⟨b, o, none⟩) l.length c] 25)) w2) :=
          (hb.trans (hb1.mono hsz)).grown hgr2 (by have := hb1.size; omega) (fun j hj => (hownw1.lt j hj).1)
        have HR2 : Hid (RowT w X (⟨s, l⟩ :: preL (l.take (k + 1))) (xs ++ ys)) := by
          have := HROW.out.append HROW1.out
          unfold Hid
          rw [preL_take l k hlt]
          simpa using this
        have hown3 := hide hown2
        clear hown1 hownw1 hown2 hgr2 hcel hyl
        have HA := hide hr2
        clear hr2
        go_wp2_with (at_builtin; refine wpList_append_eq rfl _ _ _ _ rfl rfl rfl HA.out ?_)
        go_roundw
        case rel => exact ⟨k + 1, xs ++ ys, by omega, by go_num, by have := hown3.out; rw [Hst.out, ← Nat.add_assoc]; exact this, HR2.out, hb2.out⟩
        case measure => simp [intOf]; omega
      · have htk : l.take k = l := List.take_of_length_le (by omega)
        rw [htk] at hown
        have hown3 := hide hown
        have hr3 : Hid (RowT w X0 (preL [(⟨s, l⟩ : Tm)]) xs) := by
          have := HROW.out
          rw [htk] at this
          have h2 : RowT w X0 (⟨s, l⟩ :: preL l) xs := this.imp fun a l h => h.mono fun b hb _ => hXX b hb
          unfold Hid
          simpa [preL] using h2
        clear hown
        go_wp2_with fail
        go_ret
        exact ⟨_, xs, rfl, ownsRow_base hown3.out (by omega), hr3.out, below_box hb⟩
#print axioms knots_any
end Go.Proofs.Ythlgknglalcggac

/- Walks: what the document says of a term. -/
namespace Go.Proofs.Ythlgknglalcggac
open Go.RowKit
set_option linter.unusedSimpArgs false
set_option linter.unusedVariables false

def kErr (t : Tm) : Int := if nameB t.name = true then (if (varB t.name && decide (0 < t.args.length)) = true then 2 else 0) else 1
def errP : List Tm → Int
  | [] => 0
  | t :: r => if kErr t = 0 then errP r else kErr t
theorem errP_append (a b : List Tm) : errP (a ++ b) = if errP a = 0 then errP b else errP a := by
  induction a with
  | nil => simp [errP]
  | cons t r ih => simp only [List.cons_append, errP, ih]; by_cases h : kErr t = 0 <;> simp [h]
theorem errL_preL (l : List Tm) : errL l = errP (preL l) := by
  induction l using Tm.indL with
  | h0 => simp [errL, preL, errP]
  | h s l r ihl ihr =>
    simp only [errL, preL, errP, errP_append, ← ihl, ← ihr, kErr]
    by_cases h1 : nameB s = true
    · by_cases h2 : (varB s && decide (0 < l.length)) = true
      · simp only [h1, h2, if_true]; simp
      · simp only [h1, if_true]; rw [if_neg h2, if_neg h2]; simp
    · rw [if_neg h1, if_neg h1]; simp
theorem errP_take (l : List Tm) (k : Nat) (h : k < l.length) : errP (l.take (k + 1)) = if errP (l.take k) = 0 then kErr l[k] else errP (l.take k) := by
  rw [List.take_succ_eq_append_getElem h, errP_append]
  congr 1
  simp only [errP]
  by_cases h : kErr l[k] = 0 <;> simp [h]
theorem errP_of_take {l : List Tm} {k : Nat} (h : errP (l.take k) ≠ 0) : errP l = errP (l.take k) := by
  have := errP_append (l.take k) (l.drop k)
  rw [List.take_append_drop, if_neg h] at this
  exact this
theorem errP_at {l : List Tm} {k : Nat} (h : k < l.length) (h0 : errP (l.take k) = 0) (h1 : kErr l[k] ≠ 0) : errP l = kErr l[k] := by
  have e := errP_take l k h
  rw [if_pos h0] at e
  rw [← e]
  exact errP_of_take (by rw [e]; exact h1)

set_option maxHeartbeats 400000 in
theorem termMay_any (t : Tm) (v : Value) (w : World) (X : Nat → Prop) (hv : TV w X v t) :
    Calls Try.prog 23 #[v] w fun e w' => e = .returned (.int .i64 (mayE t)) ∧ Below w.heap.size w w' := by
  obtain ⟨a, c, rfl, hs⟩ := hv
  have hv : TV w X (.agg #[.string t.name, .slice a t.args.length c]) t := ⟨a, c, rfl, hs⟩
  go_enter Try.func23, Try.ntmps23
  go_wp2_with fail
  refine (size_any t _ _ _ X (hv.alloc _) (by omega) (by omega)).mono ?_
  rintro e w1 ⟨rfl, hb1⟩
  have c0 : w1.cell? ⟨w.heap.size, 0, none⟩ = some (.string t.name) := by rw [hb1.cell (p := ⟨_, _, none⟩) (by simp)]; simp
  have c1 : w1.cell? ⟨w.heap.size, 1, none⟩ = some (.slice a t.args.length c) := by rw [hb1.cell (p := ⟨_, _, none⟩) (by simp)]; simp
  have hb2 : Below w.heap.size w w1 := ((Below.refl _ _).alloc (Nat.le_refl _) _).trans (hb1.mono (by simp))
  by_cases h : 200 < sizeL [t]
  · have hm : Hid (3 = mayE t) := by simp [Hid, mayE, h]
    have e : min ((sizeL [t] : Int)) (200 + 1) = 201 := by omega
    rw [e]
    go_wp2_with fail
    go_ret
    exact ⟨ret_int hm.out, hb2⟩
  · have hm : Hid (errP (preL [t]) = mayE t) := by simp [Hid, mayE, h, errL_preL]
    have e : min ((sizeL [t] : Int)) (200 + 1) = sizeL [t] := by omega
    rw [e]
    go_wp2_with fail
    refine (knots_any t _ _ X (hv.later hb2) (by omega)).mono ?_
    rintro e w2 ⟨v2, xs, rfl, hown, hrow, hb3⟩
    have hpos : 0 < sizeL [t] := by obtain ⟨s', l'⟩ := t; simp [sizeL]; omega
    obtain ⟨g, cap, rfl, hg, hg', hcel⟩ := owned_val hown hpos
    have hb4 := hide (hb2.trans (hb3.mono hb2.size))
    have HROW := hide hrow
    have HCEL := hide hcel
    have hpl := preL_length [t]
    generalize preL [t] = ks at *
    have hks : ks.length ≤ 1000 := by omega
    rw [← hpl]
    clear hown hrow hcel hb3 hb1 c0 c1 hpl hpos e
    go_wp2_with fail
    go_loop [4] (fun i => ∃ k : Nat, k ≤ ks.length ∧ i = .int .i64 k ∧ errP (ks.take k) = 0) (fun i => ks.length - (intOf i).toNat)
    case atStart => exact ⟨0, Nat.zero_le _, rfl, by simp [errP]⟩
    case round =>
      obtain ⟨k, hk, rfl, he⟩ := hrel
      have HE := hide he
      clear he
      by_cases hlt : k < ks.length
      · obtain ⟨x0, a', c', x1, hsl⟩ := HROW.out.get k hlt
        have d0 := HCEL.out _ _ x0
        have d1 := HCEL.out _ _ x1
        have hl1 := hsl.1
        clear x0 x1
        cases hn : nameB ks[k].name with
        | false =>
          have HN := hide hn
          have hz : Hid (1 = mayE t) := by
            have : kErr ks[k] = 1 := by simp [kErr, hn]
            unfold Hid; rw [← hm.out, errP_at hlt HE.out (by rw [this]; decide), this]
          clear hn
          go_wp2_with (go_at_call 34; refine (isNameR_any _ _).mono ?_; rintro e w' ⟨rfl, rfl⟩; rw [HN.out])
          go_ret
          exact ⟨ret_int hz.out, hb4.out⟩
        | true =>
          have HN := hide hn
          cases hv : varB ks[k].name with
          | true =>
            have HV := hide hv
            by_cases hp : 0 < ks[k].args.length
            · have hz : Hid (2 = mayE t) := by
                have : kErr ks[k] = 2 := by simp [kErr, hn, hv, hp]
                unfold Hid; rw [← hm.out, errP_at hlt HE.out (by rw [this]; decide), this]
              clear hn hv
              go_wp2_with (first | (go_at_call 34; refine (isNameR_any _ _).mono ?_; rintro e w' ⟨rfl, rfl⟩; rw [HN.out]) | (go_at_call 35; refine (isVarR_any _ _).mono ?_; rintro e w' ⟨rfl, rfl⟩; rw [HV.out]))
              go_ret
              exact ⟨ret_int hz.out, hb4.out⟩
            · have hz : Hid (errP (ks.take (k + 1)) = 0) := by
                have : kErr ks[k] = 0 := by simp [kErr, hn, hv, hp]
                unfold Hid; rw [errP_take _ _ hlt, HE.out, this]; rfl
              clear hn hv
              go_wp2_with (first | (go_at_call 34; refine (isNameR_any _ _).mono ?_; rintro e w' ⟨rfl, rfl⟩; rw [HN.out]) | (go_at_call 35; refine (isVarR_any _ _).mono ?_; rintro e w' ⟨rfl, rfl⟩; rw [HV.out]))
              go_round
              case rel => exact ⟨k + 1, by omega, by go_num, hz.out⟩
              case measure => simp [intOf]; omega
          | false =>
            have HV := hide hv
            have hz : Hid (errP (ks.take (k + 1)) = 0) := by
              have : kErr ks[k] = 0 := by simp [kErr, hn, hv]
              unfold Hid; rw [errP_take _ _ hlt, HE.out, this]; rfl
            clear hn hv
            go_wp2_with (first | (go_at_call 34; refine (isNameR_any _ _).mono ?_; rintro e w' ⟨rfl, rfl⟩; rw [HN.out]) | (go_at_call 35; refine (isVarR_any _ _).mono ?_; rintro e w' ⟨rfl, rfl⟩; rw [HV.out]))
            go_round
            case rel => exact ⟨k + 1, by omega, by go_num, hz.out⟩
            case measure => simp [intOf]; omega
      · have htk : ks.take k = ks := List.take_of_length_le (by omega)
        have hz : Hid (0 = mayE t) := by unfold Hid; rw [← hm.out, ← htk, HE.out]
        go_wp2_with fail
        go_ret
        exact ⟨ret_int hz.out, hb4.out⟩

/-- What is wrong with the first, else with the second. -/
def twoE (t x : Tm) : Int := if mayE t = 0 then mayE x else mayE t

set_option maxHeartbeats 400000 in
theorem twoMay_any (t x : Tm) (v u : Value) (w : World) (X : Nat → Prop) (hv : TV w X v t) (hu : TV w X u x) :
    Calls Try.prog 9 #[v, u] w fun e w' => e = .returned (.int .i64 (twoE t x)) ∧ Below w.heap.size w w' := by
  obtain ⟨a, c, rfl, hs⟩ := hv
  obtain ⟨a2, c2, rfl, hs2⟩ := hu
  have hv : TV w X (.agg #[.string t.name, .slice a t.args.length c]) t := ⟨a, c, rfl, hs⟩
  have hu : TV w X (.agg #[.string x.name, .slice a2 x.args.length c2]) x := ⟨a2, c2, rfl, hs2⟩
  go_enter Try.func9, Try.ntmps9
  go_wp2_with fail
  refine (termMay_any t _ _ X ((hv.alloc _).alloc _)).mono ?_
  rintro e w1 ⟨rfl, hb1⟩
  have c0 : w1.cell? ⟨w.heap.size + 1, 0, none⟩ = some (.string x.name) := by rw [hb1.cell (p := ⟨_, _, none⟩) (by simp)]; simp
  have c1 : w1.cell? ⟨w.heap.size + 1, 1, none⟩ = some (.slice a2 x.args.length c2) := by rw [hb1.cell (p := ⟨_, _, none⟩) (by simp)]; simp
  have hb2 : Below w.heap.size w w1 := (((Below.refl _ _).alloc (Nat.le_refl _) _).alloc (by simp) _).trans (hb1.mono (by simp; omega))
  by_cases h : mayE t = 0
  · have hz : Hid (mayE x = twoE t x) := by simp [Hid, twoE, h]
    rw [h]
    clear h
    go_wp2_with fail
    refine (termMay_any x _ _ X (hu.later hb2)).mono ?_
    rintro e w2 ⟨rfl, hb3⟩
    go_wp2_with fail
    go_ret
    exact ⟨ret_int hz.out, hb2.trans (hb3.mono hb2.size)⟩
  · have hz : Hid (mayE t = twoE t x) := by simp [Hid, twoE, h]
    have h' : (mayE t == 0) = false := by simpa using h
    clear h
    go_wp2_with fail
    go_ret
    exact ⟨ret_int hz.out, hb2⟩

set_option maxHeartbeats 400000 in
theorem huge_any (t : Tm) (v : Value) (w : World) (X : Nat → Prop) (hv : TV w X v t) :
    Calls Try.prog 7 #[v] w fun e w' => e = .returned (.bool (decide (3000 < sizeL [t]))) ∧ Below w.heap.size w w' := by
  obtain ⟨a, c, rfl, hs⟩ := hv
  have hv : TV w X (.agg #[.string t.name, .slice a t.args.length c]) t := ⟨a, c, rfl, hs⟩
  go_enter Try.func7, Try.ntmps7
  go_wp2_with fail
  refine (size_any t _ _ _ X (hv.alloc _) (by omega) (by omega)).mono ?_
  rintro e w1 ⟨rfl, hb1⟩
  have hb2 : Below w.heap.size w w1 := ((Below.refl _ _).alloc (Nat.le_refl _) _).trans (hb1.mono (by simp))
  go_wp2_with fail
  go_ret
  exact ⟨ret_bool (by rw [Bool.eq_iff_iff]; simp; omega), hb2⟩
#print axioms termMay_any
#print axioms twoMay_any
#print axioms huge_any
end Go.Proofs.Ythlgknglalcggac

/- Small facts on blocks, and what a round that appends a term does to a row of terms. -/
namespace Go.Proofs.Ythlgknglalcggac
open Go.RowKit
set_option linter.unusedSimpArgs false
set_option linter.unusedVariables false

/-- A block of plain cells. -/
def Blk (w : World) (b : Nat) (cs : Array Value) (T : Nat) : Prop := w.heap[b]? = some (.cells cs T (0, 0))

theorem Blk.lt {w : World} {b : Nat} {cs : Array Value} {T : Nat} (h : Blk w b cs T) : b < w.heap.size := by
  apply Classical.byContradiction
  intro hn
  have e : w.heap[b]? = none := Array.getElem?_eq_none (by omega)
  rw [Blk, e] at h; cases h

theorem Blk.cell {w : World} {b : Nat} {cs : Array Value} {T : Nat} (h : Blk w b cs T) (i : Nat) : w.cell? ⟨b, i, none⟩ = cs[i]? := by
  unfold Blk at h; simp [World.cell?, h]

theorem Blk.frozen {w : World} {b : Nat} {cs : Array Value} {T : Nat} (h : Blk w b cs T) (i : Nat) : w.frozen? ⟨b, i, none⟩ = false := by
  unfold Blk at h; simp [World.frozen?, h]

theorem Blk.new (w : World) (cs : Array Value) (T : Nat) : Blk (w.alloc (.cells cs T)) w.heap.size cs T := heap_alloc_new w _

theorem Blk.alloc {w : World} {b : Nat} {cs : Array Value} {T : Nat} (h : Blk w b cs T) (o : Obj) : Blk (w.alloc o) b cs T := by
  unfold Blk at *; rw [Below.heap_alloc w o b (Blk.lt h)]; exact h

theorem Blk.below {w w' : World} {b B : Nat} {cs : Array Value} {T : Nat} (h : Blk w b cs T) (hb : Below B w w') (hB : b < B) : Blk w' b cs T := by
  unfold Blk at *; rw [hb.block b hB]; exact h

theorem Blk.drewN {w : World} {b : Nat} {cs : Array Value} {T : Nat} (h : Blk w b cs T) (n : Nat) : Blk (w.drewN n) b cs T := h

theorem Blk.grown {w w' : World} {b : Nat} {cs : Array Value} {T : Nat} {row : Option Nat} (h : Blk w b cs T) (hg : w.grownBy w' row) (hr : some b ≠ row) : Blk w' b cs T := by
  unfold Blk at *; rw [hg.block b (Blk.lt h) hr]; exact h

theorem Blk.set {w : World} {b : Nat} {cs : Array Value} {T : Nat} (h : Blk w b cs T) (i : Nat) (v : Value) : Blk (w.setCell ⟨b, i, none⟩ v) b (cs.setIfInBounds i v) T := by
  unfold Blk at *
  simp [World.setCell, Array.getElem?_modify, h]

theorem Blk.setOther {w : World} {b b' : Nat} {cs : Array Value} {T : Nat} (h : Blk w b cs T) (i : Nat) (v : Value) (hne : b ≠ b') : Blk (w.setCell ⟨b', i, none⟩ v) b cs T := by
  unfold Blk at *; rw [Below.heap_setCell _ _ _ _ (by simpa using hne)]; exact h

/-- The row so far, apart from what its terms are made of: old memory that Y lets, and new memory. -/
structure Row (w : World) (N : Nat) (T : Nat) (Y : Nat → Prop) (v : Value) (l : List Tm) (xs : List Value) : Prop where
  own : w.ownsRow N T 2 v l.length xs
  row : RowT w (fun b => Y b ∨ (N ≤ b ∧ some b ≠ v.ownBlock)) l xs

theorem Row.start (w : World) (N T : Nat) (Y : Nat → Prop) : Row w N T Y (.slice none 0 0) [] [] := ⟨World.ownsRow_nil w N T 2, rfl⟩

theorem Row.below {w w' : World} {N T : Nat} {Y : Nat → Prop} {v : Value} {l : List Tm} {xs : List Value} (h : Row w N T Y v l xs) (hb : Below w.heap.size w w') : Row w' N T Y v l xs :=
  ⟨h.own.kept (w' := w') (row := none) ⟨hb.os, hb.tape, hb.output, hb.size, fun j hj _ => hb.block j hj⟩ (by rcases Option.eq_none_or_eq_some (Value.ownBlock v) with h | ⟨x, h⟩; exact Or.inl h; exact Or.inr (by rw [h]; simp)),
   h.row.imp fun a l h => h.later hb⟩

theorem Row.ne {w : World} {N T : Nat} {Y : Nat → Prop} {v : Value} {l : List Tm} {xs : List Value} (h : Row w N T Y v l xs) {b : Nat} (hb : b < N) : some b ≠ v.ownBlock := fun e => by
  have := (h.own.lt b e.symm).1; omega

/-- One more: the term's cells have been laid into a block of their own, and appended. -/
theorem Row.push {w w1 w2 w3 : World} {N T : Nat} {Y : Nat → Prop} {v : Value} {l : List Tm} {xs : List Value} (h : Row w N T Y v l xs) (hN : N ≤ w.heap.size) (hY : ∀ b, Y b → b < N) (hb : Below w.heap.size w w1) {s : ByteArray} {a : Option Addr} {n c : Nat} {t : Tm}
    (ht : TV w1 (fun b => Y b ∨ w.heap.size ≤ b) (.agg #[.string s, .slice a n c]) t) (o : Obj) (hw2 : w2 = w1.alloc o) {g cap : Nat}
    (hown : w3.ownsRow N T 2 (.slice (some ⟨g, 0, none⟩) (l.length + 1) cap) (l.length + 1) (xs ++ [.string s, .slice a n c])) (hg : w2.grownBy w3 v.ownBlock) (hg1 : v.ownBlock = some g ∨ g = w2.heap.size) :
    Row w3 N T Y (.slice (some ⟨g, 0, none⟩) (l.length + 1) cap) (l ++ [t]) (xs ++ [.string s, .slice a n c]) := by
  subst hw2
  have hlt := h.own.lt
  refine ⟨by simpa using hown, ?_⟩
  have hsz : w1.heap.size ≤ (w1.alloc o).heap.size := by simp
  have hbs := hb.size
  have hgN : N ≤ g := by
    rcases hg1 with e | e
    · exact (hlt g e).1
    · simp at e; omega
  refine RowT.append (h.row.imp fun a' k' hs => ?_) ?_
  · have h1 : Sl w (fun b => (Y b ∨ (N ≤ b ∧ some b ≠ v.ownBlock)) ∧ b < w.heap.size) a' k' := hs.mono fun b h1 h2 => ⟨h1, h2⟩
    have h2 : Sl w3 (fun b => (Y b ∨ (N ≤ b ∧ some b ≠ v.ownBlock)) ∧ b < w.heap.size) a' k' := h1.kept fun b hx => by
      have hne : some b ≠ v.ownBlock := by
        rcases hx.1 with hy | hy
        · exact h.ne (hY b hy)
        · exact hy.2
      rw [hg.block b (by simp; omega) hne, Below.heap_alloc _ _ _ (by omega), hb.block b hx.2]
    refine h2.mono fun b hx _ => ?_
    rcases hx.1 with hy | hy
    · exact Or.inl hy
    · refine Or.inr ⟨hy.1, fun e => ?_⟩
      simp [Value.ownBlock] at e
      rcases hg1 with e' | e'
      · exact hy.2 (by rw [e', e])
      · simp at e'; omega
  · obtain ⟨a2, c2, e, hs⟩ := ht
    simp at e
    obtain ⟨rfl, rfl, rfl, rfl⟩ := e
    refine ⟨a, c, [], rfl, ?_, rfl⟩
    have h1 : Sl w1 (fun b => (Y b ∨ w.heap.size ≤ b) ∧ b < w1.heap.size) a t.args := hs.mono fun b h1 h2 => ⟨h1, h2⟩
    have h2 : Sl w3 (fun b => (Y b ∨ w.heap.size ≤ b) ∧ b < w1.heap.size) a t.args := h1.kept fun b hx => by
      have hne : some b ≠ v.ownBlock := by
        rcases hx.1 with hy | hy
        · exact h.ne (hY b hy)
        · intro e; have := (hlt b e.symm).2; omega
      rw [hg.block b (by simp; omega) hne, Below.heap_alloc _ _ _ hx.2]
    refine h2.mono fun b hx _ => ?_
    rcases hx.1 with hy | hy
    · exact Or.inl hy
    · refine Or.inr ⟨by omega, fun e => ?_⟩
      simp [Value.ownBlock] at e
      rcases hg1 with e' | e'
      · have := (hlt g e').2; omega
      · simp at e'; omega

/-- A store into a block that is none of the row's. -/
theorem Row.setCell {w : World} {N T : Nat} {Y : Nat → Prop} {v : Value} {l : List Tm} {xs : List Value} (h : Row w N T Y v l xs) {b i : Nat} (hb : b < N) (hY : ¬ Y b) (u : Value) : Row (w.setCell ⟨b, i, none⟩ u) N T Y v l xs :=
  ⟨ownsRow_setCell_below h.own (by simpa using hb) u, h.row.imp fun a k hs => hs.kept fun c hc => Below.heap_setCell _ _ _ _ (by
    simp
    rcases hc with hc | hc
    · intro e; subst e; exact hY hc
    · omega)⟩

theorem Row.sl {w : World} {N T : Nat} {Y : Nat → Prop} {v : Value} {l : List Tm} {xs : List Value} (h : Row w N T Y v l xs) : ∃ a c, v = .slice a l.length c ∧ Sl w (fun b => Y b ∨ N ≤ b) a l := by
  have hml : l.length ≤ 9223372036854775807 := by
    rcases h.own.2 with ⟨_, h0⟩ | ⟨g, cap, cur, _, _, _, h1, h2, _⟩
    · omega
    · unfold maxLen at h2; omega
  by_cases h0 : 0 < l.length
  · obtain ⟨g, cap, rfl, hg, hlt, hc⟩ := owned_val h.own h0
    exact ⟨_, _, rfl, hml, Or.inr ⟨g, 0, rfl, lies_of_rowT g (Or.inr hg) l xs 0 h.row (fun a k hs => hs.mono fun b hb _ => hb.imp id (fun h => h.1)) (fun j u hj => by simpa using hc j u hj)⟩⟩
  · have e : l = [] := List.length_eq_zero_iff.1 (by omega)
    subst e
    rcases h.own.2 with ⟨hv, _⟩ | ⟨g, cap, cur, hv, _⟩
    · exact ⟨none, 0, hv, hml, Or.inl rfl⟩
    · exact ⟨_, _, hv, hml, Or.inl rfl⟩

theorem copy_blk {wr w1 w3 : World} {o1 o2 : Obj} {b T : Nat} {cs : Array Value} {row : Option Nat} (h : Blk wr b cs T) (hb1 : Below (wr.alloc o1).drew.heap.size (wr.alloc o1).drew w1) (hg : (w1.alloc o2).grownBy w3 row) (hr : some b ≠ row) : Blk w3 b cs T :=
  (((((h.alloc o1).drewN 1).below hb1 (by have := h.lt; simp; omega)).alloc o2).grown hg hr)

#print axioms Row.push
#print axioms Row.sl
end Go.Proofs.Ythlgknglalcggac

/- Walks: the variables of a term, each once. -/
namespace Go.Proofs.Ythlgknglalcggac
open Go.RowKit
set_option linter.unusedSimpArgs false
set_option linter.unusedVariables false

theorem Try.infoStr : (Try.prog.info? 9).map (fun i => (i.zero, i.size, i.bytes)) = some (some (.string ByteArray.empty), 1, 16) := by kernel_rfl

theorem beq_comm' (a b : ByteArray) : (a.toList == b.toList) = (b.toList == a.toList) := by
  rw [Bool.eq_iff_iff]; simp; exact eq_comm

set_option maxHeartbeats 400000 in
theorem index_any (x : ByteArray) (l : List ByteArray) (v : Value) (w : World) (X : Nat → Prop) (hv : LV Value.string w X v l) :
    Calls Try.prog 76 #[v, .string x] w fun e w' => (∃ n : Int, e = .returned (.int .i64 n) ∧ decide (0 ≤ n) = inB x l) ∧ w' = w := by
  obtain ⟨a, c, rfl, ⟨hl, _⟩, h1⟩ := hv
  go_enter Try.func76, Try.ntmps76
  go_wp2_with fail
  go_loop [8] (fun i => ∃ k : Nat, k ≤ l.length ∧ i = .int .i64 k ∧ inB x (l.take k) = false) (fun i => l.length - (intOf i).toNat)
  case atStart => exact ⟨0, Nat.zero_le _, rfl, by simp [inB]⟩
  case round =>
    obtain ⟨k, hk, rfl, ha⟩ := hrel
    have HA := hide ha
    clear ha
    by_cases hlt : k < l.length
    · obtain ⟨b, o, rfl, _, hc⟩ := h1.resolve_left (fun h => by rw [h] at hlt; simp at hlt)
      have d1 := hc k hlt
      clear hc h1
      cases hq : (x.toList == l[k].toList) with
      | true =>
        have HQ := hide (inB_yes hlt (by rw [beq_comm']; exact hq))
        go_wp2_with fail
        go_ret
        exact ⟨⟨k, rfl, by rw [HQ.out]; simp⟩, rfl⟩
      | false =>
        have HQ := hide (inB_take hlt HA.out (by rw [beq_comm']; exact hq))
        go_wp2_with fail
        go_round
        case rel => exact ⟨k + 1, by omega, by go_num, HQ.out⟩
        case measure => simp [intOf]; omega
    · have htk : l.take k = l := List.take_of_length_le (by omega)
      have HF : Hid (false = inB x l) := by unfold Hid; rw [← HA.out, htk]
      go_wp2_with fail
      go_ret
      exact ⟨⟨-1, rfl, by rw [← HF.out]; decide⟩, rfl⟩

set_option maxHeartbeats 400000 in
theorem contains_any (x : ByteArray) (l : List ByteArray) (v : Value) (w : World) (X : Nat → Prop) (hv : LV Value.string w X v l) :
    Calls Try.prog 48 #[v, .string x] w fun e w' => e = .returned (.bool (inB x l)) ∧ w' = w := by
  have HV := hide hv
  clear hv
  go_enter Try.func48, Try.ntmps48
  go_wp2_with fail
  refine (index_any x l _ _ X HV.out).mono ?_
  rintro e w1 ⟨⟨n, rfl, hn⟩, rfl⟩
  have HN := hide hn
  clear hn
  go_wp2_with fail
  go_ret
  exact ⟨ret_bool HN.out, rfl⟩

/-- A variable more. -/
def addV (acc : List ByteArray) (s : ByteArray) : List ByteArray := if (varB s && !inB s acc) = true then acc ++ [s] else acc
/-- The variables of knots, as they come. -/
def varsP (acc : List ByteArray) (ks : List Tm) : List ByteArray := ks.foldl (fun acc k => addV acc k.name) acc

theorem addV_yes {acc : List ByteArray} {s : ByteArray} (h : varB s = true) (h2 : inB s acc = false) : addV acc s = acc ++ [s] := by simp [addV, h, h2]
theorem addV_in {acc : List ByteArray} {s : ByteArray} (h : varB s = true) (h2 : inB s acc = true) : addV acc s = acc := by simp [addV, h, h2]
theorem addV_no {acc : List ByteArray} {s : ByteArray} (h : varB s = false) : addV acc s = acc := by simp [addV, h]
theorem addV_len (acc : List ByteArray) (s : ByteArray) : (addV acc s).length ≤ acc.length + 1 := by
  unfold addV; split <;> simp
theorem varsP_append (acc : List ByteArray) (a b : List Tm) : varsP acc (a ++ b) = varsP (varsP acc a) b := by simp [varsP, List.foldl_append]
theorem varsP_len (ks : List Tm) : ∀ acc, (varsP acc ks).length ≤ acc.length + ks.length := by
  induction ks with
  | nil => intro acc; simp [varsP]
  | cons k r ih => intro acc; have := ih (addV acc k.name); have h2 := addV_len acc k.name; simp only [varsP, List.foldl_cons, List.length_cons] at *; omega
theorem varsP_take (acc : List ByteArray) (ks : List Tm) (k : Nat) (h : k < ks.length) : varsP acc (ks.take (k + 1)) = addV (varsP acc (ks.take k)) ks[k].name := by
  rw [List.take_succ_eq_append_getElem h, varsP_append]; rfl

set_option maxHeartbeats 1000000 in
theorem varsOf_any (t : Tm) (v : Value) (w : World) (X : Nat → Prop) (hv : TV w X v t) (hsm : sizeL [t] ≤ 1000000) :
    Calls Try.prog 40 #[v] w fun e w' => ∃ v', e = .returned v' ∧ LV Value.string w' (fun b => w.heap.size ≤ b) v' (varsP [] (preL [t])) ∧ Below w.heap.size w w' := by
  obtain ⟨a, c, rfl, hs⟩ := hv
  have HV := hide (show TV w X (.agg #[.string t.name, .slice a t.args.length c]) t from ⟨a, c, rfl, hs⟩)
  clear hs
  obtain ⟨i0, hi, hz0, hz1, hz2⟩ := info_parts Try.infoStr
  go_enter Try.func40, Try.ntmps40
  go_wp2_with fail
  refine (knots_any t _ _ X (by exact HV.out.alloc _) hsm).mono ?_
  rintro e w2 ⟨v2, xs, rfl, hown, hrow, hb3⟩
  have hpos : 0 < sizeL [t] := by obtain ⟨s', l'⟩ := t; simp [sizeL]; omega
  obtain ⟨g, cap, rfl, hg, hg', hcel⟩ := owned_val hown hpos
  have hb4 := hide (((Below.refl w.heap.size w).alloc (Nat.le_refl _) (.cells #[.string t.name, .slice a t.args.length c] 25)).trans (hb3.mono (by simp)))
  have HROW := hide hrow
  have HCEL := hide hcel
  have hpl := preL_length [t]
  generalize hkse : preL [t] = ks at *
  have HKSE := hide hkse
  clear hkse
  have hks : ks.length ≤ 1000000 := by omega
  rw [← hpl]
  clear hown hrow hcel hb3 hpl hpos hsm
  go_wp2_with fail
  go_loopw [4, 5] (fun q i wr => ∃ k : Nat, k ≤ ks.length ∧ i = .int .i64 k ∧ wr.ownsRow w2.heap.size 9 1 q (varsP [] (ks.take k)).length ((varsP [] (ks.take k)).map Value.string) ∧ Below w2.heap.size w2 wr) (fun q i wr => ks.length - (intOf i).toNat)
  case atStart => exact ⟨0, Nat.zero_le _, rfl, by simpa [varsP] using World.ownsRow_nil w2 w2.heap.size 9 1, Below.refl _ _⟩
  case round =>
    obtain ⟨k, hk, rfl, hown, hb⟩ := hrel
    have HOWN := hide hown
    have HB := hide hb
    by_cases hlt : k < ks.length
    · obtain ⟨x0, a', c', x1, hsl⟩ := HROW.out.get k hlt
      have d0 := cell_later hb (HCEL.out _ _ x0)
      have HT := hide (varsP_take [] ks k hlt)
      have hlen0 := varsP_len (ks.take k) []
      have hlen : (varsP [] (ks.take k)).length ≤ 1000000 := by
        have : (ks.take k).length ≤ k := List.length_take_le _ _
        simp at hlen0; omega
      clear x0 x1 hsl hown hb hlen0
      generalize hacc : varsP [] (ks.take k) = acc at *
      have HACC := hide hacc
      clear hacc
      cases hvb : varB ks[k].name with
      | false =>
        have HN := hide (addV_no (acc := acc) hvb)
        have HVB := hide hvb
        clear hvb
        go_wp2_with (go_at_call 35; refine (isVarR_any _ _).mono ?_; rintro e w' ⟨rfl, rfl⟩; rw [HVB.out])
        go_roundw
        case rel => exact ⟨k + 1, by omega, by go_num, by rw [HT.out, HN.out]; exact HOWN.out, HB.out⟩
        case measure => simp [intOf]; omega
      | true =>
        have HVB := hide hvb
        cases hin : inB ks[k].name acc with
        | true =>
          have HN := hide (addV_in hvb hin)
          have HIN := hide hin
          clear hvb hin
          go_wp2_with (first | (go_at_call 35; refine (isVarR_any _ _).mono ?_; rintro e w' ⟨rfl, rfl⟩; rw [HVB.out]) | (go_at_call 36; refine (in_any _ _ _ _ _ (LV.of_own HOWN.out)).mono ?_; rintro e w' ⟨rfl, rfl⟩; rw [HIN.out]))
          go_roundw
          case rel => exact ⟨k + 1, by omega, by go_num, by rw [HT.out, HN.out]; exact HOWN.out, HB.out⟩
          case measure => simp [intOf]; omega
        | false =>
          have HN := hide (addV_yes hvb hin)
          have HIN := hide hin
          clear hvb hin
          obtain ⟨q2, w3, hr2, hown2, hgr2, _⟩ := run_append_own (P := Try.prog) (wr.alloc (.cells #[.string ks[k].name] 9)) w2.heap.size 22 22 9 i0 _ 1 16 Try.underlying22 hi hz0 hz1 hz2 rfl (by decide) _ acc.length (acc.map Value.string) (HOWN.out.alloc _)
            ⟨wr.heap.size, 0, none⟩ 1 1 [.string ks[k].name] rfl (cell_one_new _ _ _) (fun x hx => by simp at hx; subst hx; rfl) (by unfold maxLen; omega) (by omega) (by have := HB.out.size; simp; omega)
          have HR := hide hr2
          have HO2 := hide hown2
          have HB2 := hide ((HB.out.alloc HB.out.size _).grown hgr2 (by have := HB.out.size; simp; omega) (fun j hj => (HOWN.out.lt j hj).1))
          clear hr2 hown2 hgr2
          go_wp2_with (first | (go_at_call 35; refine (isVarR_any _ _).mono ?_; rintro e w' ⟨rfl, rfl⟩; rw [HVB.out]) | (go_at_call 36; refine (in_any _ _ _ _ _ (LV.of_own HOWN.out)).mono ?_; rintro e w' ⟨rfl, rfl⟩; rw [HIN.out]) | (at_builtin; refine wpList_append_eq rfl _ _ _ _ rfl rfl rfl HR.out ?_))
          go_roundw
          case rel => exact ⟨k + 1, by omega, by go_num, by rw [HT.out, HN.out]; simpa using HO2.out, HB2.out⟩
          case measure => simp [intOf]; omega
    · have htk : ks.take k = ks := List.take_of_length_le (by omega)
      rw [htk] at hown
      have HO := hide hown
      clear hown hb
      go_wp2_with fail
      go_ret
      exact ⟨_, rfl, by rw [HKSE.out]; exact (LV.of_own HO.out).mono fun b hb _ => Nat.le_trans hb4.out.size hb, hb4.out.trans (HB.out.mono hb4.out.size)⟩

theorem grown_trans {w w1 w2 : World} {r r1 : Option Nat} (h : w.grownBy w1 r) (h1 : w1.grownBy w2 r1) (hr : ∀ k, r1 = some k → r = some k ∨ w.heap.size ≤ k) : w.grownBy w2 r :=
  ⟨h1.os.trans h.os, h1.tape.trans h.tape, h1.output.trans h.output, Nat.le_trans h.size h1.size, fun k hk hne => (h1.block k (Nat.lt_of_lt_of_le hk h.size) (fun e => by
    rcases hr k e.symm with h2 | h2
    · exact hne h2.symm
    · omega)).trans (h.block k hk hne)⟩

theorem grown_of_below {w w' : World} (hb : Below w.heap.size w w') (r : Option Nat) : w.grownBy w' r := ⟨hb.os, hb.tape, hb.output, hb.size, fun k hk _ => hb.block k hk⟩

theorem TV.grown {w w' : World} {X : Nat → Prop} {v : Value} {t : Tm} {r : Option Nat} (h : TV w X v t) (hg : w.grownBy w' r) (hX : ∀ b, X b → some b ≠ r) : TV w' X v t := by
  have h1 : TV w (fun b => X b ∧ b < w.heap.size) v t := h.mono fun b h1 h2 => ⟨h1, h2⟩
  have h2 : TV w' (fun b => X b ∧ b < w.heap.size) v t := h1.kept fun b hx => hg.block b hx.2 (hX b hx.1)
  exact h2.mono fun b hx _ => hx.1

/-- What stays true of a row of texts while it is added to. -/
def NamesAt (w0 : World) (B : Nat) (q0 : Value) (acc : List ByteArray) (q : Value) (wr : World) : Prop :=
  wr.ownsRow B 9 1 q acc.length (acc.map Value.string) ∧ w0.grownBy wr q0.ownBlock ∧ (∀ k, q.ownBlock = some k → q0.ownBlock = some k ∨ w0.heap.size ≤ k)

theorem NamesAt.step {w0 w1 w2 : World} {B : Nat} {q0 q1 q2 : Value} {acc1 acc2 : List ByteArray} (h1 : NamesAt w0 B q0 acc1 q1 w1) (h2 : NamesAt w1 B q1 acc2 q2 w2) : NamesAt w0 B q0 acc2 q2 w2 := by
  refine ⟨h2.1, grown_trans h1.2.1 h2.2.1 h1.2.2, fun k hk => ?_⟩
  rcases h2.2.2 k hk with h | h
  · exact h1.2.2 k h
  · exact Or.inr (Nat.le_trans h1.2.1.size h)

theorem NamesAt.below {w0 w1 w2 : World} {B : Nat} {q0 q1 : Value} {acc1 : List ByteArray} (h1 : NamesAt w0 B q0 acc1 q1 w1) (hb : Below w1.heap.size w1 w2) : NamesAt w0 B q0 acc1 q1 w2 :=
  ⟨h1.1.kept (w' := w2) (row := none) ⟨hb.os, hb.tape, hb.output, hb.size, fun j hj _ => hb.block j hj⟩ (by rcases Option.eq_none_or_eq_some (Value.ownBlock q1) with h | ⟨x, h⟩; exact Or.inl h; exact Or.inr (by rw [h]; simp)),
   grown_trans h1.2.1 (grown_of_below hb q1.ownBlock) h1.2.2, h1.2.2⟩
#print axioms varsOf_any
#print axioms NamesAt.step
end Go.Proofs.Ythlgknglalcggac


/- Walks: what stands at a place. -/
namespace Go.Proofs.Ythlgknglalcggac
open Go.RowKit
set_option linter.unusedSimpArgs false
set_option linter.unusedVariables false

/-- What stands at a place. -/
def atT : Tm → List Int → Option Tm
  | t, [] => some t
  | t, i :: r => if h : 0 ≤ i ∧ i.toNat < t.args.length then atT (t.args[i.toNat]'h.2) r else none

/-- A list of numbers in memory. -/
def PV (w : World) (X : Nat → Prop) (v : Value) (zs : List Int) : Prop :=
  ∃ a c, v = .slice a zs.length c ∧ (zs.length ≤ 9223372036854775807 ∧ zs.length ≤ c) ∧ (zs = [] ∨ ∃ b o, a = some ⟨b, o, none⟩ ∧ X b ∧ ∀ i (h : i < zs.length), w.cell? ⟨b, o + i, none⟩ = some (.int .i64 zs[i]))

theorem PV.kept {w w' : World} {X : Nat → Prop} {v : Value} {zs : List Int} (h : PV w X v zs) (hk : ∀ b, X b → w'.heap[b]? = w.heap[b]?) : PV w' X v zs := by
  obtain ⟨a, c, e, hl, h⟩ := h
  refine ⟨a, c, e, hl, ?_⟩
  rcases h with h | ⟨b, o, e, hx, h⟩
  · exact Or.inl h
  · exact Or.inr ⟨b, o, e, hx, fun i hi => by rw [World.cell?_of_block (hk b hx)]; exact h i hi⟩

theorem PV.mono {w : World} {X Y : Nat → Prop} {v : Value} {zs : List Int} (h : PV w X v zs) (hk : ∀ b, X b → b < w.heap.size → Y b) : PV w Y v zs := by
  obtain ⟨a, c, e, hl, h⟩ := h
  refine ⟨a, c, e, hl, ?_⟩
  rcases h with h | ⟨b, o, e, hx, h⟩
  · exact Or.inl h
  · by_cases h0 : zs = []
    · exact Or.inl h0
    · have hp : 0 < zs.length := List.length_pos_iff.2 h0
      exact Or.inr ⟨b, o, e, hk b hx (World.block_lt_of_cell? w _ (h 0 hp)), h⟩

theorem PV.below {w w' : World} {X : Nat → Prop} {v : Value} {zs : List Int} {B : Nat} (h : PV w X v zs) (hb : Below B w w') (hX : ∀ b, X b → b < w.heap.size → b < B) : PV w' X v zs := by
  have h1 : PV w (fun b => X b ∧ b < B) v zs := h.mono fun b hx hs => ⟨hx, hX b hx hs⟩
  have h2 : PV w' (fun b => X b ∧ b < B) v zs := h1.kept fun b hx => hb.block b hx.2
  exact h2.mono fun b hx _ => hx.1

theorem PV.later {w w' : World} {X : Nat → Prop} {v : Value} {zs : List Int} (h : PV w X v zs) (hb : Below w.heap.size w w') : PV w' X v zs := h.below hb (fun _ _ h => h)
theorem PV.alloc {w : World} {X : Nat → Prop} {v : Value} {zs : List Int} (h : PV w X v zs) (o : Obj) : PV (w.alloc o) X v zs := h.later ((Below.refl _ _).alloc (Nat.le_refl _) o)

/-- The empty term's value. -/
def zeroT : Value := .agg #[.string ⟨#[]⟩, .slice none 0 0]

theorem below2 {w : World} (o1 o2 : Obj) : Below w.heap.size w ((w.alloc o1).alloc o2) := ((Below.refl _ _).alloc (Nat.le_refl _) _).alloc (by simp) _

end Go.Proofs.Ythlgknglalcggac

/- The places of a term, and rows of lists of numbers. -/
namespace Go.Proofs.Ythlgknglalcggac
open Go.RowKit
set_option linter.unusedSimpArgs false
set_option linter.unusedVariables false

/-- The places of a list of terms, counted from j on. -/
def plcL : Nat → List Tm → List (List Int)
  | _, [] => []
  | j, ⟨_, l⟩ :: r => ((([] : List Int) :: plcL 0 l).map fun p => (j : Int) :: p) ++ plcL (j + 1) r

/-- The places of a term. -/
def plcT (t : Tm) : List (List Int) := [] :: plcL 0 t.args

theorem plcL_cons (j : Nat) (t : Tm) (r : List Tm) : plcL j (t :: r) = ((plcT t).map fun p => (j : Int) :: p) ++ plcL (j + 1) r := by
  obtain ⟨s, l⟩ := t
  simp only [plcL, plcT]

theorem plcL_append (a b : List Tm) : ∀ j, plcL j (a ++ b) = plcL j a ++ plcL (j + a.length) b := by
  induction a with
  | nil => intro j; simp [plcL]
  | cons t r ih => intro j; rw [List.cons_append, plcL_cons, plcL_cons, ih]; simp [Nat.add_assoc, Nat.add_comm 1]

theorem plcL_take (l : List Tm) (k : Nat) (h : k < l.length) : plcL 0 (l.take (k + 1)) = plcL 0 (l.take k) ++ (plcT l[k]).map fun p => (k : Int) :: p := by
  rw [List.take_succ_eq_append_getElem h, plcL_append, plcL_cons]
  have : (l.take k).length = k := by rw [List.length_take]; omega
  simp [this, plcL]

theorem plcL_len (l : List Tm) : ∀ j, (plcL j l).length = sizeL l := by
  induction l using Tm.indL with
  | h0 => intro j; simp [plcL, sizeL]
  | h s l r ihl ihr => intro j; simp [plcL, sizeL, ihl, ihr]; omega

theorem plcT_len (t : Tm) : (plcT t).length = sizeL [t] := by
  obtain ⟨s, l⟩ := t
  simp [plcT, plcL_len, sizeL]; omega

/-- No place is longer than the term has knots. -/
theorem plc_deep (l : List Tm) : ∀ j, ∀ p ∈ plcL j l, p.length ≤ sizeL l := by
  induction l using Tm.indL with
  | h0 => intro j p hp; simp [plcL] at hp
  | h s l r ihl ihr =>
    intro j p hp
    simp only [plcL, List.mem_append, List.mem_map, List.mem_cons] at hp
    simp only [sizeL]
    rcases hp with ⟨p', h1, rfl⟩ | hp
    · rcases h1 with rfl | h1
      · simp; omega
      · have := ihl 0 p' h1; simp; omega
    · have := ihr _ p hp; omega

/-- These cells are these lists. -/
def RowP (w : World) (Z : Nat → Prop) : List (List Int) → List Value → Prop
  | [], xs => xs = []
  | z :: r, xs => ∃ u xs', xs = u :: xs' ∧ PV w Z u z ∧ RowP w Z r xs'

theorem RowP.len {w : World} {Z : Nat → Prop} : ∀ {l : List (List Int)} {xs : List Value}, RowP w Z l xs → xs.length = l.length
  | [], xs, h => by simp [RowP] at h; simp [h]
  | z :: l, xs, h => by obtain ⟨u, xs', rfl, _, h⟩ := h; simp [RowP.len h]
theorem RowP.append {w : World} {Z : Nat → Prop} : ∀ {l k : List (List Int)} {xs ys : List Value}, RowP w Z l xs → RowP w Z k ys → RowP w Z (l ++ k) (xs ++ ys)
  | [], k, xs, ys, h, h' => by simp [RowP] at h; subst h; simpa using h'
  | z :: l, k, xs, ys, h, h' => by obtain ⟨u, xs', rfl, hp, h⟩ := h; exact ⟨u, xs' ++ ys, rfl, hp, RowP.append h h'⟩
theorem RowP.imp {w w' : World} {Z Z' : Nat → Prop} (hs : ∀ u z, PV w Z u z → PV w' Z' u z) : ∀ {l : List (List Int)} {xs : List Value}, RowP w Z l xs → RowP w' Z' l xs
  | [], xs, h => h
  | z :: l, xs, h => by obtain ⟨u, xs', e, hp, h⟩ := h; exact ⟨u, xs', e, hs _ _ hp, RowP.imp hs h⟩
theorem RowP.get {w : World} {Z : Nat → Prop} : ∀ {l : List (List Int)} {xs : List Value}, RowP w Z l xs → ∀ i (h : i < l.length), ∃ u, xs[i]? = some u ∧ PV w Z u l[i]
  | [], xs, h, i, hi => by simp at hi
  | z :: l, xs, h, i, hi => by
    obtain ⟨u, xs', rfl, hp, h⟩ := h
    cases i with
    | zero => exact ⟨u, rfl, hp⟩
    | succ i => obtain ⟨u', h1, h2⟩ := RowP.get h i (by simpa using hi); exact ⟨u', by simpa using h1, h2⟩
theorem PV.one {w : World} {Z : Nat → Prop} {u : Value} {z : List Int} (h : PV w Z u z) : u.oneCell' = true := by obtain ⟨a, c, rfl, _⟩ := h; rfl

theorem Try.infoInt : (Try.prog.info? 3).map (fun i => (i.zero, i.size, i.bytes)) = some (some (.int .i64 0), 1, 8) := by kernel_rfl
theorem Try.infoInts : (Try.prog.info? 34).map (fun i => (i.zero, i.size, i.bytes)) = some (some (.slice none 0 0), 1, 24) := by kernel_rfl

/-- Out of a row that a call owns. -/
theorem pv_of_own {w : World} {N T : Nat} {v : Value} {l : List Int} (h : w.ownsRow N T 1 v l.length (l.map fun z => .int .i64 z)) : PV w (fun b => N ≤ b ∧ v.ownBlock = some b) v l := by
  have h' := h
  obtain ⟨_, h1⟩ := h
  rcases h1 with ⟨rfl, h0⟩ | ⟨g, cap, cur, hv, hg, hh, hnc, hcm, _⟩
  · have e : l = [] := List.length_eq_zero_iff.1 h0
    subst e
    exact ⟨none, 0, rfl, by simp, Or.inl rfl⟩
  · unfold maxLen at hcm
    refine ⟨some ⟨g, 0, none⟩, cap, hv, ⟨by omega, hnc⟩, ?_⟩
    by_cases h0 : l = []
    · exact Or.inl h0
    · have hp : 0 < l.length := List.length_pos_iff.2 h0
      obtain ⟨g2, cap2, hv2, _, _, hc⟩ := owned_val h' hp
      rw [hv] at hv2
      simp at hv2
      obtain ⟨rfl, rfl⟩ := hv2
      exact Or.inr ⟨g, 0, rfl, ⟨hg, by rw [hv]; rfl⟩, fun i hi => by rw [Nat.zero_add]; exact hc i _ (by simp [hi])⟩

/-- What a list yields to an append. -/
theorem pv_src {w : World} {Z : Nat → Prop} {u : Value} {z : List Int} (h : PV w Z u z) : Src Try.prog 1 34 u z.length (z.map fun x => .int .i64 x) w := by
  obtain ⟨a, c, rfl, _, h⟩ := h
  have one : ∀ v ∈ (z.map fun x => Value.int .i64 x), v.oneCell' = true := fun v hv => by obtain ⟨x, _, rfl⟩ := List.mem_map.1 hv; rfl
  rcases h with rfl | ⟨b, o, rfl, _, hc⟩
  · cases a with
    | none => simpa using Src.ofNil w Try.underlying34 c
    | some a => exact Src.ofSlice w Try.underlying34 a _ c _ (by simp) (by simp) one
  · refine Src.ofSlice w Try.underlying34 ⟨b, o, none⟩ _ c _ (by simp) (fun j v hj => ?_) one
    rw [List.getElem?_map] at hj
    cases hz : z[j]? with
    | none => rw [hz] at hj; cases hj
    | some x =>
      rw [hz] at hj
      simp at hj
      subst hj
      obtain ⟨hlt, rfl⟩ := List.getElem?_eq_some_iff.1 hz
      have := hc j hlt
      by_cases h0 : j = 0
      · subst h0; first | (simp [Addr.add]; done) | simpa [Addr.add] using this
      · first | (simp [Addr.add, h0]; done) | simpa [Addr.add, h0] using this
#print axioms pv_src
#print axioms pv_of_own
end Go.Proofs.Ythlgknglalcggac

/- But for one block the world is as it was. -/
namespace Go.Proofs.Ythlgknglalcggac
open Go.RowKit
set_option linter.unusedSimpArgs false
set_option linter.unusedVariables false
set_option maxRecDepth 8000

/-- But for block B the world is as it was. -/
structure Ex (B : Nat) (w w' : World) : Prop where
  os : w'.os = w.os
  tape : w'.tape = w.tape
  output : w'.output = w.output
  size : w.heap.size ≤ w'.heap.size
  block : ∀ k, k < w.heap.size → k ≠ B → w'.heap[k]? = w.heap[k]?
theorem Ex.refl (B : Nat) (w : World) : Ex B w w := ⟨rfl, rfl, rfl, Nat.le_refl _, fun _ _ _ => rfl⟩
theorem Ex.trans {B : Nat} {a b c : World} (h : Ex B a b) (k : Ex B b c) : Ex B a c :=
  ⟨k.os.trans h.os, k.tape.trans h.tape, k.output.trans h.output, Nat.le_trans h.size k.size, fun i hi hn => (k.block i (Nat.lt_of_lt_of_le hi h.size) hn).trans (h.block i hi hn)⟩
theorem Ex.drewN {B : Nat} {a w : World} (h : Ex B a w) (n : Nat) : Ex B a (w.drewN n) := ⟨h.os, h.tape, h.output, h.size, h.block⟩
theorem Ex.drew {B : Nat} {a w : World} (h : Ex B a w) : Ex B a w.drew := ⟨h.os, h.tape, h.output, h.size, h.block⟩
theorem Ex.set {B : Nat} {a w : World} (h : Ex B a w) (i : Nat) (v : Value) : Ex B a (w.setCell ⟨B, i, none⟩ v) :=
  ⟨h.os, h.tape, h.output, by simpa [World.setCell] using h.size, fun k hk hn => (Below.heap_setCell _ _ _ _ (by simpa using hn)).trans (h.block k hk hn)⟩

theorem Ex.alloc {B : Nat} {a w : World} (h : Ex B a w) (o : Obj) : Ex B a (w.alloc o) :=
  ⟨h.os, h.tape, h.output, by have := h.size; simp; omega, fun k hk hn => (Below.heap_alloc _ _ _ (Nat.lt_of_lt_of_le hk h.size)).trans (h.block k hk hn)⟩

theorem Blk.ex {w w' : World} {B b T : Nat} {cs : Array Value} (h : Blk w b cs T) (he : Ex B w w') (hne : b ≠ B) : Blk w' b cs T := by
  unfold Blk at *
  rw [he.block b (Blk.lt h) hne]; exact h
theorem Ex.mid {B : Nat} {w w1 : World} (h : Ex B w w1) : ∃ wm, Below wm.heap.size wm w1 ∧ wm.heap.size = w.heap.size ∧ Ex B w wm := by
  by_cases hB : B < w.heap.size
  · have hB1 : B < w1.heap.size := Nat.lt_of_lt_of_le hB h.size
    refine ⟨{ w with heap := w.heap.setIfInBounds B w1.heap[B] }, ⟨h.os, h.tape, h.output, by simpa using h.size, fun k hk => ?_⟩, by simp, ⟨rfl, rfl, rfl, by simp, fun k hk hn => ?_⟩⟩
    · simp at hk
      by_cases e : k = B
      · subst e
        simp [Array.getElem?_setIfInBounds, hB, hB1]
      · rw [h.block k hk e]
        simp [Array.getElem?_setIfInBounds, Ne.symm e]
    · simp [Array.getElem?_setIfInBounds, Ne.symm hn]
  · exact ⟨w, ⟨h.os, h.tape, h.output, h.size, fun k hk => h.block k hk (by omega)⟩, rfl, Ex.refl _ _⟩

theorem Row.ex {w w' : World} {B N T : Nat} {Y : Nat → Prop} {v : Value} {l : List Tm} {xs : List Value} (h : Row w N T Y v l xs) (he : Ex B w w') (hB : B < N) (hY : ¬ Y B) : Row w' N T Y v l xs :=
  ⟨h.own.kept (w' := w') (row := some B) ⟨he.os, he.tape, he.output, he.size, fun j hj hn => he.block j hj (fun e => hn (by rw [e]))⟩ (Or.inr (fun e => by have := (h.own.lt B e).1; omega)),
   h.row.imp fun a l hs => ((hs.mono (Y := fun b => (Y b ∨ (N ≤ b ∧ some b ≠ v.ownBlock)) ∧ b < w.heap.size) fun b h1 h2 => ⟨h1, h2⟩).kept fun b hb => he.block b hb.2 (fun e => by
     rcases hb.1 with h1 | h1
     · rw [e] at h1; exact hY h1
     · omega)).mono fun b hb _ => hb.1⟩

theorem Ex.grown {B : Nat} {a w w' : World} {row : Option Nat} (h : Ex B a w) (hg : w.grownBy w' row) (hr : ∀ k, row = some k → a.heap.size ≤ k) : Ex B a w' :=
  ⟨hg.os.trans h.os, hg.tape.trans h.tape, hg.output.trans h.output, Nat.le_trans h.size hg.size, fun k hk hn => (hg.block k (Nat.lt_of_lt_of_le hk h.size) (fun e => by have := hr k e.symm; omega)).trans (h.block k hk hn)⟩
theorem Ex.setNew {B : Nat} {a w : World} (h : Ex B a w) {b : Nat} (hb : a.heap.size ≤ b) (i : Nat) (v : Value) : Ex B a (w.setCell ⟨b, i, none⟩ v) :=
  ⟨h.os, h.tape, h.output, by simpa [World.setCell] using h.size, fun k hk hn => (Below.heap_setCell _ _ _ _ (by simp; omega)).trans (h.block k hk hn)⟩

end Go.Proofs.Ythlgknglalcggac

/- Bindings in memory. -/
namespace Go.Proofs.Ythlgknglalcggac
open Go.RowKit
set_option linter.unusedSimpArgs false
set_option linter.unusedVariables false

/-- A variable and what stands for it. -/
structure Bd where
  nm : ByteArray
  t : Tm

/-- A list of bindings in memory. -/
def BV (w : World) (X : Nat → Prop) (v : Value) (l : List Bd) : Prop :=
  ∃ a c, v = .slice a l.length c ∧ (l.length ≤ 9223372036854775807 ∧ l.length ≤ c) ∧ (l = [] ∨ ∃ b o, a = some ⟨b, o, none⟩ ∧ X b ∧ ∀ i (h : i < l.length), w.cell? ⟨b, o + i * 3, none⟩ = some (.string l[i].nm) ∧ w.cell? ⟨b, o + i * 3 + 1, none⟩ = some (.string l[i].t.name) ∧ ∃ a' c', w.cell? ⟨b, o + i * 3 + 2, none⟩ = some (.slice a' l[i].t.args.length c') ∧ Sl w X a' l[i].t.args)

theorem BV.kept {w w' : World} {X : Nat → Prop} {v : Value} {l : List Bd} (h : BV w X v l) (hk : ∀ b, X b → w'.heap[b]? = w.heap[b]?) : BV w' X v l := by
  obtain ⟨a, c, e, hl, h⟩ := h
  refine ⟨a, c, e, hl, ?_⟩
  rcases h with h | ⟨b, o, ea, hX, h⟩
  · exact Or.inl h
  · refine Or.inr ⟨b, o, ea, hX, fun i hi => ?_⟩
    obtain ⟨h1, h2, a', c', h3, h4⟩ := h i hi
    have hb := hk b hX
    exact ⟨by simpa [World.cell?, hb] using h1, by simpa [World.cell?, hb] using h2, a', c', by simpa [World.cell?, hb] using h3, h4.kept hk⟩
theorem cell_lt {w : World} {b o : Nat} {v : Value} (h : w.cell? ⟨b, o, none⟩ = some v) : b < w.heap.size := by
  rcases Nat.lt_or_ge b w.heap.size with h' | h'
  · exact h'
  · simp [World.cell?, Array.getElem?_eq_none h'] at h
theorem BV.mono {w : World} {X Y : Nat → Prop} {v : Value} {l : List Bd} (h : BV w X v l) (hk : ∀ b, X b → b < w.heap.size → Y b) : BV w Y v l := by
  obtain ⟨a, c, e, hl, h⟩ := h
  refine ⟨a, c, e, hl, ?_⟩
  rcases h with h | ⟨b, o, ea, hX, h⟩
  · exact Or.inl h
  · by_cases h0 : l = []
    · exact Or.inl h0
    · have hp : 0 < l.length := List.length_pos_iff.2 h0
      refine Or.inr ⟨b, o, ea, hk b hX (cell_lt (h 0 hp).1), fun i hi => ?_⟩
      obtain ⟨h1, h2, a', c', h3, h4⟩ := h i hi
      exact ⟨h1, h2, a', c', h3, h4.mono hk⟩
theorem BV.later {w w' : World} {X : Nat → Prop} {v : Value} {l : List Bd} (h : BV w X v l) (hb : Below w.heap.size w w') : BV w' X v l :=
  ((h.mono (Y := fun b => X b ∧ b < w.heap.size) fun b h1 h2 => ⟨h1, h2⟩).kept fun b hx => hb.block b hx.2).mono fun b hx _ => hx.1
theorem BV.alloc {w : World} {X : Nat → Prop} {v : Value} {l : List Bd} (h : BV w X v l) (o : Obj) : BV (w.alloc o) X v l := h.later ((Below.refl _ _).alloc (Nat.le_refl _) o)
theorem BV.get {w : World} {X : Nat → Prop} {a : Option Addr} {n c : Nat} {l : List Bd} (h : BV w X (.slice a n c) l) (i : Nat) (hi : i < l.length) :
    ∃ b o a' c', a = some ⟨b, o, none⟩ ∧ w.cell? ⟨b, o + i * 3, none⟩ = some (.string l[i].nm) ∧ w.cell? ⟨b, o + i * 3 + 1, none⟩ = some (.string l[i].t.name) ∧ w.cell? ⟨b, o + i * 3 + 2, none⟩ = some (.slice a' l[i].t.args.length c') ∧ Sl w X a' l[i].t.args := by
  obtain ⟨a2, c2, e, hl, h⟩ := h
  simp at e
  obtain ⟨rfl, rfl, rfl⟩ := e
  rcases h with h | ⟨b, o, ea, hX, h⟩
  · subst h; simp at hi
  · obtain ⟨h1, h2, a', c', h3, h4⟩ := h i hi
    exact ⟨b, o, a', c', ea, h1, h2, h3, h4⟩

theorem bytes_inj {a b : ByteArray} (h : a.toList = b.toList) : a = b := by
  rw [ByteArray.toList_eq, ByteArray.toList_eq] at h
  cases a with
  | mk x =>
    cases b with
    | mk y => congr 1; exact Array.toList_inj.1 h
theorem bytes_yes {a b : ByteArray} (h : a = b) : (a.toList == b.toList) = true := by rw [h]; simp
theorem bytes_no {a b : ByteArray} (h : a ≠ b) : (a.toList == b.toList) = false := beq_eq_false_iff_ne.2 fun e => h (bytes_inj e)

/-- What stands for a variable. -/
def forT : List Bd → ByteArray → Option Tm
  | [], _ => none
  | d :: r, n => if d.nm = n then some d.t else forT r n
theorem forT_take {l : List Bd} {n : ByteArray} {k : Nat} (hk : k < l.length) (h : forT (l.take k) n = none) : (l[k].nm = n → forT l n = some l[k].t) ∧ (l[k].nm ≠ n → forT (l.take (k + 1)) n = none) := by
  induction l generalizing k with
  | nil => simp at hk
  | cons d r ih =>
    cases k with
    | zero =>
      refine ⟨fun e => ?_, fun e => ?_⟩
      · simp only [List.getElem_cons_zero] at e; simp [forT, e]
      · simp only [List.getElem_cons_zero] at e; simp [forT, e]
    | succ k =>
      simp only [List.take_succ_cons, forT] at h
      by_cases hd : d.nm = n
      · rw [if_pos hd] at h; cases h
      · rw [if_neg hd] at h
        obtain ⟨h1, h2⟩ := ih (by simpa using hk) h
        refine ⟨fun e => ?_, fun e => ?_⟩
        · rw [forT, if_neg hd]; exact h1 (by simpa using e)
        · rw [List.take_succ_cons, forT, if_neg hd]; exact h2 (by simpa using e)
end Go.Proofs.Ythlgknglalcggac

/- Rows of bindings that a call makes. -/
namespace Go.Proofs.Ythlgknglalcggac
open Go.RowKit
set_option linter.unusedSimpArgs false
set_option linter.unusedVariables false

/-- A binding, and where those below its term's first knot lie. -/
abbrev Bc := Bd × Option Addr × Nat
instance : Inhabited Bc := ⟨(⟨⟨#[]⟩, ⟨⟨#[]⟩, []⟩⟩, none, 0)⟩
def enc3 (x : Bc) : List Value := [.string x.1.nm, .string x.1.t.name, .slice x.2.1 x.1.t.args.length x.2.2]
def flat3 : List Bc → List Value
  | [] => []
  | x :: r => enc3 x ++ flat3 r
theorem flat3_append (b : List Bc) : ∀ a, flat3 (a ++ b) = flat3 a ++ flat3 b
  | [] => rfl
  | x :: r => by rw [List.cons_append, flat3, flat3, flat3_append b r, List.append_assoc]
theorem flat3_length : ∀ a : List Bc, (flat3 a).length = a.length * 3
  | [] => rfl
  | x :: r => by rw [flat3, List.length_append, flat3_length r]; simp [enc3]; omega
theorem flat3_get : ∀ (a : List Bc) (i : Nat) (h : i < a.length) (j : Nat), j < 3 → (flat3 a)[i * 3 + j]? = (enc3 a[i])[j]?
  | [], i, h, j, hj => by simp at h
  | x :: r, 0, h, j, hj => by
    rw [flat3, List.getElem?_append_left (by simp [enc3]; omega)]; simp
  | x :: r, i + 1, h, j, hj => by
    rw [flat3, List.getElem?_append_right (by simp [enc3]; omega)]
    have e : (i + 1) * 3 + j - (enc3 x).length = i * 3 + j := by simp [enc3]; omega
    rw [e, flat3_get r i (by simpa using h) j hj]
    simp

/-- The row so far, apart from what its terms are made of: old memory that Y lets, and new memory. -/
structure BRow (w : World) (N : Nat) (Y : Nat → Prop) (v : Value) (cs : List Bc) : Prop where
  own : w.ownsRow N 75 3 v cs.length (flat3 cs)
  row : ∀ x ∈ cs, Sl w (fun b => Y b ∨ (N ≤ b ∧ some b ≠ v.ownBlock)) x.2.1 x.1.t.args

theorem BRow.start (w : World) (N : Nat) (Y : Nat → Prop) : BRow w N Y (.slice none 0 0) [] := ⟨World.ownsRow_nil w N _ 3, by simp⟩

theorem BRow.below {w w' : World} {N : Nat} {Y : Nat → Prop} {v : Value} {cs : List Bc} (h : BRow w N Y v cs) (hb : Below w.heap.size w w') : BRow w' N Y v cs :=
  ⟨h.own.kept (w' := w') (row := none) ⟨hb.os, hb.tape, hb.output, hb.size, fun j hj _ => hb.block j hj⟩ (by rcases Option.eq_none_or_eq_some (Value.ownBlock v) with h | ⟨x, h⟩; exact Or.inl h; exact Or.inr (by rw [h]; simp)),
   fun x hx => (h.row x hx).later hb⟩

theorem BRow.ne {w : World} {N : Nat} {Y : Nat → Prop} {v : Value} {cs : List Bc} (h : BRow w N Y v cs) {b : Nat} (hb : b < N) : some b ≠ v.ownBlock := fun e => by
  have := (h.own.lt b e.symm).1; omega

/-- Other blocks may turn: those that are none of the row's, nor of what its terms are made of. -/
theorem BRow.kept {w w' : World} {N : Nat} {Y : Nat → Prop} {v : Value} {cs : List Bc} {r : Nat} (h : BRow w N Y v cs) (hr : r < N) (hY : ¬ Y r) (ho : w'.os = w.os) (ht : w'.tape = w.tape) (hu : w'.output = w.output) (hz : w.heap.size ≤ w'.heap.size) (hk : ∀ j, j ≠ r → j < w.heap.size → w'.heap[j]? = w.heap[j]?) : BRow w' N Y v cs :=
  ⟨h.own.kept (w' := w') (row := some r) ⟨ho, ht, hu, hz, fun j hj hne => hk j (fun e => hne (by rw [e])) hj⟩ (Or.inr (fun e => h.ne hr e.symm)),
   fun x hx => by
    have h1 := (h.row x hx).mono (Y := fun b => (Y b ∨ (N ≤ b ∧ some b ≠ v.ownBlock)) ∧ b < w.heap.size) fun b h1 h2 => ⟨h1, h2⟩
    refine (h1.kept fun b hb => hk b (fun e => ?_) hb.2).mono fun b hb _ => hb.1
    rcases hb.1 with h2 | h2
    · exact hY (e ▸ h2)
    · omega⟩

/-- One more: the binding's cells have been laid into a block of their own, and appended. -/
theorem BRow.push {w w1 w2 w3 : World} {N : Nat} {Y : Nat → Prop} {v : Value} {cs : List Bc} (h : BRow w N Y v cs) (hN : N ≤ w.heap.size) (hY : ∀ b, Y b → b < N) (hb : Below w.heap.size w w1) {x : Bc}
    (ht : Sl w1 (fun b => Y b ∨ w.heap.size ≤ b) x.2.1 x.1.t.args) (o : Obj) (hw2 : w2 = w1.alloc o) {g cap : Nat}
    (hown : w3.ownsRow N 75 3 (.slice (some ⟨g, 0, none⟩) (cs.length + 1) cap) (cs.length + 1) (flat3 cs ++ enc3 x)) (hg : w2.grownBy w3 v.ownBlock) (hg1 : v.ownBlock = some g ∨ g = w2.heap.size) :
    BRow w3 N Y (.slice (some ⟨g, 0, none⟩) (cs.length + 1) cap) (cs ++ [x]) := by
  subst hw2
  have hlt := h.own.lt
  refine ⟨by rw [flat3_append]; simpa [flat3] using hown, fun y hy => ?_⟩
  have hsz : w1.heap.size ≤ (w1.alloc o).heap.size := by simp
  have hbs := hb.size
  have hgN : N ≤ g := by
    rcases hg1 with e | e
    · exact (hlt g e).1
    · simp at e; omega
  rcases List.mem_append.1 hy with hy | hy
  · have h1 : Sl w (fun b => (Y b ∨ (N ≤ b ∧ some b ≠ v.ownBlock)) ∧ b < w.heap.size) y.2.1 y.1.t.args := (h.row y hy).mono fun b h1 h2 => ⟨h1, h2⟩
    have h2 : Sl w3 (fun b => (Y b ∨ (N ≤ b ∧ some b ≠ v.ownBlock)) ∧ b < w.heap.size) y.2.1 y.1.t.args := h1.kept fun b hx => by
      have hne : some b ≠ v.ownBlock := by
        rcases hx.1 with hy | hy
        · exact h.ne (hY b hy)
        · exact hy.2
      rw [hg.block b (by simp; omega) hne, Below.heap_alloc _ _ _ (by omega), hb.block b hx.2]
    refine h2.mono fun b hx _ => ?_
    rcases hx.1 with hy | hy
    · exact Or.inl hy
    · refine Or.inr ⟨hy.1, fun e => ?_⟩
      simp [Value.ownBlock] at e
      rcases hg1 with e' | e'
      · exact hy.2 (by rw [e', e])
      · simp at e'; omega
  · have e : y = x := by simpa using hy
    subst e
    have h1 : Sl w1 (fun b => (Y b ∨ w.heap.size ≤ b) ∧ b < w1.heap.size) y.2.1 y.1.t.args := ht.mono fun b h1 h2 => ⟨h1, h2⟩
    have h2 : Sl w3 (fun b => (Y b ∨ w.heap.size ≤ b) ∧ b < w1.heap.size) y.2.1 y.1.t.args := h1.kept fun b hx => by
      have hne : some b ≠ v.ownBlock := by
        rcases hx.1 with hy | hy
        · exact h.ne (hY b hy)
        · intro e; have := (hlt b e.symm).2; omega
      rw [hg.block b (by simp; omega) hne, Below.heap_alloc _ _ _ hx.2]
    refine h2.mono fun b hx _ => ?_
    rcases hx.1 with hy | hy
    · exact Or.inl hy
    · refine Or.inr ⟨by omega, fun e => ?_⟩
      simp [Value.ownBlock] at e
      rcases hg1 with e' | e'
      · have := (hlt g e').2; omega
      · simp at e'; omega

/-- As a list of bindings. -/
theorem BRow.bv {w : World} {N : Nat} {Y : Nat → Prop} {v : Value} {cs : List Bc} (h : BRow w N Y v cs) : BV w (fun b => Y b ∨ N ≤ b) v (cs.map (·.1)) := by
  have hml : cs.length ≤ 9223372036854775807 := by
    rcases h.own.2 with ⟨_, h0⟩ | ⟨g, cap, cur, _, _, _, h1, h2, _⟩
    · omega
    · unfold maxLen at h2; omega
  by_cases h0 : 0 < cs.length
  · obtain ⟨g, cap, rfl, hg, hlt, hc⟩ := owned_val h.own h0
    have hcap : cs.length ≤ cap := by
      rcases h.own.2 with ⟨e, _⟩ | ⟨g', cap', cur, e, _, _, h1, _⟩
      · cases e
      · simp at e; omega
    refine ⟨_, cap, by simp, ⟨by simpa using hml, by simpa using hcap⟩, Or.inr ⟨g, 0, rfl, Or.inr hg, fun i hi => ?_⟩⟩
    have hi' : i < cs.length := by simpa using hi
    have g0 := hc (i * 3 + 0) (.string cs[i].1.nm) (by rw [flat3_get cs i hi' 0 (by decide)]; rfl)
    have g1 := hc (i * 3 + 1) (.string cs[i].1.t.name) (by rw [flat3_get cs i hi' 1 (by decide)]; rfl)
    have g2 := hc (i * 3 + 2) (.slice cs[i].2.1 cs[i].1.t.args.length cs[i].2.2) (by rw [flat3_get cs i hi' 2 (by decide)]; rfl)
    simp only [List.getElem_map, Nat.zero_add]
    exact ⟨g0, g1, _, _, g2, (h.row cs[i] (List.getElem_mem hi')).mono fun b hb _ => hb.imp id (fun h => h.1)⟩
  · have e : cs = [] := List.length_eq_zero_iff.1 (by omega)
    subst e
    rcases h.own.2 with ⟨hv, _⟩ | ⟨g, cap, cur, hv, _⟩
    · exact ⟨none, 0, hv, by simp, Or.inl rfl⟩
    · exact ⟨_, _, hv, by simp, Or.inl rfl⟩
#print axioms BRow.push
#print axioms BRow.bv
end Go.Proofs.Ythlgknglalcggac

/- But for some blocks the world is as it was. -/
namespace Go.Proofs.Ythlgknglalcggac
open Go.RowKit
set_option linter.unusedSimpArgs false
set_option linter.unusedVariables false
set_option maxRecDepth 8000

/-- But for the blocks that Q names the world is as it was. -/
structure ExQ (Q : Nat → Prop) (w w' : World) : Prop where
  os : w'.os = w.os
  tape : w'.tape = w.tape
  output : w'.output = w.output
  size : w.heap.size ≤ w'.heap.size
  block : ∀ k, k < w.heap.size → ¬ Q k → w'.heap[k]? = w.heap[k]?
theorem ExQ.refl (Q : Nat → Prop) (w : World) : ExQ Q w w := ⟨rfl, rfl, rfl, Nat.le_refl _, fun _ _ _ => rfl⟩
theorem ExQ.trans {Q : Nat → Prop} {a b c : World} (h : ExQ Q a b) (k : ExQ Q b c) : ExQ Q a c :=
  ⟨k.os.trans h.os, k.tape.trans h.tape, k.output.trans h.output, Nat.le_trans h.size k.size, fun i hi hn => (k.block i (Nat.lt_of_lt_of_le hi h.size) hn).trans (h.block i hi hn)⟩
/-- One behind the other, the second naming blocks that the first world had not. -/
theorem ExQ.transN {Q R : Nat → Prop} {a b c : World} (h : ExQ Q a b) (k : ExQ R b c) (hR : ∀ i, R i → i < a.heap.size → Q i) : ExQ Q a c :=
  ⟨k.os.trans h.os, k.tape.trans h.tape, k.output.trans h.output, Nat.le_trans h.size k.size, fun i hi hn => (k.block i (Nat.lt_of_lt_of_le hi h.size) (fun hr => hn (hR i hr hi))).trans (h.block i hi hn)⟩
theorem ExQ.mono {Q R : Nat → Prop} {a b : World} (h : ExQ Q a b) (hR : ∀ i, Q i → i < a.heap.size → R i) : ExQ R a b := ⟨h.os, h.tape, h.output, h.size, fun i hi hn => h.block i hi (fun hq => hn (hR i hq hi))⟩
theorem ExQ.drewN {Q : Nat → Prop} {a w : World} (h : ExQ Q a w) (n : Nat) : ExQ Q a (w.drewN n) := ⟨h.os, h.tape, h.output, h.size, h.block⟩
theorem ExQ.drew {Q : Nat → Prop} {a w : World} (h : ExQ Q a w) : ExQ Q a w.drew := ⟨h.os, h.tape, h.output, h.size, h.block⟩
theorem ExQ.set {Q : Nat → Prop} {a w : World} (h : ExQ Q a w) {B : Nat} (hB : Q B) (i : Nat) (v : Value) : ExQ Q a (w.setCell ⟨B, i, none⟩ v) :=
  ⟨h.os, h.tape, h.output, by simpa [World.setCell] using h.size, fun k hk hn => (Below.heap_setCell _ _ _ _ (by simp; intro e; subst e; exact hn hB)).trans (h.block k hk hn)⟩
theorem ExQ.alloc {Q : Nat → Prop} {a w : World} (h : ExQ Q a w) (o : Obj) : ExQ Q a (w.alloc o) :=
  ⟨h.os, h.tape, h.output, by have := h.size; simp; omega, fun k hk hn => (Below.heap_alloc _ _ _ (Nat.lt_of_lt_of_le hk h.size)).trans (h.block k hk hn)⟩
theorem ExQ.grown {Q : Nat → Prop} {a w w' : World} {row : Option Nat} (h : ExQ Q a w) (hg : w.grownBy w' row) (hr : ∀ k, row = some k → a.heap.size ≤ k ∨ Q k) : ExQ Q a w' :=
  ⟨hg.os.trans h.os, hg.tape.trans h.tape, hg.output.trans h.output, Nat.le_trans h.size hg.size, fun k hk hn => (hg.block k (Nat.lt_of_lt_of_le hk h.size) (fun e => by rcases hr k e.symm with h1 | h1; omega; exact hn h1)).trans (h.block k hk hn)⟩
theorem ExQ.setNew {Q : Nat → Prop} {a w : World} (h : ExQ Q a w) {b : Nat} (hb : a.heap.size ≤ b) (i : Nat) (v : Value) : ExQ Q a (w.setCell ⟨b, i, none⟩ v) :=
  ⟨h.os, h.tape, h.output, by simpa [World.setCell] using h.size, fun k hk hn => (Below.heap_setCell _ _ _ _ (by simp; omega)).trans (h.block k hk hn)⟩
theorem ExQ.ofBelow {Q : Nat → Prop} {w w' : World} (h : Below w.heap.size w w') : ExQ Q w w' := ⟨h.os, h.tape, h.output, h.size, fun k hk _ => h.block k hk⟩
theorem ExQ.ofEx {Q : Nat → Prop} {B : Nat} {w w' : World} (h : Ex B w w') (hB : Q B) : ExQ Q w w' := ⟨h.os, h.tape, h.output, h.size, fun k hk hn => h.block k hk (fun e => hn (by rw [e]; exact hB))⟩
theorem ExQ.below {Q : Nat → Prop} {w w' : World} {B : Nat} (h : ExQ Q w w') (hB : B ≤ w.heap.size) (hQ : ∀ b, Q b → B ≤ b) : Below B w w' :=
  ⟨h.os, h.tape, h.output, h.size, fun k hk => h.block k (by omega) (fun hq => by have := hQ k hq; omega)⟩
theorem Blk.exq {w w' : World} {Q : Nat → Prop} {b T : Nat} {cs : Array Value} (h : Blk w b cs T) (he : ExQ Q w w') (hne : ¬ Q b) : Blk w' b cs T := by
  unfold Blk at *
  rw [he.block b (Blk.lt h) hne]; exact h
theorem Sl.exq {w w' : World} {Q X : Nat → Prop} {a : Option Addr} {l : List Tm} (h : Sl w X a l) (he : ExQ Q w w') (hX : ∀ b, X b → ¬ Q b) : Sl w' X a l :=
  ((h.mono (Y := fun b => X b ∧ b < w.heap.size) fun b h1 h2 => ⟨h1, h2⟩).kept fun b hb => he.block b hb.2 (hX b hb.1)).mono fun b hb _ => hb.1
theorem ExQ.mid {Q : Nat → Prop} {w w1 : World} (h : ExQ Q w w1) : ∃ wm, Below wm.heap.size wm w1 ∧ wm.heap.size = w.heap.size ∧ ExQ Q w wm := by
  have hs := h.size
  have hz : (w1.heap.extract 0 w.heap.size).size = w.heap.size := by simp; omega
  refine ⟨{ w1 with heap := w1.heap.extract 0 w.heap.size }, ⟨rfl, rfl, rfl, by simp; omega, fun k hk => ?_⟩, hz, ⟨h.os, h.tape, h.output, by simp [hz], fun k hk hn => ?_⟩⟩
  · have hk2 : k < w.heap.size := by simp at hk; omega
    simp [Array.getElem?_extract, hk2]
    omega
  · rw [← h.block k hk hn]
    simp [Array.getElem?_extract, hk]
    omega
theorem ownsRow_at {w w' : World} {base e size n : Nat} {v : Value} {xs : List Value} (h : w.ownsRow base e size v n xs) (hk : ∀ g, v.ownBlock = some g → w'.heap[g]? = w.heap[g]?) : w'.ownsRow base e size v n xs := by
  obtain ⟨hl, h1⟩ := h
  refine ⟨hl, ?_⟩
  rcases h1 with h1 | ⟨g, cap, cur, hv, hg, hh, hr⟩
  · exact Or.inl h1
  · refine Or.inr ⟨g, cap, cur, hv, hg, ?_, hr⟩
    rw [hk g (by rw [hv]; rfl)]
    exact hh
theorem Row.exq {w w' : World} {Q : Nat → Prop} {N T : Nat} {Y : Nat → Prop} {v : Value} {l : List Tm} {xs : List Value} (h : Row w N T Y v l xs) (he : ExQ Q w w') (hQ : ∀ b, Q b → b < N) (hY : ∀ b, Q b → ¬ Y b) : Row w' N T Y v l xs :=
  ⟨ownsRow_at h.own fun g hg => he.block g (h.own.lt g hg).2 (fun hq => by have := hQ g hq; have := (h.own.lt g hg).1; omega),
   h.row.imp fun a l hs => hs.exq he fun b hb hq => by
     rcases hb with h1 | h1
     · exact hY b hq h1
     · have := hQ b hq; omega⟩
theorem BRow.exq {w w' : World} {Q : Nat → Prop} {N : Nat} {Y : Nat → Prop} {v : Value} {cs : List Bc} (h : BRow w N Y v cs) (he : ExQ Q w w') (hQ : ∀ b, Q b → b < N) (hY : ∀ b, Q b → ¬ Y b) : BRow w' N Y v cs :=
  ⟨ownsRow_at h.own fun g hg => he.block g (h.own.lt g hg).2 (fun hq => by have := hQ g hq; have := (h.own.lt g hg).1; omega),
   fun x hx => (h.row x hx).exq he fun b hb hq => by
     rcases hb with h1 | h1
     · exact hY b hq h1
     · have := hQ b hq; omega⟩
#print axioms Row.exq
#print axioms BRow.exq
end Go.Proofs.Ythlgknglalcggac

/- Walks: the places of a term, as the document says. -/
namespace Go.Proofs.Ythlgknglalcggac
open Go.RowKit
set_option linter.unusedSimpArgs false
set_option linter.unusedVariables false

theorem owns_le {w : World} {b b' e z n : Nat} {v : Value} {xs : List Value} (h : w.ownsRow b e z v n xs) (hb : b' ≤ b) : w.ownsRow b' e z v n xs := by
  obtain ⟨h1, h2⟩ := h
  exact ⟨h1, h2.imp id fun ⟨g, cap, cur, h3, h4, h5⟩ => ⟨g, cap, cur, h3, Nat.le_trans hb h4, h5⟩⟩

/-- A row of lists that is added to, and what stays where it was. -/
def OutAt (w0 : World) (N : Nat) (q0 : Value) (ps : List (List Int)) (q : Value) (xs : List Value) (wr : World) : Prop :=
  wr.ownsRow N 34 1 q ps.length xs ∧ RowP wr (fun b => N ≤ b ∧ some b ≠ q.ownBlock) ps xs ∧ w0.grownBy wr q0.ownBlock ∧ (∀ k, q.ownBlock = some k → q0.ownBlock = some k ∨ w0.heap.size ≤ k)

theorem PV.grownBy {w w' : World} {Z : Nat → Prop} {u : Value} {z : List Int} {r : Option Nat} (h : PV w Z u z) (hg : w.grownBy w' r) (hZ : ∀ b, Z b → some b ≠ r) : PV w' Z u z := by
  have h1 : PV w (fun b => Z b ∧ b < w.heap.size) u z := h.mono fun b h1 h2 => ⟨h1, h2⟩
  have h2 : PV w' (fun b => Z b ∧ b < w.heap.size) u z := h1.kept fun b hx => hg.block b hx.2 (hZ b hx.1)
  exact h2.mono fun b hx _ => hx.1

theorem OutAt.push {w0 wr w1 : World} {N : Nat} {q0 q : Value} {ps : List (List Int)} {xs : List Value} (h : OutAt w0 N q0 ps q xs wr) (hN : N ≤ wr.heap.size) (hb : Below wr.heap.size wr w1) {u : Value} {z : List Int} (hu : PV w1 (fun b => wr.heap.size ≤ b) u z) (hn : ps.length ≤ 1000000) (A : Nat) (hA : w1.heap.size = A) :
    ∃ q' w3, (Builtin.append_ #[78, 78] 78 #[q, .slice (some ⟨A, 0, none⟩) 1 1]).run Try.prog (w1.alloc (.cells #[u] 34)) = .ok q' w3 ∧ OutAt w0 N q0 (ps ++ [z]) q' (xs ++ [u]) w3 := by
  subst hA
  obtain ⟨i0, hi, hz0, hz1, hz2⟩ := info_parts Try.infoInts
  obtain ⟨hown, hrow, hgr, hat⟩ := h
  have hlt := hown.lt
  have hs1 := hb.size
  have hown1 : w1.ownsRow N 34 1 q ps.length xs := hown.kept (w' := w1) (row := none) ⟨hb.os, hb.tape, hb.output, hb.size, fun j hj _ => hb.block j hj⟩ (by rcases Option.eq_none_or_eq_some (Value.ownBlock q) with h | ⟨x, h⟩; exact Or.inl h; exact Or.inr (by rw [h]; simp))
  obtain ⟨g, cap, w3, hr, ho, hg, hga, hgl⟩ := run_append_lies (P := Try.prog) (w := w1.alloc (.cells #[u] 34)) 78 78 N 34 i0 _ 1 24 Try.underlying78 hi hz0 hz1 hz2 rfl (by decide) q ps.length xs (hown1.alloc _)
    ⟨w1.heap.size, 0, none⟩ 1 1 [u] rfl (cell_one_new _ _ _) (fun x hx => by simp at hx; subst hx; exact hu.one) (by decide) (by unfold maxLen; omega) (by omega) (by simp; omega) _ rfl
  have hgN : N ≤ g := by
    rcases hga with e | e
    · exact (hlt g e).1
    · simp at e; omega
  refine ⟨_, w3, hr, by simpa using ho, ?_, ?_, fun k hk => ?_⟩
  · refine RowP.append (hrow.imp fun u' z' hp => ?_) ?_
    · have h1 : PV wr (fun b => (N ≤ b ∧ some b ≠ q.ownBlock) ∧ b < wr.heap.size) u' z' := hp.mono fun b h1 h2 => ⟨h1, h2⟩
      have h2 : PV w3 (fun b => (N ≤ b ∧ some b ≠ q.ownBlock) ∧ b < wr.heap.size) u' z' := h1.kept fun b hx => by
        rw [hg.block b (by simp; omega) hx.1.2, Below.heap_alloc _ _ _ (by omega), hb.block b hx.2]
      refine h2.mono fun b hx _ => ⟨hx.1.1, fun e => ?_⟩
      simp [Value.ownBlock] at e
      rcases hga with e' | e'
      · exact hx.1.2 (by rw [e', e])
      · simp at e'; omega
    · refine ⟨u, [], rfl, ?_, rfl⟩
      have h1 : PV w1 (fun b => wr.heap.size ≤ b ∧ b < w1.heap.size) u z := hu.mono fun b h1 h2 => ⟨h1, h2⟩
      have h2 : PV w3 (fun b => wr.heap.size ≤ b ∧ b < w1.heap.size) u z := h1.kept fun b hx => by
        rw [hg.block b (by simp; omega) (fun e => by have := (hlt b e.symm).2; omega), Below.heap_alloc _ _ _ hx.2]
      refine h2.mono fun b hx _ => ⟨by omega, fun e => ?_⟩
      simp [Value.ownBlock] at e
      rcases hga with e' | e'
      · have := (hlt g e').2; omega
      · simp at e'; omega
  · exact grown_trans (grown_trans hgr (grown_of_below hb q.ownBlock) hat) (grown_trans (grown_of_below ((Below.refl _ _).alloc (Nat.le_refl _) (.cells #[u] 34)) q.ownBlock) hg (fun k hk => Or.inl hk)) hat
  · simp [Value.ownBlock] at hk
    subst hk
    rcases hga with e | e
    · exact hat _ e
    · right; simp at e; have := hgr.size; omega

/-- A number ahead of a list. -/
theorem ints_cons {W : World} {Z : Nat → Prop} {u : Value} {z : List Int} (h : PV W Z u z) (i : Int) (F : Nat) (hF : W.heap[F]? = some (.cells #[.int .i64 i] 3 (0, 0))) (hn : z.length ≤ 1000000) :
    ∃ q w2, (Builtin.append_ #[34, 34] 34 #[.slice (some ⟨F, 0, none⟩) 1 1, u]).run Try.prog W = .ok q w2 ∧ PV w2 (fun b => b = F ∨ W.heap.size ≤ b) q (i :: z) ∧ Below W.heap.size W w2 := by
  obtain ⟨i0, hi, hz0, hz1, hz2⟩ := info_parts Try.infoInt
  have hsrc := pv_src h
  rw [← hz1] at hsrc
  have hFl : F < W.heap.size := by
    apply Classical.byContradiction
    intro hn
    rw [Array.getElem?_eq_none (by omega)] at hF; cases hF
  have hFc : W.cell? ⟨F, 0, none⟩ = some (.int .i64 i) := by simp [World.cell?, hF]
  by_cases h0 : z = []
  · subst h0
    have hg := run_append_room_src (P := Try.prog) W 34 34 34 3 i0 Try.underlying34 hi F 0 1 1 u 0 [] hsrc (by omega) (by simp) (by simp)
    refine ⟨_, _, hg, ⟨_, _, rfl, by simp, Or.inr ⟨F, 0, rfl, Or.inl rfl, fun j hj => ?_⟩⟩, ?_⟩
    · simp at hj; subst hj; simpa [World.setCells] using hFc
    · simpa [World.setCells] using Below.refl W.heap.size W
  · have hzp := List.length_pos_iff.2 h0
    have hfc := run_firstCells_some (P := Try.prog) W.drew i0.size 1 ⟨F, 0, none⟩ 1 1 [.int .i64 i] (by rw [hz1]; rfl) (fun j v hj => by
      match j, hj with
      | 0, hj => simp at hj; subst hj; simpa [Addr.add] using hFc)
    have hg := run_append_grow_src (P := Try.prog) W 34 34 34 3 i0 (.int .i64 0) Try.underlying34 hi hz0 (some ⟨F, 0, none⟩) 1 1 [.int .i64 i] hfc u z.length _ hsrc (by omega) (by omega) (by rw [hz2]; exact growslice_fits (by omega) (by omega))
    have hge := grownCap_ge W (1 + z.length) 1 3
    have hcm := grownCap_le_maxLen W (1 + z.length) 1 3 (by unfold maxLen; omega)
    refine ⟨_, _, hg, ⟨some ⟨W.heap.size, 0, none⟩, grownCap W (1 + z.length) 1 3, by rw [List.length_cons, Nat.add_comm], ⟨by simp; omega, by simp; omega⟩, Or.inr ⟨W.heap.size, 0, rfl, Or.inr (Nat.le_refl _), fun j hj => ?_⟩⟩, ?_⟩
    · have hb := heap_alloc_new W.drew (.cells (([Value.int .i64 i] ++ z.map fun x => Value.int .i64 x).toArray ++ Builtin.zeroCells (Value.int .i64 0).cells (grownCap W (1 + z.length) 1 3 - (1 + z.length))) 3)
      have hb' : (W.drew.alloc (.cells (([Value.int .i64 i] ++ z.map fun x => Value.int .i64 x).toArray ++ Builtin.zeroCells (Value.int .i64 0).cells (grownCap W (1 + z.length) 1 3 - (1 + z.length))) 3)).heap[W.heap.size]? = _ := hb
      rw [Lib.cell_of_heap hb', Nat.zero_add, Array.getElem?_append_left (by simp at hj ⊢; omega)]
      simp at hj
      cases j with
      | zero => simp
      | succ j => simp
    · exact ((Below.refl W.heap.size W).drew).alloc (Nat.le_refl _) _

/-- How the rounds of one list go. -/
def InInv (w1 : World) (N : Nat) (q1 : Value) (ps : List (List Int)) (i : Nat) (ls : List (List Int)) (q j : Value) (wr : World) : Prop :=
  ∃ (k : Nat) (xs : List Value), k ≤ ls.length ∧ j = .int .i64 k ∧ OutAt w1 N q1 (ps ++ (ls.take k).map fun p => (i : Int) :: p) q xs wr

/-- How the rounds of the terms below go. -/
def OuInv (w0 : World) (N : Nat) (l : List Tm) (q i : Value) (wr : World) : Prop :=
  ∃ (k : Nat) (xs : List Value), k ≤ l.length ∧ i = .int .i64 k ∧ OutAt w0 N (.slice none 0 0) ([] :: plcL 0 (l.take k)) q xs wr

theorem OutAt.mono {w0 w1 wr : World} {N : Nat} {q0 q1 q : Value} {ps ps1 : List (List Int)} {xs xs1 : List Value} (h : OutAt w0 N q0 ps1 q1 xs1 w1) (h1 : OutAt w1 N q1 ps q xs wr) : OutAt w0 N q0 ps q xs wr := by
  refine ⟨h1.1, h1.2.1, grown_trans h.2.2.1 h1.2.2.1 h.2.2.2, fun k hk => ?_⟩
  rcases h1.2.2.2 k hk with e | e
  · exact h.2.2.2 k e
  · exact Or.inr (Nat.le_trans h.2.2.1.size e)

theorem OutAt.later {w0 w1 w2 : World} {N : Nat} {q0 q : Value} {ps : List (List Int)} {xs : List Value} (h : OutAt w0 N q0 ps q xs w1) (hb : Below w1.heap.size w1 w2) : OutAt w0 N q0 ps q xs w2 :=
  ⟨h.1.kept (w' := w2) (row := none) ⟨hb.os, hb.tape, hb.output, hb.size, fun j hj _ => hb.block j hj⟩ (by rcases Option.eq_none_or_eq_some (Value.ownBlock q) with h | ⟨x, h⟩; exact Or.inl h; exact Or.inr (by rw [h]; simp)),
   h.2.1.imp fun u z hp => hp.later hb, grown_trans h.2.2.1 (grown_of_below hb q.ownBlock) h.2.2.2, h.2.2.2⟩

theorem OutAt.here {w1 : World} {N : Nat} {q0 q : Value} {ps : List (List Int)} {xs : List Value} {w0 : World} (h : OutAt w0 N q0 ps q xs w1) : OutAt w1 N q ps q xs w1 := ⟨h.1, h.2.1, grown_of_below (Below.refl _ _) _, fun _ h => Or.inl h⟩

set_option maxRecDepth 8000 in
set_option maxHeartbeats 2000000 in
theorem placesOf_any (t : Tm) : ∀ (v : Value) (w : World) (X : Nat → Prop), TV w X v t → sizeL [t] ≤ 900000 →
    Calls Try.prog 53 #[v] w fun e w' => ∃ v' xs, e = .returned v' ∧ w'.ownsRow w.heap.size 34 1 v' (plcT t).length xs ∧ RowP w' (fun b => w.heap.size ≤ b ∧ some b ≠ v'.ownBlock) (plcT t) xs ∧ Below w.heap.size w w' := by
  induction t using Tm.ind with
  | h s l ih =>
    intro v w X0 hv0 hsm
    obtain ⟨X, hX, hv⟩ : ∃ X : Nat → Prop, (∀ b, X b → b < w.heap.size) ∧ TV w X v ⟨s, l⟩ := ⟨fun b => X0 b ∧ b < w.heap.size, fun _ h => h.2, hv0.mono fun b h1 h2 => ⟨h1, h2⟩⟩
    clear hv0
    obtain ⟨a, c, rfl, hs⟩ := hv
    have IH := hide ih
    clear ih
    have hl := hs.1
    have hz : sizeL [(⟨s, l⟩ : Tm)] = 1 + sizeL l := by simp [sizeL]
    rw [hz] at hsm
    clear hz
    go_enter Try.func53, Try.ntmps53
    go_wp2_with fail
    go_loopw [3, 4] (fun q i wr => OuInv (w.alloc (Obj.cells #[Value.string s, Value.slice a l.length c] 25)) (w.heap.size + 1) l q i wr) (fun q i wr => l.length - (intOf i).toNat)
    case atStart =>
      refine ⟨0, [.slice none 0 0], Nat.zero_le _, rfl, ⟨by simp [plcL], Or.inr ⟨w.heap.size + 1, 1, #[.slice none 0 0], by simp [plcL], Nat.le_refl _, ?_, by simp [plcL], by decide, by simp, by simp [plcL]⟩⟩, ⟨_, [], rfl, ⟨none, 0, rfl, by simp, Or.inl rfl⟩, by simp [plcL, RowP]⟩, grown_of_below ((Below.refl _ _).alloc (Nat.le_refl _) _) _, fun k hk => ?_⟩
      · have := heap_alloc_new (w.alloc (Obj.cells #[Value.string s, Value.slice a l.length c] 25)) (Obj.cells #[Value.slice none 0 0] 34)
        simpa using this
      · simp [Value.ownBlock] at hk; right; simp; omega
    case round =>
      obtain ⟨k, xs, hk, rfl, hout⟩ := hrel
      have HOUT := hide hout
      have K0 := hide ((Blk.new w #[.string s, .slice a l.length c] 25).grown hout.2.2.1 (by simp [Value.ownBlock]))
      have c1 : wr.cell? ⟨w.heap.size, 1, none⟩ = some (.slice a l.length c) := K0.out.cell 1
      have hszr : w.heap.size + 1 ≤ wr.heap.size := by have := hout.2.2.1.size; simpa using this
      have hbw : Below w.heap.size w wr := ((Below.refl w.heap.size w).alloc (Nat.le_refl _) (.cells #[.string s, .slice a l.length c] 25)).trans ⟨hout.2.2.1.os, hout.2.2.1.tape, hout.2.2.1.output, hout.2.2.1.size, fun j hj => hout.2.2.1.block j (by simp; omega) (by simp [Value.ownBlock])⟩
      have HBW := hide hbw
      clear hout
      by_cases hlt : k < l.length
      · obtain ⟨b, o, a', c', rfl, d0, d1, hx⟩ := hs.get hbw (fun _ _ h => h) k hlt
        have hst := sizeL_take l k hlt
        have hst2 := sizeL_take_le l (k + 1)
        have HT := hide (plcL_take l k hlt)
        have HX := hide hx
        have hszk : sizeL [l[k]] ≤ 900000 := by omega
        have hpl : (([] : List Int) :: plcL 0 (l.take k)).length + sizeL [l[k]] ≤ 1000000 := by simp [plcL_len]; omega
        clear hbw hx hst hst2
        go_wp2_with fail
        refine (IH.out _ (List.getElem_mem hlt) _ _ X (by exact HX.out) hszk).mono ?_
        rintro e w1 ⟨v1, ys, rfl, hown1, hrow1, hb1⟩
        have hlp : 0 < (plcT l[k]).length := by simp [plcT]
        obtain ⟨g1, cap1, rfl, hg1, hg1', hcel⟩ := owned_val hown1 hlp
        have hpd : ∀ p ∈ plcT l[k], p.length ≤ 1000000 := fun p hp => by
          unfold plcT at hp
          rcases List.mem_cons.1 hp with rfl | hp
          · simp
          · have h1 := plc_deep _ _ p hp
            generalize l[k] = tk at *
            obtain ⟨s', l'⟩ := tk
            have : sizeL [(⟨s', l'⟩ : Tm)] = 1 + sizeL l' := by simp [sizeL]
            simp only at h1
            omega
        have HPD := hide hpd
        have HROW1 := hide hrow1
        have HCEL := hide hcel
        have HB1 := hide hb1
        have HOUT1 := hide (HOUT.out.later hb1)
        have hls := plcT_len l[k]
        have HN1 : Hid (w.heap.size + 1 ≤ w1.heap.size) := Nat.le_trans hszr hb1.size
        have HGN : Hid (∀ b, wr.heap.size ≤ b → some b ≠ Value.ownBlock u3) := fun b hb e => by have := (HOUT.out.1.lt b e.symm).2; omega
        generalize hlse : plcT l[k] = ls at *
        have hpl' : (([] : List Int) :: plcL 0 (l.take k)).length + ls.length ≤ 1000000 := by omega
        generalize hn0 : wr.heap.size = n0 at *
        clear hown1 hrow1 hcel hb1 hlse hpd hls
        go_wp2_with fail
        go_loopw [3, 6] (fun q j wr2 => InInv w1 (w.heap.size + 1) u3 ([] :: plcL 0 (l.take k)) k ls q j wr2) (fun q j wr2 => ls.length - (intOf j).toNat)
        case atStart => exact ⟨0, _, Nat.zero_le _, rfl, by simpa using HOUT1.out.here⟩
        case round =>
          obtain ⟨m, xs2, hm, rfl, hout2⟩ := hrel
          have HO2 := hide hout2
          have hsz2 := hout2.2.2.1.size
          clear hout2
          by_cases hlm : m < ls.length
          · obtain ⟨u, hu1, hu2⟩ := HROW1.out.get m hlm
            have e1 : ∀ o, (wr.alloc o).cell? ⟨g1, m, none⟩ = some u := fun o => by
              have h1 := HCEL.out m u hu1
              have h2 := HO2.out.2.2.1.block g1 hg1' (HGN.out g1 hg1)
              have h3 : (wr.alloc o).heap[g1]? = w1.heap[g1]? := by rw [Below.heap_alloc _ _ _ (by omega), h2]
              simpa [World.cell?, h3] using h1
            have hu3 := PV.grownBy hu2 HO2.out.2.2.1 (fun b hb => HGN.out b hb.1)
            obtain ⟨q2, w2, hr2, hq2, hbl2⟩ := ints_cons (hu3.later ((Below.refl _ _).alloc (Nat.le_refl _) (.cells #[.int .i64 (k : Int)] 3))) (k : Int) wr.heap.size (by simpa using heap_alloc_new wr (.cells #[.int .i64 (k : Int)] 3)) (HPD.out _ (List.getElem_mem hlm))
            obtain ⟨aq, cq, rfl, -⟩ : ∃ aq cq, q2 = .slice aq (ls[m].length + 1) cq ∧ True := by obtain ⟨aq, cq, h, _⟩ := hq2; exact ⟨aq, cq, by simpa using h, trivial⟩
            have hbl3 : Below wr.heap.size wr w2 := ((Below.refl _ _).alloc (Nat.le_refl _) _).trans (hbl2.mono (by simp))
            have hnn : ((([] : List Int) :: plcL 0 (l.take k)) ++ (ls.take m).map fun p => (k : Int) :: p).length ≤ 1000000 := by
              rw [List.length_append, List.length_map, List.length_take]; omega
            obtain ⟨q3, w3, hr3, ho3⟩ := OutAt.push HO2.out (Nat.le_trans HN1.out hsz2) hbl3 (hq2.mono fun b hb _ => by simp at hb; omega) hnn w2.heap.size rfl
            have HR2 := hide hr2
            have HR3 := hide hr3
            have HO3 := hide ho3
            have HTM : Hid ((ls.take (m + 1)).map (fun p => (k : Int) :: p) = (ls.take m).map (fun p => (k : Int) :: p) ++ [(k : Int) :: ls[m]]) := by
              unfold Hid; rw [List.take_succ_eq_append_getElem hlm, List.map_append]; rfl
            clear hu2 hu1 hu3 hr2 hr3 ho3 hq2 hbl2 hbl3 hnn
            go_wp2_with first
              | (at_builtin; refine wpList_append_eq rfl _ _ _ _ rfl rfl rfl HR2.out ?_)
              | (at_builtin; refine wpList_append_eq rfl _ _ _ _ rfl rfl rfl HR3.out ?_)
            go_roundw
            case rel => exact ⟨m + 1, _, by omega, by go_num, by rw [HTM.out, ← List.append_assoc]; exact HO3.out⟩
            case measure => simp [intOf]; omega
          · have htk : ls.take m = ls := List.take_of_length_le (by omega)
            have h1 := HO2.out
            rw [htk, List.cons_append, ← HT.out] at h1
            have HF := hide (HOUT1.out.mono h1)
            clear h1
            go_wp2_with fail
            go_roundw
            case rel => exact ⟨k + 1, _, by omega, by go_num, HF.out⟩
            case measure => simp [intOf]; omega
      · have htk : l.take k = l := List.take_of_length_le (by omega)
        have ho := HOUT.out
        rw [htk] at ho
        have HF := hide ho
        clear ho
        go_wp2_with fail
        go_ret
        exact ⟨_, _, rfl, owns_le HF.out.1 (by omega), HF.out.2.1.imp fun u z hp => hp.mono fun b hb _ => ⟨by omega, hb.2⟩, HBW.out⟩
#print axioms OutAt.push
#print axioms ints_cons
#print axioms placesOf_any
end Go.Proofs.Ythlgknglalcggac


/- Rows of places that are gathered along a path. -/
namespace Go.Proofs.Ythlgknglalcggac
open Go.RowKit
set_option linter.unusedSimpArgs false
set_option linter.unusedVariables false

/-- An append whose outcome is known, at a step of a region that draws its order. -/
theorem step_append_eq {P : Program} {ops : Array Oper} {o : Oper} {a : Act} {K : Act → World → Prop} {Q : Exit → Act → World → Prop} {E : Prop} {w w' : World} {v u v' : Value} (hgd : o.guard = none) (s x : Operand) (t t' : TypeId)
    (ho : o.op = .call { callee := .builtin .append, args := #[s, x], argTypes := #[t, t'] }) (hs : a.eval s = v) (hx : a.eval x = u)
    (hr : (Builtin.append_ #[t, t'] o.type #[v, u]).run P w = .ok v' w') (h : K (a.put o.dst v') w') : if Region.wanted o (yielded ops a.tmps) = true then Oper.wp P o a w K Q else E := by
  have hw : Region.wanted o (yielded ops a.tmps) = true := by simp [Region.wanted, hgd]
  rw [if_pos hw]
  unfold Oper.wp execOp
  simp only [ho, resolve, invoke, builtin, Sem.run_bind, Sem.run_pure, Result.andThen_ok, List.map_toArray, List.map_cons, List.map_nil, hs, hx, hr]
  exact h

/-- Rows of two types lie in two blocks. -/
theorem own_far {w : World} {N N' T T' n m : Nat} {q u : Value} {xs ys : List Value} (h : w.ownsRow N T 1 q n xs) (h' : w.ownsRow N' T' 1 u m ys) (hT : T ≠ T') (k : Nat) (hk : q.ownBlock = some k) : u.ownBlock ≠ some k := by
  intro e
  obtain ⟨_, h⟩ := h
  obtain ⟨_, h'⟩ := h'
  rcases h with ⟨rfl, _⟩ | ⟨g, cap, cur, rfl, _, hg, _⟩
  · simp [Value.ownBlock] at hk
  · rcases h' with ⟨rfl, _⟩ | ⟨g', cap', cur', rfl, _, hg', _⟩
    · simp [Value.ownBlock] at e
    · simp [Value.ownBlock] at hk e
      subst hk; subst e
      rw [hg] at hg'; simp at hg'; exact hT hg'.2

/-- How a path and the path that is one step longer lie. -/
def Ext (W W' : World) (u u' : Value) (n : Nat) : Prop :=
  (∃ g cap, u = .slice (some ⟨g, 0, none⟩) n cap ∧ u' = .slice (some ⟨g, 0, none⟩) (n + 1) cap) ∨ ((∀ k, u'.ownBlock = some k → W.heap.size ≤ k) ∧ Below W.heap.size W W')

theorem here_step {W : World} {N : Nat} {u : Value} {hs : List Int} (h : W.ownsRow N 3 1 u hs.length (hs.map fun z => .int .i64 z)) (hN : N ≤ W.heap.size) (i : Int) (F : Nat) (hF : W.heap[F]? = some (.cells #[.int .i64 i] 3 (0, 0))) (hn : hs.length ≤ 1000000) :
    ∃ u' W', (Builtin.append_ #[34, 34] 34 #[u, .slice (some ⟨F, 0, none⟩) 1 1]).run Try.prog W = .ok u' W' ∧ W'.ownsRow N 3 1 u' (hs ++ [i]).length ((hs ++ [i]).map fun z => .int .i64 z) ∧ W.grownBy W' u.ownBlock ∧ Ext W W' u u' hs.length := by
  obtain ⟨i0, hi, hz0, hz1, hz2⟩ := info_parts Try.infoInt
  have hFc : W.cell? ⟨F, 0, none⟩ = some (.int .i64 i) := by simp [World.cell?, hF]
  have hsrc : Src Try.prog i0.size 34 (.slice (some ⟨F, 0, none⟩) 1 1) 1 [.int .i64 i] W := by
    rw [hz1]
    refine Src.ofSlice W Try.underlying34 ⟨F, 0, none⟩ 1 1 _ (by simp) (fun j v hj => ?_) (by intro v hv; simp at hv; subst hv; rfl)
    match j, hj with
    | 0, hj => simp at hj; subst hj; simpa [Addr.add] using hFc
  have h' := h
  obtain ⟨hl, h1⟩ := h
  have grow : ∀ (base : Option Addr) (cap : Nat), u = .slice base hs.length cap → (Builtin.firstCells i0.size hs.length (.slice base hs.length cap)).run Try.prog W.drew = .ok (hs.map fun z => Value.int .i64 z).toArray W.drew → cap < hs.length + 1 → cap ≤ 1000000 → 
      ∃ u' W', (Builtin.append_ #[34, 34] 34 #[u, .slice (some ⟨F, 0, none⟩) 1 1]).run Try.prog W = .ok u' W' ∧ W'.ownsRow N 3 1 u' (hs ++ [i]).length ((hs ++ [i]).map fun z => .int .i64 z) ∧ W.grownBy W' u.ownBlock ∧ Ext W W' u u' hs.length := by
    intro base cap hu hfc hcap hcm
    subst hu
    have hg := run_append_grow_src (P := Try.prog) W 34 34 34 3 i0 (.int .i64 0) Try.underlying34 hi hz0 base hs.length cap _ hfc _ 1 _ hsrc (by omega) (by omega) (by rw [hz2]; exact growslice_fits (by omega) (by omega))
    have hge := grownCap_ge W (hs.length + 1) cap 3
    have hcm := grownCap_le_maxLen W (hs.length + 1) cap 3 (by unfold maxLen; omega)
    have hbl : Below W.heap.size W (W.drew.alloc (.cells (((hs.map fun z => Value.int .i64 z) ++ [Value.int .i64 i]).toArray ++ Builtin.zeroCells (Value.int .i64 0).cells (grownCap W (hs.length + 1) cap 3 - (hs.length + 1))) 3)) := ((Below.refl W.heap.size W).drew).alloc (Nat.le_refl _) _
    refine ⟨_, _, hg, ⟨by simp, Or.inr ⟨W.heap.size, _, _, by simp, hN, heap_alloc_new W.drew _, by simp; omega, hcm, ?_, ?_⟩⟩, grown_of_below hbl _, Or.inr ⟨fun k hk => ?_, hbl⟩⟩
    · simp [Builtin.zeroCells, Value.cells]; omega
    · rw [Array.toList_append, List.take_append_of_le_length (by simp), List.take_of_length_le (by simp)]; simp
    · simp [Value.ownBlock] at hk; omega
  rcases h1 with ⟨hu, h0⟩ | ⟨g, cap, cur, hu, hgN, hgb, hnc, hcm, hcs, htk⟩
  · have e : hs = [] := List.length_eq_zero_iff.1 h0
    subst e
    exact grow none 0 hu (by simp [Builtin.firstCells, go_sem]) (by simp) (by omega)
  · by_cases hroom : hs.length + 1 ≤ cap
    · subst hu
      simp only [Nat.mul_one] at hcs htk
      have hgl : g < W.heap.size := (h'.lt g rfl).2
      have hnz : hs.length < cur.size := by omega
      have hg := run_append_room_src (P := Try.prog) W 34 34 34 3 i0 Try.underlying34 hi g 0 hs.length cap _ 1 _ hsrc hroom (fun j hj => by simp at hj; subst hj; rw [hz1]; simp [World.cell?, hgb, hnz]) (fun j hj => by simp at hj; subst hj; rw [hz1]; simp [World.frozen?, hgb])
      rw [hz1] at hg
      simp only [World.setCells, Nat.zero_add, Nat.mul_one] at hg
      refine ⟨_, _, hg, ⟨by simp, Or.inr ⟨g, cap, cur.setIfInBounds hs.length (.int .i64 i), by simp, hgN, ?_, by simpa using hroom, hcm, by simp [hcs], ?_⟩⟩, ⟨rfl, rfl, rfl, by simp [World.setCell], fun k hk hkb => Below.heap_setCell _ _ _ _ (by simp [Value.ownBlock] at hkb; simpa using hkb)⟩, Or.inl ⟨g, cap, rfl, rfl⟩⟩
      · simp [World.setCell, Array.getElem?_modify, hgb]
      · simp only [Array.toList_setIfInBounds, List.length_append, List.length_singleton, Nat.mul_one, List.map_append, List.map_cons, List.map_nil]
        rw [List.take_succ_eq_append_getElem (by simpa using hnz), List.take_set_of_le (by omega), htk]
        simp
    · exact grow (some ⟨g, 0, none⟩) cap hu (by
        have hc := h'.cells (g := g) (by rw [hu]; rfl)
        exact run_firstCells_some (P := Try.prog) W.drew i0.size hs.length ⟨g, 0, none⟩ hs.length cap _ (by rw [hz1]; simp) (fun j v hj => hc j v hj)) (by omega) (by omega)

/-- All but two rows and one block are as they were. -/
def Fr2 (A : Nat) (w w' : World) (q u : Value) : Prop :=
  w'.os = w.os ∧ w'.tape = w.tape ∧ w'.output = w.output ∧ w.heap.size ≤ w'.heap.size ∧ ∀ b, b < w.heap.size → b ≠ A → some b ≠ q.ownBlock → some b ≠ u.ownBlock → w'.heap[b]? = w.heap[b]?

theorem Fr2.of_below {A : Nat} {w w' : World} (hb : Below w.heap.size w w') (q u : Value) : Fr2 A w w' q u := ⟨hb.os, hb.tape, hb.output, hb.size, fun k hk _ _ _ => hb.block k hk⟩
theorem Fr2.of_grown {A : Nat} {w w' : World} {q : Value} (hb : w.grownBy w' q.ownBlock) (u : Value) : Fr2 A w w' q u := ⟨hb.os, hb.tape, hb.output, hb.size, fun k hk _ h _ => hb.block k hk h⟩
theorem Fr2.of_grown' {A : Nat} {w w' : World} {u : Value} (hb : w.grownBy w' u.ownBlock) (q : Value) : Fr2 A w w' q u := ⟨hb.os, hb.tape, hb.output, hb.size, fun k hk _ _ h => hb.block k hk h⟩
theorem Fr2.trans {A : Nat} {w w1 w2 : World} {q q1 u u1 : Value} (h : Fr2 A w w1 q u) (h1 : Fr2 A w1 w2 q1 u1) (hq : ∀ k, q1.ownBlock = some k → q.ownBlock = some k ∨ w.heap.size ≤ k) (hu : ∀ k, u1.ownBlock = some k → u.ownBlock = some k ∨ w.heap.size ≤ k) : Fr2 A w w2 q u :=
  ⟨h1.1.trans h.1, h1.2.1.trans h.2.1, h1.2.2.1.trans h.2.2.1, Nat.le_trans h.2.2.2.1 h1.2.2.2.1, fun b hb hbA hbq hbu => (h1.2.2.2.2 b (Nat.lt_of_lt_of_le hb h.2.2.2.1) hbA
    (fun e => by rcases hq b e.symm with h2 | h2; exact hbq h2.symm; omega) (fun e => by rcases hu b e.symm with h2 | h2; exact hbu h2.symm; omega)).trans (h.2.2.2.2 b hb hbA hbq hbu)⟩

theorem Fr2.own {A : Nat} {w w' : World} {q u v : Value} {N T n : Nat} {xs : List Value} (hAN : A < N) (h : Fr2 A w w' q u) (hv : w.ownsRow N T 1 v n xs) (hq : ∀ k, v.ownBlock = some k → q.ownBlock ≠ some k) (hu : ∀ k, v.ownBlock = some k → u.ownBlock ≠ some k) : w'.ownsRow N T 1 v n xs := by
  have hlt := hv.lt
  obtain ⟨h1, h2⟩ := hv
  refine ⟨h1, h2.imp id ?_⟩
  rintro ⟨g, cap, cur, rfl, hg, hh, hr⟩
  exact ⟨g, cap, cur, rfl, hg, by rw [h.2.2.2.2 g (hlt g rfl).2 (by have := (hlt g rfl).1; omega) (fun e => hq g rfl e.symm) (fun e => hu g rfl e.symm)]; exact hh, hr⟩

theorem PV.fr2 {A : Nat} {w w' : World} {Z : Nat → Prop} {x : Value} {z : List Int} {q u : Value} (h : PV w Z x z) (hg : Fr2 A w w' q u) (hA : ∀ b, Z b → b ≠ A) (hq : ∀ b, Z b → some b ≠ q.ownBlock) (hu : ∀ b, Z b → some b ≠ u.ownBlock) : PV w' (fun b => Z b ∧ b < w.heap.size) x z := by
  have h1 : PV w (fun b => Z b ∧ b < w.heap.size) x z := h.mono fun b h1 h2 => ⟨h1, h2⟩
  exact h1.kept fun b hx => hg.2.2.2.2 b hx.2 (hA b hx.1) (hq b hx.1) (hu b hx.1)

/-- Places that are gathered, and the path that stays. -/
def PlAt (A : Nat) (w0 : World) (N : Nat) (q0 u : Value) (hs : List Int) (Y : Nat → Prop) (ps : List (List Int)) (q : Value) (xs : List Value) (wr : World) : Prop :=
  wr.ownsRow N 34 1 q ps.length xs ∧ wr.ownsRow N 3 1 u hs.length (hs.map fun z => .int .i64 z) ∧ RowP wr (fun b => N ≤ b ∧ some b ≠ q.ownBlock ∧ some b ≠ u.ownBlock ∧ ¬ Y b) ps xs ∧ Fr2 A w0 wr q0 u ∧ (∀ k, q.ownBlock = some k → q0.ownBlock = some k ∨ w0.heap.size ≤ k)

theorem pl_ne : (34 : Nat) ≠ 3 := by decide

theorem PlAt.far {A : Nat} {w0 wr : World} {N : Nat} {q0 q u : Value} {hs : List Int} {Y : Nat → Prop} {ps : List (List Int)} {xs : List Value} (h : PlAt A w0 N q0 u hs Y ps q xs wr) (k : Nat) (hk : q.ownBlock = some k) : u.ownBlock ≠ some k := own_far h.1 h.2.1 pl_ne k hk
theorem PlAt.far' {A : Nat} {w0 wr : World} {N : Nat} {q0 q u : Value} {hs : List Int} {Y : Nat → Prop} {ps : List (List Int)} {xs : List Value} (h : PlAt A w0 N q0 u hs Y ps q xs wr) (k : Nat) (hk : u.ownBlock = some k) : q.ownBlock ≠ some k := own_far h.2.1 h.1 (Ne.symm pl_ne) k hk

theorem PlAt.later {A : Nat} {w0 w1 w2 : World} {N : Nat} {q0 q u : Value} {hs : List Int} {Y : Nat → Prop} {ps : List (List Int)} {xs : List Value} (hAN : A < N) (h : PlAt A w0 N q0 u hs Y ps q xs w1) (hb : Below w1.heap.size w1 w2) : PlAt A w0 N q0 u hs Y ps q xs w2 := by
  refine ⟨Fr2.own hAN (Fr2.of_below (A := A) hb (.slice none 0 0) (.slice none 0 0)) h.1 (by simp [Value.ownBlock]) (by simp [Value.ownBlock]), Fr2.own hAN (Fr2.of_below (A := A) hb (.slice none 0 0) (.slice none 0 0)) h.2.1 (by simp [Value.ownBlock]) (by simp [Value.ownBlock]), h.2.2.1.imp fun u z hp => hp.later hb, h.2.2.2.1.trans (Fr2.of_below hb q u) h.2.2.2.2 (fun k h => Or.inl h), h.2.2.2.2⟩

theorem PlAt.here {A : Nat} {w0 w1 : World} {N : Nat} {q0 q u : Value} {hs : List Int} {Y : Nat → Prop} {ps : List (List Int)} {xs : List Value} (h : PlAt A w0 N q0 u hs Y ps q xs w1) : PlAt A w1 N q u hs Y ps q xs w1 := ⟨h.1, h.2.1, h.2.2.1, Fr2.of_below (Below.refl _ _) _ _, fun _ h => Or.inl h⟩

theorem PlAt.push {A : Nat} {w0 wr w1 : World} {N : Nat} {q0 q u : Value} {hs : List Int} {Y : Nat → Prop} {ps : List (List Int)} {xs : List Value} (hAN : A < N) (h : PlAt A w0 N q0 u hs Y ps q xs wr) (hN : N ≤ wr.heap.size) (hY : ∀ b, Y b → b < wr.heap.size) (hb : Below wr.heap.size wr w1) {x : Value} {z : List Int} (hx : PV w1 (fun b => wr.heap.size ≤ b) x z) (hn : ps.length ≤ 1000000) (B0 : Nat) (hA : w1.heap.size = B0) :
    ∃ q' w3, (Builtin.append_ #[78, 78] 78 #[q, .slice (some ⟨B0, 0, none⟩) 1 1]).run Try.prog (w1.alloc (.cells #[x] 34)) = .ok q' w3 ∧ PlAt A w0 N q0 u hs Y (ps ++ [z]) q' (xs ++ [x]) w3 ∧ (w1.alloc (.cells #[x] 34)).grownBy w3 q.ownBlock := by
  subst hA
  obtain ⟨i0, hi, hz0, hz1, hz2⟩ := info_parts Try.infoInts
  have hb2 : Below wr.heap.size wr (w1.alloc (.cells #[x] 34)) := hb.alloc hb.size _
  have h2 := PlAt.later hAN h hb2
  have hfar := h2.far
  have hfar' := h2.far'
  have hs1 := hb.size
  have hltq := h.1.lt
  have hltu := h.2.1.lt
  obtain ⟨g, cap, w3, hr, ho, hg, hga, hgl⟩ := run_append_lies (P := Try.prog) (w := w1.alloc (.cells #[x] 34)) 78 78 N 34 i0 _ 1 24 Try.underlying78 hi hz0 hz1 hz2 rfl (by decide) q ps.length xs h2.1
    ⟨w1.heap.size, 0, none⟩ 1 1 [x] rfl (cell_one_new _ _ _) (fun y hy => by simp at hy; subst hy; exact hx.one) (by decide) (by unfold maxLen; omega) (by omega) (by simp; omega) _ rfl
  have hgu : ∀ b, some b = Value.ownBlock (.slice (some ⟨g, 0, none⟩) (ps.length + 1) cap) → q.ownBlock = some b ∨ w1.heap.size + 1 ≤ b := fun b e => by
    simp [Value.ownBlock] at e
    subst e
    rcases hga with e | e
    · exact Or.inl e
    · right; simp at e; omega
  have hF : Fr2 A (w1.alloc (.cells #[x] 34)) w3 q (.slice none 0 0) := Fr2.of_grown hg _
  refine ⟨_, w3, hr, ⟨by simpa using ho, Fr2.own hAN hF h2.2.1 hfar' (by simp [Value.ownBlock]), ?_, ?_, fun k hk => ?_⟩, hg⟩
  · refine RowP.append (h.2.2.1.imp fun u' z' hp => ?_) ⟨x, [], rfl, ?_, rfl⟩
    · refine ((hp.mono (Y := fun b => (N ≤ b ∧ some b ≠ q.ownBlock ∧ some b ≠ u.ownBlock ∧ ¬ Y b) ∧ b < wr.heap.size) fun b h1 h2 => ⟨h1, h2⟩).kept (w' := w3) fun b hx => ?_).mono fun b hx _ => ⟨hx.1.1, fun e => ?_, hx.1.2.2⟩
      · rw [hg.block b (by simp; omega) hx.1.2.1, hb2.block b hx.2]
      · rcases hgu b e with e | e
        · exact hx.1.2.1 e.symm
        · omega
    · refine ((hx.mono (Y := fun b => wr.heap.size ≤ b ∧ b < w1.heap.size) fun b h1 h2 => ⟨h1, h2⟩).kept (w' := w3) fun b hx => ?_).mono fun b hx _ => ⟨by omega, fun e => ?_, fun e => ?_, fun e => ?_⟩
      · rw [hg.block b (by simp; omega) (fun e => by have := (hltq b e.symm).2; omega), Below.heap_alloc _ _ _ hx.2]
      · rcases hgu b e with e | e
        · have := (hltq b e).2; omega
        · omega
      · have := (hltu b e.symm).2; omega
      · have := hY b e; omega
  · exact h2.2.2.2.1.trans (Fr2.of_grown hg u) h2.2.2.2.2 (fun k h => Or.inl h)
  · rcases hgu k hk.symm with e | e
    · exact h.2.2.2.2 k e
    · right; have := h.2.2.2.1.2.2.2.1; omega

/-- The block itself is written. -/
theorem PlAt.store {A : Nat} {w0 wr : World} {N : Nat} {q0 q u : Value} {hs : List Int} {Y : Nat → Prop} {ps : List (List Int)} {xs : List Value} (hAN : A < N) (h : PlAt A w0 N q0 u hs Y ps q xs wr) (v : Value) : PlAt A w0 N q0 u hs Y ps q xs (wr.setCell ⟨A, 0, none⟩ v) := by
  have hf : Fr2 A wr (wr.setCell ⟨A, 0, none⟩ v) (.slice none 0 0) (.slice none 0 0) := ⟨rfl, rfl, rfl, by simp [World.setCell], fun b hb hA _ _ => Below.heap_setCell _ _ _ _ (by simpa using hA)⟩
  refine ⟨Fr2.own hAN hf h.1 (by simp [Value.ownBlock]) (by simp [Value.ownBlock]), Fr2.own hAN hf h.2.1 (by simp [Value.ownBlock]) (by simp [Value.ownBlock]), h.2.2.1.imp fun x z hp => hp.kept fun b hb => Below.heap_setCell _ _ _ _ (by have := hb.1; simp; omega), h.2.2.2.1.trans hf (by simp [Value.ownBlock]) (by simp [Value.ownBlock]), h.2.2.2.2⟩

/-- The path is as it was, whatever is done behind it. -/
theorem here_back {A : Nat} {W W' W'' : World} {N : Nat} {q u u' : Value} {hs : List Int} {i : Int} (hAN : A < N) (h : W.ownsRow N 3 1 u hs.length (hs.map fun z => .int .i64 z)) (hg : W.grownBy W' u.ownBlock) (he : Ext W W' u u' hs.length) (h' : W''.ownsRow N 3 1 u' (hs ++ [i]).length ((hs ++ [i]).map fun z => .int .i64 z)) (hf : Fr2 A W' W'' q u') (hq : ∀ k, u.ownBlock = some k → q.ownBlock ≠ some k) :
    W''.ownsRow N 3 1 u hs.length (hs.map fun z => .int .i64 z) := by
  rcases he with ⟨g, cap, rfl, rfl⟩ | ⟨hnew, hbl⟩
  · obtain ⟨_, h1⟩ := h
    obtain ⟨_, h2⟩ := h'
    rcases h1 with ⟨h1, _⟩ | ⟨g1, cap1, cur1, h1, hN, _, hnc, hcm, _, _⟩
    · simp at h1
    · rcases h2 with ⟨h2, _⟩ | ⟨g2, cap2, cur2, h2, _, hh, _, _, hcs, htk⟩
      · simp at h2
      · simp at h1 h2
        obtain ⟨rfl, rfl⟩ := h1
        obtain ⟨rfl, rfl⟩ := h2
        refine ⟨by simp, Or.inr ⟨g, cap, cur2, rfl, hN, hh, hnc, hcm, hcs, ?_⟩⟩
        have h3 := congrArg (List.take hs.length) htk
        rw [List.take_take] at h3
        simpa [List.take_append_of_le_length, Nat.min_eq_left] using h3
  · have hlt := h.lt
    exact Fr2.own hAN ((Fr2.of_below hbl q u').trans hf (fun k h => Or.inl h) (fun k h => Or.inl h)) h hq (fun k hk e => by have := hnew k e; have := (hlt k hk).2; omega)

/-- Ahead of the call below. -/
theorem PlAt.down {A : Nat} {w0 wr W W' : World} {N : Nat} {q0 q u u' : Value} {hs : List Int} {Y : Nat → Prop} {ps : List (List Int)} {xs : List Value} {i : Int} (hAN : A < N) (h : PlAt A w0 N q0 u hs Y ps q xs wr) (hb : Below wr.heap.size wr W) (h' : W'.ownsRow N 3 1 u' (hs ++ [i]).length ((hs ++ [i]).map fun z => .int .i64 z)) (hg : W.grownBy W' u.ownBlock) (he : Ext W W' u u' hs.length) :
    PlAt A W' N q u' (hs ++ [i]) (fun b => b < wr.heap.size ∧ (Y b ∨ some b = u.ownBlock)) ps q xs W' := by
  have h2 := PlAt.later hAN h hb
  have hltu := h.2.1.lt
  have hs1 := hb.size
  have hu : ∀ b, b < wr.heap.size → some b = u'.ownBlock → some b = u.ownBlock := fun b hb e => by
    rcases he with ⟨g, cap, rfl, rfl⟩ | ⟨hnew, _⟩
    · simpa [Value.ownBlock] using e
    · have := hnew b e.symm; omega
  refine ⟨Fr2.own hAN (Fr2.of_grown' (A := A) hg (.slice none 0 0)) h2.1 (by simp [Value.ownBlock]) h2.far, h', h.2.2.1.imp fun x z hp => ?_, Fr2.of_below (Below.refl _ _) _ _, fun _ h => Or.inl h⟩
  refine ((hp.mono (Y := fun b => (N ≤ b ∧ some b ≠ q.ownBlock ∧ some b ≠ u.ownBlock ∧ ¬ Y b) ∧ b < wr.heap.size) fun b h1 h2 => ⟨h1, h2⟩).kept (w' := W') fun b hx => ?_).mono fun b hx _ => ⟨hx.1.1, hx.1.2.1, fun e => hx.1.2.2.1 (hu b hx.2 e), fun e => ?_⟩
  · rw [hg.block b (by omega) hx.1.2.2.1, hb.block b hx.2]
  · rcases e.2 with e | e
    · exact hx.1.2.2.2 e
    · exact hx.1.2.2.1 e

/-- Behind the call below. -/
theorem PlAt.up {A : Nat} {w0 wr W W' W'' : World} {N : Nat} {q0 q q' u u' : Value} {hs : List Int} {Y : Nat → Prop} {ps ps' : List (List Int)} {xs xs' : List Value} {i : Int} (hAN : A < N) (h : PlAt A w0 N q0 u hs Y ps q xs wr) (hY : ∀ b, Y b → b < wr.heap.size) (hb : Below wr.heap.size wr W) (hg : W.grownBy W' u.ownBlock) (he : Ext W W' u u' hs.length)
    (h' : PlAt A W' N q u' (hs ++ [i]) (fun b => b < wr.heap.size ∧ (Y b ∨ some b = u.ownBlock)) ps' q' xs' W'') : PlAt A w0 N q0 u hs Y ps' q' xs' W'' := by
  have h2 := PlAt.later hAN h hb
  have hltu := h.2.1.lt
  have hs1 := hb.size
  have hs2 := hg.size
  have hs0 := h.2.2.2.1.2.2.2.1
  have hext : ∀ k, u'.ownBlock = some k → u.ownBlock = some k ∨ W.heap.size ≤ k := fun k hk => by
    rcases he with ⟨g, cap, rfl, rfl⟩ | ⟨hnew, _⟩
    · exact Or.inl hk
    · exact Or.inr (hnew k hk)
  refine ⟨h'.1, here_back hAN h2.2.1 hg he h'.2.1 h'.2.2.2.1 h2.far', h'.2.2.1.imp fun x z hp => hp.mono fun b hx _ => ⟨hx.1, hx.2.1, fun e => hx.2.2.2 ⟨(hltu b e.symm).2, Or.inr e⟩, fun e => hx.2.2.2 ⟨hY b e, Or.inl e⟩⟩, ?_, fun k hk => ?_⟩
  · exact h2.2.2.2.1.trans ((Fr2.of_grown' hg q).trans h'.2.2.2.1 (fun k h => Or.inl h) hext) h2.2.2.2.2 (fun k h => Or.inl h)
  · rcases h'.2.2.2.2 k hk with e | e
    · exact h.2.2.2.2 k e
    · right; omega

#print axioms here_step
#print axioms PlAt.push
#print axioms PlAt.store
#print axioms PlAt.down
#print axioms PlAt.up
end Go.Proofs.Ythlgknglalcggac

/- The knots of a term from a place on, each with its place (plain). -/
namespace Go.Proofs.Ythlgknglalcggac
open Go.RowKit
set_option linter.unusedSimpArgs false
set_option linter.unusedVariables false

abbrev Dn := List Int × Tm
def hdN (q : List Int) : Nat := (q.headD 0).toNat
/-- Those below a knot: from number st on, there from the place r on. -/
def dnL : List Int → Nat → Nat → List Int → List Tm → List Dn
  | _, _, _, _, [] => []
  | hs, j, st, r, ⟨s, l⟩ :: rest => (if j < st then [] else (hs ++ [(j : Int)], ⟨s, l⟩) :: dnL (hs ++ [(j : Int)]) 0 (hdN (if j = st then r else [])) (if j = st then r else []).tail l) ++ dnL hs (j + 1) st r rest
def dnT (hs fs : List Int) (t : Tm) : List Dn := (hs, t) :: dnL hs 0 (hdN fs) fs.tail t.args

theorem dnL_cons (hs : List Int) (j st : Nat) (r : List Int) (t : Tm) (rest : List Tm) : dnL hs j st r (t :: rest) = (if j < st then [] else dnT (hs ++ [(j : Int)]) (if j = st then r else []) t) ++ dnL hs (j + 1) st r rest := by
  obtain ⟨s, l⟩ := t
  rw [dnL]
  rfl
theorem dnL_append (hs : List Int) (st : Nat) (r : List Int) (a b : List Tm) : ∀ j, dnL hs j st r (a ++ b) = dnL hs j st r a ++ dnL hs (j + a.length) st r b := by
  induction a with
  | nil => intro j; simp [dnL]
  | cons t a ih =>
    intro j
    rw [List.cons_append, dnL_cons, dnL_cons, ih, List.append_assoc, List.length_cons]
    congr 3
    omega
theorem dnL_take (hs : List Int) (st : Nat) (r : List Int) (l : List Tm) (k : Nat) (h : k < l.length) (hst : st ≤ k) : dnL hs 0 st r (l.take (k + 1)) = dnL hs 0 st r (l.take k) ++ dnT (hs ++ [(k : Int)]) (if k = st then r else []) l[k] := by
  rw [List.take_succ_eq_append_getElem h, dnL_append, dnL_cons]
  have e : 0 + (l.take k).length = k := by rw [List.length_take]; omega
  rw [e, if_neg (by omega)]
  simp [dnL]
theorem dnL_before (hs : List Int) (st : Nat) (r : List Int) : ∀ (l : List Tm) (j : Nat), j + l.length ≤ st → dnL hs j st r l = []
  | [], _, _ => by simp [dnL]
  | t :: l, j, h => by
    rw [dnL_cons, dnL_before hs st r l (j + 1) (by simp at h; omega), if_pos (by simp at h; omega)]
    rfl

theorem plc_dn {β : Type} (g : List Int → Tm → List β) : ∀ (l : List Tm) (hs : List Int) (j : Nat) (G : List Int → List β), (∀ k p x, (h : k < l.length) → atT l[k] p = some x → G (((j + k : Nat) : Int) :: p) = g (hs ++ (((j + k : Nat) : Int) :: p)) x) → (dnL hs j 0 [] l).flatMap (fun d => g d.1 d.2) = (plcL j l).flatMap G := by
  intro l
  induction l using Tm.indL with
  | h0 => intro hs j G h; simp [dnL, plcL]
  | h s l rest ih1 ih2 =>
    intro hs j G h
    have h1 : (dnT (hs ++ [(j : Int)]) [] ⟨s, l⟩).flatMap (fun d => g d.1 d.2) = (plcT (⟨s, l⟩ : Tm)).flatMap fun p => G ((j : Int) :: p) := by
      unfold dnT plcT
      rw [List.flatMap_cons, List.flatMap_cons]
      congr 1
      · have := h 0 [] ⟨s, l⟩ (by simp) rfl
        simpa using this.symm
      · refine ih1 (hs ++ [(j : Int)]) 0 _ fun k p x hk hx => ?_
        have := h 0 (((0 + k : Nat) : Int) :: p) x (by simp) (by
          simp only [List.getElem_cons_zero, atT]
          have e : ((0 + k : Nat) : Int).toNat = k := by omega
          rw [dif_pos ⟨by omega, by rw [e]; exact hk⟩]
          simp only [e]
          exact hx)
        simpa using this
    rw [dnL_cons, plcL_cons, List.flatMap_append, List.flatMap_append, List.flatMap_map]
    congr 1
    · rw [if_neg (by omega)]
      have e : (if j = 0 then ([] : List Int) else []) = [] := by split <;> rfl
      rw [e]
      exact h1
    · refine ih2 hs (j + 1) G fun k p x hk hx => ?_
      have := h (k + 1) p x (by simp; omega) (by simpa using hx)
      have e : ((j + (k + 1) : Nat) : Int) = ((j + 1 + k : Nat) : Int) := by omega
      rw [e] at this
      exact this
/-- All places are gone through, each with the term there. -/
theorem plc_dnT {β : Type} (g : List Int → Tm → List β) (t : Tm) (G : List Int → List β) (h : ∀ p x, atT t p = some x → G p = g p x) : (dnT [] [] t).flatMap (fun d => g d.1 d.2) = (plcT t).flatMap G := by
  unfold dnT plcT
  rw [List.flatMap_cons, List.flatMap_cons]
  congr 1
  · exact (h [] t rfl).symm
  · refine plc_dn g t.args [] 0 G fun k p x hk hx => ?_
    refine h _ _ ?_
    have e : ((0 + k : Nat) : Int).toNat = k := by omega
    simp only [atT]
    rw [dif_pos ⟨by omega, by rw [e]; exact hk⟩]
    simp only [e]
    exact hx

/-- The path is as it was, whatever is done behind it. -/
theorem here_backQ {W W' W'' : World} {N : Nat} {u u' : Value} {hs : List Int} {i : Int} {Q : Nat → Prop} (h : W.ownsRow N 3 1 u hs.length (hs.map fun z => .int .i64 z)) (hg : W.grownBy W' u.ownBlock) (he : Ext W W' u u' hs.length) (h' : W''.ownsRow N 3 1 u' (hs ++ [i]).length ((hs ++ [i]).map fun z => .int .i64 z)) (hf : ExQ Q W' W'') (hq : ∀ k, u.ownBlock = some k → u'.ownBlock ≠ some k → ¬ Q k) :
    W''.ownsRow N 3 1 u hs.length (hs.map fun z => .int .i64 z) := by
  rcases he with ⟨g, cap, rfl, rfl⟩ | ⟨hnew, hbl⟩
  · obtain ⟨_, h1⟩ := h
    obtain ⟨_, h2⟩ := h'
    rcases h1 with ⟨h1, _⟩ | ⟨g1, cap1, cur1, h1, hN, _, hnc, hcm, _, _⟩
    · simp at h1
    · rcases h2 with ⟨h2, _⟩ | ⟨g2, cap2, cur2, h2, _, hh, _, _, hcs, htk⟩
      · simp at h2
      · simp at h1 h2
        obtain ⟨rfl, rfl⟩ := h1
        obtain ⟨rfl, rfl⟩ := h2
        refine ⟨by simp, Or.inr ⟨g, cap, cur2, rfl, hN, hh, hnc, hcm, hcs, ?_⟩⟩
        have h3 := congrArg (List.take hs.length) htk
        rw [List.take_take] at h3
        simpa [List.take_append_of_le_length, Nat.min_eq_left] using h3
  · have hlt := h.lt
    refine ownsRow_at h fun g hk => ?_
    have hl := (hlt g hk).2
    have hs2 := hbl.size
    rw [hf.block g (by omega) (hq g hk (fun e => by have := hnew g e; omega)), hbl.block g hl]
#print axioms plc_dnT
#print axioms here_backQ
end Go.Proofs.Ythlgknglalcggac

/- A range over a function whose rounds all go on: own laws. -/
namespace Go.Proofs.Ythlgknglalcggac
open Go.RowKit Go.Shelf
set_option linter.unusedSimpArgs false
set_option linter.unusedVariables false
set_option maxRecDepth 8000

/-- A round that goes on. -/
theorem yield_on {P : Program} {n l : Nat} {r : Loop} {args : Array Value} {W : World} {Post : World → Prop} {assign body : Code} {ps : Array Tmp} {tmps : Array Value} {rb : Loop} (hrbz : rb = { r with state := .busy }) (hra : r.assign = assign) (hrb : r.body = body) (hrp : r.params = ps) (hrt : r.tmps = tmps) (hl : W.heap[l]? = some (.loop r)) (hr : r.state = .ready) (hp0 : r.pending = none) (hps : args.size = ps.size)
    (h : assign.wpIn (Fence.wide.inRound l) n P (Exit.then (fun a₁ w₁ => w₁.heap[l]? = some (.loop r) ∧ body.wpIn (Fence.wide.inRound l) n P (fun e _ w3 => e = .normal ∧ w3.heap[l]? = some (.loop rb) ∧ Post (w3.putObj l (.loop r))) a₁ (w₁.putObj l (.loop rb))) (fun _ _ _ => False)) { tmps := (ps.zip args).foldl (fun t (p, v) => t.setIfInBounds p v) tmps, defers := [] } W) :
    YieldAt Fence.wide n P l args W fun e W' => e = .returned (.bool true) ∧ Post W' := by
  subst hrbz; subst hra; subst hrb; subst hrp; subst hrt
  refine ⟨r.fn, _, r.assign, r.body, run_yield hl hps, roundIn_of_wpIn trivial (wpIn_mono h ?_)⟩
  rintro e a w1 hp
  cases e with
  | normal =>
    obtain ⟨h1, h2⟩ := hp
    refine ⟨_, run_beginRound h1 hr, wpIn_mono h2 ?_⟩
    rintro e3 a3 w3 ⟨rfl, h3, h4⟩
    refine ⟨_, _, run_endRound none h3, rfl, ?_⟩
    have e4 : ({ r with state := .ready, pending := none } : Loop) = r := by
      obtain ⟨_, _, _, _, _, _, _, _⟩ := r
      simp at hr hp0
      subst hr; subst hp0
      rfl
    have e5 : ({ ({ r with state := .busy } : Loop) with state := if (none : Option Code).isNone then .ready else .done, pending := none } : Loop) = r := by rw [← e4]; rfl
    rw [e5]
    exact h4
  | ret => exact hp.elim
  | exit id => exact hp.elim
  | goto t => exact hp.elim
  | panic c => exact hp.elim
  | outgrown => exact hp.elim

/-- The range itself. -/
theorem wp_range {P : Program} {n : Nat} {g : Operand} {ps : Array Tmp} {assign body : Code} {Q : Exit → Act → World → Prop} {a : Act} {w : World} {gf : Nat} {lb : Array Value} (hg : a.eval g = .func (.func gf) #[] lb) (eg : ∀ args w, (callFunc gf args).run P w = .ok (.enter gf args) w)
    (h : ∀ (r : Loop), r.state = .ready → r.pending = none → r.tmps = a.tmps → r.params = ps → r.assign = assign → r.body = body → 
      Calls P gf (#[.func (.yield (w.heap.size + 1)) #[] #[]] ++ lb) ((w.alloc (.deferred (some []))).alloc (.loop r)) fun e W => (∃ v, e = .returned v) ∧ W.heap[w.heap.size + 1]? = some (.loop r) ∧ Q .normal { a with defers := { target := .collected w.heap.size, args := #[] } :: a.defers } (W.putObj (w.heap.size + 1) (.loop { r with state := .exhausted }))) :
    (Code.rangeFunc g ps assign body).wpIn Fence.wide n P Q a w := by
  refine wpIn_rangeFunc ?_
  intro fn hfn
  obtain ⟨r, hr⟩ : ∃ r : Loop, r = { state := .ready, pending := none, fn, tmps := a.tmps, params := ps, assign, body, defers := w.heap.size } := ⟨_, rfl⟩
  refine ⟨w.heap.size + 1, [{ target := .collected w.heap.size, args := #[] }], (w.alloc (.deferred (some []))).alloc (.loop r), { target := .fn (.func gf) lb, args := #[.func (.yield (w.heap.size + 1)) #[] #[]] }, (w.alloc (.deferred (some []))).alloc (.loop r), gf, #[.func (.yield (w.heap.size + 1)) #[] #[]] ++ lb, (w.alloc (.deferred (some []))).alloc (.loop r), ?_, ?_, ?_, ?_, ?_, ?_⟩
  · rw [hr]; exact run_enterLoop_outer _ _ _ _ _
  · simp only [resolve, hg]
    simp [go_sem]
  · intro f' hf'; trivial
  · simp [invoke, go_sem, eg]
  · intro h; simp [Fence.wide] at h
  · refine (callsIn_wide.2 (h r (by rw [hr]) (by rw [hr]) (by rw [hr]) (by rw [hr]) (by rw [hr]) (by rw [hr]))).mono ?_
    rintro e W ⟨⟨v, rfl⟩, hl, hq⟩
    have e1 := run_endLoop (P := P) hl (by rw [hr]; simp)
    have e2 : r.pending = none := by rw [hr]
    exact ⟨none, _, e1.trans (by rw [e2]), hq⟩
#print axioms yield_on
#print axioms wp_range
end Go.Proofs.Ythlgknglalcggac

/- A range over a function whose rounds go on or leave by a return: own laws; what takes, and what it is told. -/
namespace Go.Proofs.Ythlgknglalcggac
open Go.RowKit Go.Shelf
set_option linter.unusedSimpArgs false
set_option linter.unusedVariables false
set_option maxRecDepth 8000

/-- How a round is left: it goes on, or it returns. -/
def rndPost (l : Nat) (r rb rd : Loop) (Post : Bool → World → Prop) : Exit → Act → World → Prop
  | .normal, _, w3 => w3.heap[l]? = some (.loop rb) ∧ Post true (w3.putObj l (.loop r))
  | .ret, _, w3 => w3.heap[l]? = some (.loop rb) ∧ Post false (w3.putObj l (.loop rd))
  | _, _, _ => False

theorem yield_two {P : Program} {n l : Nat} {r : Loop} {args : Array Value} {W : World} {Post : Bool → World → Prop} {assign body : Code} {ps : Array Tmp} {tmps : Array Value} {rb rd : Loop} (hrbz : rb = { r with state := .busy }) (hrdz : rd = { r with state := .done, pending := some .ret }) (hra : r.assign = assign) (hrb : r.body = body) (hrp : r.params = ps) (hrt : r.tmps = tmps) (hl : W.heap[l]? = some (.loop r)) (hr : r.state = .ready) (hp0 : r.pending = none) (hps : args.size = ps.size)
    (h : assign.wpIn (Fence.wide.inRound l) n P (Exit.then (fun a₁ w₁ => w₁.heap[l]? = some (.loop r) ∧ body.wpIn (Fence.wide.inRound l) n P (rndPost l r rb rd Post) a₁ (w₁.putObj l (.loop rb))) (fun _ _ _ => False)) { tmps := (ps.zip args).foldl (fun t (p, v) => t.setIfInBounds p v) tmps, defers := [] } W) :
    YieldAt Fence.wide n P l args W fun e W' => ∃ s, e = .returned (.bool s) ∧ Post s W' := by
  subst hrbz; subst hrdz; subst hra; subst hrb; subst hrp; subst hrt
  refine ⟨r.fn, _, r.assign, r.body, run_yield hl hps, roundIn_of_wpIn trivial (wpIn_mono h ?_)⟩
  rintro e a w1 hp
  cases e with
  | normal =>
    obtain ⟨h1, h2⟩ := hp
    refine ⟨_, run_beginRound h1 hr, wpIn_mono h2 ?_⟩
    rintro e3 a3 w3 h3
    cases e3 with
    | normal =>
      obtain ⟨h3, h4⟩ := h3
      refine ⟨_, _, run_endRound none h3, true, rfl, ?_⟩
      have e4 : ({ r with state := .ready, pending := none } : Loop) = r := by
        obtain ⟨_, _, _, _, _, _, _, _⟩ := r
        simp at hr hp0
        subst hr; subst hp0
        rfl
      have e5 : ({ ({ r with state := .busy } : Loop) with state := if (none : Option Code).isNone then .ready else .done, pending := none } : Loop) = r := by rw [← e4]; rfl
      rw [e5]
      exact h4
    | ret =>
      obtain ⟨h3, h4⟩ := h3
      exact ⟨_, _, run_endRound (some .ret) h3, false, rfl, h4⟩
    | exit id => exact h3.elim
    | goto t => exact h3.elim
    | panic c => exact h3.elim
    | outgrown => exact h3.elim
  | ret => exact hp.elim
  | exit id => exact hp.elim
  | goto t => exact hp.elim
  | panic c => exact hp.elim
  | outgrown => exact hp.elim

/-- The range itself, outermost. -/
theorem wp_range2 {P : Program} {n : Nat} {g : Operand} {ps : Array Tmp} {assign body : Code} {Q : Exit → Act → World → Prop} {a : Act} {w : World} {gf : Nat} {lb : Array Value} (hg : a.eval g = .func (.func gf) #[] lb) (eg : ∀ args w, (callFunc gf args).run P w = .ok (.enter gf args) w)
    (h : ∀ (r : Loop), r.state = .ready → r.pending = none → r.tmps = a.tmps → r.params = ps → r.assign = assign → r.body = body → 
      Calls P gf (#[.func (.yield (w.heap.size + 1)) #[] #[]] ++ lb) ((w.alloc (.deferred (some []))).alloc (.loop r)) fun e W => (∃ v, e = .returned v) ∧ ((W.heap[w.heap.size + 1]? = some (.loop r) ∧ Q .normal { a with defers := { target := .collected w.heap.size, args := #[] } :: a.defers } (W.putObj (w.heap.size + 1) (.loop { r with state := .exhausted }))) ∨
        (W.heap[w.heap.size + 1]? = some (.loop { r with state := .done, pending := some .ret }) ∧ Q .ret { a with defers := { target := .collected w.heap.size, args := #[] } :: a.defers } (W.putObj (w.heap.size + 1) (.loop { r with state := .exhausted, pending := some .ret }))))) :
    (Code.rangeFunc g ps assign body).wpIn Fence.wide n P Q a w := by
  refine wpIn_rangeFunc ?_
  intro fn hfn
  obtain ⟨r, hr⟩ : ∃ r : Loop, r = { state := .ready, pending := none, fn, tmps := a.tmps, params := ps, assign, body, defers := w.heap.size } := ⟨_, rfl⟩
  refine ⟨w.heap.size + 1, [{ target := .collected w.heap.size, args := #[] }], (w.alloc (.deferred (some []))).alloc (.loop r), { target := .fn (.func gf) lb, args := #[.func (.yield (w.heap.size + 1)) #[] #[]] }, (w.alloc (.deferred (some []))).alloc (.loop r), gf, #[.func (.yield (w.heap.size + 1)) #[] #[]] ++ lb, (w.alloc (.deferred (some []))).alloc (.loop r), ?_, ?_, ?_, ?_, ?_, ?_⟩
  · rw [hr]; exact run_enterLoop_outer _ _ _ _ _
  · simp only [resolve, hg]
    simp [go_sem]
  · intro f' hf'; trivial
  · simp [invoke, go_sem, eg]
  · intro h; simp [Fence.wide] at h
  · refine (callsIn_wide.2 (h r (by rw [hr]) (by rw [hr]) (by rw [hr]) (by rw [hr]) (by rw [hr]) (by rw [hr]))).mono ?_
    rintro e W ⟨⟨v, rfl⟩, hc⟩
    rcases hc with ⟨hl, hq⟩ | ⟨hl, hq⟩
    · have e1 := run_endLoop (P := P) hl (by rw [hr]; simp)
      have e2 : r.pending = none := by rw [hr]
      exact ⟨none, _, e1.trans (by rw [e2]), hq⟩
    · have e1 := run_endLoop (P := P) hl (by simp)
      exact ⟨some .ret, _, e1, wpIn_ret hq⟩

/-- The range itself, in a round. -/
theorem wp_rangeN {P : Program} {n : Nat} {g : Operand} {ps : Array Tmp} {assign body : Code} {Q : Exit → Act → World → Prop} {a : Act} {w : World} {l₀ : Nat} {r₀ : Loop} (hl₀ : w.heap[l₀]? = some (.loop r₀)) {gf : Nat} {lb : Array Value} (hg : a.eval g = .func (.func gf) #[] lb) (eg : ∀ args w, (callFunc gf args).run P w = .ok (.enter gf args) w)
    (h : ∀ (r : Loop), r.state = .ready → r.pending = none → r.tmps = a.tmps → r.params = ps → r.assign = assign → r.body = body → 
      Calls P gf (#[.func (.yield w.heap.size) #[] #[]] ++ lb) (w.alloc (.loop r)) fun e W => (∃ v, e = .returned v) ∧ ((W.heap[w.heap.size]? = some (.loop r) ∧ Q .normal a (W.putObj w.heap.size (.loop { r with state := .exhausted }))) ∨
        (W.heap[w.heap.size]? = some (.loop { r with state := .done, pending := some .ret }) ∧ Q .ret a (W.putObj w.heap.size (.loop { r with state := .exhausted, pending := some .ret }))))) :
    (Code.rangeFunc g ps assign body).wpIn (Fence.wide.inRound l₀) n P Q a w := by
  refine wpIn_rangeFunc ?_
  intro fn hfn
  obtain ⟨r, hr⟩ : ∃ r : Loop, r = { state := .ready, pending := none, fn, tmps := a.tmps, params := ps, assign, body, defers := r₀.defers } := ⟨_, rfl⟩
  refine ⟨w.heap.size, [], w.alloc (.loop r), { target := .fn (.func gf) lb, args := #[.func (.yield w.heap.size) #[] #[]] }, w.alloc (.loop r), gf, #[.func (.yield w.heap.size) #[] #[]] ++ lb, w.alloc (.loop r), ?_, ?_, ?_, ?_, ?_, ?_⟩
  · rw [hr]; exact run_enterLoop_inner hl₀ _ _ _ _ _
  · simp only [resolve, hg]
    simp [go_sem]
  · intro f' hf'; trivial
  · simp [invoke, go_sem, eg]
  · intro h; simp [Fence.wide] at h
  · refine (CallsIn.inRound l₀ (callsIn_wide.2 (h r (by rw [hr]) (by rw [hr]) (by rw [hr]) (by rw [hr]) (by rw [hr]) (by rw [hr])))).mono ?_
    rintro e W ⟨⟨v, rfl⟩, hc⟩
    rcases hc with ⟨hl, hq⟩ | ⟨hl, hq⟩
    · have e1 := run_endLoop (P := P) hl (by rw [hr]; simp)
      have e2 : r.pending = none := by rw [hr]
      exact ⟨none, _, e1.trans (by rw [e2]), hq⟩
    · have e1 := run_endLoop (P := P) hl (by simp)
      exact ⟨some .ret, _, e1, wpIn_ret hq⟩

/-- What one who takes keeps: what has come, whether more is wanted, the blocks that are his own (f); what he reads besides, and nobody writes (K). -/
abbrev Tk (α : Type) := List α → Bool → (Nat → Prop) → World → Prop
structure TkOk {α : Type} (J : Tk α) (K : Nat → Prop) : Prop where
  inside : ∀ {pre s f W}, J pre s f W → ∀ b, f b ∨ K b → b < W.heap.size
  apart : ∀ {pre s f W}, J pre s f W → ∀ b, K b → ¬ f b
  abide : ∀ {pre s f W W'}, J pre s f W → W.heap.size ≤ W'.heap.size → (∀ b, f b ∨ K b → W'.heap[b]? = W.heap[b]?) → J pre s f W'
theorem TkOk.exq {α : Type} {J : Tk α} {K : Nat → Prop} (h : TkOk J K) {pre : List α} {s : Bool} {f g : Nat → Prop} {W W' : World} (hj : J pre s f W) (he : ExQ g W W') (hg : ∀ b, f b ∨ K b → ¬ g b) : J pre s f W' :=
  h.abide hj he.size fun b hb => he.block b (h.inside hj b hb) (hg b hb)
/-- One round of his: an item is handed over that lies outside his blocks. -/
def Rnd {α : Type} (lp : Nat) (L : α → Array Value → World → (Nat → Prop) → Prop) (J : Tk α) (all : List α) : Prop :=
  ∀ (n : Nat) (pre : List α) (x : α) (args : Array Value) (Z f : Nat → Prop) (W : World), (pre ++ [x]) <+: all → J pre true f W → L x args W Z → (∀ b, Z b → b < W.heap.size ∧ ¬ f b) →
    YieldAt Fence.wide n Try.prog lp args W fun e W' => ∃ s, e = .returned (.bool s) ∧ ∃ f', J (pre ++ [x]) s f' W' ∧ ExQ f W W' ∧ ∀ b, f' b → f b ∨ W.heap.size ≤ b
/-- All of a list, or as much of it as was wanted, has been handed over. -/
def Went {α : Type} (J : Tk α) (all pre : List α) (f g : Nat → Prop) (W : World) (s : Bool) (W' : World) : Prop :=
  ∃ (m : Nat) (f' : Nat → Prop), m ≤ all.length ∧ (s = true → m = all.length) ∧ J (pre ++ all.take m) s f' W' ∧ ExQ (fun b => f b ∨ g b) W W' ∧ ∀ b, f' b → f b ∨ W.heap.size ≤ b

theorem Went.nil {α : Type} {J : Tk α} {pre : List α} {f g : Nat → Prop} {W : World} (h : J pre true f W) : Went J [] pre f g W true W :=
  ⟨0, f, Nat.le_refl _, fun _ => rfl, by simpa using h, ExQ.refl _ _, fun b hb => Or.inl hb⟩
theorem Went.one {α : Type} {J : Tk α} {pre : List α} {x : α} {f f' g : Nat → Prop} {W W' : World} {s : Bool} (h : J (pre ++ [x]) s f' W') (he : ExQ f W W') (hf : ∀ b, f' b → f b ∨ W.heap.size ≤ b) : Went J [x] pre f g W s W' :=
  ⟨1, f', by simp, fun _ => rfl, by simpa using h, he.mono fun b hb _ => Or.inl hb, hf⟩
theorem Went.end_true {α : Type} {J : Tk α} {all pre : List α} {f g : Nat → Prop} {W W' : World} (h : Went J all pre f g W true W') : ∃ f', J (pre ++ all) true f' W' ∧ ExQ (fun b => f b ∨ g b) W W' ∧ ∀ b, f' b → f b ∨ W.heap.size ≤ b := by
  obtain ⟨m, f', hm, hs, hj, he, hf⟩ := h
  obtain rfl := hs rfl
  exact ⟨f', by simpa using hj, he, hf⟩
/-- One behind the other. -/
theorem Went.trans {α : Type} {J : Tk α} {a1 a2 pre : List α} {f f1 g g2 : Nat → Prop} {W W1 W2 : World} {s : Bool} (hj : J (pre ++ a1) true f1 W1) (he : ExQ (fun b => f b ∨ g b) W W1) (hf : ∀ b, f1 b → f b ∨ W.heap.size ≤ b) (h : Went J a2 (pre ++ a1) f1 g2 W1 s W2) (hg : ∀ b, g2 b → g b ∨ W.heap.size ≤ b) : Went J (a1 ++ a2) pre f g W s W2 := by
  obtain ⟨m, f', hm, hs, hj2, he2, hf2⟩ := h
  refine ⟨a1.length + m, f', by simp; omega, fun h => by simp [hs h], ?_, he.transN he2 ?_, ?_⟩
  · rw [List.take_append, List.take_of_length_le (by omega)]
    simpa [List.append_assoc] using hj2
  · rintro i hi hl
    rcases hi with hi | hi
    · rcases hf i hi with h | h
      · exact Or.inl h
      · omega
    · rcases hg i hi with h | h
      · exact Or.inr h
      · omega
  · intro b hb
    have := he.size
    rcases hf2 b hb with h | h
    · exact hf b h
    · right; omega
/-- What was not wanted any more is not handed over. -/
theorem Went.stop {α : Type} {J : Tk α} {a1 a2 pre : List α} {f g : Nat → Prop} {W W' : World} (h : Went J a1 pre f g W false W') : Went J (a1 ++ a2) pre f g W false W' := by
  obtain ⟨m, f', hm, hs, hj, he, hf⟩ := h
  exact ⟨m, f', by simp; omega, by simp, by rw [List.take_append_of_le_length hm]; exact hj, he, hf⟩
theorem Went.mono {α : Type} {J : Tk α} {a pre : List α} {f g g' : Nat → Prop} {W W' : World} {s : Bool} (h : Went J a pre f g W s W') (hg : ∀ b, g b → b < W.heap.size → g' b) : Went J a pre f g' W s W' := by
  obtain ⟨m, f', hm, hs, hj, he, hf⟩ := h
  exact ⟨m, f', hm, hs, hj, he.mono fun b hb hl => hb.imp id (fun h => hg b h hl), hf⟩
theorem Went.exq {α : Type} {J : Tk α} {a pre : List α} {f g : Nat → Prop} {W W' : World} {s : Bool} (h : Went J a pre f g W s W') : ExQ (fun b => f b ∨ g b) W W' := by
  obtain ⟨_, _, _, _, _, he, _⟩ := h
  exact he
/-- From a little earlier on. -/
theorem Went.from {α : Type} {J : Tk α} {a pre : List α} {f g g' : Nat → Prop} {W0 W W' : World} {s : Bool} (h : Went J a pre f g W s W') (he : ExQ g' W0 W) (hg : ∀ b, g b → g' b ∨ W0.heap.size ≤ b) : Went J a pre f g' W0 s W' := by
  obtain ⟨m, f', hm, hs, hj, he2, hf⟩ := h
  refine ⟨m, f', hm, hs, hj, (he.mono (R := fun b => f b ∨ g' b) fun b hb _ => Or.inr hb).transN he2 ?_, fun b hb => ?_⟩
  · rintro i hi hl
    rcases hi with hi | hi
    · exact Or.inl hi
    · rcases hg i hi with h | h
      · exact Or.inr h
      · omega
  · have := he.size
    rcases hf b hb with h | h
    · exact Or.inl h
    · right; omega
#print axioms yield_two
#print axioms wp_range2
#print axioms wp_rangeN
#print axioms Went.trans
end Go.Proofs.Ythlgknglalcggac


/- Walks: the places of a term, as the program gathers them. -/
namespace Go.Proofs.Ythlgknglalcggac
open Go.RowKit Go.Shelf
attribute [local go_sem] Oper.semAt_some
set_option linter.unusedSimpArgs false
set_option linter.unusedVariables false
set_option maxRecDepth 8000

theorem step_here {ops : Array Oper} {o : Oper} {a : Act} {K : Act → World → Prop} {Q : Exit → Act → World → Prop} {E : Prop} {W : World} {N : Nat} {u : Value} {hs : List Int} (hgd : o.guard = none) (s x : Operand)
    (ho : o.op = .call { callee := .builtin .append, args := #[s, x], argTypes := #[34, 34] }) (hty : o.type = 34) (hs' : a.eval s = u) (i : Int) (F : Nat) (hx : a.eval x = .slice (some ⟨F, 0, none⟩) 1 1)
    (h : W.ownsRow N 3 1 u hs.length (hs.map fun z => .int .i64 z)) (hN : N ≤ W.heap.size) (hF : W.heap[F]? = some (.cells #[.int .i64 i] 3 (0, 0))) (hn : hs.length ≤ 1000000)
    (hk : ∀ u' W', W'.ownsRow N 3 1 u' (hs ++ [i]).length ((hs ++ [i]).map fun z => .int .i64 z) → W.grownBy W' u.ownBlock → Ext W W' u u' hs.length → K (a.put o.dst u') W') : if Region.wanted o (yielded ops a.tmps) = true then Oper.wp Try.prog o a W K Q else E := by
  obtain ⟨u', W', hr, h1, h2, h3⟩ := here_step h hN i F hF hn
  exact step_append_eq hgd s x _ _ ho hs' hx (by rw [hty]; exact hr) (hk u' W' h1 h2 h3)

theorem Sl.fr2 {w w' : World} {X : Nat → Prop} {a : Option Addr} {l : List Tm} {A : Nat} {q u : Value} (h : Sl w X a l) (hg : Fr2 A w w' q u) (hA : ∀ b, X b → b ≠ A) (hq : ∀ b, X b → some b ≠ q.ownBlock) (hu : ∀ b, X b → some b ≠ u.ownBlock) : Sl w' X a l := by
  have h1 : Sl w (fun b => X b ∧ b < w.heap.size) a l := h.mono fun b h1 h2 => ⟨h1, h2⟩
  have h2 : Sl w' (fun b => X b ∧ b < w.heap.size) a l := h1.kept fun b hx => hg.2.2.2.2 b hx.2 (hA b hx.1) (hq b hx.1) (hu b hx.1)
  exact h2.mono fun b hx _ => hx.1

/-- Behind the box of the parameter. -/
theorem PlAt.from {A : Nat} {w wr : World} {o : Obj} {N : Nat} {q0 q u : Value} {hs : List Int} {Y : Nat → Prop} {ps : List (List Int)} {xs : List Value} (h : PlAt A (w.alloc o) N q0 u hs Y ps q xs wr) : PlAt A w N q0 u hs Y ps q xs wr := by
  refine ⟨h.1, h.2.1, h.2.2.1, (Fr2.of_below ((Below.refl _ _).alloc (Nat.le_refl _) o) q0 u).trans h.2.2.2.1 (fun k h => Or.inl h) (fun k h => Or.inl h), fun k hk => ?_⟩
  rcases h.2.2.2.2 k hk with e | e
  · exact Or.inl e
  · right; simp at e; omega

theorem box_cell {A : Nat} {w w2 : World} {q u : Value} {s : ByteArray} {v : Value} {T : Nat} (hA : w.heap.size ≠ A) (h : Fr2 A (w.alloc (.cells #[.string s, v] T)) w2 q u) (hq : some w.heap.size ≠ q.ownBlock) (hu : some w.heap.size ≠ u.ownBlock) : w2.cell? ⟨w.heap.size, 1, none⟩ = some v := by
  have h1 := h.2.2.2.2 w.heap.size (by simp) hA hq hu
  have h2 := heap_alloc_new w (.cells #[.string s, v] T)
  rw [h2] at h1
  simp [World.cell?, h1]

theorem sizeL_ge1 (l : List Tm) (k : Nat) (h : k < l.length) : 1 + sizeL [l[k]] ≤ 1 + sizeL l := by
  have := sizeL_take l k h
  have := sizeL_take_le l (k + 1)
  omega

def PlInv (A : Nat) (w0 : World) (N : Nat) (q0 u : Value) (hs : List Int) (Y : Nat → Prop) (ps : List (List Int)) (l : List Tm) (lp : Nat) (r : Loop) (rest i : Value) (wr : World) : Prop :=
  rest = .slice none 0 0 ∧ ∃ (k : Nat) (q : Value) (xs : List Value), k ≤ l.length ∧ i = .int .i64 k ∧ Blk wr A #[q] 78 ∧ PlAt A w0 N q0 u hs Y (ps ++ hs :: (plcL 0 (l.take k)).map fun p => hs ++ p) q xs wr ∧ wr.heap[lp]? = some (.loop r)

/-- What a round does: the path is gathered. -/
def RoundH (A N lp : Nat) (r : Loop) : Prop := ∀ (n : Nat) (u tv : Value) (hs : List Int) (Y : Nat → Prop) (ps : List (List Int)) (q : Value) (xs : List Value) (W : World), (∃ z, tv = .agg z) → N ≤ W.heap.size → (∀ b, Y b → b < W.heap.size) → W.heap[lp]? = some (.loop r) → Blk W A #[q] 78 → PlAt A W N q u hs Y ps q xs W → ps.length ≤ 1000000 → hs.length ≤ 1000000 →
  YieldAt Fence.wide n Try.prog lp #[u, tv] W fun e W' => e = .returned (.bool true) ∧ ∃ q' xs', Blk W' A #[q'] 78 ∧ PlAt A W N q u hs Y (ps ++ [hs]) q' xs' W' ∧ W'.heap[lp]? = some (.loop r)

theorem next_nil (w : World) : Calls Try.prog 125 #[.slice none 0 0] w fun e w' => e = .returned (.tuple #[.int .i64 0, .slice none 0 0]) ∧ w' = w := by
  go_enter Try.func125, Try.ntmps125
  go_wp2_with fail
  refine bodyPost_ret (v := .tuple #[.int .i64 0, .slice none 0 0]) (by simp [results, Try.results125, go_sem]) rfl ?_
  exact ⟨rfl, rfl⟩

set_option maxHeartbeats 2000000 in
theorem down_any (A N lp : Nat) (r : Loop) (hAN : A < N) (RH : RoundH A N lp r) (t : Tm) : ∀ (q v u : Value) (ps : List (List Int)) (xs : List Value) (hs : List Int) (Y : Nat → Prop) (w : World) (X : Nat → Prop), TV w X v t → (∀ b, X b → b < N ∧ b ≠ A) → N ≤ w.heap.size → (∀ b, Y b → b < w.heap.size) → Blk w A #[q] 78 → PlAt A w N q u hs Y ps q xs w → w.heap[lp]? = some (.loop r) → ps.length + sizeL [t] ≤ 900000 → hs.length + sizeL [t] ≤ 900000 →
    Calls Try.prog 105 #[v, u, .slice none 0 0, .func (.yield lp) #[] #[]] w fun e w' => e = .returned (.bool true) ∧ ∃ q' xs', Blk w' A #[q'] 78 ∧ PlAt A w N q u hs Y (ps ++ (plcT t).map fun p => hs ++ p) q' xs' w' ∧ w'.heap[lp]? = some (.loop r) := by
  induction t using Tm.ind with
  | h s l ih =>
    intro q v u ps xs hs Y w X hv hX hN hY hA hpl hlp hsm hsm2
    obtain ⟨a, c, rfl, hsl⟩ := hv
    have IH := hide ih
    clear ih
    have hl := hsl.1
    have hz : sizeL [(⟨s, l⟩ : Tm)] = 1 + sizeL l := by simp [sizeL]
    rw [hz] at hsm hsm2
    clear hz
    have hB0 : Below w.heap.size w (w.alloc (.cells #[.string s, .slice a l.length c] 25)) := (Below.refl _ _).alloc (Nat.le_refl _) _
    have HPL := hide (PlAt.later hAN hpl hB0).here
    have hlq := hpl.1.lt
    have hlu := hpl.2.1.lt
    have HXq : Hid (∀ b, X b → some b ≠ q.ownBlock) := fun b hb e => by have := (hlq b e.symm).1; have := hX b hb; omega
    have HXu : Hid (∀ b, X b → some b ≠ u.ownBlock) := fun b hb e => by have := (hlu b e.symm).1; have := hX b hb; omega
    have HBq : Hid (some w.heap.size ≠ q.ownBlock) := fun e => by have := (hlq _ e.symm).2; omega
    have HBu : Hid (some w.heap.size ≠ u.ownBlock) := fun e => by have := (hlu _ e.symm).2; omega
    have HN0 : Hid (N ≤ (w.alloc (.cells #[.string s, .slice a l.length c] 25)).heap.size) := by unfold Hid; simp; omega
    have HY0 : Hid (∀ b, Y b → b < (w.alloc (.cells #[.string s, .slice a l.length c] 25)).heap.size) := fun b hb => by have := hY b hb; simp; omega
    have HSL := hide hsl
    have HX := hide hX
    have HY := hide hY
    have hps : ps.length ≤ 1000000 := by omega
    have hhs : hs.length ≤ 1000000 := by omega
    have hlpl : lp < w.heap.size := (Array.getElem?_eq_some_iff.1 hlp).1
    have RHW := RH 0 u (.agg #[.string s, .slice a l.length c]) hs Y ps q xs (w.alloc (.cells #[.string s, .slice a l.length c] 25)) ⟨_, rfl⟩ HN0.out HY0.out ((Below.heap_alloc _ _ _ hlpl).trans hlp) (hA.alloc _) HPL.out hps hhs
    obtain ⟨hfn, htmps, hasg, hbody, hy, hR⟩ := RHW
    have HR := hide hR
    have HRH := hide RH
    clear hpl hlq hlu hsl hX hY hB0 hR RH hlp hA
    have hf1 : Fence.wide.fn 125 := trivial
    go_enter Try.func105, Try.ntmps105
    refine (wpIn_wide (n := 1)).1 ?_
    gi_wp2
    refine HR.out.mono ?_
    rintro e W1 ⟨rfl, q1, xs1, hA1, hp1, hl1⟩
    have HPL1 := hide hp1
    have HA1 := hide hA1
    have HL1 := hide hl1
    have K1 : W1.cell? ⟨w.heap.size, 1, none⟩ = some (.slice a l.length c) := box_cell (by omega) hp1.2.2.2.1 HBq.out HBu.out
    clear hp1 hA1 hl1 hy
    gi_wp2_with (gi_at_call 125; refine (callsIn_wide.2 (next_nil _)).mono ?_; rintro e w' ⟨rfl, rfl⟩)
    refine wpIn_wide.2 ?_
    go_loopw [10, 11] (fun q' i wr => PlInv A (w.alloc (.cells #[.string s, .slice a l.length c] 25)) N q u hs Y ps l lp r q' i wr) (fun q' i wr => l.length - (intOf i).toNat)
    case atStart => exact ⟨rfl, 0, q1, xs1, Nat.zero_le _, rfl, HA1.out, by simpa [plcL] using HPL1.out, HL1.out⟩
    case round =>
      obtain ⟨rfl, k, q2, xs2, hk, rfl, hA2, hp2, hl2⟩ := hrel
      have HA2 := hide hA2
      have HL2 := hide hl2
      have HP2 := hide hp2
      have hlp2 : lp < wr.heap.size := (Array.getElem?_eq_some_iff.1 hl2).1
      have HNr : Hid (N ≤ wr.heap.size) := Nat.le_trans HN0.out hp2.2.2.2.1.2.2.2.1
      have HYr : Hid (∀ b, Y b → b < wr.heap.size) := fun b hb => Nat.lt_of_lt_of_le (HY0.out b hb) hp2.2.2.2.1.2.2.2.1
      have hfr := hp2.2.2.2.1
      have K2 : wr.cell? ⟨w.heap.size, 1, none⟩ = some (.slice a l.length c) := box_cell (by omega) hfr HBq.out HBu.out
      clear hp2 hA2 hl2
      by_cases hlt : k < l.length
      · have hst := sizeL_take l k hlt
        have hst2 := sizeL_take_le l (k + 1)
        obtain ⟨b, o, a', c', rfl, d0, d1, hx⟩ := ((HSL.out.fr2 (A := A) (Fr2.of_below ((Below.refl _ _).alloc (Nat.le_refl _) (.cells #[.string s, .slice a l.length c] 25)) q u) (fun b hb => (HX.out b hb).2) HXq.out HXu.out).fr2 hfr (fun b hb => (HX.out b hb).2) HXq.out HXu.out).get (Below.refl wr.heap.size wr) (fun _ _ h => h) k hlt
        have hbX : X b := by
          obtain ⟨_, h1⟩ := HSL.out
          rcases h1 with h1 | ⟨b', o', e', h1⟩
          · rw [h1] at hlt; simp at hlt
          · cases e'; exact (lies_get _ _ _ h1 k hlt).1
        have HXX := hide hx
        have HT := hide (plcL_take l k hlt)
        have HSM : Hid ((ps ++ hs :: (plcL 0 (l.take k)).map fun p => hs ++ p).length + sizeL [l[k]] ≤ 900000) := by unfold Hid; simp [plcL_len]; omega
        have HSM2 : Hid ((hs ++ [(k : Int)]).length + sizeL [l[k]] ≤ 900000) := by unfold Hid; simp; have := sizeL_ge1 l k hlt; omega
        clear hx hst hst2 hfr
        have HS0 := hide (And.intro K2 (And.intro d0 d1))
        go_wp2_with fail
        have hbW : Below wr.heap.size wr (wr.alloc (.cells #[.int .i64 (k : Int)] 3)).drew := ((Below.refl _ _).alloc (Nat.le_refl _) _).drew
        have HBW := hide hbW
        have HOU := hide (PlAt.later hAN HP2.out hbW).2.1
        have HNW : Hid (N ≤ (wr.alloc (.cells #[.int .i64 (k : Int)] 3)).drew.heap.size) := Nat.le_trans HNr.out hbW.size
        have HFW : Hid ((wr.alloc (.cells #[.int .i64 (k : Int)] 3)).drew.heap[wr.heap.size]? = some (.cells #[.int .i64 (k : Int)] 3 (0, 0))) := heap_alloc_new wr (.cells #[.int .i64 (k : Int)] 3)
        have HTT : Hid ((ps ++ hs :: (plcL 0 (l.take (k + 1))).map fun p => hs ++ p) = (ps ++ hs :: (plcL 0 (l.take k)).map fun p => hs ++ p) ++ (plcT l[k]).map fun p => (hs ++ [(k : Int)]) ++ p) := by
          unfold Hid; rw [HT.out]; simp [Function.comp_def]
        have HSE : Hid (∀ u2 W2, (wr.alloc (.cells #[.int .i64 (k : Int)] 3)).drew.grownBy W2 u.ownBlock → Ext (wr.alloc (.cells #[.int .i64 (k : Int)] 3)).drew W2 u u2 hs.length → (W2.cell? ⟨w.heap.size, 1, none⟩ = some (.slice (some ⟨b, o, none⟩) l.length c) ∧ W2.cell? ⟨b, o + k * 2, none⟩ = some (.string l[k].name) ∧ W2.cell? ⟨b, o + k * 2 + 1, none⟩ = some (.slice a' l[k].args.length c')) ∧ Blk W2 A #[q2] 78 ∧ W2.heap[lp]? = some (.loop r) ∧
            ∀ w5, Fr2 A W2 w5 q2 u2 → w5.cell? ⟨w.heap.size, 1, none⟩ = some (.slice (some ⟨b, o, none⟩) l.length c) ∧ w5.cell? ⟨b, o + k * 2, none⟩ = some (.string l[k].name) ∧ w5.cell? ⟨b, o + k * 2 + 1, none⟩ = some (.slice a' l[k].args.length c')) := fun u2 W2 hg2 he2 => by
          have hwz : w.heap.size < wr.heap.size := by have := HP2.out.2.2.2.1.2.2.2.1; simp at this; omega
          have hbz : b < wr.heap.size := by have := HX.out b hbX; have := HNr.out; omega
          have hgz := hg2.size
          simp at hgz
          have kp : ∀ j, j < wr.heap.size → some j ≠ u.ownBlock → W2.heap[j]? = wr.heap[j]? := fun j hj hne => (hg2.block j (by simp; omega) hne).trans (HBW.out.block j hj)
          have hlt := HP2.out.2.1.lt
          have hltq := HP2.out.1.lt
          have hbN := HX.out b hbX
          have e0 := kp w.heap.size hwz HBu.out
          have e1 := kp b hbz (HXu.out b hbX)
          have eA := kp A (by omega) (fun e => by have := (hlt _ e.symm).1; omega)
          have eL := kp lp hlp2 (fun e => by
            rcases HP2.out.2.1.2 with ⟨h1, _⟩ | ⟨g, cap, cur, h1, _, h2, _⟩
            · rw [h1] at e; simp [Value.ownBlock] at e
            · rw [h1] at e
              have e3 : lp = g := by simpa [Value.ownBlock] using e
              rw [← e3, HL2.out] at h2
              cases h2)
          have hE : ∀ j, j < wr.heap.size → some j ≠ u.ownBlock → some j ≠ u2.ownBlock := fun j hj hne e => by
            rcases he2 with ⟨g, cap, e3, e4⟩ | ⟨hn, _⟩
            · rw [e4] at e; rw [e3] at hne; exact hne e
            · have := hn j e.symm
              simp at this
              omega
          refine ⟨⟨(World.cell?_of_block e0).trans HS0.out.1, (World.cell?_of_block e1).trans HS0.out.2.1, (World.cell?_of_block e1).trans HS0.out.2.2⟩, eA.trans HA2.out, eL.trans HL2.out, fun w5 hf => ?_⟩
          have f0 : w5.heap[w.heap.size]? = wr.heap[w.heap.size]? := (hf.2.2.2.2 _ (by omega) (by omega) (fun e => by
            rcases HP2.out.2.2.2.2 _ e.symm with e | e
            · exact HBq.out e.symm
            · simp at e; omega) (hE _ hwz HBu.out)).trans e0
          have f1 : w5.heap[b]? = wr.heap[b]? := (hf.2.2.2.2 _ (by omega) hbN.2 (fun e => by have := (hltq _ e.symm).1; omega) (hE _ hbz (HXu.out b hbX))).trans e1
          exact ⟨(World.cell?_of_block f0).trans HS0.out.1, (World.cell?_of_block f1).trans HS0.out.2.1, (World.cell?_of_block f1).trans HS0.out.2.2⟩
        clear hbW
        go_region_held3 (fun w' => w'.cell? ⟨w.heap.size, 1, none⟩ = some (.slice (some ⟨b, o, none⟩) l.length c) ∧ w'.cell? ⟨b, o + k * 2, none⟩ = some (.string l[k].name) ∧ w'.cell? ⟨b, o + k * 2 + 1, none⟩ = some (.slice a' l[k].args.length c')) (first | exact HS0.out | exact hS5 | exact hS2 | go_keep)
          (first
            | (refine step_here (N := N) (hs := hs) (u := u) rfl _ _ rfl rfl rfl (k : Int) _ rfl HOU.out HNW.out HFW.out hhs ?_; intro u2 W2 ho2 hg2 he2; obtain ⟨hS2, hA3, hL3, hK3⟩ := HSE.out u2 W2 hg2 he2; have hd2 := PlAt.down hAN HP2.out HBW.out ho2 hg2 he2; have hx2 := (HXX.out.later HBW.out).grown hg2 HXu.out; have hn2 := Nat.le_trans HNW.out hg2.size; have hw2 := Nat.le_trans HBW.out.size hg2.size)
            | (go_at_call 105; refine (IH.out _ (List.getElem_mem hlt) _ _ _ _ _ _ _ _ X hx2 HX.out hn2 (fun b hb => Nat.lt_of_lt_of_le hb.1 hw2) hA3 hd2 hL3 HSM.out HSM2.out).mono ?_; rintro e w5 ⟨rfl, q5, xs5, hA5, hp5, hl5⟩; have HUP := hide (PlAt.up hAN HP2.out HYr.out HBW.out hg2 he2 hp5); have hS5 := hK3 w5 hp5.2.2.2.1; have HA5 := hide hA5; have HL5 := hide hl5; clear hp5 hA5 hl5))
        clear hS5 hd2 hx2 hS2 ho2 hg2 he2
        go_wp2_with fail
        go_roundw
        case rel => exact ⟨rfl, k + 1, _, _, by omega, by go_num, HA5.out, by rw [HTT.out]; exact HUP.out, HL5.out⟩
        case measure => simp [intOf]; omega
      · have htk : l.take k = l := List.take_of_length_le (by omega)
        have h1 := HP2.out.from
        rw [htk] at h1
        have HF := hide h1
        clear h1 hfr
        go_wp2_with fail
        gi_wp2
        go_ret
        exact ⟨rfl, q2, xs2, HA2.out, by simpa [plcT] using HF.out, HL2.out⟩
#print axioms down_any
end Go.Proofs.Ythlgknglalcggac

/- Walks: what stands at a place, as the document says. -/
namespace Go.Proofs.Ythlgknglalcggac
open Go.RowKit
set_option linter.unusedSimpArgs false
set_option linter.unusedVariables false

theorem isome_none {α : Type} {o : Option α} (h : o = none) : o.isSome = false := by rw [h]; rfl
theorem isome_some {α : Type} {o : Option α} {x : α} (h : o = some x) : o.isSome = true := by rw [h]; rfl

theorem PV.tail {w : World} {X : Nat → Prop} {b o c : Nat} {z : Int} {zs : List Int} (hl : zs.length + 1 ≤ 9223372036854775807 ∧ zs.length + 1 ≤ c) (hx : X b) (h : ∀ i (h : i < (z :: zs).length), w.cell? ⟨b, o + i, none⟩ = some (.int .i64 (z :: zs)[i])) :
    PV w X (.slice (some ⟨b, o + 1, none⟩) zs.length (c - 1)) zs := by
  refine ⟨_, _, rfl, by omega, Or.inr ⟨b, o + 1, rfl, hx, fun i hi => ?_⟩⟩
  have := h (i + 1) (by simpa using hi)
  rw [show o + 1 + i = o + (i + 1) by omega]
  simpa using this

theorem TV.back {w w' : World} {X : Nat → Prop} {v : Value} {t : Tm} {B : Nat} (h : TV w' X v t) (hb : Below B w w') (hX : ∀ b, X b → b < B) : TV w X v t := by
  obtain ⟨a, c, e, h⟩ := h
  exact ⟨a, c, e, h.back hb hX⟩

theorem tvform {w : World} {X : Nat → Prop} {v' : Value} {o : Option Tm} (h1 : ∀ x, o = some x → TV w X v' x) (h2 : o = none → v' = zeroT) : ∃ s a n c, v' = .agg #[.string s, .slice a n c] := by
  cases o with
  | none => exact ⟨_, _, _, _, h2 rfl⟩
  | some x => obtain ⟨a, c, e, _⟩ := h1 x rfl; exact ⟨_, _, _, _, e⟩

theorem below_tv {w w' : World} {X : Nat → Prop} {v : Value} {t : Tm} (hb : Below w.heap.size w w') (h : TV w X v t) : TV w' X v t := h.later hb

theorem res_cell0 {w w1 : World} {o1 : Obj} {x0 x1 : Value} {T n : Nat} (hb : Below (((w.alloc o1).alloc (.cells #[x0, x1] T)).drewN n).heap.size (((w.alloc o1).alloc (.cells #[x0, x1] T)).drewN n) w1) : w1.cell? ⟨w.heap.size + 1, 0, none⟩ = some x0 := by rw [hb.cell (p := ⟨_, _, none⟩) (by simp)]; simp
theorem res_cell1 {w w1 : World} {o1 : Obj} {x0 x1 : Value} {T n : Nat} (hb : Below (((w.alloc o1).alloc (.cells #[x0, x1] T)).drewN n).heap.size (((w.alloc o1).alloc (.cells #[x0, x1] T)).drewN n) w1) : w1.cell? ⟨w.heap.size + 1, 1, none⟩ = some x1 := by rw [hb.cell (p := ⟨_, _, none⟩) (by simp)]; simp
theorem res_frozen {w w1 : World} {o1 : Obj} {x0 x1 : Value} {T n : Nat} (hb : Below (((w.alloc o1).alloc (.cells #[x0, x1] T)).drewN n).heap.size (((w.alloc o1).alloc (.cells #[x0, x1] T)).drewN n) w1) : ∀ i, w1.frozen? ⟨w.heap.size + 1, i, none⟩ = false := by intro i; rw [hb.frozen (p := ⟨_, _, none⟩) (by simp)]; simp

theorem res_box1 {w w1 : World} {y0 y1 : Value} {o2 : Obj} {T n : Nat} (hb : Below (((w.alloc (.cells #[y0, y1] T)).alloc o2).drewN n).heap.size (((w.alloc (.cells #[y0, y1] T)).alloc o2).drewN n) w1) : w1.cell? ⟨w.heap.size, 1, none⟩ = some y1 := by rw [hb.cell (p := ⟨_, _, none⟩) (by simp; omega)]; simp
theorem res_old {w w1 : World} {o1 o2 : Obj} {n : Nat} {p : Addr} {v : Value} (hb : Below (((w.alloc o1).alloc o2).drewN n).heap.size (((w.alloc o1).alloc o2).drewN n) w1) (h : w.cell? p = some v) : w1.cell? p = some v :=
  cell_later ((below_drewN (below2 o1 o2) n).trans (hb.mono (by simp; omega))) h
theorem set2_keep {w : World} {K i j : Nat} {u u' v : Value} {p : Addr} (h : w.cell? p = some v) (hp : p.block ≠ K) : ((w.setCell ⟨K, i, none⟩ u).setCell ⟨K, j, none⟩ u').cell? p = some v := by
  rw [World.cell?_of_block (Below.heap_setCell _ _ _ _ (by simpa using hp)), World.cell?_of_block (Below.heap_setCell _ _ _ _ (by simpa using hp)), h]
theorem held4 {w : World} {K i j : Nat} {u u' v1 v2 v3 v4 : Value} {p1 p2 p3 p4 : Addr} (h : w.cell? p1 = some v1 ∧ w.cell? p2 = some v2 ∧ w.cell? p3 = some v3 ∧ w.cell? p4 = some v4) (h1 : p1.block ≠ K) (h2 : p2.block ≠ K) (h3 : p3.block ≠ K) (h4 : p4.block ≠ K) :
    ((w.setCell ⟨K, i, none⟩ u).setCell ⟨K, j, none⟩ u').cell? p1 = some v1 ∧ ((w.setCell ⟨K, i, none⟩ u).setCell ⟨K, j, none⟩ u').cell? p2 = some v2 ∧ ((w.setCell ⟨K, i, none⟩ u).setCell ⟨K, j, none⟩ u').cell? p3 = some v3 ∧ ((w.setCell ⟨K, i, none⟩ u).setCell ⟨K, j, none⟩ u').cell? p4 = some v4 :=
  ⟨set2_keep h.1 h1, set2_keep h.2.1 h2, set2_keep h.2.2.1 h3, set2_keep h.2.2.2 h4⟩

set_option maxHeartbeats 1000000 in
theorem atOf_any (zs : List Int) : ∀ (t : Tm) (v p : Value) (w : World) (X : Nat → Prop), TV w X v t → PV w X p zs →
    Calls Try.prog 54 #[v, p] w fun e w' => ∃ v', e = .returned (.tuple #[v', .bool (atT t zs).isSome]) ∧ (∀ x, atT t zs = some x → TV w X v' x) ∧ (atT t zs = none → v' = zeroT) ∧ Below w.heap.size w w' := by
  induction zs with
  | nil =>
    intro t v p w X hv hp
    obtain ⟨a, c, rfl, hs⟩ := hv
    obtain ⟨pa, pc, rfl, hzl, hz⟩ := hp
    have HS : Hid (atT t [] = some t) := by simp [Hid, atT]
    go_enter Try.func54, Try.ntmps54
    go_wp2_with fail
    refine bodyPost_ret (v := .tuple #[.agg #[.string t.name, .slice a t.args.length c], .bool true]) (by simp [results, Try.results54, go_sem]) rfl ⟨_, by rw [HS.out]; rfl, ?_, ?_, below2 _ _⟩
    · intro x hx
      rw [HS.out] at hx
      obtain rfl := Option.some.inj hx
      exact ⟨a, c, rfl, hs⟩
    · intro h; rw [HS.out] at h; cases h
  | cons z zs ih =>
    intro t v p w X0 hv0 hp0
    have IH := hide ih
    clear ih
    obtain ⟨X, hX, hXX, hv, hp⟩ : ∃ X : Nat → Prop, (∀ b, X b → b < w.heap.size) ∧ (∀ b, X b → X0 b) ∧ TV w X v t ∧ PV w X p (z :: zs) := ⟨fun b => X0 b ∧ b < w.heap.size, fun _ h => h.2, fun _ h => h.1, hv0.mono fun b h1 h2 => ⟨h1, h2⟩, hp0.mono fun b h1 h2 => ⟨h1, h2⟩⟩
    clear hv0 hp0
    obtain ⟨a, c, rfl, hs⟩ := hv
    obtain ⟨pa, pc, rfl, hzl, hz⟩ := hp
    obtain ⟨b, o, rfl, hx, hcell⟩ := hz.resolve_left (fun h => by cases h)
    have h0 := hcell 0 (by simp)
    simp only [Nat.add_zero, List.getElem_cons_zero] at h0
    have hcx := fun o1 o2 => cell_later (below2 (w := w) o1 o2) h0
    have hne : (((z :: zs).length : Nat) : Int) = (zs.length : Int) + 1 := by simp
    have htl := hs.1
    have hzl' : zs.length + 1 ≤ 9223372036854775807 ∧ zs.length + 1 ≤ pc := by simpa using hzl
    obtain ⟨hzl1, hzl2⟩ := hzl'
    simp only [List.length_cons] at *
    by_cases hin : 0 ≤ z ∧ z.toNat < t.args.length
    · obtain ⟨hi0, hi1⟩ := hin
      obtain ⟨b1, o1, a2, c2, rfl, e0, e1, hx2⟩ := hs.get (Below.refl w.heap.size w) (fun _ _ h => h) _ hi1
      have d0 := fun o1 o2 => cell_later (below2 (w := w) o1 o2) e0
      have d1 := fun o1 o2 => cell_later (below2 (w := w) o1 o2) e1
      have e0' := e0
      have e1' := e1
      have HAT : Hid (atT t (z :: zs) = atT (t.args[z.toNat]) zs) := by
        unfold Hid; simp only [atT]; rw [dif_pos ⟨hi0, hi1⟩]
      have hz0 : ¬ z < 0 := by omega
      have hz1 : z < (t.args.length : Int) := by omega
      obtain ⟨sa, HSA, HT⟩ : ∃ sa : Option Addr, Hid ((if pc = 1 then some (⟨b, o, none⟩ : Addr) else some ⟨b, o + 1, none⟩) = sa) ∧ Hid (PV w X (.slice sa zs.length (pc - 1)) zs) := by
        by_cases h1 : pc = 1
        · refine ⟨_, rfl, ?_⟩
          have : zs = [] := List.length_eq_zero_iff.1 (by omega)
          subst this
          exact ⟨_, _, rfl, by simp, Or.inl rfl⟩
        · refine ⟨_, rfl, ?_⟩
          rw [if_neg h1]
          exact PV.tail ⟨hzl1, hzl2⟩ hx hcell
      have HX := hide hx2
      clear hcell
      have HT' : ∀ o1 o2 n, PV (((w.alloc o1).alloc o2).drewN n) X (.slice sa zs.length (pc - 1)) zs := fun o1 o2 n => HT.out.later (below_drewN (below2 _ _) _)
      have hblt : b < w.heap.size := World.block_lt_of_cell? w _ h0
      have hb1lt : b1 < w.heap.size := World.block_lt_of_cell? w _ e0
      clear e0 e1
      have HT' := hide HT'
      by_cases hpc : pc = 1
      all_goals
        have hsa := HSA.out
        first | rw [if_pos hpc] at hsa | rw [if_neg hpc] at hsa
        subst hsa
        try (have hnil : zs = [] := List.length_eq_zero_iff.1 (by omega); subst hnil; subst hpc)
        go_enter Try.func54, Try.ntmps54
        go_wp2_with fail
        go_quiet (fail)
        go_wp2_with fail
        go_region_held (fun w' => w'.cell? ⟨w.heap.size, 1, none⟩ = some (.slice (some ⟨b1, o1, none⟩) t.args.length c) ∧ w'.cell? ⟨b, o, none⟩ = some (.int .i64 z) ∧ w'.cell? ⟨b1, o1 + z.toNat * 2, none⟩ = some (.string t.args[z.toNat].name) ∧ w'.cell? ⟨b1, o1 + z.toNat * 2 + 1, none⟩ = some (.slice a2 t.args[z.toNat].args.length c2)) (first | assumption | (simp [*]; done) | exact held4 hS1 (by simp) (by simp; omega) (by simp; omega) (by simp; omega))
          ((go_at_call 54; refine (IH.out _ _ _ _ X (by exact below_tv (below_drewN (below2 _ _) _) HX.out) (by exact HT'.out _ _ _)).mono ?_; rintro e w1 ⟨v', rfl, hyes, hno, hb1⟩; obtain ⟨s1, a3, n3, c3, rfl⟩ := tvform hyes hno; have f0 := res_cell0 hb1; have f1 := res_cell1 hb1; have f2 := res_frozen hb1; have hS1 := And.intro (res_box1 hb1) (And.intro (res_old hb1 h0) (And.intro (res_old hb1 e0') (res_old hb1 e1')))))
        go_wp2_with fail
        refine bodyPost_ret (v := .tuple #[.agg #[.string s1, .slice a3 n3 c3], .bool _]) (by simp [results, Try.results54, go_sem, f0, f1, World.cell?_setCell_same, World.cell?_setCell_other]; rfl) rfl ⟨_, by rw [HAT.out], ?_, ?_, ?_⟩
        · rw [HAT.out]; intro x hx; exact ((hyes x hx).back (below_drewN (below2 _ _) _) hX).mono fun b hb _ => hXX b hb
        · rw [HAT.out]; exact hno
        · exact (((below_drewN (below2 _ _) _).trans (hb1.mono (by simp; omega))).setCell (by simp) _).setCell (by simp) _
    · have HN : Hid (atT t (z :: zs) = none) := by
          unfold Hid; simp only [atT]; rw [dif_neg hin]
      have hcase : z < 0 ∨ (¬ z < 0 ∧ (t.args.length : Int) ≤ z) := by omega
      rcases hcase with h0 | ⟨h0, h1⟩
      all_goals
        go_enter Try.func54, Try.ntmps54
        go_wp2_with fail
        go_quiet (fail)
        go_wp2_with fail
        refine bodyPost_ret (v := .tuple #[zeroT, .bool false]) (by simp [results, Try.results54, go_sem, zeroT]) rfl ⟨_, by rw [HN.out]; rfl, ?_, fun _ => rfl, ((below_drewN (below2 _ _) _).setCell (by simp) _).setCell (by simp) _⟩
        intro x hx
        rw [HN.out] at hx
        cases hx
#print axioms atOf_any
end Go.Proofs.Ythlgknglalcggac

/- Walks: the knots of a term from a place on, handed over one by one. -/
namespace Go.Proofs.Ythlgknglalcggac
open Go.RowKit Go.Shelf
attribute [local go_sem] Oper.semAt_some
set_option linter.unusedSimpArgs false
set_option linter.unusedVariables false
set_option maxRecDepth 8000

/-- How a place and the term there are handed over. -/
def LpD (x : Dn) (args : Array Value) (W : World) (Z : Nat → Prop) : Prop := ∃ u v, args = #[u, v] ∧ PV W Z u x.1 ∧ TV W Z v x.2

theorem nextI_any (fs : List Int) (v : Value) (w : World) (X : Nat → Prop) (hv : PV w X v fs) (h0 : ∀ z ∈ fs.take 1, 0 ≤ z) :
    Calls Try.prog 125 #[v] w fun e w' => Below w.heap.size w w' ∧ ∃ rv, e = .returned (.tuple #[.int .i64 (hdN fs : Int), rv]) ∧ PV w' X rv fs.tail := by
  obtain ⟨a, c, rfl, hl, hc⟩ := hv
  cases fs with
  | nil =>
    go_enter Try.func125, Try.ntmps125
    go_wp2_with fail
    refine bodyPost_ret (v := .tuple #[.int .i64 0, .slice none 0 0]) (by simp [results, Try.results125, go_sem]) rfl ?_
    exact ⟨Below.refl _ _, _, rfl, none, 0, rfl, by simp, Or.inl rfl⟩
  | cons z zs =>
    have hz := h0 z (by simp)
    have e : (hdN (z :: zs) : Int) = z := by unfold hdN; simp; omega
    rcases hc with hc | ⟨b, o, rfl, hxb, hcell⟩
    · cases hc
    obtain ⟨hzl1, hzl2⟩ := hl
    simp only [List.length_cons] at hzl1 hzl2
    have hz0 := hcell 0 (by simp)
    simp only [Nat.add_zero, List.getElem_cons_zero] at hz0
    have HE := hide e
    by_cases h1 : c = 1
    · have h2 : zs = [] := List.length_eq_zero_iff.1 (by omega)
      subst h1; subst h2
      clear hcell h0 e
      go_enter Try.func125, Try.ntmps125
      go_wp2_with fail
      go_region_held3 (fun w' => w'.cell? ⟨b, o, none⟩ = some (.int .i64 z)) (go_keep) (fail)
      go_wp2_with fail
      refine bodyPost_ret (v := .tuple #[.int .i64 z, .slice (some ⟨b, o, none⟩) 0 0]) (by simp [results, Try.results125, go_sem]) rfl ?_
      exact ⟨(Below.refl _ _).drew, .slice (some ⟨b, o, none⟩) 0 0, by rw [HE.out], some ⟨b, o, none⟩, 0, rfl, by simp, Or.inl rfl⟩
    · have HT : Hid (PV w X (.slice (some ⟨b, o + 1, none⟩) zs.length (c - 1)) zs) := PV.tail ⟨hzl1, hzl2⟩ hxb hcell
      simp only [List.length_cons] at *
      have b1 : ¬ ((zs.length : Int) + 1 < 1) := by omega
      have b2 : ¬ ((c : Int) < (zs.length : Int) + 1) := by omega
      clear hcell h0 e
      go_enter Try.func125, Try.ntmps125
      go_wp2_with fail
      go_region_held3 (fun w' => w'.cell? ⟨b, o, none⟩ = some (.int .i64 z)) (go_keep) (fail)
      go_wp2_with fail
      refine bodyPost_ret (v := .tuple #[.int .i64 z, .slice (some ⟨b, o + 1, none⟩) zs.length (c - 1)]) (by simp [results, Try.results125, go_sem]) rfl ?_
      exact ⟨(Below.refl _ _).drew, _, by rw [HE.out], HT.out.later ((Below.refl _ _).drew)⟩

def DnInv {J : Tk Dn} (w0 : World) (N : Nat) (u : Value) (hs : List Int) (f : Nat → Prop) (pre : List Dn) (t : Tm) (st : Nat) (rl : List Int) (rv : Value) (l : List Tm) (rest i : Value) (wr : World) : Prop :=
  ∃ (k : Nat) (f' : Nat → Prop), st ≤ k ∧ k ≤ l.length ∧ i = .int .i64 (k : Int) ∧ rest = (if k = st then rv else .slice none 0 0) ∧ J (pre ++ (hs, t) :: dnL hs 0 st rl (l.take k)) true f' wr ∧ ExQ (fun b => f b ∨ u.ownBlock = some b) w0 wr ∧ (∀ b, f' b → f b ∨ w0.heap.size ≤ b) ∧ wr.ownsRow N 3 1 u hs.length (hs.map fun z => .int .i64 z)
set_option maxHeartbeats 2000000 in
theorem downI_any {J : Tk Dn} {K : Nat → Prop} {all : List Dn} (hJ : TkOk J K) (N lp : Nat) (hK : ∀ b, K b → b < N) (RH : Rnd lp LpD J all) (t : Tm) : ∀ (v u fv : Value) (hs fs : List Int) (pre : List Dn) (f : Nat → Prop) (w : World) (X : Nat → Prop), TV w X v t → PV w X fv fs → (atT t fs).isSome = true → (∀ b, X b → b < N ∧ ¬ f b) → N ≤ w.heap.size → w.ownsRow N 3 1 u hs.length (hs.map fun z => .int .i64 z) → (∀ k, u.ownBlock = some k → ¬ f k) → J pre true f w → hs.length + sizeL [t] ≤ 900000 → (pre ++ dnT hs fs t) <+: all →
    Calls Try.prog 105 #[v, u, fv, .func (.yield lp) #[] #[]] w fun e w' => ∃ b, e = .returned (.bool b) ∧ Went J (dnT hs fs t) pre f (fun b => u.ownBlock = some b) w b w' ∧ (b = true → w'.ownsRow N 3 1 u hs.length (hs.map fun z => .int .i64 z)) := by
  induction t using Tm.ind with
  | h s l ih =>
    intro v u fv hs fs pre f w X hv hfv hat hX hN hown huf hj hsm hOk
    have HOK := hide hOk
    clear hOk
    obtain ⟨a, c, rfl, hsl⟩ := hv
    have IH := hide ih
    clear ih
    have hl := hsl.1
    have hz : sizeL [(⟨s, l⟩ : Tm)] = 1 + sizeL l := by simp [sizeL]
    rw [hz] at hsm
    clear hz
    have hB0 : Below w.heap.size w (w.alloc (.cells #[.string s, .slice a l.length c] 25)) := (Below.refl _ _).alloc (Nat.le_refl _) _
    have hE0 : ExQ (fun _ => False) w (w.alloc (.cells #[.string s, .slice a l.length c] 25)) := (ExQ.refl _ _).alloc _
    have HE0 := hide hE0
    have HJ0 := hide (hJ.exq hj hE0 (fun _ _ h => h))
    have HIN := hide (hJ.inside hj)
    have hown0 : ((w.alloc (.cells #[.string s, .slice a l.length c] 25))).ownsRow N 3 1 u hs.length (hs.map fun z => .int .i64 z) := ownsRow_at hown fun g hg => Below.heap_alloc _ _ _ (hown.lt g hg).2
    have hltu := hide hown.lt
    have HXu : Hid (∀ b, X b → some b ≠ u.ownBlock) := fun b hb e => by have := (hltu.out b e.symm).1; have := hX b hb; omega
    have HBu : Hid (u.ownBlock ≠ some w.heap.size) := fun e => by have := (hltu.out _ e).2; omega
    have HBf : Hid (¬ f w.heap.size) := fun e => by have := HIN.out _ (Or.inl e); omega
    have hw0 : Hid (((w.alloc (.cells #[.string s, .slice a l.length c] 25))).heap.size = w.heap.size + 1) := by simp [Hid]
    have HSL := hide (hsl.later hB0)
    have HFV := hide (hfv.later hB0)
    have HX := hide hX
    have HK := hide hK
    clear hK
    have HUF := hide huf
    have hpos : ∀ z ∈ fs.take 1, 0 ≤ z := by
      cases fs with
      | nil => simp
      | cons z zs => intro y hy; simp at hy; subst hy; rw [atT] at hat; split at hat; (next h => exact h.1); (next => cases hat)
    have hstl : hdN fs ≤ l.length := by
      cases fs with
      | nil => simp [hdN]
      | cons z zs => rw [atT] at hat; split at hat; (next h => have := h.2; simp [hdN]; simp at this; omega); (next => cases hat)
    have HAT : Hid (∀ k (h : k < l.length), hdN fs ≤ k → (atT l[k] (if k = hdN fs then fs.tail else [])).isSome = true) := fun k h hk => by
      by_cases e : k = hdN fs
      · rw [if_pos e]
        cases fs with
        | nil => rfl
        | cons z zs =>
          simp only [atT] at hat
          split at hat
          next h2 =>
            have e2 : z.toNat = k := by rw [e]; simp [hdN]
            simp only [e2] at hat
            exact hat
          next => simp at hat
      · rw [if_neg e]; rfl
    have HJx := hide hJ
    have hhs : hs.length ≤ 1000000 := by omega
    have RHW := RH 0 pre (hs, ⟨s, l⟩) #[u, .agg #[.string s, .slice a l.length c]] (fun b => (X b ∨ u.ownBlock = some b) ∧ b < ((w.alloc (.cells #[.string s, .slice a l.length c] 25))).heap.size) f (w.alloc (.cells #[.string s, .slice a l.length c] 25)) (List.IsPrefix.trans ⟨dnL hs 0 (hdN fs) fs.tail l, by simp [dnT]⟩ HOK.out) HJ0.out ⟨u, _, rfl, (pv_of_own hown0).mono fun b hb hl => ⟨Or.inr hb.2, hl⟩, a, c, rfl, HSL.out.mono fun b hb hl => ⟨Or.inl hb, hl⟩⟩ (fun b hb => ⟨hb.2, by
      rcases hb.1 with h | h
      · exact (hX b h).2
      · exact huf b h⟩)
    obtain ⟨hfn, htmps, hasg, hbody, hy, hR⟩ := RHW
    have HR := hide hR
    have HRH := hide RH
    have HO0 := hide hown0
    clear hsl hfv hX hB0 hE0 hR RH hown hown0 huf hj hat hJ
    have hf1 : Fence.wide.fn 125 := trivial
    go_enter Try.func105, Try.ntmps105
    refine (wpIn_wide (n := 1)).1 ?_
    gi_wp2
    refine HR.out.mono ?_
    rintro e W1 ⟨s1, rfl, f1, hj1, he1, hff1⟩
    clear hy
    have K1 : W1.cell? ⟨w.heap.size, 1, none⟩ = some (.slice a l.length c) := by
      have h1 := he1.block w.heap.size (by simp) HBf.out
      rw [heap_alloc_new] at h1
      simp [World.cell?, h1]
    cases s1 with
    | false =>
      gi_wp2
      go_ret
      refine ⟨false, rfl, ?_, by simp⟩
      exact Went.from (Went.stop (a1 := ([(hs, (⟨s, l⟩ : Tm))] : List Dn)) (Went.one hj1 he1 hff1)) (HE0.out.mono fun _ h _ => h.elim) (fun b hb => Or.inl hb)
    | true =>
      have HJ1 := hide hj1
      have HE1 := hide he1
      have HFF1 := hide hff1
      have hP1 : PV W1 X fv fs := ((HFV.out.mono (Y := fun b => X b ∧ b < (w.alloc (.cells #[.string s, .slice a l.length c] 25)).heap.size) fun b h1 h2 => ⟨h1, h2⟩).kept (w' := W1) fun b hb => HE1.out.block b hb.2 (HX.out b hb.1).2).mono fun b hb _ => hb.1
      have HO1 : Hid (W1.ownsRow N 3 1 u hs.length (hs.map fun z => .int .i64 z)) := ownsRow_at HO0.out fun g hg => HE1.out.block g (by have := (hltu.out g hg).2; have := hw0.out; omega) (HUF.out g hg)
      have hwW : w.heap.size < W1.heap.size := by have := he1.size; have := hw0.out; omega
      clear hj1 he1 hff1
      gi_wp2_with (gi_at_call 125; refine (callsIn_wide.2 (nextI_any fs fv _ X hP1 hpos)).mono ?_; rintro e W2 ⟨hb2, rv, rfl, hrv⟩; have K2 := (hb2.cell (p := ⟨w.heap.size, 1, none⟩) hwW).trans K1)
      have HRV := hide hrv
      have HB2 := hide hb2
      clear hP1 hrv hb2
      refine wpIn_wide.2 ?_
      go_loopw [10, 11] (fun q' i wr => DnInv (J := J) (w.alloc (.cells #[.string s, .slice a l.length c] 25)) N u hs f pre ⟨s, l⟩ (hdN fs) fs.tail rv l q' i wr ∧ PV wr X (if (intOf i).toNat = hdN fs then rv else .slice none 0 0) (if (intOf i).toNat = hdN fs then fs.tail else [])) (fun q' i wr => l.length - (intOf i).toNat)
      case atStart =>
        refine ⟨⟨hdN fs, f1, Nat.le_refl _, hstl, rfl, by rw [if_pos rfl], ?_, (HE1.out.mono fun b hb _ => Or.inl hb).trans (ExQ.ofBelow HB2.out), HFF1.out, ownsRow_at HO1.out fun g hg => HB2.out.block g (HO1.out.lt g hg).2⟩, by simpa [intOf] using HRV.out⟩
        rw [dnL_before hs (hdN fs) fs.tail (l.take (hdN fs)) 0 (by simp; omega)]
        exact HJx.out.abide HJ1.out HB2.out.size fun b hb => HB2.out.block b (HJx.out.inside HJ1.out b hb)
      case round =>
        obtain ⟨⟨k, f2, hst, hk, rfl, rfl, hj2, he2, hff2, ho2⟩, hpv2⟩ := hrel
        have ek : (intOf (.int .i64 (k : Int))).toNat = k := by simp [intOf]
        rw [ek] at hpv2
        clear ek
        have HJ2 := hide hj2
        have HE2 := hide he2
        have HFF2 := hide hff2
        have HO2 := hide ho2
        have HPV2 := hide hpv2
        have hz2 : w.heap.size + 1 ≤ wr.heap.size := by have := he2.size; have := hw0.out; omega
        have HXQ : Hid (∀ b, X b → ¬ (f b ∨ u.ownBlock = some b)) := fun b hb h => by
          rcases h with h | h
          · exact (HX.out b hb).2 h
          · exact HXu.out b hb h.symm
        have HX2 : Hid (∀ b, X b → b < N ∧ ¬ f2 b) := fun b hb => ⟨(HX.out b hb).1, fun h => by
          rcases HFF2.out b h with h | h
          · exact (HX.out b hb).2 h
          · have := (HX.out b hb).1; have := hw0.out; omega⟩
        have HBf2 : Hid (∀ b, f2 b ∨ K b → b < wr.heap.size) := HJx.out.inside hj2
        have HUF2 : Hid (∀ g, u.ownBlock = some g → ¬ f2 g) := fun g hg h => by
          rcases HFF2.out g h with h | h
          · exact HUF.out g hg h
          · have := (hltu.out g hg).2; have := hw0.out; omega
        have HB2 : Hid (¬ f2 w.heap.size) := fun h => by
          rcases HFF2.out _ h with h | h
          · exact HBf.out h
          · have := hw0.out; omega
        have K2 : wr.cell? ⟨w.heap.size, 1, none⟩ = some (.slice a l.length c) := by
          have h1 := he2.block w.heap.size (by simp) (fun h => by
            rcases h with h | h
            · exact HBf.out h
            · exact HBu.out h)
          rw [heap_alloc_new] at h1
          simp [World.cell?, h1]
        clear hj2 he2 hff2 ho2 hpv2
        have hpre : dnT hs fs ⟨s, l⟩ = (hs, ⟨s, l⟩) :: dnL hs 0 (hdN fs) fs.tail l := rfl
        have HPRE := hide hpre
        clear hpre
        by_cases hlt : k < l.length
        · have hst2 := sizeL_ge1 l k hlt
          obtain ⟨b, o, a', c', rfl, d0, d1, hx⟩ := (HSL.out.exq HE2.out HXQ.out).get (Below.refl wr.heap.size wr) (fun _ _ h => h) k hlt
          have hbX : X b := by
            obtain ⟨_, h1⟩ := HSL.out
            rcases h1 with h1 | ⟨b', o', e', h1⟩
            · rw [h1] at hlt; simp at hlt
            · cases e'; exact (lies_get _ _ _ h1 k hlt).1
          have HXX := hide hx
          have HT := hide (dnL_take hs (hdN fs) fs.tail l k hlt hst)
          have HSM : Hid ((hs ++ [(k : Int)]).length + sizeL [l[k]] ≤ 900000) := by unfold Hid; simp; omega
          have HATk := hide (HAT.out k hlt hst)
          have HSPL : Hid (dnL hs 0 (hdN fs) fs.tail l = dnL hs 0 (hdN fs) fs.tail (l.take k) ++ (dnT (hs ++ [(k : Int)]) (if k = hdN fs then fs.tail else []) l[k] ++ dnL hs (0 + (l.take (k + 1)).length) (hdN fs) fs.tail (l.drop (k + 1)))) := by
            unfold Hid
            rw [← List.append_assoc, ← HT.out, ← dnL_append, List.take_append_drop]
          have HOKk : Hid (((pre ++ (hs, ⟨s, l⟩) :: dnL hs 0 (hdN fs) fs.tail (l.take k)) ++ dnT (hs ++ [(k : Int)]) (if k = hdN fs then fs.tail else []) l[k]) <+: all) := List.IsPrefix.trans ⟨dnL hs (0 + (l.take (k + 1)).length) (hdN fs) fs.tail (l.drop (k + 1)), by rw [HPRE.out, HSPL.out]; simp⟩ HOK.out
          generalize hqv : (if k = hdN fs then rv else .slice none 0 0) = qv at *
          clear hqv
          generalize (if k = hdN fs then fs.tail else []) = ql at *
          clear hx hst2
          have HS0 := hide (And.intro K2 (And.intro d0 d1))
          go_wp2_with fail
          have hbW : Below wr.heap.size wr (wr.alloc (.cells #[.int .i64 (k : Int)] 3)).drew := ((Below.refl _ _).alloc (Nat.le_refl _) _).drew
          have HBW := hide hbW
          have HOU : Hid (((wr.alloc (.cells #[.int .i64 (k : Int)] 3)).drew).ownsRow N 3 1 u hs.length (hs.map fun z => .int .i64 z)) := ownsRow_at HO2.out fun g hg => hbW.block g (HO2.out.lt g hg).2
          have HNW : Hid (N ≤ ((wr.alloc (.cells #[.int .i64 (k : Int)] 3)).drew).heap.size) := by unfold Hid; simp; omega
          have HFW : Hid (((wr.alloc (.cells #[.int .i64 (k : Int)] 3)).drew).heap[wr.heap.size]? = some (.cells #[.int .i64 (k : Int)] 3 (0, 0))) := heap_alloc_new wr (.cells #[.int .i64 (k : Int)] 3)
          have HSE : Hid (∀ u2 W2, ((wr.alloc (.cells #[.int .i64 (k : Int)] 3)).drew).grownBy W2 u.ownBlock → Ext (wr.alloc (.cells #[.int .i64 (k : Int)] 3)).drew W2 u u2 hs.length → (W2.cell? ⟨w.heap.size, 1, none⟩ = some (.slice (some ⟨b, o, none⟩) l.length c) ∧ W2.cell? ⟨b, o + k * 2, none⟩ = some (.string l[k].name) ∧ W2.cell? ⟨b, o + k * 2 + 1, none⟩ = some (.slice a' l[k].args.length c')) ∧ (∀ b, f2 b ∨ K b → W2.heap[b]? = wr.heap[b]?) ∧ (∀ b, X b → W2.heap[b]? = wr.heap[b]?) ∧ wr.heap.size < W2.heap.size ∧ (∀ g, u2.ownBlock = some g → ¬ f2 g) ∧ (∀ g, u2.ownBlock = some g → u.ownBlock = some g ∨ wr.heap.size ≤ g) ∧ ExQ (fun b => u.ownBlock = some b) wr W2 ∧
              ∀ w5, ExQ (fun b => f2 b ∨ u2.ownBlock = some b) W2 w5 → w5.cell? ⟨w.heap.size, 1, none⟩ = some (.slice (some ⟨b, o, none⟩) l.length c) ∧ w5.cell? ⟨b, o + k * 2, none⟩ = some (.string l[k].name) ∧ w5.cell? ⟨b, o + k * 2 + 1, none⟩ = some (.slice a' l[k].args.length c')) := fun u2 W2 hg2 he2 => by
            have hbN := HX.out b hbX
            have hgz := hg2.size
            simp at hgz
            have kp : ∀ j, j < wr.heap.size → u.ownBlock ≠ some j → W2.heap[j]? = wr.heap[j]? := fun j hj hne => (hg2.block j (by simp; omega) (fun e => hne e.symm)).trans (HBW.out.block j hj)
            have hE : ∀ g, u2.ownBlock = some g → u.ownBlock = some g ∨ wr.heap.size ≤ g := fun g hg => by
              rcases he2 with ⟨g2, cap, e3, e4⟩ | ⟨hn, _⟩
              · left; rw [e4] at hg; rw [e3]; exact hg
              · right; have := hn g hg; simp at this; omega
            have e0 := kp w.heap.size (by omega) HBu.out
            have e1 := kp b (by omega) (fun e => HXu.out b hbX e.symm)
            refine ⟨⟨(World.cell?_of_block e0).trans HS0.out.1, (World.cell?_of_block e1).trans HS0.out.2.1, (World.cell?_of_block e1).trans HS0.out.2.2⟩, fun j hj => kp j (HBf2.out j hj) (fun e => by
              rcases hj with hj | hj
              · exact HUF2.out j e hj
              · have := HK.out j hj; have := (hltu.out j e).1; omega), fun j hj => kp j (by have := HX.out j hj; omega) (fun e => HXu.out j hj e.symm), by omega, fun g hg h => ?_, hE, ⟨hg2.os, hg2.tape, hg2.output, by omega, fun j hj hne => kp j hj hne⟩, fun w5 hf => ?_⟩
            · rcases hE g hg with e | e
              · exact HUF2.out g e h
              · have := HBf2.out g (Or.inl h); omega
            · have f0 : w5.heap[w.heap.size]? = wr.heap[w.heap.size]? := (hf.block _ (by omega) (fun h => by
                rcases h with h | h
                · exact HB2.out h
                · rcases hE _ h with h | h
                  · exact HBu.out h
                  · omega)).trans e0
              have f1 : w5.heap[b]? = wr.heap[b]? := (hf.block _ (by omega) (fun h => by
                rcases h with h | h
                · exact (HX2.out b hbX).2 h
                · rcases hE _ h with h | h
                  · exact HXu.out b hbX h.symm
                  · omega)).trans e1
              exact ⟨(World.cell?_of_block f0).trans HS0.out.1, (World.cell?_of_block f1).trans HS0.out.2.1, (World.cell?_of_block f1).trans HS0.out.2.2⟩
          clear hbW
          go_region_held3 (fun w' => w'.cell? ⟨w.heap.size, 1, none⟩ = some (.slice (some ⟨b, o, none⟩) l.length c) ∧ w'.cell? ⟨b, o + k * 2, none⟩ = some (.string l[k].name) ∧ w'.cell? ⟨b, o + k * 2 + 1, none⟩ = some (.slice a' l[k].args.length c')) (first | exact HS0.out | exact hS5 | exact hS2 | go_keep)
            (first
              | (refine step_here (N := N) (hs := hs) (u := u) rfl _ _ rfl rfl rfl (k : Int) _ rfl HOU.out HNW.out HFW.out hhs ?_; intro u2 W2 ho2 hg2 he2; obtain ⟨hS2, kf, kX, hw2, hu2, hu2', hq2, hK3⟩ := HSE.out u2 W2 hg2 he2; have HO22 := hide ho2; have HG2 := hide hg2; have HX22 := hide he2; have HQ2 := hide hq2; have HU2 := hide hu2'; have hx2 := HXX.out.kept kX; have hp2 := HPV2.out.kept kX; have hj2 := HJx.out.abide HJ2.out (by omega) kf)
              | (go_at_call 105; refine (IH.out _ (List.getElem_mem hlt) _ _ _ _ _ _ f2 _ X hx2 hp2 HATk.out HX2.out (by omega) ho2 hu2 hj2 HSM.out HOKk.out).mono ?_; rintro e w5 ⟨s5, rfl, hw5, ho5⟩; have HW5 := hide hw5; have hS5 := hK3 w5 hw5.exq; have HO5 := hide ho5; clear hw5 ho5))
          clear hS5 hx2 hp2 hS2 ho2 hg2 he2 kf kX hu2 hu2' hq2 hj2 hK3
          cases s5 with
          | false =>
            go_wp2_with fail
            go_ret
            refine ⟨false, rfl, ?_, by simp⟩
            rw [HPRE.out, HSPL.out, ← List.cons_append]
            refine Went.from (Went.trans HJ2.out HE2.out HFF2.out (Went.stop (Went.from (g' := fun b => u.ownBlock = some b) HW5.out HQ2.out HU2.out)) (fun b hb => Or.inl hb)) (HE0.out.mono fun _ h _ => h.elim) (fun b hb => Or.inl hb)
          | true =>
            have hf5 := Went.end_true (Went.trans HJ2.out HE2.out HFF2.out (Went.from (g' := fun b => u.ownBlock = some b) HW5.out HQ2.out HU2.out) (fun b hb => Or.inl hb))
            obtain ⟨f5, hj5, he5, hff5⟩ := hf5
            have HJ5 := hide hj5
            have HE5 := hide he5
            have HFF5 := hide hff5
            clear hj5 he5 hff5
            have HOB : Hid (w5.ownsRow N 3 1 u hs.length (hs.map fun z => .int .i64 z)) := here_backQ HOU.out HG2.out HX22.out (HO5.out rfl) HW5.out.exq (fun g hg hne h => by
              rcases h with h | h
              · exact HUF2.out g hg h
              · exact hne h)
            go_wp2_with fail
            go_roundw
            case rel =>
              refine ⟨⟨k + 1, f5, by omega, by omega, by go_num, by rw [if_neg (by omega)], ?_, HE5.out, HFF5.out, HOB.out⟩, ?_⟩
              · rw [HT.out]
                simpa using HJ5.out
              · have e1 : (intOf (.int .i64 ((k : Int) + 1))).toNat = k + 1 := by simp [intOf]
                have e2 : ¬ (k + 1 = hdN fs) := by omega
                simp only [e1, e2, if_false]
                exact ⟨none, 0, rfl, by simp, Or.inl rfl⟩
            case measure => simp [intOf]; omega
        · have htk : l.take k = l := List.take_of_length_le (by omega)
          have HF : Hid (Went J (dnT hs fs ⟨s, l⟩) pre f (fun b => u.ownBlock = some b) w true wr) := by
            rw [htk] at HJ2
            exact ⟨_, f2, Nat.le_refl _, fun _ => rfl, by rw [HPRE.out, List.take_length]; exact HJ2.out, (HE0.out.mono fun _ h _ => h.elim).trans HE2.out, fun b hb => by
              rcases HFF2.out b hb with h | h
              · exact Or.inl h
              · right; have := hw0.out; omega⟩
          generalize (if k = hdN fs then rv else .slice none 0 0) = qv at *
          go_wp2_with fail
          gi_wp2
          go_ret
          exact ⟨true, rfl, HF.out, fun _ => HO2.out⟩
#print axioms nextI_any
#print axioms downI_any
end Go.Proofs.Ythlgknglalcggac

/- Walks: two terms that are the same. -/
namespace Go.Proofs.Ythlgknglalcggac
open Go.RowKit
set_option linter.unusedSimpArgs false
set_option linter.unusedVariables false

theorem same_cells {w w1 : World} {n : Nat} {p1 p2 p3 p4 p5 p6 : Addr} {v1 v2 v3 v4 v5 v6 : Value} (hb : Below (w.drewN n).heap.size (w.drewN n) w1)
    (h : w.cell? p1 = some v1 ∧ w.cell? p2 = some v2 ∧ w.cell? p3 = some v3 ∧ w.cell? p4 = some v4 ∧ w.cell? p5 = some v5 ∧ w.cell? p6 = some v6) :
    w1.cell? p1 = some v1 ∧ w1.cell? p2 = some v2 ∧ w1.cell? p3 = some v3 ∧ w1.cell? p4 = some v4 ∧ w1.cell? p5 = some v5 ∧ w1.cell? p6 = some v6 := by
  have hb' : Below w.heap.size w w1 := (below_drewN (Below.refl _ _) n).trans (hb.mono (by simp))
  exact ⟨cell_later hb' h.1, cell_later hb' h.2.1, cell_later hb' h.2.2.1, cell_later hb' h.2.2.2.1, cell_later hb' h.2.2.2.2.1, cell_later hb' h.2.2.2.2.2⟩

set_option maxHeartbeats 1000000 in
theorem same_any (t : Tm) : ∀ (v u : Value) (w : World) (X Y : Nat → Prop), TV w X v t → TV w Y u t →
    Calls Try.prog 27 #[v, u] w fun e w' => e = .returned (.bool true) ∧ Below w.heap.size w w' := by
  induction t using Tm.ind with
  | h s l ih =>
    intro v u w X Y hv hu
    have IH := hide ih
    clear ih
    obtain ⟨a, c, rfl, hs⟩ := hv
    obtain ⟨a2, c2, rfl, hs2⟩ := hu
    have hl := hs.1
    go_enter Try.func27, Try.ntmps27
    go_wp2_with fail
    go_loopw [5] (fun i wr => ∃ (k : Nat), k ≤ l.length ∧ i = .int .i64 k ∧ Below w.heap.size w wr ∧ wr.cell? ⟨w.heap.size, 1, none⟩ = some (.slice a l.length c) ∧ wr.cell? ⟨w.heap.size + 1, 1, none⟩ = some (.slice a2 l.length c2) ∧ w.heap.size + 2 ≤ wr.heap.size) (fun i wr => l.length - (intOf i).toNat)
    case atStart => exact ⟨0, Nat.zero_le _, rfl, below2 _ _, by simp, by simp, by simp⟩
    case round =>
      obtain ⟨k, hk, rfl, hb, hc1, hc2, hsz⟩ := hrel
      by_cases hlt : k < l.length
      · obtain ⟨b, o, a', c', rfl, d0, d1, hx⟩ := hs.get hb (fun _ _ h => h) k hlt
        obtain ⟨b2, o2, a2', c2', rfl, e0, e1, hx2⟩ := hs2.get hb (fun _ _ h => h) k hlt
        have HX := hide hx
        have HX2 := hide hx2
        have HB := hide hb
        have HS0 := hide (And.intro hc1 (And.intro hc2 (And.intro d0 (And.intro d1 (And.intro e0 e1)))))
        clear hx hx2 hb
        go_wp2_with fail
        go_region_held3 (fun w' => w'.cell? ⟨w.heap.size, 1, none⟩ = some (.slice (some ⟨b, o, none⟩) l.length c) ∧ w'.cell? ⟨w.heap.size + 1, 1, none⟩ = some (.slice (some ⟨b2, o2, none⟩) l.length c2) ∧ w'.cell? ⟨b, o + k * 2, none⟩ = some (.string l[k].name) ∧ w'.cell? ⟨b, o + k * 2 + 1, none⟩ = some (.slice a' l[k].args.length c') ∧ w'.cell? ⟨b2, o2 + k * 2, none⟩ = some (.string l[k].name) ∧ w'.cell? ⟨b2, o2 + k * 2 + 1, none⟩ = some (.slice a2' l[k].args.length c2')) (first | exact HS0.out | exact hS1)
          ((go_at_call 27; refine (IH.out _ (List.getElem_mem hlt) _ _ _ X Y (by exact HX.out.later (below_drewN (Below.refl _ _) 1)) (by exact HX2.out.later (below_drewN (Below.refl _ _) 1))).mono ?_; rintro e w1 ⟨rfl, hb1⟩; have hS1 := same_cells (n := 1) hb1 HS0.out))
        go_wp2_with fail
        go_roundw
        case rel => exact ⟨k + 1, by omega, by go_num, (HB.out.trans (below_drewN (Below.refl _ _) 1)).trans (hb1.mono (by simp; omega)), hS1.1, hS1.2.1, by have := hb1.size; simp at this; omega⟩
        case measure => simp [intOf]; omega
      · go_wp2_with fail
        go_ret
        exact ⟨rfl, hb⟩
#print axioms same_any
end Go.Proofs.Ythlgknglalcggac

/- Walks: whether two terms are the same. -/
namespace Go.Proofs.Ythlgknglalcggac
open Go.RowKit
set_option linter.unusedSimpArgs false
set_option linter.unusedVariables false
set_option maxRecDepth 8000

def eqL : List Tm → List Tm → Bool
  | [], [] => true
  | ⟨s, a⟩ :: r, t :: ts => ((s.toList == t.name.toList) && ((a.length == t.args.length) && eqL a t.args)) && eqL r ts
  | _, _ => false
/-- Two terms are the same. -/
def sameB (a b : Tm) : Bool := (a.name.toList == b.name.toList) && ((a.args.length == b.args.length) && eqL a.args b.args)
theorem eqL_cons (x t : Tm) (r ts : List Tm) : eqL (x :: r) (t :: ts) = (sameB x t && eqL r ts) := by obtain ⟨s, a⟩ := x; simp only [eqL, sameB]
theorem eqL_append : ∀ (a b c d : List Tm), a.length = b.length → eqL (a ++ c) (b ++ d) = (eqL a b && eqL c d)
  | [], [], c, d, _ => by simp [eqL]
  | [], _ :: _, _, _, h => by simp at h
  | _ :: _, [], _, _, h => by simp at h
  | x :: r, t :: ts, c, d, h => by rw [List.cons_append, List.cons_append, eqL_cons, eqL_cons, eqL_append r ts c d (by simpa using h), Bool.and_assoc]
theorem eqL_take {l m : List Tm} {k : Nat} (h : k < l.length) (h2 : k < m.length) : eqL (l.take (k + 1)) (m.take (k + 1)) = (eqL (l.take k) (m.take k) && sameB l[k] m[k]) := by
  rw [List.take_succ_eq_append_getElem h, List.take_succ_eq_append_getElem h2, eqL_append _ _ _ _ (by simp; omega), eqL_cons]
  simp [eqL]
theorem eqL_no {l m : List Tm} {k : Nat} (h : k < l.length) (hlm : l.length = m.length) (h0 : sameB l[k] (m[k]'(by omega)) = false) : eqL l m = false := by
  have e1 : l = l.take (k + 1) ++ l.drop (k + 1) := (List.take_append_drop _ _).symm
  have e2 : m = m.take (k + 1) ++ m.drop (k + 1) := (List.take_append_drop _ _).symm
  rw [e1, e2, eqL_append _ _ _ _ (by simp; omega), eqL_take h (by omega), h0]
  simp

def SaInv (w : World) (l m : List Tm) (a a2 : Option Addr) (c c2 : Nat) (i : Value) (wr : World) : Prop :=
  ∃ (k : Nat), k ≤ l.length ∧ i = .int .i64 k ∧ eqL (l.take k) (m.take k) = true ∧ Below w.heap.size w wr ∧ wr.cell? ⟨w.heap.size, 1, none⟩ = some (.slice a l.length c) ∧ wr.cell? ⟨w.heap.size + 1, 1, none⟩ = some (.slice a2 l.length c2) ∧ w.heap.size + 2 ≤ wr.heap.size

set_option maxHeartbeats 2000000 in
theorem sameR_all (t : Tm) : ∀ (x : Tm) (v u : Value) (w : World) (X Y : Nat → Prop), TV w X v t → TV w Y u x →
    Calls Try.prog 27 #[v, u] w fun e w' => e = .returned (.bool (sameB t x)) ∧ Below w.heap.size w w' := by
  induction t using Tm.ind with
  | h s l ih =>
    intro x v u w X Y hv hu
    obtain ⟨s2, m⟩ := x
    have IH := hide ih
    clear ih
    obtain ⟨a, c, rfl, hs⟩ := hv
    obtain ⟨a2, c2, rfl, hs2⟩ := hu
    have hl := hs.1
    have hl2 := hs2.1
    dsimp only
    cases hn : (s.toList == s2.toList) with
    | false =>
      have HR : Hid (false = sameB ⟨s, l⟩ ⟨s2, m⟩) := by unfold Hid sameB; rw [hn]; rfl
      go_enter Try.func27, Try.ntmps27
      go_wp2_with fail
      go_ret
      exact ⟨ret_bool HR.out, below2 _ _⟩
    | true =>
      by_cases hm : l.length = m.length
      · have HR : Hid (eqL l m = sameB ⟨s, l⟩ ⟨s2, m⟩) := by unfold Hid sameB; simp [hn, hm]
        have HM := hide hm
        rw [← hm]
        clear hm
        go_enter Try.func27, Try.ntmps27
        go_wp2_with fail
        go_loopw [5] (fun i wr => SaInv w l m a a2 c c2 i wr) (fun i wr => l.length - (intOf i).toNat)
        case atStart => exact ⟨0, Nat.zero_le _, rfl, by simp [eqL], below2 _ _, by simp, by simp, by simp⟩
        case round =>
          obtain ⟨k, hk, rfl, hq, hb, hc1, hc2, hsz⟩ := hrel
          have HQ := hide hq
          clear hq
          by_cases hlt : k < l.length
          · obtain ⟨b, o, a', c', rfl, d0, d1, hx⟩ := hs.get hb (fun _ _ h => h) k hlt
            obtain ⟨b2, o2, a2', c2', rfl, e0, e1, hx2⟩ := hs2.get hb (fun _ _ h => h) k (by have := HM.out; omega)
            have hltm : k < m.length := by have := HM.out; omega
            have HX := hide hx
            have HX2 := hide hx2
            have HB := hide hb
            have HS0 := hide (And.intro hc1 (And.intro hc2 (And.intro d0 (And.intro d1 (And.intro e0 e1)))))
            have IHK := hide (fun (w' : World) => IH.out l[k] (List.getElem_mem hlt) m[k] (.agg #[.string l[k].name, .slice a' l[k].args.length c']) (.agg #[.string m[k].name, .slice a2' m[k].args.length c2']) w' X Y)
            have HT := hide (eqL_take hlt hltm)
            have HNO := hide (eqL_no hlt HM.out)
            clear hx hx2 hb
            generalize l[k] = y at *
            generalize m[k] = z at *
            go_wp2_with fail
            cases hsm : sameB y z with
            | true =>
              rw [hsm] at IHK HT
              go_region_held3 (fun w' => w'.cell? ⟨w.heap.size, 1, none⟩ = some (.slice (some ⟨b, o, none⟩) l.length c) ∧ w'.cell? ⟨w.heap.size + 1, 1, none⟩ = some (.slice (some ⟨b2, o2, none⟩) l.length c2) ∧ w'.cell? ⟨b, o + k * 2, none⟩ = some (.string y.name) ∧ w'.cell? ⟨b, o + k * 2 + 1, none⟩ = some (.slice a' y.args.length c') ∧ w'.cell? ⟨b2, o2 + k * 2, none⟩ = some (.string z.name) ∧ w'.cell? ⟨b2, o2 + k * 2 + 1, none⟩ = some (.slice a2' z.args.length c2')) (first | exact HS0.out | exact hS1 | go_keep)
                ((go_at_call 27; refine (IHK.out _ (by exact HX.out.later (below_drewN (Below.refl _ _) 1)) (by exact HX2.out.later (below_drewN (Below.refl _ _) 1))).mono ?_; rintro e w1 ⟨rfl, hb1⟩; have hS1 := same_cells (n := 1) hb1 HS0.out))
              go_wp2_with fail
              go_roundw
              case rel => exact ⟨k + 1, by omega, by go_num, by rw [HT.out, HQ.out]; rfl, (HB.out.trans (below_drewN (Below.refl _ _) 1)).trans (hb1.mono (by simp; omega)), hS1.1, hS1.2.1, by have := hb1.size; simp at this; omega⟩
              case measure => simp [intOf]; omega
            | false =>
              have HF : Hid (false = sameB ⟨s, l⟩ ⟨s2, m⟩) := by unfold Hid; rw [← HR.out, HNO.out hsm]
              rw [hsm] at IHK
              go_region_held3 (fun w' => w'.cell? ⟨w.heap.size, 1, none⟩ = some (.slice (some ⟨b, o, none⟩) l.length c) ∧ w'.cell? ⟨w.heap.size + 1, 1, none⟩ = some (.slice (some ⟨b2, o2, none⟩) l.length c2) ∧ w'.cell? ⟨b, o + k * 2, none⟩ = some (.string y.name) ∧ w'.cell? ⟨b, o + k * 2 + 1, none⟩ = some (.slice a' y.args.length c') ∧ w'.cell? ⟨b2, o2 + k * 2, none⟩ = some (.string z.name) ∧ w'.cell? ⟨b2, o2 + k * 2 + 1, none⟩ = some (.slice a2' z.args.length c2')) (first | exact HS0.out | exact hS1 | go_keep)
                ((go_at_call 27; refine (IHK.out _ (by exact HX.out.later (below_drewN (Below.refl _ _) 1)) (by exact HX2.out.later (below_drewN (Below.refl _ _) 1))).mono ?_; rintro e w1 ⟨rfl, hb1⟩; have hS1 := same_cells (n := 1) hb1 HS0.out))
              go_wp2_with fail
              go_ret
              exact ⟨ret_bool HF.out, (HB.out.trans (below_drewN (Below.refl _ _) 1)).trans (hb1.mono (by simp; omega))⟩
          · have HF : Hid (true = sameB ⟨s, l⟩ ⟨s2, m⟩) := by
              unfold Hid
              rw [← HR.out, ← HQ.out, List.take_of_length_le (by omega), List.take_of_length_le (by have := HM.out; omega)]
            go_wp2_with fail
            go_ret
            exact ⟨ret_bool HF.out, hb⟩
      · have HR : Hid (false = sameB ⟨s, l⟩ ⟨s2, m⟩) := by unfold Hid sameB; simp [hn, hm]
        have hm2 : ((l.length : Int) == (m.length : Int)) = false := beq_eq_false_iff_ne.2 (by omega)
        clear hm
        go_enter Try.func27, Try.ntmps27
        go_wp2_with fail
        go_ret
        exact ⟨ret_bool HR.out, below2 _ _⟩
#print axioms sameR_all
end Go.Proofs.Ythlgknglalcggac

/- Bindings in the order of their names: plain. -/
namespace Go.Proofs.Ythlgknglalcggac
open Go.RowKit
set_option linter.unusedSimpArgs false
set_option linter.unusedVariables false

/-- One text is ahead of another one. -/
def ltB (a b : ByteArray) : Bool := Op.bytesLess a.toList b.toList
theorem bl_irrefl : ∀ a : List UInt8, Op.bytesLess a a = false
  | [] => rfl
  | x :: r => by simp [Op.bytesLess, bl_irrefl r]
theorem bl_trans : ∀ a b c : List UInt8, Op.bytesLess a b = true → Op.bytesLess b c = true → Op.bytesLess a c = true
  | _, [], _, h, _ => by simp [Op.bytesLess] at h
  | _, _ :: _, [], _, h => by simp [Op.bytesLess] at h
  | [], _ :: _, _ :: _, _, _ => by simp [Op.bytesLess]
  | x :: a, y :: b, z :: c, h1, h2 => by
    simp only [Op.bytesLess, Bool.or_eq_true, Bool.and_eq_true, decide_eq_true_eq, beq_iff_eq] at h1 h2 ⊢
    rw [UInt8.lt_iff_toNat_lt] at h1 h2 ⊢
    rcases h1 with h1 | ⟨rfl, h1⟩ <;> rcases h2 with h2 | ⟨rfl, h2⟩
    · left; omega
    · left; exact h1
    · left; exact h2
    · right; exact ⟨rfl, bl_trans a b c h1 h2⟩
theorem bl_conn : ∀ a b : List UInt8, Op.bytesLess a b = false → Op.bytesLess b a = false → a = b
  | [], [], _, _ => rfl
  | [], _ :: _, h, _ => by simp [Op.bytesLess] at h
  | _ :: _, [], _, h => by simp [Op.bytesLess] at h
  | x :: a, y :: b, h1, h2 => by
    simp only [Op.bytesLess, Bool.or_eq_false_iff, decide_eq_false_iff_not] at h1 h2
    obtain ⟨h1, h3⟩ := h1
    obtain ⟨h2, h4⟩ := h2
    rw [UInt8.lt_iff_toNat_lt] at h1 h2
    have e : x = y := UInt8.toNat_inj.mp (by omega)
    subst e
    simp only [BEq.rfl, Bool.true_and] at h3 h4
    rw [bl_conn a b h3 h4]
theorem ltB_irrefl (a : ByteArray) : ltB a a = false := bl_irrefl _
theorem ltB_trans {a b c : ByteArray} (h1 : ltB a b = true) (h2 : ltB b c = true) : ltB a c = true := bl_trans _ _ _ h1 h2
theorem ltB_conn {a b : ByteArray} (h1 : ltB a b = false) (h2 : ltB b a = false) : a = b := bytes_inj (bl_conn _ _ h1 h2)
theorem ltB_asymm {a b : ByteArray} (h : ltB a b = true) : ltB b a = false := by
  cases hb : ltB b a with
  | false => rfl
  | true => have := ltB_trans h hb; rw [ltB_irrefl] at this; cases this
theorem ltB_ntrans {a b c : ByteArray} (h1 : ltB a b = false) (h2 : ltB b c = false) : ltB a c = false := by
  cases h : ltB a c with
  | false => rfl
  | true =>
    cases h3 : ltB b a with
    | true => rw [ltB_trans h3 h] at h2; cases h2
    | false =>
      have e := ltB_conn h1 h3
      subst e
      rw [h] at h2; cases h2

/-- No name twice, and each ahead of the next. -/
def SortedB (l : List Bd) : Prop := l.Pairwise fun a b => ltB a.nm b.nm = true
/-- No name twice. -/
def ApartB (l : List Bd) : Prop := l.Pairwise fun a b => a.nm ≠ b.nm
theorem SortedB.apart {l : List Bd} (h : SortedB l) : ApartB l := h.imp fun {a b} h e => by rw [e, ltB_irrefl] at h; cases h
theorem ApartB.perm {l k : List Bd} (h : ApartB l) (hp : k.Perm l) : ApartB k := (hp.pairwise_iff (fun {_ _} hne => Ne.symm hne)).2 h
theorem sortedB_unique {l k : List Bd} (hp : l.Perm k) (h1 : SortedB l) (h2 : SortedB k) : l = k :=
  List.Perm.eq_of_pairwise (le := fun a b : Bd => ltB a.nm b.nm = true) (fun a b _ _ h3 h4 => by rw [ltB_asymm h3] at h4; cases h4) h1 h2 hp
/-- Sorted, if none is behind one that it is ahead of. -/
theorem sortedB_of {l : List Bd} (ha : ApartB l) (h : l.Pairwise fun a b => ltB b.nm a.nm = false) : SortedB l := by
  unfold SortedB ApartB at *
  refine (List.pairwise_and_iff.2 ⟨ha, h⟩).imp fun {a b} ⟨h1, h2⟩ => ?_
  cases h3 : ltB a.nm b.nm with
  | true => rfl
  | false => exact absurd (ltB_conn h3 h2) h1

/-- A binding as the map holds it. -/
def toP (x : Bc) : ByteArray × Value := (x.1.nm, .agg #[.string x.1.t.name, .slice x.2.1 x.1.t.args.length x.2.2])
theorem perm_lift {α β : Type} (f : α → β) {l m : List β} (h : l.Perm m) : ∀ zs : List α, zs.map f = m → ∃ zs' : List α, zs'.Perm zs ∧ zs'.map f = l := by
  induction h with
  | nil => intro zs h; exact ⟨zs, List.Perm.refl _, h⟩
  | cons x h ih =>
    intro zs hz
    match zs, hz with
    | z :: zs, hz =>
      simp only [List.map_cons, List.cons.injEq] at hz
      obtain ⟨zs', h1, h2⟩ := ih zs hz.2
      exact ⟨z :: zs', h1.cons z, by simp [h2, hz.1]⟩
  | swap x y l =>
    intro zs hz
    match zs, hz with
    | a :: b :: zs, hz =>
      simp only [List.map_cons, List.cons.injEq] at hz
      exact ⟨b :: a :: zs, List.Perm.swap a b zs, by simp [hz.1, hz.2.1, hz.2.2]⟩
  | trans h1 h2 ih1 ih2 =>
    intro zs hz
    obtain ⟨zs', h3, h4⟩ := ih2 zs hz
    obtain ⟨zs'', h5, h6⟩ := ih1 zs' h4
    exact ⟨zs'', h5.trans h3, h6⟩
/-- The next of those that are still to come. -/
theorem next_lift {Zr : List Bc} {p : ByteArray × Value} {rem : List (ByteArray × Value)} (h : (Zr.map toP).Perm (p :: rem)) : ∃ x Z', Zr.Perm (x :: Z') ∧ p = toP x ∧ rem = Z'.map toP := by
  obtain ⟨zs, h1, h2⟩ := perm_lift toP h.symm Zr rfl
  match zs, h2 with
  | x :: Z', h2 =>
    simp only [List.map_cons, List.cons.injEq] at h2
    exact ⟨x, Z', h1.symm, h2.1.symm, h2.2.symm⟩
#print axioms sortedB_unique
end Go.Proofs.Ythlgknglalcggac

/- One term as a case of another one: plain. -/
namespace Go.Proofs.Ythlgknglalcggac
open Go.RowKit
set_option linter.unusedSimpArgs false
set_option linter.unusedVariables false

/-- What stands for a pattern's variables, found knot by knot. -/
def mtL : List Tm → List Tm → List Bd → Option (List Bd)
  | [], _, h => some h
  | ⟨s, a⟩ :: r, ts, h => match ts with
    | [] => none
    | t :: ts' =>
      match (if varB s = true then (match forT h s with
          | some x => if sameB x t = true then some h else none
          | none => some (h ++ [⟨s, t⟩]))
        else if ((s.toList == t.name.toList) && (a.length == t.args.length)) = true then mtL a t.args h else none) with
      | some h' => mtL r ts' h'
      | none => none
def mtT (p t : Tm) (h : List Bd) : Option (List Bd) :=
  if varB p.name = true then (match forT h p.name with
      | some x => if sameB x t = true then some h else none
      | none => some (h ++ [⟨p.name, t⟩]))
    else if ((p.name.toList == t.name.toList) && (p.args.length == t.args.length)) = true then mtL p.args t.args h else none
theorem mtL_cons (p t : Tm) (r ts : List Tm) (h : List Bd) : mtL (p :: r) (t :: ts) h = (match mtT p t h with
      | some h' => mtL r ts h'
      | none => none) := by obtain ⟨s, a⟩ := p; simp only [mtL, mtT]
theorem mtL_append : ∀ (a b c d : List Tm) (h : List Bd), a.length = b.length → mtL (a ++ c) (b ++ d) h = (match mtL a b h with
      | some h' => mtL c d h'
      | none => none)
  | [], [], c, d, h, _ => by simp [mtL]
  | [], _ :: _, _, _, _, e => by simp at e
  | _ :: _, [], _, _, _, e => by simp at e
  | x :: r, t :: ts, c, d, h, e => by
    rw [List.cons_append, List.cons_append, mtL_cons, mtL_cons]
    cases mtT x t h with
    | none => rfl
    | some h' => exact mtL_append r ts c d h' (by simpa using e)
theorem mtL_take {l m : List Tm} {k : Nat} (h : k < l.length) (h2 : k < m.length) (hv : List Bd) : mtL (l.take (k + 1)) (m.take (k + 1)) hv = (match mtL (l.take k) (m.take k) hv with
      | some h' => mtT l[k] m[k] h'
      | none => none) := by
  rw [List.take_succ_eq_append_getElem h, List.take_succ_eq_append_getElem h2, mtL_append _ _ _ _ _ (by simp; omega)]
  cases mtL (l.take k) (m.take k) hv with
  | none => rfl
  | some h' =>
    show mtL [l[k]] [m[k]] h' = mtT l[k] m[k] h'
    rw [mtL_cons]
    cases mtT l[k] m[k] h' with
    | none => rfl
    | some h'' => simp [mtL]
theorem mtL_no {l m : List Tm} {k : Nat} {hv h' : List Bd} (h : k < l.length) (hlm : l.length = m.length) (h1 : mtL (l.take k) (m.take k) hv = some h') (h0 : mtT l[k] (m[k]'(by omega)) h' = none) : mtL l m hv = none := by
  have e1 : l = l.take (k + 1) ++ l.drop (k + 1) := (List.take_append_drop _ _).symm
  have e2 : m = m.take (k + 1) ++ m.drop (k + 1) := (List.take_append_drop _ _).symm
  rw [e1, e2, mtL_append _ _ _ _ _ (by simp; omega), mtL_take h (by omega), h1]
  simp only [h0]
theorem mtL_next {l m : List Tm} {k : Nat} {hv h' h'' : List Bd} (h : k < l.length) (h2 : k < m.length) (h1 : mtL (l.take k) (m.take k) hv = some h') (h0 : mtT l[k] m[k] h' = some h'') : mtL (l.take (k + 1)) (m.take (k + 1)) hv = some h'' := by
  rw [mtL_take h h2, h1]
  exact h0
theorem mtT_deep {s s2 : ByteArray} {l m : List Tm} {h : List Bd} (hv : varB s = false) (hn : (s.toList == s2.toList) = true) (hl : l.length = m.length) : mtT ⟨s, l⟩ ⟨s2, m⟩ h = mtL l m h := by
  simp [mtT, hv, hn, hl]
theorem mtT_off {s s2 : ByteArray} {l m : List Tm} {h : List Bd} (hv : varB s = false) (hn : ((s.toList == s2.toList) && (l.length == m.length)) = false) : mtT ⟨s, l⟩ ⟨s2, m⟩ h = none := by
  unfold mtT
  rw [if_neg (by rw [hv]; simp), if_neg (by simp only [hn]; simp)]
theorem mtT_new {s : ByteArray} {l : List Tm} {t : Tm} {h : List Bd} (hv : varB s = true) (hf : forT h s = none) : mtT ⟨s, l⟩ t h = some (h ++ [⟨s, t⟩]) := by simp [mtT, hv, hf]
theorem mtT_old {s : ByteArray} {l : List Tm} {t x : Tm} {h : List Bd} (hv : varB s = true) (hf : forT h s = some x) : mtT ⟨s, l⟩ t h = if sameB x t = true then some h else none := by simp [mtT, hv, hf]

/-- No name twice, and not more than there are knots; the terms are knots of the other one. -/
theorem forT_none {h : List Bd} {s : ByteArray} (hf : forT h s = none) : ∀ d ∈ h, d.nm ≠ s := by
  induction h with
  | nil => intro d hd; cases hd
  | cons a r ih =>
    intro d hd
    rw [forT] at hf
    split at hf
    · cases hf
    · rename_i hne
      rcases List.mem_cons.1 hd with rfl | hd
      · exact hne
      · exact ih hf d hd
theorem mtT_apart_one {p t : Tm} {h h' : List Bd} (ih : ∀ ts g g', mtL p.args ts g = some g' → ApartB g → ApartB g' ∧ g'.length ≤ g.length + sizeL p.args) (he : mtT p t h = some h') (ha : ApartB h) : ApartB h' ∧ h'.length ≤ h.length + (1 + sizeL p.args) := by
  unfold mtT at he
  split at he
  · split at he
    · split at he
      · cases he; exact ⟨ha, by omega⟩
      · cases he
    · rename_i hf
      cases he
      refine ⟨List.pairwise_append.2 ⟨ha, by simp, fun a h1 b h2 => ?_⟩, by simp⟩
      have e : b = ⟨p.name, t⟩ := by simpa using h2
      rw [e]
      exact forT_none hf a h1
  · split at he
    · obtain ⟨h1, h2⟩ := ih _ _ _ he ha
      exact ⟨h1, by omega⟩
    · cases he
theorem mtL_apart : ∀ (l ts : List Tm) (h h' : List Bd), mtL l ts h = some h' → ApartB h → ApartB h' ∧ h'.length ≤ h.length + sizeL l := by
  intro l
  induction l using Tm.indL with
  | h0 => intro ts h h' he ha; simp [mtL] at he; subst he; exact ⟨ha, by simp⟩
  | h s l r ihl ihr =>
    intro ts h h' he ha
    cases ts with
    | nil => simp [mtL] at he
    | cons t ts =>
      rw [mtL_cons] at he
      cases hm : mtT ⟨s, l⟩ t h with
      | none => rw [hm] at he; cases he
      | some g =>
        rw [hm] at he
        obtain ⟨h1, h2⟩ := mtT_apart_one (p := ⟨s, l⟩) (fun ts g g' h3 h4 => ihl ts g g' h3 h4) hm ha
        obtain ⟨h3, h4⟩ := ihr ts g h' he h1
        refine ⟨h3, ?_⟩
        simp only [sizeL]
        simp only at h2
        omega
theorem mtT_apart {p t : Tm} {h h' : List Bd} (he : mtT p t h = some h') (ha : ApartB h) : ApartB h' ∧ h'.length ≤ h.length + sizeL [p] := by
  obtain ⟨h1, h2⟩ := mtT_apart_one (fun ts g g' h3 h4 => mtL_apart p.args ts g g' h3 h4) he ha
  refine ⟨h1, ?_⟩
  obtain ⟨s, a⟩ := p
  simp [sizeL] at h2 ⊢
  omega
#print axioms mtT_apart
end Go.Proofs.Ythlgknglalcggac

/- One term has another one's symbols wherever that has some: plain. -/
namespace Go.Proofs.Ythlgknglalcggac
open Go.RowKit
set_option linter.unusedSimpArgs false
set_option linter.unusedVariables false

/-- Symbols, and how many there are below, are the pattern's, wherever the pattern has one. -/
def shL : List Tm → List Tm → Bool
  | [], _ => true
  | ⟨s, a⟩ :: r, ts => match ts with
    | [] => false
    | t :: ts' => (varB s || ((s.toList == t.name.toList) && (a.length == t.args.length) && shL a t.args)) && shL r ts'
def shT (p t : Tm) : Bool := varB p.name || ((p.name.toList == t.name.toList) && (p.args.length == t.args.length) && shL p.args t.args)
theorem shL_cons (p t : Tm) (r ts : List Tm) : shL (p :: r) (t :: ts) = (shT p t && shL r ts) := by obtain ⟨s, a⟩ := p; simp only [shL, shT]
theorem shT_deep {s s2 : ByteArray} {l m : List Tm} (hv : varB s = false) : shT ⟨s, l⟩ ⟨s2, m⟩ = ((s.toList == s2.toList) && (l.length == m.length) && shL l m) := by simp [shT, hv]
theorem shT_var {s : ByteArray} {l : List Tm} {t : Tm} (hv : varB s = true) : shT ⟨s, l⟩ t = true := by simp [shT, hv]
theorem shL_iff : ∀ (l m : List Tm), l.length = m.length → (shL l m = true ↔ ∀ k (h : k < l.length) (h2 : k < m.length), shT l[k] m[k] = true)
  | [], m, _ => by simp [shL]
  | _ :: _, [], e => by simp at e
  | p :: r, t :: ts, e => by
    have ih := shL_iff r ts (by simpa using e)
    rw [shL_cons, Bool.and_eq_true, ih]
    refine ⟨fun h k h1 h2 => ?_, fun h => ⟨h 0 (by simp) (by simp), fun k h1 h2 => h (k + 1) (by simpa using h1) (by simpa using h2)⟩⟩
    cases k with
    | zero => exact h.1
    | succ k => exact h.2 k (by simpa using h1) (by simpa using h2)
theorem shL_no {l m : List Tm} {k : Nat} (hlm : l.length = m.length) (h : k < l.length) (h2 : k < m.length) (h0 : shT l[k] m[k] = false) : shL l m = false := by
  cases hs : shL l m with
  | false => rfl
  | true => rw [(shL_iff l m hlm).1 hs k h h2] at h0; cases h0
/-- Where they aren't, nothing makes one the other. -/
theorem mtL_unshaped : ∀ (l m : List Tm) (h : List Bd), l.length = m.length → shL l m = false → mtL l m h = none := by
  intro l
  induction l using Tm.indL with
  | h0 => intro m h _ hs; simp [shL] at hs
  | h s a r iha ihr =>
    intro m h hlm hs
    cases m with
    | nil => simp at hlm
    | cons t ts =>
      rw [shL_cons] at hs
      rw [mtL_cons]
      cases h1 : shT ⟨s, a⟩ t with
      | true =>
        rw [h1, Bool.true_and] at hs
        cases mtT ⟨s, a⟩ t h with
        | none => rfl
        | some h' => exact ihr ts h' (by simpa using hlm) hs
      | false =>
        obtain ⟨s2, m2⟩ := t
        have hv : varB s = false := by
          cases hv : varB s with
          | false => rfl
          | true => rw [shT_var hv] at h1; cases h1
        rw [shT_deep hv] at h1
        have e : mtT ⟨s, a⟩ ⟨s2, m2⟩ h = none := by
          cases hn : ((s.toList == s2.toList) && (a.length == m2.length)) with
          | false => exact mtT_off hv hn
          | true =>
            rw [hn, Bool.true_and] at h1
            rw [Bool.and_eq_true] at hn
            have hl : a.length = m2.length := by simpa using hn.2
            rw [mtT_deep hv hn.1 hl]
            exact iha m2 h hl h1
        rw [e]
theorem mtT_unshaped {p t : Tm} (h : List Bd) (hs : shT p t = false) : mtT p t h = none := by
  have := mtL_unshaped [p] [t] h rfl (by rw [shL_cons, hs]; rfl)
  rw [mtL_cons] at this
  cases hm : mtT p t h with
  | none => rfl
  | some h' => rw [hm] at this; simp [mtL] at this
#print axioms mtT_unshaped
end Go.Proofs.Ythlgknglalcggac

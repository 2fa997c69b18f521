/- Several texts in one. -/
import Derived.WalkKit
import Derived.WalkSpells
import Derived.WalkLawsBesides
import Derived.Deep.AppendLies
import Derived.Test.YtaifameeoipjjaaRows
import Derived.Deep.RegionHeld
import Derived.Deep.RegionHeld3
import Derived.Deep.DeepCutAuto
/- The tree that a term is, and how it lies in memory: plain mathematics of terms, and what stays where it was. -/
namespace Go.Proofs.Ytaifameeoipjjaa
open Go.RowKit

/-- Kept from the walk. -/
theorem hide {p : Prop} (h : p) : Hid p := h

/-- A term as a tree. -/
structure Tm where
  name : ByteArray
  args : List Tm

theorem Tm.ind {P : Tm → Prop} (h : ∀ s l, (∀ x ∈ l, P x) → P ⟨s, l⟩) (t : Tm) : P t :=
  Tm.rec (motive_1 := P) (motive_2 := fun l => ∀ x ∈ l, P x) (fun s l ih => h s l ih) (fun x hx => by cases hx)
    (fun a l ha hl x hx => by
      rcases List.mem_cons.1 hx with e | e
      · subst e; exact ha
      · exact hl x e) t

theorem Tm.indL {P : List Tm → Prop} (h0 : P []) (h : ∀ s l r, P l → P r → P (⟨s, l⟩ :: r)) (l : List Tm) : P l :=
  Tm.rec_1 (motive_1 := fun t => P t.args) (motive_2 := P) (fun _ _ ih => ih) h0 (fun a l ha hl => by obtain ⟨s, k⟩ := a; exact h s k l ha hl) l

/-- A list of terms lies in a row of cells, two a term, in blocks that X lets. -/
def Lies (w : World) (X : Nat → Prop) : Nat → Nat → List Tm → Prop
  | _, _, [] => True
  | b, o, ⟨s, l⟩ :: r => X b ∧ w.cell? ⟨b, o, none⟩ = some (.string s) ∧
      (∃ a c, w.cell? ⟨b, o + 1, none⟩ = some (.slice a l.length c) ∧ l.length ≤ 9223372036854775807 ∧ (l = [] ∨ ∃ b' o', a = some ⟨b', o', none⟩ ∧ Lies w X b' o' l)) ∧ Lies w X b (o + 2) r

/-- What a slice of terms holds. -/
def Sl (w : World) (X : Nat → Prop) (a : Option Addr) (l : List Tm) : Prop := l.length ≤ 9223372036854775807 ∧ (l = [] ∨ ∃ b o, a = some ⟨b, o, none⟩ ∧ Lies w X b o l)

/-- What a term's value holds. -/
def TV (w : World) (X : Nat → Prop) (v : Value) (t : Tm) : Prop := ∃ a c, v = .agg #[.string t.name, .slice a t.args.length c] ∧ Sl w X a t.args

theorem lies_kept {w w' : World} {X : Nat → Prop} (h : ∀ b, X b → w'.heap[b]? = w.heap[b]?) (l : List Tm) : ∀ b o, Lies w X b o l → Lies w' X b o l := by
  induction l using Tm.indL with
  | h0 => intro b o _; simp [Lies]
  | h s l r ihl ihr =>
    intro b o hl
    simp only [Lies] at hl ⊢
    obtain ⟨hx, h1, ⟨a, c, h2, h2', h3⟩, h4⟩ := hl
    refine ⟨hx, by rw [World.cell?_of_block (h b hx)]; exact h1, ⟨a, c, by rw [World.cell?_of_block (h b hx)]; exact h2, h2', ?_⟩, ihr _ _ h4⟩
    rcases h3 with h3 | ⟨b', o', h3, h5⟩
    · exact Or.inl h3
    · exact Or.inr ⟨b', o', h3, ihl _ _ h5⟩

theorem lies_mono {w : World} {X Y : Nat → Prop} (h : ∀ b, X b → b < w.heap.size → Y b) (l : List Tm) : ∀ b o, Lies w X b o l → Lies w Y b o l := by
  induction l using Tm.indL with
  | h0 => intro b o _; simp [Lies]
  | h s l r ihl ihr =>
    intro b o hl
    simp only [Lies] at hl ⊢
    obtain ⟨hx, h1, ⟨a, c, h2, h2', h3⟩, h4⟩ := hl
    have hb : b < w.heap.size := by
      apply Classical.byContradiction
      intro hn
      have e : w.heap[b]? = none := Array.getElem?_eq_none (by omega)
      simp [World.cell?, e] at h1
    refine ⟨h b hx hb, h1, ⟨a, c, h2, h2', ?_⟩, ihr _ _ h4⟩
    rcases h3 with h3 | ⟨b', o', h3, h5⟩
    · exact Or.inl h3
    · exact Or.inr ⟨b', o', h3, ihl _ _ h5⟩

theorem Sl.kept {w w' : World} {X : Nat → Prop} {a : Option Addr} {l : List Tm} (h : Sl w X a l) (hk : ∀ b, X b → w'.heap[b]? = w.heap[b]?) : Sl w' X a l := by
  obtain ⟨hl, h⟩ := h
  refine ⟨hl, ?_⟩
  rcases h with h | ⟨b, o, e, h⟩
  · exact Or.inl h
  · exact Or.inr ⟨b, o, e, lies_kept hk _ _ _ h⟩

theorem Sl.mono {w : World} {X Y : Nat → Prop} {a : Option Addr} {l : List Tm} (h : Sl w X a l) (hk : ∀ b, X b → b < w.heap.size → Y b) : Sl w Y a l := by
  obtain ⟨hl, h⟩ := h
  refine ⟨hl, ?_⟩
  rcases h with h | ⟨b, o, e, h⟩
  · exact Or.inl h
  · exact Or.inr ⟨b, o, e, lies_mono hk _ _ _ h⟩

theorem Sl.below {w w' : World} {X : Nat → Prop} {a : Option Addr} {l : List Tm} {B : Nat} (h : Sl w X a l) (hb : Below B w w') (hX : ∀ b, X b → b < w.heap.size → b < B) : Sl w' X a l := by
  have h1 : Sl w (fun b => X b ∧ b < B) a l := h.mono fun b hx hs => ⟨hx, hX b hx hs⟩
  have h2 : Sl w' (fun b => X b ∧ b < B) a l := h1.kept fun b hx => hb.block b hx.2
  exact h2.mono fun b hx _ => hx.1

theorem TV.kept {w w' : World} {X : Nat → Prop} {v : Value} {t : Tm} (h : TV w X v t) (hk : ∀ b, X b → w'.heap[b]? = w.heap[b]?) : TV w' X v t := by
  obtain ⟨a, c, e, h⟩ := h
  exact ⟨a, c, e, h.kept hk⟩

theorem TV.mono {w : World} {X Y : Nat → Prop} {v : Value} {t : Tm} (h : TV w X v t) (hk : ∀ b, X b → b < w.heap.size → Y b) : TV w Y v t := by
  obtain ⟨a, c, e, h⟩ := h
  exact ⟨a, c, e, h.mono hk⟩

theorem TV.below {w w' : World} {X : Nat → Prop} {v : Value} {t : Tm} {B : Nat} (h : TV w X v t) (hb : Below B w w') (hX : ∀ b, X b → b < w.heap.size → b < B) : TV w' X v t := by
  obtain ⟨a, c, e, h⟩ := h
  exact ⟨a, c, e, h.below hb hX⟩

theorem TV.alloc {w : World} {X : Nat → Prop} {v : Value} {t : Tm} (h : TV w X v t) (o : Obj) : TV (w.alloc o) X v t :=
  h.below ((Below.refl _ _).alloc (Nat.le_refl _) o) (fun _ _ h => h)

theorem TV.later {w w' : World} {X : Nat → Prop} {v : Value} {t : Tm} (h : TV w X v t) (hb : Below w.heap.size w w') : TV w' X v t := h.below hb (fun _ _ h => h)

theorem Sl.later {w w' : World} {X : Nat → Prop} {a : Option Addr} {l : List Tm} (h : Sl w X a l) (hb : Below w.heap.size w w') : Sl w' X a l := h.below hb (fun _ _ h => h)

/-- One of a row. -/
theorem lies_get {w : World} {X : Nat → Prop} : ∀ (l : List Tm) (b o : Nat), Lies w X b o l → ∀ i (h : i < l.length),
    X b ∧ w.cell? ⟨b, o + i * 2, none⟩ = some (.string l[i].name) ∧ ∃ a c, w.cell? ⟨b, o + i * 2 + 1, none⟩ = some (.slice a l[i].args.length c) ∧ Sl w X a l[i].args := by
  intro l
  induction l with
  | nil => intro b o _ i h; simp at h
  | cons t r ih =>
    intro b o hl i h
    obtain ⟨s, k⟩ := t
    simp only [Lies] at hl
    obtain ⟨hx, h1, ⟨a, c, h2, h3⟩, h4⟩ := hl
    cases i with
    | zero => exact ⟨hx, h1, a, c, h2, h3⟩
    | succ i =>
      have := ih b (o + 2) h4 i (by simpa using h)
      simp only [List.getElem_cons_succ]
      rw [show o + (i + 1) * 2 = o + 2 + i * 2 by omega]
      exact this

/-- One of a slice, in a later world. -/
theorem Sl.get {w wr : World} {X : Nat → Prop} {a : Option Addr} {l : List Tm} {B : Nat} (h : Sl w X a l) (hb : Below B w wr) (hX : ∀ b, X b → b < w.heap.size → b < B) (k : Nat) (hk : k < l.length) :
    ∃ b o a' c', a = some ⟨b, o, none⟩ ∧ wr.cell? ⟨b, o + k * 2, none⟩ = some (.string l[k].name) ∧ wr.cell? ⟨b, o + k * 2 + 1, none⟩ = some (.slice a' l[k].args.length c') ∧ TV wr X (.agg #[.string l[k].name, .slice a' l[k].args.length c']) l[k] := by
  have h' := h.below hb hX
  obtain ⟨_, h1⟩ := h'
  rcases h1 with h1 | ⟨b, o, e, h1⟩
  · subst h1; simp at hk
  · obtain ⟨_, h2, a', c', h3, h4⟩ := lies_get _ _ _ h1 k hk
    exact ⟨b, o, a', c', e, h2, h3, a', c', rfl, h4⟩

end Go.Proofs.Ytaifameeoipjjaa

/- The tree that a lambda term is, and how it lies in memory. -/
namespace Go.Proofs.Ytaifameeoipjjaa
open Go.RowKit

/-- A lambda term as a tree. -/
structure Lm where
  kind : Int
  idx : Int
  subs : List Lm

theorem Lm.ind {P : Lm → Prop} (h : ∀ k x l, (∀ y ∈ l, P y) → P ⟨k, x, l⟩) (t : Lm) : P t :=
  Lm.rec (motive_1 := P) (motive_2 := fun l => ∀ x ∈ l, P x) (fun k x l ih => h k x l ih) (fun x hx => by cases hx)
    (fun a l ha hl x hx => by
      rcases List.mem_cons.1 hx with e | e
      · subst e; exact ha
      · exact hl x e) t

theorem Lm.indL {P : List Lm → Prop} (h0 : P []) (h : ∀ k x l r, P l → P r → P (⟨k, x, l⟩ :: r)) (l : List Lm) : P l :=
  Lm.rec_1 (motive_1 := fun t => P t.subs) (motive_2 := P) (fun _ _ _ ih => ih) h0 (fun a l ha hl => by obtain ⟨k, x, m⟩ := a; exact h k x m l ha hl) l

/-- The knots of a list of lambda terms. -/
def sizeM : List Lm → Nat
  | [] => 0
  | ⟨_, _, l⟩ :: r => 1 + sizeM l + sizeM r

theorem sizeM_append (a b : List Lm) : sizeM (a ++ b) = sizeM a + sizeM b := by
  induction a with
  | nil => simp [sizeM]
  | cons t r ih => obtain ⟨k, x, l⟩ := t; simp only [List.cons_append, sizeM, ih]; omega
theorem sizeM_take (l : List Lm) (k : Nat) (h : k < l.length) : sizeM (l.take (k + 1)) = sizeM (l.take k) + sizeM [l[k]] := by
  rw [List.take_succ_eq_append_getElem h, sizeM_append]
theorem sizeM_take_le (l : List Lm) (k : Nat) : sizeM (l.take k) ≤ sizeM l := by
  have h := sizeM_append (l.take k) (l.drop k)
  rw [List.take_append_drop] at h
  omega
theorem sizeM_len (l : List Lm) : l.length ≤ sizeM l := by
  induction l with
  | nil => simp
  | cons t r ih => obtain ⟨k, x, m⟩ := t; simp only [List.length_cons, sizeM]; omega

/-- A list of lambda terms lies in a row of cells, three a term, in blocks that X lets. -/
def LiesM (w : World) (X : Nat → Prop) : Nat → Nat → List Lm → Prop
  | _, _, [] => True
  | b, o, ⟨k, x, l⟩ :: r => X b ∧ w.cell? ⟨b, o, none⟩ = some (.int .i64 k) ∧ w.cell? ⟨b, o + 1, none⟩ = some (.int .i64 x) ∧
      (∃ a c, w.cell? ⟨b, o + 2, none⟩ = some (.slice a l.length c) ∧ l.length ≤ 9223372036854775807 ∧ (l = [] ∨ ∃ b' o', a = some ⟨b', o', none⟩ ∧ LiesM w X b' o' l)) ∧ LiesM w X b (o + 3) r

/-- What a slice of lambda terms holds. -/
def SlM (w : World) (X : Nat → Prop) (a : Option Addr) (l : List Lm) : Prop := l.length ≤ 9223372036854775807 ∧ (l = [] ∨ ∃ b o, a = some ⟨b, o, none⟩ ∧ LiesM w X b o l)

/-- What a lambda term's value holds. -/
def MV (w : World) (X : Nat → Prop) (v : Value) (t : Lm) : Prop := ∃ a c, v = .agg #[.int .i64 t.kind, .int .i64 t.idx, .slice a t.subs.length c] ∧ SlM w X a t.subs

theorem liesM_kept {w w' : World} {X : Nat → Prop} (h : ∀ b, X b → w'.heap[b]? = w.heap[b]?) (l : List Lm) : ∀ b o, LiesM w X b o l → LiesM w' X b o l := by
  induction l using Lm.indL with
  | h0 => intro b o _; simp [LiesM]
  | h k x l r ihl ihr =>
    intro b o hl
    simp only [LiesM] at hl ⊢
    obtain ⟨hx, h1, h1', ⟨a, c, h2, h2', h3⟩, h4⟩ := hl
    refine ⟨hx, by rw [World.cell?_of_block (h b hx)]; exact h1, by rw [World.cell?_of_block (h b hx)]; exact h1', ⟨a, c, by rw [World.cell?_of_block (h b hx)]; exact h2, h2', ?_⟩, ihr _ _ h4⟩
    rcases h3 with h3 | ⟨b', o', h3, h5⟩
    · exact Or.inl h3
    · exact Or.inr ⟨b', o', h3, ihl _ _ h5⟩

theorem liesM_mono {w : World} {X Y : Nat → Prop} (h : ∀ b, X b → b < w.heap.size → Y b) (l : List Lm) : ∀ b o, LiesM w X b o l → LiesM w Y b o l := by
  induction l using Lm.indL with
  | h0 => intro b o _; simp [LiesM]
  | h k x l r ihl ihr =>
    intro b o hl
    simp only [LiesM] at hl ⊢
    obtain ⟨hx, h1, h1', ⟨a, c, h2, h2', h3⟩, h4⟩ := hl
    have hb : b < w.heap.size := by
      apply Classical.byContradiction
      intro hn
      have e : w.heap[b]? = none := Array.getElem?_eq_none (by omega)
      simp [World.cell?, e] at h1
    refine ⟨h b hx hb, h1, h1', ⟨a, c, h2, h2', ?_⟩, ihr _ _ h4⟩
    rcases h3 with h3 | ⟨b', o', h3, h5⟩
    · exact Or.inl h3
    · exact Or.inr ⟨b', o', h3, ihl _ _ h5⟩
theorem SlM.kept {w w' : World} {X : Nat → Prop} {a : Option Addr} {l : List Lm} (h : SlM w X a l) (hk : ∀ b, X b → w'.heap[b]? = w.heap[b]?) : SlM w' X a l := by
  obtain ⟨hl, h⟩ := h
  refine ⟨hl, ?_⟩
  rcases h with h | ⟨b, o, e, h⟩
  · exact Or.inl h
  · exact Or.inr ⟨b, o, e, liesM_kept hk _ _ _ h⟩

theorem SlM.mono {w : World} {X Y : Nat → Prop} {a : Option Addr} {l : List Lm} (h : SlM w X a l) (hk : ∀ b, X b → b < w.heap.size → Y b) : SlM w Y a l := by
  obtain ⟨hl, h⟩ := h
  refine ⟨hl, ?_⟩
  rcases h with h | ⟨b, o, e, h⟩
  · exact Or.inl h
  · exact Or.inr ⟨b, o, e, liesM_mono hk _ _ _ h⟩

theorem SlM.below {w w' : World} {X : Nat → Prop} {a : Option Addr} {l : List Lm} {B : Nat} (h : SlM w X a l) (hb : Below B w w') (hX : ∀ b, X b → b < w.heap.size → b < B) : SlM w' X a l := by
  have h1 : SlM w (fun b => X b ∧ b < B) a l := h.mono fun b hx hs => ⟨hx, hX b hx hs⟩
  have h2 : SlM w' (fun b => X b ∧ b < B) a l := h1.kept fun b hx => hb.block b hx.2
  exact h2.mono fun b hx _ => hx.1

theorem MV.kept {w w' : World} {X : Nat → Prop} {v : Value} {t : Lm} (h : MV w X v t) (hk : ∀ b, X b → w'.heap[b]? = w.heap[b]?) : MV w' X v t := by
  obtain ⟨a, c, e, h⟩ := h
  exact ⟨a, c, e, h.kept hk⟩

theorem MV.mono {w : World} {X Y : Nat → Prop} {v : Value} {t : Lm} (h : MV w X v t) (hk : ∀ b, X b → b < w.heap.size → Y b) : MV w Y v t := by
  obtain ⟨a, c, e, h⟩ := h
  exact ⟨a, c, e, h.mono hk⟩

theorem MV.below {w w' : World} {X : Nat → Prop} {v : Value} {t : Lm} {B : Nat} (h : MV w X v t) (hb : Below B w w') (hX : ∀ b, X b → b < w.heap.size → b < B) : MV w' X v t := by
  obtain ⟨a, c, e, h⟩ := h
  exact ⟨a, c, e, h.below hb hX⟩

theorem MV.alloc {w : World} {X : Nat → Prop} {v : Value} {t : Lm} (h : MV w X v t) (o : Obj) : MV (w.alloc o) X v t :=
  h.below ((Below.refl _ _).alloc (Nat.le_refl _) o) (fun _ _ h => h)

theorem MV.later {w w' : World} {X : Nat → Prop} {v : Value} {t : Lm} (h : MV w X v t) (hb : Below w.heap.size w w') : MV w' X v t := h.below hb (fun _ _ h => h)

theorem SlM.later {w w' : World} {X : Nat → Prop} {a : Option Addr} {l : List Lm} (h : SlM w X a l) (hb : Below w.heap.size w w') : SlM w' X a l := h.below hb (fun _ _ h => h)

/-- One of a row. -/
theorem liesM_get {w : World} {X : Nat → Prop} : ∀ (l : List Lm) (b o : Nat), LiesM w X b o l → ∀ i (h : i < l.length),
    X b ∧ w.cell? ⟨b, o + i * 3, none⟩ = some (.int .i64 l[i].kind) ∧ w.cell? ⟨b, o + i * 3 + 1, none⟩ = some (.int .i64 l[i].idx) ∧ ∃ a c, w.cell? ⟨b, o + i * 3 + 2, none⟩ = some (.slice a l[i].subs.length c) ∧ SlM w X a l[i].subs := by
  intro l
  induction l with
  | nil => intro b o _ i h; simp at h
  | cons t r ih =>
    intro b o hl i h
    obtain ⟨s, x, k⟩ := t
    simp only [LiesM] at hl
    obtain ⟨hx, h1, h1', ⟨a, c, h2, h3⟩, h4⟩ := hl
    cases i with
    | zero => exact ⟨hx, h1, h1', a, c, h2, h3⟩
    | succ i =>
      have := ih b (o + 3) h4 i (by simpa using h)
      simp only [List.getElem_cons_succ]
      rw [show o + (i + 1) * 3 = o + 3 + i * 3 by omega]
      exact this

/-- One of a slice, in a later world. -/
theorem SlM.get {w wr : World} {X : Nat → Prop} {a : Option Addr} {l : List Lm} {B : Nat} (h : SlM w X a l) (hb : Below B w wr) (hX : ∀ b, X b → b < w.heap.size → b < B) (k : Nat) (hk : k < l.length) :
    ∃ b o a' c', a = some ⟨b, o, none⟩ ∧ wr.cell? ⟨b, o + k * 3, none⟩ = some (.int .i64 l[k].kind) ∧ wr.cell? ⟨b, o + k * 3 + 1, none⟩ = some (.int .i64 l[k].idx) ∧ wr.cell? ⟨b, o + k * 3 + 2, none⟩ = some (.slice a' l[k].subs.length c') ∧ MV wr X (.agg #[.int .i64 l[k].kind, .int .i64 l[k].idx, .slice a' l[k].subs.length c']) l[k] := by
  have h' := h.below hb hX
  obtain ⟨_, h1⟩ := h'
  rcases h1 with h1 | ⟨b, o, e, h1⟩
  · subst h1; simp at hk
  · obtain ⟨_, h2, h2', a', c', h3, h4⟩ := liesM_get _ _ _ h1 k hk
    exact ⟨b, o, a', c', e, h2, h2', h3, a', c', rfl, h4⟩
end Go.Proofs.Ytaifameeoipjjaa

/- Rows of terms that a call makes. -/
namespace Go.Proofs.Ytaifameeoipjjaa
open Go.RowKit
set_option linter.unusedSimpArgs false
set_option linter.unusedVariables false

/-- These cells are these terms. -/
def RowT (w : World) (X : Nat → Prop) : List Tm → List Value → Prop
  | [], xs => xs = []
  | t :: l, xs => ∃ a c r, xs = .string t.name :: .slice a t.args.length c :: r ∧ Sl w X a t.args ∧ RowT w X l r

theorem RowT.len {w : World} {X : Nat → Prop} : ∀ {l : List Tm} {xs : List Value}, RowT w X l xs → xs.length = l.length * 2
  | [], xs, h => by simp [RowT] at h; simp [h]
  | t :: l, xs, h => by
    obtain ⟨a, c, r, rfl, _, h⟩ := h
    simp only [List.length_cons]
    rw [RowT.len h]; omega

theorem RowT.append {w : World} {X : Nat → Prop} : ∀ {l k : List Tm} {xs ys : List Value}, RowT w X l xs → RowT w X k ys → RowT w X (l ++ k) (xs ++ ys)
  | [], k, xs, ys, h, h' => by simp [RowT] at h; subst h; simpa using h'
  | t :: l, k, xs, ys, h, h' => by
    obtain ⟨a, c, r, rfl, hs, h⟩ := h
    exact ⟨a, c, r ++ ys, rfl, hs, RowT.append h h'⟩

theorem RowT.one {w : World} {X : Nat → Prop} : ∀ {l : List Tm} {xs : List Value}, RowT w X l xs → ∀ u ∈ xs, u.oneCell' = true
  | [], xs, h, u, hu => by simp [RowT] at h; subst h; cases hu
  | t :: l, xs, h, u, hu => by
    obtain ⟨a, c, r, rfl, _, h⟩ := h
    rcases List.mem_cons.1 hu with e | hu
    · subst e; rfl
    · rcases List.mem_cons.1 hu with e | hu
      · subst e; rfl
      · exact RowT.one h u hu

theorem RowT.imp {w w' : World} {X Y : Nat → Prop} (hs : ∀ a l, Sl w X a l → Sl w' Y a l) : ∀ {l : List Tm} {xs : List Value}, RowT w X l xs → RowT w' Y l xs
  | [], xs, h => h
  | t :: l, xs, h => by
    obtain ⟨a, c, r, e, h1, h⟩ := h
    exact ⟨a, c, r, e, hs _ _ h1, RowT.imp hs h⟩

theorem RowT.get {w : World} {X : Nat → Prop} : ∀ {l : List Tm} {xs : List Value}, RowT w X l xs → ∀ i (h : i < l.length),
    xs[i * 2]? = some (.string l[i].name) ∧ ∃ a c, xs[i * 2 + 1]? = some (.slice a l[i].args.length c) ∧ Sl w X a l[i].args
  | [], xs, h, i, hi => by simp at hi
  | t :: l, xs, h, i, hi => by
    obtain ⟨a, c, r, rfl, h1, h⟩ := h
    cases i with
    | zero => exact ⟨rfl, a, c, rfl, h1⟩
    | succ i =>
      have := RowT.get h i (by simpa using hi)
      rw [show (i + 1) * 2 = i * 2 + 2 by omega, show i * 2 + 2 + 1 = (i * 2 + 1) + 2 by omega]
      simpa using this

theorem lies_of_rowT {w w' : World} {X Y : Nat → Prop} (b : Nat) (hb : Y b) : ∀ (l : List Tm) (xs : List Value) (o : Nat), RowT w X l xs → (∀ a k, Sl w X a k → Sl w' Y a k) → (∀ j u, xs[j]? = some u → w'.cell? ⟨b, o + j, none⟩ = some u) → Lies w' Y b o l := by
  intro l
  induction l with
  | nil => intro xs o _ _ _; simp [Lies]
  | cons t r ih =>
    intro xs o h hs hc
    obtain ⟨s, k⟩ := t
    obtain ⟨a, c, r', rfl, h1, h2⟩ := h
    simp only [Lies]
    obtain ⟨h3, h4⟩ := hs _ _ h1
    refine ⟨hb, hc 0 _ rfl, ⟨a, c, hc 1 _ rfl, h3, h4⟩, ih r' (o + 2) h2 hs fun j u hj => ?_⟩
    have := hc (j + 2) u (by simpa using hj)
    rwa [show o + (j + 2) = o + 2 + j by omega] at this

/-- What a row that is owned says of the slice. -/
theorem owned_val {w : World} {base e size : Nat} {v : Value} {n : Nat} {xs : List Value} (h : w.ownsRow base e size v n xs) (hn : 0 < n) :
    ∃ g cap, v = .slice (some ⟨g, 0, none⟩) n cap ∧ base ≤ g ∧ g < w.heap.size ∧ ∀ j u, xs[j]? = some u → w.cell? ⟨g, j, none⟩ = some u := by
  have h' := h
  obtain ⟨hl, h1⟩ := h
  rcases h1 with ⟨_, h0⟩ | ⟨g, cap, cur, hv, hg, hh, _⟩
  · omega
  · subst hv
    have hlt := (h'.lt g rfl).2
    refine ⟨g, cap, rfl, hg, hlt, fun j u hj => ?_⟩
    have := h'.cells (g := g) rfl j u hj
    by_cases h0 : j = 0
    · subst h0; simpa [Addr.add] using this
    · simpa [Addr.add, h0] using this

end Go.Proofs.Ytaifameeoipjjaa

/- Small facts on blocks, and what a round that appends a term does to a row of terms. -/
namespace Go.Proofs.Ytaifameeoipjjaa
open Go.RowKit
set_option linter.unusedSimpArgs false
set_option linter.unusedVariables false

/-- A block of plain cells. -/
def Blk (w : World) (b : Nat) (cs : Array Value) (T : Nat) : Prop := w.heap[b]? = some (.cells cs T (0, 0))

theorem Blk.lt {w : World} {b : Nat} {cs : Array Value} {T : Nat} (h : Blk w b cs T) : b < w.heap.size := by
  apply Classical.byContradiction
  intro hn
  have e : w.heap[b]? = none := Array.getElem?_eq_none (by omega)
  rw [Blk, e] at h; cases h

theorem Blk.cell {w : World} {b : Nat} {cs : Array Value} {T : Nat} (h : Blk w b cs T) (i : Nat) : w.cell? ⟨b, i, none⟩ = cs[i]? := by
  unfold Blk at h; simp [World.cell?, h]

theorem Blk.frozen {w : World} {b : Nat} {cs : Array Value} {T : Nat} (h : Blk w b cs T) (i : Nat) : w.frozen? ⟨b, i, none⟩ = false := by
  unfold Blk at h; simp [World.frozen?, h]

theorem Blk.new (w : World) (cs : Array Value) (T : Nat) : Blk (w.alloc (.cells cs T)) w.heap.size cs T := heap_alloc_new w _

theorem Blk.alloc {w : World} {b : Nat} {cs : Array Value} {T : Nat} (h : Blk w b cs T) (o : Obj) : Blk (w.alloc o) b cs T := by
  unfold Blk at *; rw [Below.heap_alloc w o b (Blk.lt h)]; exact h

theorem Blk.below {w w' : World} {b B : Nat} {cs : Array Value} {T : Nat} (h : Blk w b cs T) (hb : Below B w w') (hB : b < B) : Blk w' b cs T := by
  unfold Blk at *; rw [hb.block b hB]; exact h

theorem Blk.drewN {w : World} {b : Nat} {cs : Array Value} {T : Nat} (h : Blk w b cs T) (n : Nat) : Blk (w.drewN n) b cs T := h

theorem Blk.grown {w w' : World} {b : Nat} {cs : Array Value} {T : Nat} {row : Option Nat} (h : Blk w b cs T) (hg : w.grownBy w' row) (hr : some b ≠ row) : Blk w' b cs T := by
  unfold Blk at *; rw [hg.block b (Blk.lt h) hr]; exact h

theorem Blk.set {w : World} {b : Nat} {cs : Array Value} {T : Nat} (h : Blk w b cs T) (i : Nat) (v : Value) : Blk (w.setCell ⟨b, i, none⟩ v) b (cs.setIfInBounds i v) T := by
  unfold Blk at *
  simp [World.setCell, Array.getElem?_modify, h]

theorem Blk.setOther {w : World} {b b' : Nat} {cs : Array Value} {T : Nat} (h : Blk w b cs T) (i : Nat) (v : Value) (hne : b ≠ b') : Blk (w.setCell ⟨b', i, none⟩ v) b cs T := by
  unfold Blk at *; rw [Below.heap_setCell _ _ _ _ (by simpa using hne)]; exact h

/-- The row so far, apart from what its terms are made of: old memory that Y lets, and new memory. -/
structure Row (w : World) (N : Nat) (T : Nat) (Y : Nat → Prop) (v : Value) (l : List Tm) (xs : List Value) : Prop where
  own : w.ownsRow N T 2 v l.length xs
  row : RowT w (fun b => Y b ∨ (N ≤ b ∧ some b ≠ v.ownBlock)) l xs

theorem Row.start (w : World) (N T : Nat) (Y : Nat → Prop) : Row w N T Y (.slice none 0 0) [] [] := ⟨World.ownsRow_nil w N T 2, rfl⟩

theorem Row.below {w w' : World} {N T : Nat} {Y : Nat → Prop} {v : Value} {l : List Tm} {xs : List Value} (h : Row w N T Y v l xs) (hb : Below w.heap.size w w') : Row w' N T Y v l xs :=
  ⟨h.own.kept (w' := w') (row := none) ⟨hb.os, hb.tape, hb.output, hb.size, fun j hj _ => hb.block j hj⟩ (by rcases Option.eq_none_or_eq_some (Value.ownBlock v) with h | ⟨x, h⟩; exact Or.inl h; exact Or.inr (by rw [h]; simp)),
   h.row.imp fun a l h => h.later hb⟩

theorem Row.ne {w : World} {N T : Nat} {Y : Nat → Prop} {v : Value} {l : List Tm} {xs : List Value} (h : Row w N T Y v l xs) {b : Nat} (hb : b < N) : some b ≠ v.ownBlock := fun e => by
  have := (h.own.lt b e.symm).1; omega

/-- One more: the term's cells have been laid into a block of their own, and appended. -/
theorem Row.push {w w1 w2 w3 : World} {N T : Nat} {Y : Nat → Prop} {v : Value} {l : List Tm} {xs : List Value} (h : Row w N T Y v l xs) (hN : N ≤ w.heap.size) (hY : ∀ b, Y b → b < N) (hb : Below w.heap.size w w1) {s : ByteArray} {a : Option Addr} {n c : Nat} {t : Tm}
    (ht : TV w1 (fun b => Y b ∨ w.heap.size ≤ b) (.agg #[.string s, .slice a n c]) t) (o : Obj) (hw2 : w2 = w1.alloc o) {g cap : Nat}
    (hown : w3.ownsRow N T 2 (.slice (some ⟨g, 0, none⟩) (l.length + 1) cap) (l.length + 1) (xs ++ [.string s, .slice a n c])) (hg : w2.grownBy w3 v.ownBlock) (hg1 : v.ownBlock = some g ∨ g = w2.heap.size) :
    Row w3 N T Y (.slice (some ⟨g, 0, none⟩) (l.length + 1) cap) (l ++ [t]) (xs ++ [.string s, .slice a n c]) := by
  subst hw2
  have hlt := h.own.lt
  refine ⟨by simpa using hown, ?_⟩
  have hsz : w1.heap.size ≤ (w1.alloc o).heap.size := by simp
  have hbs := hb.size
  have hgN : N ≤ g := by
    rcases hg1 with e | e
    · exact (hlt g e).1
    · simp at e; omega
  refine RowT.append (h.row.imp fun a' k' hs => ?_) ?_
  · have h1 : Sl w (fun b => (Y b ∨ (N ≤ b ∧ some b ≠ v.ownBlock)) ∧ b < w.heap.size) a' k' := hs.mono fun b h1 h2 => ⟨h1, h2⟩
    have h2 : Sl w3 (fun b => (Y b ∨ (N ≤ b ∧ some b ≠ v.ownBlock)) ∧ b < w.heap.size) a' k' := h1.kept fun b hx => by
      have hne : some b ≠ v.ownBlock := by
        rcases hx.1 with hy | hy
        · exact h.ne (hY b hy)
        · exact hy.2
      rw [hg.block b (by simp; omega) hne, Below.heap_alloc _ _ _ (by omega), hb.block b hx.2]
    refine h2.mono fun b hx _ => ?_
    rcases hx.1 with hy | hy
    · exact Or.inl hy
    · refine Or.inr ⟨hy.1, fun e => ?_⟩
      simp [Value.ownBlock] at e
      rcases hg1 with e' | e'
      · exact hy.2 (by rw [e', e])
      · simp at e'; omega
  · obtain ⟨a2, c2, e, hs⟩ := ht
    simp at e
    obtain ⟨rfl, rfl, rfl, rfl⟩ := e
    refine ⟨a, c, [], rfl, ?_, rfl⟩
    have h1 : Sl w1 (fun b => (Y b ∨ w.heap.size ≤ b) ∧ b < w1.heap.size) a t.args := hs.mono fun b h1 h2 => ⟨h1, h2⟩
    have h2 : Sl w3 (fun b => (Y b ∨ w.heap.size ≤ b) ∧ b < w1.heap.size) a t.args := h1.kept fun b hx => by
      have hne : some b ≠ v.ownBlock := by
        rcases hx.1 with hy | hy
        · exact h.ne (hY b hy)
        · intro e; have := (hlt b e.symm).2; omega
      rw [hg.block b (by simp; omega) hne, Below.heap_alloc _ _ _ hx.2]
    refine h2.mono fun b hx _ => ?_
    rcases hx.1 with hy | hy
    · exact Or.inl hy
    · refine Or.inr ⟨by omega, fun e => ?_⟩
      simp [Value.ownBlock] at e
      rcases hg1 with e' | e'
      · have := (hlt g e').2; omega
      · simp at e'; omega

/-- A store into a block that is none of the row's. -/
theorem Row.setCell {w : World} {N T : Nat} {Y : Nat → Prop} {v : Value} {l : List Tm} {xs : List Value} (h : Row w N T Y v l xs) {b i : Nat} (hb : b < N) (hY : ¬ Y b) (u : Value) : Row (w.setCell ⟨b, i, none⟩ u) N T Y v l xs :=
  ⟨ownsRow_setCell_below h.own (by simpa using hb) u, h.row.imp fun a k hs => hs.kept fun c hc => Below.heap_setCell _ _ _ _ (by
    simp
    rcases hc with hc | hc
    · intro e; subst e; exact hY hc
    · omega)⟩

theorem Row.sl {w : World} {N T : Nat} {Y : Nat → Prop} {v : Value} {l : List Tm} {xs : List Value} (h : Row w N T Y v l xs) : ∃ a c, v = .slice a l.length c ∧ Sl w (fun b => Y b ∨ N ≤ b) a l := by
  have hml : l.length ≤ 9223372036854775807 := by
    rcases h.own.2 with ⟨_, h0⟩ | ⟨g, cap, cur, _, _, _, h1, h2, _⟩
    · omega
    · unfold maxLen at h2; omega
  by_cases h0 : 0 < l.length
  · obtain ⟨g, cap, rfl, hg, hlt, hc⟩ := owned_val h.own h0
    exact ⟨_, _, rfl, hml, Or.inr ⟨g, 0, rfl, lies_of_rowT g (Or.inr hg) l xs 0 h.row (fun a k hs => hs.mono fun b hb _ => hb.imp id (fun h => h.1)) (fun j u hj => by simpa using hc j u hj)⟩⟩
  · have e : l = [] := List.length_eq_zero_iff.1 (by omega)
    subst e
    rcases h.own.2 with ⟨hv, _⟩ | ⟨g, cap, cur, hv, _⟩
    · exact ⟨none, 0, hv, hml, Or.inl rfl⟩
    · exact ⟨_, _, hv, hml, Or.inl rfl⟩

end Go.Proofs.Ytaifameeoipjjaa

/- Rows of lambda terms. -/
namespace Go.Proofs.Ytaifameeoipjjaa
open Go.RowKit
set_option linter.unusedSimpArgs false
set_option linter.unusedVariables false

/-- These cells are these lambda terms. -/
def RowTM (w : World) (X : Nat → Prop) : List Lm → List Value → Prop
  | [], xs => xs = []
  | t :: l, xs => ∃ a c r, xs = .int .i64 t.kind :: .int .i64 t.idx :: .slice a t.subs.length c :: r ∧ SlM w X a t.subs ∧ RowTM w X l r
theorem RowTM.len {w : World} {X : Nat → Prop} : ∀ {l : List Lm} {xs : List Value}, RowTM w X l xs → xs.length = l.length * 3
  | [], xs, h => by simp [RowTM] at h; simp [h]
  | t :: l, xs, h => by
    obtain ⟨a, c, r, rfl, _, h⟩ := h
    simp only [List.length_cons]
    rw [RowTM.len h]; omega
theorem RowTM.append {w : World} {X : Nat → Prop} : ∀ {l k : List Lm} {xs ys : List Value}, RowTM w X l xs → RowTM w X k ys → RowTM w X (l ++ k) (xs ++ ys)
  | [], k, xs, ys, h, h' => by simp [RowTM] at h; subst h; simpa using h'
  | t :: l, k, xs, ys, h, h' => by
    obtain ⟨a, c, r, rfl, hs, h⟩ := h
    exact ⟨a, c, r ++ ys, rfl, hs, RowTM.append h h'⟩
theorem RowTM.imp {w w' : World} {X Y : Nat → Prop} (hs : ∀ a l, SlM w X a l → SlM w' Y a l) : ∀ {l : List Lm} {xs : List Value}, RowTM w X l xs → RowTM w' Y l xs
  | [], xs, h => h
  | t :: l, xs, h => by
    obtain ⟨a, c, r, e, h1, h⟩ := h
    exact ⟨a, c, r, e, hs _ _ h1, RowTM.imp hs h⟩
theorem liesM_of_row {w w' : World} {X Y : Nat → Prop} (b : Nat) (hb : Y b) : ∀ (l : List Lm) (xs : List Value) (o : Nat), RowTM w X l xs → (∀ a k, SlM w X a k → SlM w' Y a k) → (∀ j u, xs[j]? = some u → w'.cell? ⟨b, o + j, none⟩ = some u) → LiesM w' Y b o l := by
  intro l
  induction l with
  | nil => intro xs o _ _ _; simp [LiesM]
  | cons t r ih =>
    intro xs o h hs hc
    obtain ⟨s, x, k⟩ := t
    obtain ⟨a, c, r', rfl, h1, h2⟩ := h
    simp only [LiesM]
    obtain ⟨h3, h4⟩ := hs _ _ h1
    refine ⟨hb, hc 0 _ rfl, hc 1 _ rfl, ⟨a, c, hc 2 _ rfl, h3, h4⟩, ih r' (o + 3) h2 hs fun j u hj => ?_⟩
    have := hc (j + 3) u (by simpa using hj)
    rwa [show o + (j + 3) = o + 3 + j by omega] at this

/-- The row so far, apart from what its terms are made of: old memory that Y lets, and new memory. -/
structure RowM (w : World) (N : Nat) (T : Nat) (Y : Nat → Prop) (v : Value) (l : List Lm) (xs : List Value) : Prop where
  own : w.ownsRow N T 3 v l.length xs
  row : RowTM w (fun b => Y b ∨ (N ≤ b ∧ some b ≠ v.ownBlock)) l xs

theorem RowM.start (w : World) (N T : Nat) (Y : Nat → Prop) : RowM w N T Y (.slice none 0 0) [] [] := ⟨World.ownsRow_nil w N T 3, rfl⟩

theorem RowM.below {w w' : World} {N T : Nat} {Y : Nat → Prop} {v : Value} {l : List Lm} {xs : List Value} (h : RowM w N T Y v l xs) (hb : Below w.heap.size w w') : RowM w' N T Y v l xs :=
  ⟨h.own.kept (w' := w') (row := none) ⟨hb.os, hb.tape, hb.output, hb.size, fun j hj _ => hb.block j hj⟩ (by rcases Option.eq_none_or_eq_some (Value.ownBlock v) with h | ⟨x, h⟩; exact Or.inl h; exact Or.inr (by rw [h]; simp)),
   h.row.imp fun a l h => h.later hb⟩

theorem RowM.ne {w : World} {N T : Nat} {Y : Nat → Prop} {v : Value} {l : List Lm} {xs : List Value} (h : RowM w N T Y v l xs) {b : Nat} (hb : b < N) : some b ≠ v.ownBlock := fun e => by
  have := (h.own.lt b e.symm).1; omega

/-- One more: the term's cells have been laid into a block of their own, and appended. -/
theorem RowM.push {w w1 w2 w3 : World} {N T : Nat} {Y : Nat → Prop} {v : Value} {l : List Lm} {xs : List Value} (h : RowM w N T Y v l xs) (hN : N ≤ w.heap.size) (hY : ∀ b, Y b → b < N) (hb : Below w.heap.size w w1) {s s2 : Int} {a : Option Addr} {n c : Nat} {t : Lm}
    (ht : MV w1 (fun b => Y b ∨ w.heap.size ≤ b) (.agg #[.int .i64 s, .int .i64 s2, .slice a n c]) t) (o : Obj) (hw2 : w2 = w1.alloc o) {g cap : Nat}
    (hown : w3.ownsRow N T 3 (.slice (some ⟨g, 0, none⟩) (l.length + 1) cap) (l.length + 1) (xs ++ [.int .i64 s, .int .i64 s2, .slice a n c])) (hg : w2.grownBy w3 v.ownBlock) (hg1 : v.ownBlock = some g ∨ g = w2.heap.size) :
    RowM w3 N T Y (.slice (some ⟨g, 0, none⟩) (l.length + 1) cap) (l ++ [t]) (xs ++ [.int .i64 s, .int .i64 s2, .slice a n c]) := by
  subst hw2
  have hlt := h.own.lt
  refine ⟨by simpa using hown, ?_⟩
  have hsz : w1.heap.size ≤ (w1.alloc o).heap.size := by simp
  have hbs := hb.size
  have hgN : N ≤ g := by
    rcases hg1 with e | e
    · exact (hlt g e).1
    · simp at e; omega
  refine RowTM.append (h.row.imp fun a' k' hs => ?_) ?_
  · have h1 : SlM w (fun b => (Y b ∨ (N ≤ b ∧ some b ≠ v.ownBlock)) ∧ b < w.heap.size) a' k' := hs.mono fun b h1 h2 => ⟨h1, h2⟩
    have h2 : SlM w3 (fun b => (Y b ∨ (N ≤ b ∧ some b ≠ v.ownBlock)) ∧ b < w.heap.size) a' k' := h1.kept fun b hx => by
      have hne : some b ≠ v.ownBlock := by
        rcases hx.1 with hy | hy
        · exact h.ne (hY b hy)
        · exact hy.2
      rw [hg.block b (by simp; omega) hne, Below.heap_alloc _ _ _ (by omega), hb.block b hx.2]
    refine h2.mono fun b hx _ => ?_
    rcases hx.1 with hy | hy
    · exact Or.inl hy
    · refine Or.inr ⟨hy.1, fun e => ?_⟩
      simp [Value.ownBlock] at e
      rcases hg1 with e' | e'
      · exact hy.2 (by rw [e', e])
      · simp at e'; omega
  · obtain ⟨a2, c2, e, hs⟩ := ht
    simp at e
    obtain ⟨rfl, rfl, rfl, rfl, rfl⟩ := e
    refine ⟨a, c, [], rfl, ?_, rfl⟩
    have h1 : SlM w1 (fun b => (Y b ∨ w.heap.size ≤ b) ∧ b < w1.heap.size) a t.subs := hs.mono fun b h1 h2 => ⟨h1, h2⟩
    have h2 : SlM w3 (fun b => (Y b ∨ w.heap.size ≤ b) ∧ b < w1.heap.size) a t.subs := h1.kept fun b hx => by
      have hne : some b ≠ v.ownBlock := by
        rcases hx.1 with hy | hy
        · exact h.ne (hY b hy)
        · intro e; have := (hlt b e.symm).2; omega
      rw [hg.block b (by simp; omega) hne, Below.heap_alloc _ _ _ hx.2]
    refine h2.mono fun b hx _ => ?_
    rcases hx.1 with hy | hy
    · exact Or.inl hy
    · refine Or.inr ⟨by omega, fun e => ?_⟩
      simp [Value.ownBlock] at e
      rcases hg1 with e' | e'
      · have := (hlt g e').2; omega
      · simp at e'; omega

/-- A store into a block that is none of the row's. -/
theorem RowM.setCell {w : World} {N T : Nat} {Y : Nat → Prop} {v : Value} {l : List Lm} {xs : List Value} (h : RowM w N T Y v l xs) {b i : Nat} (hb : b < N) (hY : ¬ Y b) (u : Value) : RowM (w.setCell ⟨b, i, none⟩ u) N T Y v l xs :=
  ⟨ownsRow_setCell_below h.own (by simpa using hb) u, h.row.imp fun a k hs => hs.kept fun c hc => Below.heap_setCell _ _ _ _ (by
    simp
    rcases hc with hc | hc
    · intro e; subst e; exact hY hc
    · omega)⟩

theorem RowM.sl {w : World} {N T : Nat} {Y : Nat → Prop} {v : Value} {l : List Lm} {xs : List Value} (h : RowM w N T Y v l xs) : ∃ a c, v = .slice a l.length c ∧ SlM w (fun b => Y b ∨ N ≤ b) a l := by
  have hml : l.length ≤ 9223372036854775807 := by
    rcases h.own.2 with ⟨_, h0⟩ | ⟨g, cap, cur, _, _, _, h1, h2, _⟩
    · omega
    · unfold maxLen at h2; omega
  by_cases h0 : 0 < l.length
  · obtain ⟨g, cap, rfl, hg, hlt, hc⟩ := owned_val h.own h0
    exact ⟨_, _, rfl, hml, Or.inr ⟨g, 0, rfl, liesM_of_row g (Or.inr hg) l xs 0 h.row (fun a k hs => hs.mono fun b hb _ => hb.imp id (fun h => h.1)) (fun j u hj => by simpa using hc j u hj)⟩⟩
  · have e : l = [] := List.length_eq_zero_iff.1 (by omega)
    subst e
    rcases h.own.2 with ⟨hv, _⟩ | ⟨g, cap, cur, hv, _⟩
    · exact ⟨none, 0, hv, hml, Or.inl rfl⟩
    · exact ⟨_, _, hv, hml, Or.inl rfl⟩

end Go.Proofs.Ytaifameeoipjjaa


/- Walks: how many knots a term has. -/
namespace Go.Proofs.Ytaifameeoipjjaa
open Go.RowKit

/-- Behind a call that makes memory: old cells and marks read as before. -/
theorem bcell {W w1 : World} {B : Nat} (hb : Below B W w1) : (∀ b o, b < B → w1.cell? ⟨b, o, none⟩ = W.cell? ⟨b, o, none⟩) ∧ (∀ b o, b < B → w1.frozen? ⟨b, o, none⟩ = W.frozen? ⟨b, o, none⟩) :=
  ⟨fun b o h => hb.cell (p := ⟨b, o, none⟩) h, fun b o h => hb.frozen (p := ⟨b, o, none⟩) h⟩

theorem ret_int {k : IntKind} {a b : Int} (h : a = b) : Ending.returned (.int k a) = .returned (.int k b) := by rw [h]

/-- Behind a call whose first deed was to lay its parameter down. -/
theorem below_box {w wr : World} {o : Obj} (hb : Below (w.heap.size + 1) (w.alloc o) wr) : Below w.heap.size w wr :=
  ((Below.refl _ _).alloc (Nat.le_refl _) _).trans (hb.mono (Nat.le_succ _))

end Go.Proofs.Ytaifameeoipjjaa

/- Walks: how many knots a lambda term has. -/
namespace Go.Proofs.Ytaifameeoipjjaa
open Go.RowKit
set_option linter.unusedSimpArgs false
set_option linter.unusedVariables false

set_option maxHeartbeats 400000 in
theorem lamSize_any (t : Lm) : ∀ (v : Value) (most : Int) (w : World) (X : Nat → Prop), MV w X v t → 0 ≤ most → most ≤ 1000000 →
    Calls Try.prog 7 #[v, .int .i64 most] w fun e w' => e = .returned (.int .i64 (min (sizeM [t]) (most + 1))) ∧ Below w.heap.size w w' := by
  induction t using Lm.ind with
  | h kd ix l ih =>
    intro v most w X hv hm0 hm1
    obtain ⟨a, c, rfl, hs⟩ := hv
    have IH := hide ih
    clear ih
    go_enter Try.func7, Try.ntmps7
    go_wp2_with fail
    go_loopw [5, 6] (fun n i wr => ∃ k : Nat, k ≤ l.length ∧ i = .int .i64 k ∧ n = .int .i64 (min (1 + sizeM (l.take k)) (most + 1)) ∧ Below (w.heap.size + 1) (w.alloc (Obj.cells #[Value.int .i64 kd, Value.int .i64 ix, Value.slice a l.length c] 24)) wr) (fun n i wr => l.length - (intOf i).toNat)
    case atStart => exact ⟨0, Nat.zero_le _, rfl, by simp [sizeM]; omega, Below.refl _ _⟩
    case round =>
      obtain ⟨k, hk, rfl, rfl, hb⟩ := hrel
      have hc := bcell hb
      have c0 : wr.cell? ⟨w.heap.size, 0, none⟩ = some (.int .i64 kd) := by rw [hc.1 _ _ (by omega)]; simp
      have c0' : wr.cell? ⟨w.heap.size, 1, none⟩ = some (.int .i64 ix) := by rw [hc.1 _ _ (by omega)]; simp
      have c1 : wr.cell? ⟨w.heap.size, 2, none⟩ = some (.slice a l.length c) := by rw [hc.1 _ _ (by omega)]; simp
      have hl := hs.1
      have hn : 0 ≤ ((1 : Int) + sizeM (l.take k)) := by omega
      by_cases hlt : k < l.length
      · obtain ⟨b, o, a', c', rfl, d0, d0', d1, hx⟩ := hs.get (((Below.refl _ _).alloc (Nat.le_refl _) _).trans (hb.mono (Nat.le_succ _))) (fun _ _ h => h) k hlt
        by_cases hle : 1 + (sizeM (l.take k) : Int) ≤ most
        · have hmin : min (1 + (sizeM (l.take k) : Int)) (most + 1) = 1 + (sizeM (l.take k) : Int) := by omega
          rw [hmin]
          go_wp2_with fail
          refine (IH.out _ (List.getElem_mem hlt) _ _ _ X hx (by omega) (by omega)).mono ?_
          rintro e w1 ⟨rfl, hb1⟩
          have hsz : w.heap.size + 1 ≤ wr.heap.size := by have := hb.size; simpa using this
          have Hst := hide (sizeM_take l k hlt)
          have hm2 : 0 ≤ min ((sizeM [l[k]] : Int)) (most - (1 + (sizeM (l.take k) : Int)) + 1) := by omega
          have hm3 : min ((sizeM [l[k]] : Int)) (most - (1 + (sizeM (l.take k) : Int)) + 1) ≤ 1000001 := by omega
          go_wp2_with fail
          go_roundw
          case rel => exact ⟨k + 1, by omega, by go_num, by rw [Hst.out]; congr 1; omega, hb.trans (hb1.mono hsz)⟩
          case measure => simp [intOf]; omega
        · have hmin : min (1 + (sizeM (l.take k) : Int)) (most + 1) = most + 1 := by omega
          rw [hmin]
          have hz : (sizeM [(⟨kd, ix, l⟩ : Lm)] : Int) = 1 + sizeM l := by simp [sizeM]
          have hle2 : sizeM (l.take k) ≤ sizeM l := sizeM_take_le l k
          have HF := hide (show (most + 1 : Int) = min (sizeM [(⟨kd, ix, l⟩ : Lm)] : Int) (most + 1) by omega)
          clear hz
          go_wp2_with fail
          go_ret
          exact ⟨ret_int HF.out, below_box hb⟩
      · have htk : l.take k = l := List.take_of_length_le (by omega)
        rw [htk]
        have hz : (sizeM [(⟨kd, ix, l⟩ : Lm)] : Int) = 1 + sizeM l := by simp [sizeM]
        have HZ := hide hz
        clear hz
        go_wp2_with fail
        · go_ret
          exact ⟨ret_int (by have := HZ.out; omega), below_box hb⟩
        · go_ret
          exact ⟨ret_int (by have := HZ.out; omega), below_box hb⟩

theorem hugeLam_any (t : Lm) (v : Value) (w : World) (X : Nat → Prop) (hv : MV w X v t) :
    Calls Try.prog 4 #[v] w fun e w' => e = .returned (.bool (decide (3000 < sizeM [t]))) ∧ Below w.heap.size w w' := by
  obtain ⟨a, c, rfl, hs⟩ := hv
  have hv : MV w X (.agg #[.int .i64 t.kind, .int .i64 t.idx, .slice a t.subs.length c]) t := ⟨a, c, rfl, hs⟩
  go_enter Try.func4, Try.ntmps4
  go_wp2_with fail
  refine (lamSize_any t _ _ _ X (hv.alloc _) (by omega) (by omega)).mono ?_
  rintro e w1 ⟨rfl, hb1⟩
  by_cases h : 3000 < sizeM [t]
  · have e : min (sizeM [t] : Int) (3000 + 1) = 3001 := by omega
    rw [e]
    go_wp2_with fail
    go_ret
    exact ⟨by simp [h], ((Below.refl _ _).alloc (Nat.le_refl _) _).trans (hb1.mono (by simp))⟩
  · have e : min (sizeM [t] : Int) (3000 + 1) = sizeM [t] := by omega
    rw [e]
    go_wp2_with fail
    go_ret
    exact ⟨by simp [h] <;> omega, ((Below.refl _ _).alloc (Nat.le_refl _) _).trans (hb1.mono (by simp))⟩

theorem subsOf_any (kd ix : Int) (a : Option Addr) (n c : Nat) (w : World) :
    Calls Try.prog 29 #[.agg #[.int .i64 kd, .int .i64 ix, .slice a n c]] w fun e w' => e = .returned (.slice a n c) ∧ w' = w.alloc (.cells #[.int .i64 kd, .int .i64 ix, .slice a n c] 24) := by
  go_enter Try.func29, Try.ntmps29
  go_wp2_with fail
  go_ret
  exact ⟨rfl, rfl⟩

set_option maxHeartbeats 400000 in
theorem countOnM_any (M : Int) (hM0 : 0 ≤ M) (hM1 : M ≤ 1000000) (t : Lm) : ∀ (v : Value) (n : Int) (w : World) (X : Nat → Prop), MV w X v t → 0 ≤ n → n ≤ M →
    Calls Try.prog 38 #[v, .func (.func 29) #[] #[], .int .i64 M, .int .i64 n] w fun e w' => e = .returned (.int .i64 (min (n + sizeM [t]) (M + 1))) ∧ Below w.heap.size w w' := by
  induction t using Lm.ind with
  | h kd ix l ih =>
    intro v n w X hv hn0 hn1
    obtain ⟨a, c, rfl, hs⟩ := hv
    have IH := hide ih
    clear ih
    have hz : Hid ((sizeM [(⟨kd, ix, l⟩ : Lm)] : Int) = 1 + sizeM l) := by simp [Hid, sizeM]
    go_enter Try.func38, Try.ntmps38
    go_wp2_with (go_at_call 29; refine (subsOf_any _ _ _ _ _ _).mono ?_; rintro e w' ⟨rfl, rfl⟩)
    have hB0 : Hid (Below w.heap.size w ((w.alloc (Obj.cells #[Value.int .i64 kd, Value.int .i64 ix, Value.slice a l.length c] 24)).alloc (Obj.cells #[Value.int .i64 kd, Value.int .i64 ix, Value.slice a l.length c] 24))) := ((Below.refl _ _).alloc (Nat.le_refl _) _).alloc (by simp) _
    have hZ0 : Hid (w.heap.size + 2 ≤ ((w.alloc (Obj.cells #[Value.int .i64 kd, Value.int .i64 ix, Value.slice a l.length c] 24)).alloc (Obj.cells #[Value.int .i64 kd, Value.int .i64 ix, Value.slice a l.length c] 24)).heap.size) := by simp [Hid]
    generalize ((w.alloc (Obj.cells #[Value.int .i64 kd, Value.int .i64 ix, Value.slice a l.length c] 24)).alloc (Obj.cells #[Value.int .i64 kd, Value.int .i64 ix, Value.slice a l.length c] 24)) = w0 at *
    go_loopw [9, 18] (fun m i wr => ∃ k : Nat, k ≤ l.length ∧ i = .int .i64 k ∧ m = .int .i64 (min (n + 1 + sizeM (l.take k)) (M + 1)) ∧ Below w.heap.size w wr) (fun m i wr => l.length - (intOf i).toNat)
    case atStart => exact ⟨0, Nat.zero_le _, rfl, by rw [show sizeM (l.take 0) = 0 by simp [sizeM]]; congr 1; omega, hB0.out⟩
    case round =>
      obtain ⟨k, hk, rfl, rfl, hb⟩ := hrel
      have hl := hs.1
      have hsz : w.heap.size ≤ wr.heap.size := hb.size
      by_cases hlt : k < l.length
      · obtain ⟨b, o, a', c', rfl, d0, d0', d1, hx⟩ := hs.get hb (fun _ _ h => h) k hlt
        by_cases hle : n + 1 + (sizeM (l.take k) : Int) ≤ M
        · have hmin : min (n + 1 + (sizeM (l.take k) : Int)) (M + 1) = n + 1 + (sizeM (l.take k) : Int) := by omega
          rw [hmin]
          go_wp2_with fail
          refine (IH.out _ (List.getElem_mem hlt) _ _ _ X (hx.alloc _) (by omega) (by omega)).mono ?_
          rintro e w1 ⟨rfl, hb1⟩
          have Hst := hide (sizeM_take l k hlt)
          go_wp2_with fail
          go_roundw
          case rel => exact ⟨k + 1, by omega, by go_num, by rw [Hst.out]; congr 1; omega, (hb.alloc hsz _).trans (hb1.mono (by simp; omega))⟩
          case measure => simp [intOf]; omega
        · have hmin : min (n + 1 + (sizeM (l.take k) : Int)) (M + 1) = M + 1 := by omega
          rw [hmin]
          have hle2 : sizeM (l.take k) ≤ sizeM l := sizeM_take_le l k
          go_wp2_with fail
          go_ret
          refine ⟨ret_int (by have := hz.out; omega), ?_⟩
          exact hb.alloc (by omega) _
      · have htk : l.take k = l := List.take_of_length_le (by omega)
        rw [htk]
        go_wp2_with fail
        go_ret
        exact ⟨ret_int (by have := hz.out; omega), hb⟩

theorem countTM_any (M : Int) (hM0 : 0 ≤ M) (hM1 : M ≤ 1000000) (t : Lm) (v : Value) (w : World) (X : Nat → Prop) (hv : MV w X v t) :
    Calls Try.prog 28 #[v, .func (.func 29) #[] #[], .int .i64 M] w fun e w' => e = .returned (.int .i64 (min (sizeM [t] : Int) (M + 1))) ∧ Below w.heap.size w w' := by
  obtain ⟨a, c, rfl, hs⟩ := hv
  have hv : MV w X (.agg #[.int .i64 t.kind, .int .i64 t.idx, .slice a t.subs.length c]) t := ⟨a, c, rfl, hs⟩
  go_enter Try.func28, Try.ntmps28
  go_wp2_with fail
  refine (countOnM_any M hM0 hM1 t _ _ _ X (hv.alloc _) (by omega) (by omega)).mono ?_
  rintro e w1 ⟨rfl, hb1⟩
  go_wp2_with fail
  go_ret
  exact ⟨ret_int (by omega), ((Below.refl _ _).alloc (Nat.le_refl _) _).trans (hb1.mono (by simp))⟩

theorem countM_any (M : Int) (hM0 : 0 ≤ M) (hM1 : M ≤ 1000000) (t : Lm) (v : Value) (w : World) (X : Nat → Prop) (hv : MV w X v t) :
    Calls Try.prog 21 #[v, .int .i64 M] w fun e w' => e = .returned (.int .i64 (min (sizeM [t] : Int) (M + 1))) ∧ Below w.heap.size w w' := by
  obtain ⟨a, c, rfl, hs⟩ := hv
  have hv : MV w X (.agg #[.int .i64 t.kind, .int .i64 t.idx, .slice a t.subs.length c]) t := ⟨a, c, rfl, hs⟩
  go_enter Try.func21, Try.ntmps21
  go_wp2_with fail
  refine (countTM_any M hM0 hM1 t _ _ X (hv.alloc _)).mono ?_
  rintro e w1 ⟨rfl, hb1⟩
  go_wp2_with fail
  go_ret
  exact ⟨ret_int (by omega), ((Below.refl _ _).alloc (Nat.le_refl _) _).trans (hb1.mono (by simp))⟩

end Go.Proofs.Ytaifameeoipjjaa


/- Walks: may a lambda term be? -/
namespace Go.Proofs.Ytaifameeoipjjaa
open Go.RowKit
set_option linter.unusedSimpArgs false
set_option linter.unusedVariables false
set_option maxRecDepth 8000

/-- How many stand below a knot of a kind. -/
def subsK (k : Int) : Nat := if k = 2 then 1 else if k = 3 then 2 else 0
/-- What its number is below, with u binders around it and m unknowns. -/
def mostK (u m k : Int) : Int := if k = 1 then u else if k = 4 then 40 else if k = 5 then m else 1
/-- The binders around what stands below it. -/
def deepK (u k : Int) : Int := if k = 2 then u + 1 else u
/-- What is wrong with a knot. -/
def knE (u m k x : Int) (n : Nat) : Int := if k < 1 ∨ 5 < k then 2 else if n ≠ subsK k then 2 else if x < 0 ∨ mostK u m k ≤ x then 15 else 0
/-- What is wrong first. -/
def errM : Int → Int → List Lm → Int
  | _, _, [] => 0
  | u, m, ⟨k, x, l⟩ :: r => if knE u m k x l.length = 0 then (if errM (deepK u k) m l = 0 then errM u m r else errM (deepK u k) m l) else knE u m k x l.length
theorem errM_cons (u m : Int) (t : Lm) (r : List Lm) : errM u m (t :: r) = if errM u m [t] = 0 then errM u m r else errM u m [t] := by
  obtain ⟨k, x, l⟩ := t
  simp only [errM]
  split
  · split <;> simp_all
  · simp_all
theorem errM_append (u m : Int) (a b : List Lm) : errM u m (a ++ b) = if errM u m a = 0 then errM u m b else errM u m a := by
  induction a with
  | nil => simp [errM]
  | cons t r ih =>
    rw [List.cons_append, errM_cons, errM_cons u m t r, ih]
    by_cases h : errM u m [t] = 0 <;> simp [h]
theorem errM_take (u m : Int) (l : List Lm) (k : Nat) (h : k < l.length) : errM u m (l.take (k + 1)) = if errM u m (l.take k) = 0 then errM u m [l[k]] else errM u m (l.take k) := by
  rw [List.take_succ_eq_append_getElem h, errM_append]
theorem errM_of_take {u m : Int} {l : List Lm} {k : Nat} (h : errM u m (l.take k) ≠ 0) : errM u m l = errM u m (l.take k) := by
  have := errM_append u m (l.take k) (l.drop k)
  rw [List.take_append_drop, if_neg h] at this
  exact this
theorem errM_good {u m kd ix : Int} {l : List Lm} (h : knE u m kd ix l.length = 0) : errM u m [⟨kd, ix, l⟩] = errM (deepK u kd) m l := by
  simp only [errM, h, if_true]
  by_cases h0 : errM (deepK u kd) m l = 0 <;> simp [h0]
theorem errM_bad {u m kd ix : Int} {l : List Lm} (h : knE u m kd ix l.length ≠ 0) : errM u m [⟨kd, ix, l⟩] = knE u m kd ix l.length := by
  simp [errM, h]
/-- May a lambda term be, under so many binders? -/
def lamE (u m : Int) (t : Lm) : Int := if u < 0 ∨ 40 < u then 10 else if 200 < sizeM [t] then 3 else errM u m [t]

set_option maxHeartbeats 1000000 in
theorem checkKnot_any (kd ix u m : Int) (a : Option Addr) (n c : Nat) (w : World) (hn : n ≤ 9223372036854775807) :
    Calls Try.prog 43 #[.agg #[.int .i64 kd, .int .i64 ix, .slice a n c], .int .i64 u, .int .i64 m] w fun e w' => e = .returned (.int .i64 (knE u m kd ix n)) ∧ Below w.heap.size w w' := by
  have HB : Hid (Below w.heap.size w (w.alloc (.cells #[.int .i64 kd, .int .i64 ix, .slice a n c] 24))) := (Below.refl _ _).alloc (Nat.le_refl _) _
  by_cases k1 : kd = 1
  case pos =>
    subst k1
    by_cases hl : n = 0
    case pos =>
      subst hl
      by_cases hi : ix < 0
      · have HE : Hid (knE u m 1 ix 0 = 15) := by unfold Hid knE mostK subsK; simp [hi]
        go_enter Try.func43, Try.ntmps43
        go_wp2_with fail
        go_ret
        exact ⟨ret_int HE.out.symm, HB.out⟩
      · by_cases hj : (u : Int) ≤ ix
        · have HE : Hid (knE u m 1 ix 0 = 15) := by unfold Hid knE mostK subsK; simp [hi, hj]
          go_enter Try.func43, Try.ntmps43
          go_wp2_with fail
          go_ret
          exact ⟨ret_int HE.out.symm, HB.out⟩
        · have HE : Hid (knE u m 1 ix 0 = 0) := by unfold Hid knE mostK subsK; simp [hi, hj]
          go_enter Try.func43, Try.ntmps43
          go_wp2_with fail
          go_ret
          exact ⟨ret_int HE.out.symm, HB.out⟩
    case neg =>
      have HE : Hid (knE u m 1 ix n = 2) := by unfold Hid knE mostK subsK; simp [hl]
      have hl2 : ¬ (n : Int) = 0 := by omega
      have hl3 : ((n : Int) != 0) = true := by simpa using hl2
      clear hl
      go_enter Try.func43, Try.ntmps43
      go_wp2_with fail
      go_ret
      exact ⟨ret_int HE.out.symm, HB.out⟩
  case neg =>
    by_cases k2 : kd = 2
    case pos =>
      subst k2
      by_cases hl : n = 1
      case pos =>
        subst hl
        by_cases hi : ix < 0
        · have HE : Hid (knE u m 2 ix 1 = 15) := by unfold Hid knE mostK subsK; simp [hi]
          go_enter Try.func43, Try.ntmps43
          go_wp2_with fail
          go_ret
          exact ⟨ret_int HE.out.symm, HB.out⟩
        · by_cases hj : (1 : Int) ≤ ix
          · have HE : Hid (knE u m 2 ix 1 = 15) := by unfold Hid knE mostK subsK; simp [hi, hj]
            go_enter Try.func43, Try.ntmps43
            go_wp2_with fail
            go_ret
            exact ⟨ret_int HE.out.symm, HB.out⟩
          · have HE : Hid (knE u m 2 ix 1 = 0) := by unfold Hid knE mostK subsK; simp [hi, hj]
            go_enter Try.func43, Try.ntmps43
            go_wp2_with fail
            go_ret
            exact ⟨ret_int HE.out.symm, HB.out⟩
      case neg =>
        have HE : Hid (knE u m 2 ix n = 2) := by unfold Hid knE mostK subsK; simp [hl]
        have hl2 : ¬ (n : Int) = 1 := by omega
        have hl3 : ((n : Int) != 1) = true := by simpa using hl2
        clear hl
        go_enter Try.func43, Try.ntmps43
        go_wp2_with fail
        go_ret
        exact ⟨ret_int HE.out.symm, HB.out⟩
    case neg =>
      by_cases k3 : kd = 3
      case pos =>
        subst k3
        by_cases hl : n = 2
        case pos =>
          subst hl
          by_cases hi : ix < 0
          · have HE : Hid (knE u m 3 ix 2 = 15) := by unfold Hid knE mostK subsK; simp [hi]
            go_enter Try.func43, Try.ntmps43
            go_wp2_with fail
            go_ret
            exact ⟨ret_int HE.out.symm, HB.out⟩
          · by_cases hj : (1 : Int) ≤ ix
            · have HE : Hid (knE u m 3 ix 2 = 15) := by unfold Hid knE mostK subsK; simp [hi, hj]
              go_enter Try.func43, Try.ntmps43
              go_wp2_with fail
              go_ret
              exact ⟨ret_int HE.out.symm, HB.out⟩
            · have HE : Hid (knE u m 3 ix 2 = 0) := by unfold Hid knE mostK subsK; simp [hi, hj]
              go_enter Try.func43, Try.ntmps43
              go_wp2_with fail
              go_ret
              exact ⟨ret_int HE.out.symm, HB.out⟩
        case neg =>
          have HE : Hid (knE u m 3 ix n = 2) := by unfold Hid knE mostK subsK; simp [hl]
          have hl2 : ¬ (n : Int) = 2 := by omega
          have hl3 : ((n : Int) != 2) = true := by simpa using hl2
          clear hl
          go_enter Try.func43, Try.ntmps43
          go_wp2_with fail
          go_ret
          exact ⟨ret_int HE.out.symm, HB.out⟩
      case neg =>
        by_cases k4 : kd = 4
        case pos =>
          subst k4
          by_cases hl : n = 0
          case pos =>
            subst hl
            by_cases hi : ix < 0
            · have HE : Hid (knE u m 4 ix 0 = 15) := by unfold Hid knE mostK subsK; simp [hi]
              go_enter Try.func43, Try.ntmps43
              go_wp2_with fail
              go_ret
              exact ⟨ret_int HE.out.symm, HB.out⟩
            · by_cases hj : (40 : Int) ≤ ix
              · have HE : Hid (knE u m 4 ix 0 = 15) := by unfold Hid knE mostK subsK; simp [hi, hj]
                go_enter Try.func43, Try.ntmps43
                go_wp2_with fail
                go_ret
                exact ⟨ret_int HE.out.symm, HB.out⟩
              · have HE : Hid (knE u m 4 ix 0 = 0) := by unfold Hid knE mostK subsK; simp [hi, hj]
                go_enter Try.func43, Try.ntmps43
                go_wp2_with fail
                go_ret
                exact ⟨ret_int HE.out.symm, HB.out⟩
          case neg =>
            have HE : Hid (knE u m 4 ix n = 2) := by unfold Hid knE mostK subsK; simp [hl]
            have hl2 : ¬ (n : Int) = 0 := by omega
            have hl3 : ((n : Int) != 0) = true := by simpa using hl2
            clear hl
            go_enter Try.func43, Try.ntmps43
            go_wp2_with fail
            go_ret
            exact ⟨ret_int HE.out.symm, HB.out⟩
        case neg =>
          by_cases k5 : kd = 5
          case pos =>
            subst k5
            by_cases hl : n = 0
            case pos =>
              subst hl
              by_cases hi : ix < 0
              · have HE : Hid (knE u m 5 ix 0 = 15) := by unfold Hid knE mostK subsK; simp [hi]
                go_enter Try.func43, Try.ntmps43
                go_wp2_with fail
                go_ret
                exact ⟨ret_int HE.out.symm, HB.out⟩
              · by_cases hj : (m : Int) ≤ ix
                · have HE : Hid (knE u m 5 ix 0 = 15) := by unfold Hid knE mostK subsK; simp [hi, hj]
                  go_enter Try.func43, Try.ntmps43
                  go_wp2_with fail
                  go_ret
                  exact ⟨ret_int HE.out.symm, HB.out⟩
                · have HE : Hid (knE u m 5 ix 0 = 0) := by unfold Hid knE mostK subsK; simp [hi, hj]
                  go_enter Try.func43, Try.ntmps43
                  go_wp2_with fail
                  go_ret
                  exact ⟨ret_int HE.out.symm, HB.out⟩
            case neg =>
              have HE : Hid (knE u m 5 ix n = 2) := by unfold Hid knE mostK subsK; simp [hl]
              have hl2 : ¬ (n : Int) = 0 := by omega
              have hl3 : ((n : Int) != 0) = true := by simpa using hl2
              clear hl
              go_enter Try.func43, Try.ntmps43
              go_wp2_with fail
              go_ret
              exact ⟨ret_int HE.out.symm, HB.out⟩
          case neg =>
            have HE : Hid (knE u m kd ix n = 2) := by unfold Hid knE; rw [if_pos (by omega)]
            have e1 : (kd == 1) = false := by simpa using k1
            have e2 : (kd == 2) = false := by simpa using k2
            have e3 : (kd == 3) = false := by simpa using k3
            have e4 : (kd == 4) = false := by simpa using k4
            have e5 : (kd == 5) = false := by simpa using k5
            go_enter Try.func43, Try.ntmps43
            go_wp2_with fail
            go_ret
            exact ⟨ret_int HE.out.symm, HB.out⟩

def KnInv2 (u m : Int) (l : List Lm) (w : World) (o : Value) (wr : World) : Prop := ∃ k : Nat, k ≤ l.length ∧ o = .int .i64 (k : Int) ∧ errM u m (l.take k) = 0 ∧ Below w.heap.size w wr

set_option maxHeartbeats 1000000 in
theorem checkKnotsM_any (m : Int) (t : Lm) : ∀ (v : Value) (u : Int) (w : World) (X : Nat → Prop), MV w X v t → 0 ≤ u → u + sizeM [t] ≤ 1000000 →
    Calls Try.prog 37 #[v, .int .i64 u, .int .i64 m] w fun e w' => e = .returned (.int .i64 (errM u m [t])) ∧ Below w.heap.size w w' := by
  induction t using Lm.ind with
  | h kd ix l ih =>
    intro v u w X hv hu0 hu1
    obtain ⟨a, c, rfl, hs⟩ := hv
    have IH := hide ih
    clear ih
    have hl := hs.1
    have hz : sizeM [(⟨kd, ix, l⟩ : Lm)] = 1 + sizeM l := by simp [sizeM]
    rw [hz] at hu1
    clear hz
    have HB0 : Hid (Below w.heap.size w (w.alloc (.cells #[.int .i64 kd, .int .i64 ix, .slice a l.length c] 24))) := (Below.refl _ _).alloc (Nat.le_refl _) _
    have hT0 := Blk.new w #[.int .i64 kd, .int .i64 ix, .slice a l.length c] 24
    go_enter Try.func37, Try.ntmps37
    go_wp2_with fail
    refine (checkKnot_any kd ix u m a l.length c _ hl).mono ?_
    rintro e w1 ⟨rfl, hb1⟩
    have HB1 := hide (HB0.out.trans (hb1.mono (by simp)))
    have T1 := hide (hT0.below hb1 hT0.lt)
    have t0 : w1.cell? ⟨w.heap.size, 0, none⟩ = some (.int .i64 kd) := T1.out.cell 0
    have t1 : w1.cell? ⟨w.heap.size, 1, none⟩ = some (.int .i64 ix) := T1.out.cell 1
    have t2 : w1.cell? ⟨w.heap.size, 2, none⟩ = some (.slice a l.length c) := T1.out.cell 2
    clear hb1 hT0 HB0
    by_cases h0 : knE u m kd ix l.length = 0
    case neg =>
      have HE := hide (errM_bad h0)
      have h1 : (knE u m kd ix l.length == 0) = false := by simpa using h0
      have h2 : (knE u m kd ix l.length != 0) = true := by simpa using h0
      go_wp2_with fail
      go_ret
      exact ⟨ret_int HE.out.symm, HB1.out⟩
    case pos =>
      have HE := hide (errM_good h0)
      rw [h0]
      clear h0
      by_cases k2 : kd = 2
      case pos =>
        subst k2
        have HD : Hid (deepK u 2 = u + 1) := by unfold Hid deepK; rfl
        go_wp2_with fail
        go_loopw [26] (fun o wr => KnInv2 (u + 1) m l w o wr) (fun o wr => l.length - (intOf o).toNat)
        case atStart => exact ⟨0, Nat.zero_le _, rfl, by simp [errM], HB1.out⟩
        case round =>
          obtain ⟨k, hk, rfl, he, hb⟩ := hrel
          have HEK := hide he
          have HBK := hide hb
          clear he
          have hsz : w.heap.size ≤ wr.heap.size := hb.size
          by_cases hlt : k < l.length
          · obtain ⟨b, o, a', c', rfl, d0, d0', d1, hx⟩ := hs.get hb (fun _ _ h => h) k hlt
            have HT := hide (errM_take (u + 1) m l k hlt)
            have hzk : 1 + sizeM [l[k]] ≤ 1 + sizeM l := by
              have h1 := sizeM_take l k hlt
              have h2 := sizeM_take_le l (k + 1)
              omega
            clear hb
            go_wp2_with fail
            refine (IH.out _ (List.getElem_mem hlt) _ _ _ X (hx.alloc _) (by omega) (by omega)).mono ?_
            rintro e w2 ⟨rfl, hb2⟩
            have HB2 : Hid (Below w.heap.size w w2) := (HBK.out.alloc hsz _).trans (hb2.mono (by simp; omega))
            clear hb2
            by_cases hez : errM (u + 1) m [l[k]] = 0
            · have HZ := hide hez
              rw [hez]
              clear hez
              go_wp2_with fail
              go_roundw
              case rel => exact ⟨k + 1, by omega, by go_num, by rw [HT.out, HEK.out, HZ.out]; rfl, HB2.out⟩
              case measure => simp [intOf]; omega
            · have h1 : (errM (u + 1) m [l[k]] == 0) = false := by simpa using hez
              have h2 : (errM (u + 1) m [l[k]] != 0) = true := by simpa using hez
              have HZ : Hid (errM (u + 1) m [l[k]] = errM u m [(⟨2, ix, l⟩ : Lm)]) := by
                have h1 : errM (u + 1) m (l.take (k + 1)) = errM (u + 1) m [l[k]] := by rw [HT.out, HEK.out]; rfl
                unfold Hid
                rw [HE.out, HD.out, errM_of_take (l := l) (k := k + 1) (by rw [h1]; exact hez), h1]
              go_wp2_with fail
              go_ret
              exact ⟨ret_int HZ.out, HB2.out⟩
          · have htk : l.take k = l := List.take_of_length_le (by omega)
            have hge : ¬ ((k : Int) < (l.length : Int)) := by omega
            have HZ : Hid (0 = errM u m [(⟨2, ix, l⟩ : Lm)]) := by unfold Hid; rw [HE.out, HD.out, ← htk, HEK.out]
            go_wp2_with fail
            go_ret
            exact ⟨ret_int HZ.out, HBK.out⟩
      case neg =>
        have HD : Hid (deepK u kd = u) := by unfold Hid deepK; rw [if_neg k2]
        have e2 : (kd == 2) = false := by simpa using k2
        go_wp2_with fail
        go_loopw [26] (fun o wr => KnInv2 (u) m l w o wr) (fun o wr => l.length - (intOf o).toNat)
        case atStart => exact ⟨0, Nat.zero_le _, rfl, by simp [errM], HB1.out⟩
        case round =>
          obtain ⟨k, hk, rfl, he, hb⟩ := hrel
          have HEK := hide he
          have HBK := hide hb
          clear he
          have hsz : w.heap.size ≤ wr.heap.size := hb.size
          by_cases hlt : k < l.length
          · obtain ⟨b, o, a', c', rfl, d0, d0', d1, hx⟩ := hs.get hb (fun _ _ h => h) k hlt
            have HT := hide (errM_take (u) m l k hlt)
            have hzk : 1 + sizeM [l[k]] ≤ 1 + sizeM l := by
              have h1 := sizeM_take l k hlt
              have h2 := sizeM_take_le l (k + 1)
              omega
            clear hb
            go_wp2_with fail
            refine (IH.out _ (List.getElem_mem hlt) _ _ _ X (hx.alloc _) (by omega) (by omega)).mono ?_
            rintro e w2 ⟨rfl, hb2⟩
            have HB2 : Hid (Below w.heap.size w w2) := (HBK.out.alloc hsz _).trans (hb2.mono (by simp; omega))
            clear hb2
            by_cases hez : errM (u) m [l[k]] = 0
            · have HZ := hide hez
              rw [hez]
              clear hez
              go_wp2_with fail
              go_roundw
              case rel => exact ⟨k + 1, by omega, by go_num, by rw [HT.out, HEK.out, HZ.out]; rfl, HB2.out⟩
              case measure => simp [intOf]; omega
            · have h1 : (errM (u) m [l[k]] == 0) = false := by simpa using hez
              have h2 : (errM (u) m [l[k]] != 0) = true := by simpa using hez
              have HZ : Hid (errM (u) m [l[k]] = errM u m [(⟨kd, ix, l⟩ : Lm)]) := by
                have h1 : errM (u) m (l.take (k + 1)) = errM (u) m [l[k]] := by rw [HT.out, HEK.out]; rfl
                unfold Hid
                rw [HE.out, HD.out, errM_of_take (l := l) (k := k + 1) (by rw [h1]; exact hez), h1]
              go_wp2_with fail
              go_ret
              exact ⟨ret_int HZ.out, HB2.out⟩
          · have htk : l.take k = l := List.take_of_length_le (by omega)
            have hge : ¬ ((k : Int) < (l.length : Int)) := by omega
            have HZ : Hid (0 = errM u m [(⟨kd, ix, l⟩ : Lm)]) := by unfold Hid; rw [HE.out, HD.out, ← htk, HEK.out]
            go_wp2_with fail
            go_ret
            exact ⟨ret_int HZ.out, HBK.out⟩

set_option maxHeartbeats 1000000 in
theorem checkM_any (t : Lm) (v : Value) (u m : Int) (w : World) (X : Nat → Prop) (hv : MV w X v t) :
    Calls Try.prog 27 #[v, .int .i64 u, .int .i64 m] w fun e w' => e = .returned (.int .i64 (lamE u m t)) ∧ Below w.heap.size w w' := by
  obtain ⟨a, c, rfl, hs⟩ := hv
  have hv : MV w X (.agg #[.int .i64 t.kind, .int .i64 t.idx, .slice a t.subs.length c]) t := ⟨a, c, rfl, hs⟩
  have HB0 : Hid (Below w.heap.size w (w.alloc (.cells #[.int .i64 t.kind, .int .i64 t.idx, .slice a t.subs.length c] 24))) := (Below.refl _ _).alloc (Nat.le_refl _) _
  have hT0 := Blk.new w #[.int .i64 t.kind, .int .i64 t.idx, .slice a t.subs.length c] 24
  go_enter Try.func27, Try.ntmps27
  by_cases h1 : u < 0
  · have HE : Hid (lamE u m t = 10) := by unfold Hid lamE; rw [if_pos (Or.inl h1)]
    go_wp2_with fail
    go_ret
    exact ⟨ret_int HE.out.symm, HB0.out⟩
  by_cases h2 : 40 < u
  · have HE : Hid (lamE u m t = 10) := by unfold Hid lamE; rw [if_pos (Or.inr h2)]
    go_wp2_with fail
    go_ret
    exact ⟨ret_int HE.out.symm, HB0.out⟩
  go_wp2_with fail
  refine (countM_any 200 (by omega) (by omega) t _ _ X (hv.alloc _)).mono ?_
  rintro e w1 ⟨rfl, hb1⟩
  have HB1 := hide (HB0.out.trans (hb1.mono (by simp)))
  have T1 := hide (hT0.below hb1 hT0.lt)
  have t0 : w1.cell? ⟨w.heap.size, 0, none⟩ = some (.int .i64 t.kind) := T1.out.cell 0
  have t1 : w1.cell? ⟨w.heap.size, 1, none⟩ = some (.int .i64 t.idx) := T1.out.cell 1
  have t2 : w1.cell? ⟨w.heap.size, 2, none⟩ = some (.slice a t.subs.length c) := T1.out.cell 2
  clear hb1 hT0 HB0
  by_cases h3 : 200 < sizeM [t]
  · have HE : Hid (lamE u m t = 3) := by unfold Hid lamE; rw [if_neg (by omega), if_pos h3]
    have e : min (sizeM [t] : Int) (200 + 1) = 201 := by omega
    rw [e]
    go_wp2_with fail
    go_ret
    exact ⟨ret_int HE.out.symm, HB1.out⟩
  · have HE : Hid (lamE u m t = errM u m [t]) := by unfold Hid lamE; rw [if_neg (by omega), if_neg h3]
    have e : min (sizeM [t] : Int) (200 + 1) = sizeM [t] := by omega
    rw [e]
    have hle : ¬ (200 : Int) < (sizeM [t] : Int) := by omega
    go_wp2_with fail
    refine (checkKnotsM_any m t _ u _ X (hv.later HB1.out) (by omega) (by omega)).mono ?_
    rintro e w2 ⟨rfl, hb2⟩
    go_wp2_with fail
    go_ret
    exact ⟨ret_int HE.out.symm, HB1.out.trans (hb2.mono HB1.out.size)⟩
end Go.Proofs.Ytaifameeoipjjaa

/- Walks: may a lambda term be, as the document says. -/
namespace Go.Proofs.Ytaifameeoipjjaa
open Go.RowKit
set_option linter.unusedSimpArgs false
set_option linter.unusedVariables false
set_option maxRecDepth 8000

set_option maxHeartbeats 2000000 in
theorem lamMay0_any (m : Int) (t : Lm) : ∀ (v : Value) (u : Int) (w : World) (X : Nat → Prop), MV w X v t → 0 ≤ u → u + sizeM [t] ≤ 1000000 →
    Calls Try.prog 12 #[v, .int .i64 u, .int .i64 m] w fun e w' => e = .returned (.int .i64 (errM u m [t])) ∧ Below w.heap.size w w' := by
  induction t using Lm.ind with
  | h kd ix l ih =>
    intro v u w X hv hu0 hu1
    obtain ⟨a, c, rfl, hs⟩ := hv
    have IH := hide ih
    clear ih
    have hl9 := hs.1
    have hz : sizeM [(⟨kd, ix, l⟩ : Lm)] = 1 + sizeM l := by simp [sizeM]
    rw [hz] at hu1
    clear hz
    have HB0 : Hid (Below w.heap.size w (w.alloc (.cells #[.int .i64 kd, .int .i64 ix, .slice a l.length c] 24))) := (Below.refl _ _).alloc (Nat.le_refl _) _
    have HT0 := hide (Blk.new w #[.int .i64 kd, .int .i64 ix, .slice a l.length c] 24)
    by_cases k1 : kd = 1
    case pos =>
      subst k1
      by_cases hl : l.length = 0
      case neg =>
        have HK : Hid (knE u m 1 ix l.length = 2) := by unfold Hid knE mostK subsK; simp [hl]
        have HE : Hid (errM u m [(⟨1, ix, l⟩ : Lm)] = 2) := by unfold Hid; rw [errM_bad (by rw [HK.out]; decide), HK.out]
        have hl2 : ¬ (l.length : Int) = 0 := by omega
        have hl3 : ((l.length : Int) != 0) = true := by simpa using hl2
        go_enter Try.func12, Try.ntmps12
        go_wp2_with fail
        go_ret
        exact ⟨ret_int HE.out.symm, HB0.out⟩
      case pos =>
        have HL := hide hl
        have hl3 : ((l.length : Int) != 0) = false := by simp [hl]
        clear hl
        by_cases hi : ix < 0
        case pos =>
          have HK : Hid (knE u m 1 ix l.length = 15) := by unfold Hid knE mostK subsK; simp [HL.out, hi]
          have HE : Hid (errM u m [(⟨1, ix, l⟩ : Lm)] = 15) := by unfold Hid; rw [errM_bad (by rw [HK.out]; decide), HK.out]
          go_enter Try.func12, Try.ntmps12
          go_wp2_with fail
          go_ret
          exact ⟨ret_int HE.out.symm, HB0.out⟩
        case neg =>
          by_cases hj : (u : Int) ≤ ix
          case pos =>
            have HK : Hid (knE u m 1 ix l.length = 15) := by unfold Hid knE mostK subsK; simp [HL.out, hi, hj]
            have HE : Hid (errM u m [(⟨1, ix, l⟩ : Lm)] = 15) := by unfold Hid; rw [errM_bad (by rw [HK.out]; decide), HK.out]
            go_enter Try.func12, Try.ntmps12
            go_wp2_with fail
            go_ret
            exact ⟨ret_int HE.out.symm, HB0.out⟩
          case neg =>
            have HK : Hid (knE u m 1 ix l.length = 0) := by unfold Hid knE mostK subsK; simp [HL.out, hi, hj]
            have HE := hide (errM_good HK.out)
            have HD : Hid (deepK u 1 = u) := by unfold Hid deepK; first | rfl | simp
            go_enter Try.func12, Try.ntmps12
            go_wp2_with fail
            go_loopw [10] (fun o wr => KnInv2 (u) m l w o wr ∧ Blk wr w.heap.size #[.int .i64 1, .int .i64 ix, .slice a l.length c] 24) (fun o wr => l.length - (intOf o).toNat)
            case atStart => exact ⟨⟨0, Nat.zero_le _, rfl, by simp [errM], HB0.out⟩, HT0.out⟩
            case round =>
              obtain ⟨⟨k, hk, rfl, he, hb⟩, hT⟩ := hrel
              have HEK := hide he
              have HBK := hide hb
              have HTK := hide hT
              clear he
              have hsz : w.heap.size ≤ wr.heap.size := hb.size
              have t0 : wr.cell? ⟨w.heap.size, 0, none⟩ = some (.int .i64 1) := hT.cell 0
              have t1 : wr.cell? ⟨w.heap.size, 1, none⟩ = some (.int .i64 ix) := hT.cell 1
              have t2 : wr.cell? ⟨w.heap.size, 2, none⟩ = some (.slice a l.length c) := hT.cell 2
              by_cases hlt : k < l.length
              · exact absurd hlt (by have := HL.out; omega)
              · have htk : l.take k = l := List.take_of_length_le (by omega)
                have hge : ¬ ((k : Int) < 0) := by have := HL.out; omega
                have HZ : Hid (0 = errM u m [(⟨1, ix, l⟩ : Lm)]) := by unfold Hid; rw [HE.out, HD.out, ← htk, HEK.out]
                go_wp2_with fail
                go_ret
                exact ⟨ret_int HZ.out, HBK.out⟩
    case neg =>
      by_cases k2 : kd = 2
      case pos =>
        subst k2
        by_cases hl : l.length = 1
        case neg =>
          have HK : Hid (knE u m 2 ix l.length = 2) := by unfold Hid knE mostK subsK; simp [hl]
          have HE : Hid (errM u m [(⟨2, ix, l⟩ : Lm)] = 2) := by unfold Hid; rw [errM_bad (by rw [HK.out]; decide), HK.out]
          have hl2 : ¬ (l.length : Int) = 1 := by omega
          have hl3 : ((l.length : Int) != 1) = true := by simpa using hl2
          go_enter Try.func12, Try.ntmps12
          go_wp2_with fail
          go_ret
          exact ⟨ret_int HE.out.symm, HB0.out⟩
        case pos =>
          have HL := hide hl
          have hl3 : ((l.length : Int) != 1) = false := by simp [hl]
          clear hl
          by_cases hi : ix < 0
          case pos =>
            have HK : Hid (knE u m 2 ix l.length = 15) := by unfold Hid knE mostK subsK; simp [HL.out, hi]
            have HE : Hid (errM u m [(⟨2, ix, l⟩ : Lm)] = 15) := by unfold Hid; rw [errM_bad (by rw [HK.out]; decide), HK.out]
            go_enter Try.func12, Try.ntmps12
            go_wp2_with fail
            go_ret
            exact ⟨ret_int HE.out.symm, HB0.out⟩
          case neg =>
            by_cases hj : (1 : Int) ≤ ix
            case pos =>
              have HK : Hid (knE u m 2 ix l.length = 15) := by unfold Hid knE mostK subsK; simp [HL.out, hi, hj]
              have HE : Hid (errM u m [(⟨2, ix, l⟩ : Lm)] = 15) := by unfold Hid; rw [errM_bad (by rw [HK.out]; decide), HK.out]
              go_enter Try.func12, Try.ntmps12
              go_wp2_with fail
              go_ret
              exact ⟨ret_int HE.out.symm, HB0.out⟩
            case neg =>
              have HK : Hid (knE u m 2 ix l.length = 0) := by unfold Hid knE mostK subsK; simp [HL.out, hi, hj]
              have HE := hide (errM_good HK.out)
              have HD : Hid (deepK u 2 = u + 1) := by unfold Hid deepK; first | rfl | simp
              go_enter Try.func12, Try.ntmps12
              go_wp2_with fail
              go_loopw [10] (fun o wr => KnInv2 (u + 1) m l w o wr ∧ Blk wr w.heap.size #[.int .i64 2, .int .i64 ix, .slice a l.length c] 24) (fun o wr => l.length - (intOf o).toNat)
              case atStart => exact ⟨⟨0, Nat.zero_le _, rfl, by simp [errM], HB0.out⟩, HT0.out⟩
              case round =>
                obtain ⟨⟨k, hk, rfl, he, hb⟩, hT⟩ := hrel
                have HEK := hide he
                have HBK := hide hb
                have HTK := hide hT
                clear he
                have hsz : w.heap.size ≤ wr.heap.size := hb.size
                have t0 : wr.cell? ⟨w.heap.size, 0, none⟩ = some (.int .i64 2) := hT.cell 0
                have t1 : wr.cell? ⟨w.heap.size, 1, none⟩ = some (.int .i64 ix) := hT.cell 1
                have t2 : wr.cell? ⟨w.heap.size, 2, none⟩ = some (.slice a l.length c) := hT.cell 2
                by_cases hlt : k < l.length
                · obtain ⟨b, o, a', c', rfl, d0, d0', d1, hx⟩ := hs.get hb (fun _ _ h => h) k hlt
                  have HT := hide (errM_take (u + 1) m l k hlt)
                  have hlt2 : (k : Int) < 1 := by have := HL.out; omega
                  have hzk : 1 + sizeM [l[k]] ≤ 1 + sizeM l := by
                    have h1 := sizeM_take l k hlt
                    have h2 := sizeM_take_le l (k + 1)
                    omega
                  clear hb hT
                  go_wp2_with fail
                  refine (IH.out _ (List.getElem_mem hlt) _ _ _ X hx (by omega) (by omega)).mono ?_
                  rintro e w2 ⟨rfl, hb2⟩
                  have HB2 : Hid (Below w.heap.size w w2) := HBK.out.trans (hb2.mono hsz)
                  have HT2 := hide (HTK.out.below hb2 HTK.out.lt)
                  clear hb2
                  by_cases hez : errM (u + 1) m [l[k]] = 0
                  · have HZ := hide hez
                    rw [hez]
                    clear hez
                    go_wp2_with fail
                    go_roundw
                    case rel => exact ⟨⟨k + 1, by omega, by go_num, by rw [HT.out, HEK.out, HZ.out]; rfl, HB2.out⟩, HT2.out⟩
                    case measure => simp [intOf]; omega
                  · have h1 : (errM (u + 1) m [l[k]] == 0) = false := by simpa using hez
                    have h2 : (errM (u + 1) m [l[k]] != 0) = true := by simpa using hez
                    have HZ : Hid (errM (u + 1) m [l[k]] = errM u m [(⟨2, ix, l⟩ : Lm)]) := by
                      have h1 : errM (u + 1) m (l.take (k + 1)) = errM (u + 1) m [l[k]] := by rw [HT.out, HEK.out]; rfl
                      unfold Hid
                      rw [HE.out, HD.out, errM_of_take (l := l) (k := k + 1) (by rw [h1]; exact hez), h1]
                    go_wp2_with fail
                    go_ret
                    exact ⟨ret_int HZ.out, HB2.out⟩
                · have htk : l.take k = l := List.take_of_length_le (by omega)
                  have hge : ¬ ((k : Int) < 1) := by have := HL.out; omega
                  have HZ : Hid (0 = errM u m [(⟨2, ix, l⟩ : Lm)]) := by unfold Hid; rw [HE.out, HD.out, ← htk, HEK.out]
                  go_wp2_with fail
                  go_ret
                  exact ⟨ret_int HZ.out, HBK.out⟩
      case neg =>
        by_cases k3 : kd = 3
        case pos =>
          subst k3
          by_cases hl : l.length = 2
          case neg =>
            have HK : Hid (knE u m 3 ix l.length = 2) := by unfold Hid knE mostK subsK; simp [hl]
            have HE : Hid (errM u m [(⟨3, ix, l⟩ : Lm)] = 2) := by unfold Hid; rw [errM_bad (by rw [HK.out]; decide), HK.out]
            have hl2 : ¬ (l.length : Int) = 2 := by omega
            have hl3 : ((l.length : Int) != 2) = true := by simpa using hl2
            go_enter Try.func12, Try.ntmps12
            go_wp2_with fail
            go_ret
            exact ⟨ret_int HE.out.symm, HB0.out⟩
          case pos =>
            have HL := hide hl
            have hl3 : ((l.length : Int) != 2) = false := by simp [hl]
            clear hl
            by_cases hi : ix < 0
            case pos =>
              have HK : Hid (knE u m 3 ix l.length = 15) := by unfold Hid knE mostK subsK; simp [HL.out, hi]
              have HE : Hid (errM u m [(⟨3, ix, l⟩ : Lm)] = 15) := by unfold Hid; rw [errM_bad (by rw [HK.out]; decide), HK.out]
              go_enter Try.func12, Try.ntmps12
              go_wp2_with fail
              go_ret
              exact ⟨ret_int HE.out.symm, HB0.out⟩
            case neg =>
              by_cases hj : (1 : Int) ≤ ix
              case pos =>
                have HK : Hid (knE u m 3 ix l.length = 15) := by unfold Hid knE mostK subsK; simp [HL.out, hi, hj]
                have HE : Hid (errM u m [(⟨3, ix, l⟩ : Lm)] = 15) := by unfold Hid; rw [errM_bad (by rw [HK.out]; decide), HK.out]
                go_enter Try.func12, Try.ntmps12
                go_wp2_with fail
                go_ret
                exact ⟨ret_int HE.out.symm, HB0.out⟩
              case neg =>
                have HK : Hid (knE u m 3 ix l.length = 0) := by unfold Hid knE mostK subsK; simp [HL.out, hi, hj]
                have HE := hide (errM_good HK.out)
                have HD : Hid (deepK u 3 = u) := by unfold Hid deepK; first | rfl | simp
                go_enter Try.func12, Try.ntmps12
                go_wp2_with fail
                go_loopw [10] (fun o wr => KnInv2 (u) m l w o wr ∧ Blk wr w.heap.size #[.int .i64 3, .int .i64 ix, .slice a l.length c] 24) (fun o wr => l.length - (intOf o).toNat)
                case atStart => exact ⟨⟨0, Nat.zero_le _, rfl, by simp [errM], HB0.out⟩, HT0.out⟩
                case round =>
                  obtain ⟨⟨k, hk, rfl, he, hb⟩, hT⟩ := hrel
                  have HEK := hide he
                  have HBK := hide hb
                  have HTK := hide hT
                  clear he
                  have hsz : w.heap.size ≤ wr.heap.size := hb.size
                  have t0 : wr.cell? ⟨w.heap.size, 0, none⟩ = some (.int .i64 3) := hT.cell 0
                  have t1 : wr.cell? ⟨w.heap.size, 1, none⟩ = some (.int .i64 ix) := hT.cell 1
                  have t2 : wr.cell? ⟨w.heap.size, 2, none⟩ = some (.slice a l.length c) := hT.cell 2
                  by_cases hlt : k < l.length
                  · obtain ⟨b, o, a', c', rfl, d0, d0', d1, hx⟩ := hs.get hb (fun _ _ h => h) k hlt
                    have HT := hide (errM_take (u) m l k hlt)
                    have hlt2 : (k : Int) < 2 := by have := HL.out; omega
                    have hzk : 1 + sizeM [l[k]] ≤ 1 + sizeM l := by
                      have h1 := sizeM_take l k hlt
                      have h2 := sizeM_take_le l (k + 1)
                      omega
                    clear hb hT
                    go_wp2_with fail
                    refine (IH.out _ (List.getElem_mem hlt) _ _ _ X hx (by omega) (by omega)).mono ?_
                    rintro e w2 ⟨rfl, hb2⟩
                    have HB2 : Hid (Below w.heap.size w w2) := HBK.out.trans (hb2.mono hsz)
                    have HT2 := hide (HTK.out.below hb2 HTK.out.lt)
                    clear hb2
                    by_cases hez : errM (u) m [l[k]] = 0
                    · have HZ := hide hez
                      rw [hez]
                      clear hez
                      go_wp2_with fail
                      go_roundw
                      case rel => exact ⟨⟨k + 1, by omega, by go_num, by rw [HT.out, HEK.out, HZ.out]; rfl, HB2.out⟩, HT2.out⟩
                      case measure => simp [intOf]; omega
                    · have h1 : (errM (u) m [l[k]] == 0) = false := by simpa using hez
                      have h2 : (errM (u) m [l[k]] != 0) = true := by simpa using hez
                      have HZ : Hid (errM (u) m [l[k]] = errM u m [(⟨3, ix, l⟩ : Lm)]) := by
                        have h1 : errM (u) m (l.take (k + 1)) = errM (u) m [l[k]] := by rw [HT.out, HEK.out]; rfl
                        unfold Hid
                        rw [HE.out, HD.out, errM_of_take (l := l) (k := k + 1) (by rw [h1]; exact hez), h1]
                      go_wp2_with fail
                      go_ret
                      exact ⟨ret_int HZ.out, HB2.out⟩
                  · have htk : l.take k = l := List.take_of_length_le (by omega)
                    have hge : ¬ ((k : Int) < 2) := by have := HL.out; omega
                    have HZ : Hid (0 = errM u m [(⟨3, ix, l⟩ : Lm)]) := by unfold Hid; rw [HE.out, HD.out, ← htk, HEK.out]
                    go_wp2_with fail
                    go_ret
                    exact ⟨ret_int HZ.out, HBK.out⟩
        case neg =>
          by_cases k4 : kd = 4
          case pos =>
            subst k4
            by_cases hl : l.length = 0
            case neg =>
              have HK : Hid (knE u m 4 ix l.length = 2) := by unfold Hid knE mostK subsK; simp [hl]
              have HE : Hid (errM u m [(⟨4, ix, l⟩ : Lm)] = 2) := by unfold Hid; rw [errM_bad (by rw [HK.out]; decide), HK.out]
              have hl2 : ¬ (l.length : Int) = 0 := by omega
              have hl3 : ((l.length : Int) != 0) = true := by simpa using hl2
              go_enter Try.func12, Try.ntmps12
              go_wp2_with fail
              go_ret
              exact ⟨ret_int HE.out.symm, HB0.out⟩
            case pos =>
              have HL := hide hl
              have hl3 : ((l.length : Int) != 0) = false := by simp [hl]
              clear hl
              by_cases hi : ix < 0
              case pos =>
                have HK : Hid (knE u m 4 ix l.length = 15) := by unfold Hid knE mostK subsK; simp [HL.out, hi]
                have HE : Hid (errM u m [(⟨4, ix, l⟩ : Lm)] = 15) := by unfold Hid; rw [errM_bad (by rw [HK.out]; decide), HK.out]
                go_enter Try.func12, Try.ntmps12
                go_wp2_with fail
                go_ret
                exact ⟨ret_int HE.out.symm, HB0.out⟩
              case neg =>
                by_cases hj : (40 : Int) ≤ ix
                case pos =>
                  have HK : Hid (knE u m 4 ix l.length = 15) := by unfold Hid knE mostK subsK; simp [HL.out, hi, hj]
                  have HE : Hid (errM u m [(⟨4, ix, l⟩ : Lm)] = 15) := by unfold Hid; rw [errM_bad (by rw [HK.out]; decide), HK.out]
                  go_enter Try.func12, Try.ntmps12
                  go_wp2_with fail
                  go_ret
                  exact ⟨ret_int HE.out.symm, HB0.out⟩
                case neg =>
                  have HK : Hid (knE u m 4 ix l.length = 0) := by unfold Hid knE mostK subsK; simp [HL.out, hi, hj]
                  have HE := hide (errM_good HK.out)
                  have HD : Hid (deepK u 4 = u) := by unfold Hid deepK; first | rfl | simp
                  go_enter Try.func12, Try.ntmps12
                  go_wp2_with fail
                  go_loopw [10] (fun o wr => KnInv2 (u) m l w o wr ∧ Blk wr w.heap.size #[.int .i64 4, .int .i64 ix, .slice a l.length c] 24) (fun o wr => l.length - (intOf o).toNat)
                  case atStart => exact ⟨⟨0, Nat.zero_le _, rfl, by simp [errM], HB0.out⟩, HT0.out⟩
                  case round =>
                    obtain ⟨⟨k, hk, rfl, he, hb⟩, hT⟩ := hrel
                    have HEK := hide he
                    have HBK := hide hb
                    have HTK := hide hT
                    clear he
                    have hsz : w.heap.size ≤ wr.heap.size := hb.size
                    have t0 : wr.cell? ⟨w.heap.size, 0, none⟩ = some (.int .i64 4) := hT.cell 0
                    have t1 : wr.cell? ⟨w.heap.size, 1, none⟩ = some (.int .i64 ix) := hT.cell 1
                    have t2 : wr.cell? ⟨w.heap.size, 2, none⟩ = some (.slice a l.length c) := hT.cell 2
                    by_cases hlt : k < l.length
                    · exact absurd hlt (by have := HL.out; omega)
                    · have htk : l.take k = l := List.take_of_length_le (by omega)
                      have hge : ¬ ((k : Int) < 0) := by have := HL.out; omega
                      have HZ : Hid (0 = errM u m [(⟨4, ix, l⟩ : Lm)]) := by unfold Hid; rw [HE.out, HD.out, ← htk, HEK.out]
                      go_wp2_with fail
                      go_ret
                      exact ⟨ret_int HZ.out, HBK.out⟩
          case neg =>
            by_cases k5 : kd = 5
            case pos =>
              subst k5
              by_cases hl : l.length = 0
              case neg =>
                have HK : Hid (knE u m 5 ix l.length = 2) := by unfold Hid knE mostK subsK; simp [hl]
                have HE : Hid (errM u m [(⟨5, ix, l⟩ : Lm)] = 2) := by unfold Hid; rw [errM_bad (by rw [HK.out]; decide), HK.out]
                have hl2 : ¬ (l.length : Int) = 0 := by omega
                have hl3 : ((l.length : Int) != 0) = true := by simpa using hl2
                go_enter Try.func12, Try.ntmps12
                go_wp2_with fail
                go_ret
                exact ⟨ret_int HE.out.symm, HB0.out⟩
              case pos =>
                have HL := hide hl
                have hl3 : ((l.length : Int) != 0) = false := by simp [hl]
                clear hl
                by_cases hi : ix < 0
                case pos =>
                  have HK : Hid (knE u m 5 ix l.length = 15) := by unfold Hid knE mostK subsK; simp [HL.out, hi]
                  have HE : Hid (errM u m [(⟨5, ix, l⟩ : Lm)] = 15) := by unfold Hid; rw [errM_bad (by rw [HK.out]; decide), HK.out]
                  go_enter Try.func12, Try.ntmps12
                  go_wp2_with fail
                  go_ret
                  exact ⟨ret_int HE.out.symm, HB0.out⟩
                case neg =>
                  by_cases hj : (m : Int) ≤ ix
                  case pos =>
                    have HK : Hid (knE u m 5 ix l.length = 15) := by unfold Hid knE mostK subsK; simp [HL.out, hi, hj]
                    have HE : Hid (errM u m [(⟨5, ix, l⟩ : Lm)] = 15) := by unfold Hid; rw [errM_bad (by rw [HK.out]; decide), HK.out]
                    go_enter Try.func12, Try.ntmps12
                    go_wp2_with fail
                    go_ret
                    exact ⟨ret_int HE.out.symm, HB0.out⟩
                  case neg =>
                    have HK : Hid (knE u m 5 ix l.length = 0) := by unfold Hid knE mostK subsK; simp [HL.out, hi, hj]
                    have HE := hide (errM_good HK.out)
                    have HD : Hid (deepK u 5 = u) := by unfold Hid deepK; first | rfl | simp
                    go_enter Try.func12, Try.ntmps12
                    go_wp2_with fail
                    go_loopw [10] (fun o wr => KnInv2 (u) m l w o wr ∧ Blk wr w.heap.size #[.int .i64 5, .int .i64 ix, .slice a l.length c] 24) (fun o wr => l.length - (intOf o).toNat)
                    case atStart => exact ⟨⟨0, Nat.zero_le _, rfl, by simp [errM], HB0.out⟩, HT0.out⟩
                    case round =>
                      obtain ⟨⟨k, hk, rfl, he, hb⟩, hT⟩ := hrel
                      have HEK := hide he
                      have HBK := hide hb
                      have HTK := hide hT
                      clear he
                      have hsz : w.heap.size ≤ wr.heap.size := hb.size
                      have t0 : wr.cell? ⟨w.heap.size, 0, none⟩ = some (.int .i64 5) := hT.cell 0
                      have t1 : wr.cell? ⟨w.heap.size, 1, none⟩ = some (.int .i64 ix) := hT.cell 1
                      have t2 : wr.cell? ⟨w.heap.size, 2, none⟩ = some (.slice a l.length c) := hT.cell 2
                      by_cases hlt : k < l.length
                      · exact absurd hlt (by have := HL.out; omega)
                      · have htk : l.take k = l := List.take_of_length_le (by omega)
                        have hge : ¬ ((k : Int) < 0) := by have := HL.out; omega
                        have HZ : Hid (0 = errM u m [(⟨5, ix, l⟩ : Lm)]) := by unfold Hid; rw [HE.out, HD.out, ← htk, HEK.out]
                        go_wp2_with fail
                        go_ret
                        exact ⟨ret_int HZ.out, HBK.out⟩
            case neg =>
              have HK : Hid (knE u m kd ix l.length = 2) := by unfold Hid knE; rw [if_pos (by omega)]
              have HE : Hid (errM u m [(⟨kd, ix, l⟩ : Lm)] = 2) := by unfold Hid; rw [errM_bad (by rw [HK.out]; decide), HK.out]
              have e1 : (kd == 1) = false := by simpa using k1
              have e2 : (kd == 2) = false := by simpa using k2
              have e3 : (kd == 3) = false := by simpa using k3
              have e4 : (kd == 4) = false := by simpa using k4
              have e5 : (kd == 5) = false := by simpa using k5
              go_enter Try.func12, Try.ntmps12
              go_wp2_with fail
              go_ret
              exact ⟨ret_int HE.out.symm, HB0.out⟩

set_option maxHeartbeats 1000000 in
theorem lamMay_any (t : Lm) (v : Value) (u m : Int) (w : World) (X : Nat → Prop) (hv : MV w X v t) :
    Calls Try.prog 5 #[v, .int .i64 u, .int .i64 m] w fun e w' => e = .returned (.int .i64 (lamE u m t)) ∧ Below w.heap.size w w' := by
  obtain ⟨a, c, rfl, hs⟩ := hv
  have hv : MV w X (.agg #[.int .i64 t.kind, .int .i64 t.idx, .slice a t.subs.length c]) t := ⟨a, c, rfl, hs⟩
  have HB0 : Hid (Below w.heap.size w (w.alloc (.cells #[.int .i64 t.kind, .int .i64 t.idx, .slice a t.subs.length c] 24))) := (Below.refl _ _).alloc (Nat.le_refl _) _
  have hT0 := Blk.new w #[.int .i64 t.kind, .int .i64 t.idx, .slice a t.subs.length c] 24
  go_enter Try.func5, Try.ntmps5
  by_cases h1 : u < 0
  · have HE : Hid (lamE u m t = 10) := by unfold Hid lamE; rw [if_pos (Or.inl h1)]
    go_wp2_with fail
    go_ret
    exact ⟨ret_int HE.out.symm, HB0.out⟩
  by_cases h2 : 40 < u
  · have HE : Hid (lamE u m t = 10) := by unfold Hid lamE; rw [if_pos (Or.inr h2)]
    go_wp2_with fail
    go_ret
    exact ⟨ret_int HE.out.symm, HB0.out⟩
  go_wp2_with fail
  refine (lamSize_any t _ _ _ X (hv.alloc _) (by omega) (by omega)).mono ?_
  rintro e w1 ⟨rfl, hb1⟩
  have HB1 := hide (HB0.out.trans (hb1.mono (by simp)))
  have T1 := hide (hT0.below hb1 hT0.lt)
  have t0 : w1.cell? ⟨w.heap.size, 0, none⟩ = some (.int .i64 t.kind) := T1.out.cell 0
  have t1 : w1.cell? ⟨w.heap.size, 1, none⟩ = some (.int .i64 t.idx) := T1.out.cell 1
  have t2 : w1.cell? ⟨w.heap.size, 2, none⟩ = some (.slice a t.subs.length c) := T1.out.cell 2
  clear hb1 hT0 HB0
  by_cases h3 : 200 < sizeM [t]
  · have HE : Hid (lamE u m t = 3) := by unfold Hid lamE; rw [if_neg (by omega), if_pos h3]
    have e : min (sizeM [t] : Int) (200 + 1) = 201 := by omega
    rw [e]
    go_wp2_with fail
    go_ret
    exact ⟨ret_int HE.out.symm, HB1.out⟩
  · have HE : Hid (lamE u m t = errM u m [t]) := by unfold Hid lamE; rw [if_neg (by omega), if_neg h3]
    have e : min (sizeM [t] : Int) (200 + 1) = sizeM [t] := by omega
    rw [e]
    have hle : ¬ (200 : Int) < (sizeM [t] : Int) := by omega
    go_wp2_with fail
    refine (lamMay0_any m t _ u _ X (hv.later HB1.out) (by omega) (by omega)).mono ?_
    rintro e w2 ⟨rfl, hb2⟩
    go_wp2_with fail
    go_ret
    exact ⟨ret_int HE.out.symm, HB1.out.trans (hb2.mono HB1.out.size)⟩
end Go.Proofs.Ytaifameeoipjjaa

/- But for one block the world is as it was. -/
namespace Go.Proofs.Ytaifameeoipjjaa
open Go.RowKit
set_option linter.unusedSimpArgs false
set_option linter.unusedVariables false
set_option maxRecDepth 8000

/-- But for block B the world is as it was. -/
structure Ex (B : Nat) (w w' : World) : Prop where
  os : w'.os = w.os
  tape : w'.tape = w.tape
  output : w'.output = w.output
  size : w.heap.size ≤ w'.heap.size
  block : ∀ k, k < w.heap.size → k ≠ B → w'.heap[k]? = w.heap[k]?
theorem Ex.refl (B : Nat) (w : World) : Ex B w w := ⟨rfl, rfl, rfl, Nat.le_refl _, fun _ _ _ => rfl⟩
theorem Ex.trans {B : Nat} {a b c : World} (h : Ex B a b) (k : Ex B b c) : Ex B a c :=
  ⟨k.os.trans h.os, k.tape.trans h.tape, k.output.trans h.output, Nat.le_trans h.size k.size, fun i hi hn => (k.block i (Nat.lt_of_lt_of_le hi h.size) hn).trans (h.block i hi hn)⟩
theorem Ex.drewN {B : Nat} {a w : World} (h : Ex B a w) (n : Nat) : Ex B a (w.drewN n) := ⟨h.os, h.tape, h.output, h.size, h.block⟩
theorem Ex.drew {B : Nat} {a w : World} (h : Ex B a w) : Ex B a w.drew := ⟨h.os, h.tape, h.output, h.size, h.block⟩
theorem Ex.set {B : Nat} {a w : World} (h : Ex B a w) (i : Nat) (v : Value) : Ex B a (w.setCell ⟨B, i, none⟩ v) :=
  ⟨h.os, h.tape, h.output, by simpa [World.setCell] using h.size, fun k hk hn => (Below.heap_setCell _ _ _ _ (by simpa using hn)).trans (h.block k hk hn)⟩

theorem Ex.alloc {B : Nat} {a w : World} (h : Ex B a w) (o : Obj) : Ex B a (w.alloc o) :=
  ⟨h.os, h.tape, h.output, by have := h.size; simp; omega, fun k hk hn => (Below.heap_alloc _ _ _ (Nat.lt_of_lt_of_le hk h.size)).trans (h.block k hk hn)⟩

theorem Blk.ex {w w' : World} {B b T : Nat} {cs : Array Value} (h : Blk w b cs T) (he : Ex B w w') (hne : b ≠ B) : Blk w' b cs T := by
  unfold Blk at *
  rw [he.block b (Blk.lt h) hne]; exact h
theorem Ex.mid {B : Nat} {w w1 : World} (h : Ex B w w1) : ∃ wm, Below wm.heap.size wm w1 ∧ wm.heap.size = w.heap.size ∧ Ex B w wm := by
  by_cases hB : B < w.heap.size
  · have hB1 : B < w1.heap.size := Nat.lt_of_lt_of_le hB h.size
    refine ⟨{ w with heap := w.heap.setIfInBounds B w1.heap[B] }, ⟨h.os, h.tape, h.output, by simpa using h.size, fun k hk => ?_⟩, by simp, ⟨rfl, rfl, rfl, by simp, fun k hk hn => ?_⟩⟩
    · simp at hk
      by_cases e : k = B
      · subst e
        simp [Array.getElem?_setIfInBounds, hB, hB1]
      · rw [h.block k hk e]
        simp [Array.getElem?_setIfInBounds, Ne.symm e]
    · simp [Array.getElem?_setIfInBounds, Ne.symm hn]
  · exact ⟨w, ⟨h.os, h.tape, h.output, h.size, fun k hk => h.block k hk (by omega)⟩, rfl, Ex.refl _ _⟩

theorem Row.ex {w w' : World} {B N T : Nat} {Y : Nat → Prop} {v : Value} {l : List Tm} {xs : List Value} (h : Row w N T Y v l xs) (he : Ex B w w') (hB : B < N) (hY : ¬ Y B) : Row w' N T Y v l xs :=
  ⟨h.own.kept (w' := w') (row := some B) ⟨he.os, he.tape, he.output, he.size, fun j hj hn => he.block j hj (fun e => hn (by rw [e]))⟩ (Or.inr (fun e => by have := (h.own.lt B e).1; omega)),
   h.row.imp fun a l hs => ((hs.mono (Y := fun b => (Y b ∨ (N ≤ b ∧ some b ≠ v.ownBlock)) ∧ b < w.heap.size) fun b h1 h2 => ⟨h1, h2⟩).kept fun b hb => he.block b hb.2 (fun e => by
     rcases hb.1 with h1 | h1
     · rw [e] at h1; exact hY h1
     · omega)).mono fun b hb _ => hb.1⟩

theorem Ex.grown {B : Nat} {a w w' : World} {row : Option Nat} (h : Ex B a w) (hg : w.grownBy w' row) (hr : ∀ k, row = some k → a.heap.size ≤ k) : Ex B a w' :=
  ⟨hg.os.trans h.os, hg.tape.trans h.tape, hg.output.trans h.output, Nat.le_trans h.size hg.size, fun k hk hn => (hg.block k (Nat.lt_of_lt_of_le hk h.size) (fun e => by have := hr k e.symm; omega)).trans (h.block k hk hn)⟩
theorem Ex.setNew {B : Nat} {a w : World} (h : Ex B a w) {b : Nat} (hb : a.heap.size ≤ b) (i : Nat) (v : Value) : Ex B a (w.setCell ⟨b, i, none⟩ v) :=
  ⟨h.os, h.tape, h.output, by simpa [World.setCell] using h.size, fun k hk hn => (Below.heap_setCell _ _ _ _ (by simp; omega)).trans (h.block k hk hn)⟩

end Go.Proofs.Ytaifameeoipjjaa

/- What a round that appends a lambda term does. -/
namespace Go.Proofs.Ytaifameeoipjjaa
open Go.RowKit
set_option linter.unusedSimpArgs false
set_option linter.unusedVariables false
set_option maxRecDepth 8000

theorem Try.infoLam : (Try.prog.info? 24).map (fun i => (i.zero, i.size, i.bytes)) = some (some (.agg #[.int .i64 0, .int .i64 0, .slice none 0 0]), 3, 40) := by kernel_rfl
theorem cell_ltM {w : World} {b i : Nat} {v : Value} (h : w.cell? ⟨b, i, none⟩ = some v) : b < w.heap.size := by
  apply Classical.byContradiction
  intro hn
  have e : w.heap[b]? = none := Array.getElem?_eq_none (by omega)
  simp [World.cell?, e] at h
theorem cell_sameM {w w' : World} {b i : Nat} {v : Value} (hb : w'.heap[b]? = w.heap[b]?) (h : w.cell? ⟨b, i, none⟩ = some v) : w'.cell? ⟨b, i, none⟩ = some v := by simpa [World.cell?, hb] using h
theorem cell_lam_new (w : World) (a b c : Value) (T : Nat) : ∀ j u, ([a, b, c] : List Value)[j]? = some u → (w.alloc (.cells #[a, b, c] T)).cell? ((⟨w.heap.size, 0, none⟩ : Addr).add j) = some u := fun j u h => by
  have hb := Blk.new w #[a, b, c] T
  have h1 : (⟨w.heap.size, 0, none⟩ : Addr).add j = ⟨w.heap.size, j, none⟩ := by
    by_cases h0 : j = 0
    · subst h0; simp [Addr.add]
    · simp [Addr.add, h0]
  rw [h1, hb.cell j]
  simpa using h

/-- What is held while a knot's next term is made. -/
def LmS (B b o : Nat) (kd ix : Int) (a : Option Addr) (n c : Nat) (k1 x1 : Int) (v1 : Value) (w' : World) : Prop :=
  Blk w' B #[.int .i64 kd, .int .i64 ix, .slice a n c] 24 ∧ w'.cell? ⟨b, o, none⟩ = some (.int .i64 k1) ∧ w'.cell? ⟨b, o + 1, none⟩ = some (.int .i64 x1) ∧ w'.cell? ⟨b, o + 2, none⟩ = some v1
theorem LmS.kept {B b o n c : Nat} {kd ix k1 x1 : Int} {a : Option Addr} {v1 : Value} {wr w1 : World} (h : LmS B b o kd ix a n c k1 x1 v1 wr) (h1 : w1.heap[B]? = wr.heap[B]?) (h2 : w1.heap[b]? = wr.heap[b]?) : LmS B b o kd ix a n c k1 x1 v1 w1 :=
  ⟨h1.trans h.1, cell_sameM h2 h.2.1, cell_sameM h2 h.2.2.1, cell_sameM h2 h.2.2.2⟩
theorem LmS.below {B b o n c : Nat} {kd ix k1 x1 : Int} {a : Option Addr} {v1 : Value} {wr w1 : World} (h : LmS B b o kd ix a n c k1 x1 v1 wr) (hb : Below wr.heap.size wr w1) : LmS B b o kd ix a n c k1 x1 v1 w1 :=
  h.kept (hb.block _ h.1.lt) (hb.block _ (cell_ltM h.2.1))

/-- What is laid ahead of the rounds. -/
def LmSet (w : World) (Y : Nat → Prop) (O : Nat) (kd ix : Int) (a : Option Addr) (n c : Nat) (u : Value) (L : List Lm) (wr : World) : Prop :=
  ∃ xs, RowM wr (O + 1) 24 Y u L xs ∧ Below w.heap.size w wr ∧ Blk wr w.heap.size #[.int .i64 kd, .int .i64 ix, .slice a n c] 24 ∧ Blk wr (w.heap.size + 1) #[.int .i64 0, .int .i64 0, .slice none 0 0] 24 ∧ Blk wr O #[.int .i64 kd, .int .i64 ix, u] 24 ∧ O < wr.heap.size

/-- One more. -/
theorem lm_round {w wr w1 : World} {Y : Nat → Prop} {O n c : Nat} {u : Value} {L : List Lm} {kd ix : Int} {a a1 : Option Addr} {c1 : Nat} {t : Lm} {b o : Nat} {k1 x1 : Int} {v1 : Value} (hO : w.heap.size + 2 ≤ O) (hY : ∀ b, Y b → b < w.heap.size) (hbw : b < w.heap.size) (hset : LmSet w Y O kd ix a n c u L wr) (hS : LmS w.heap.size b o kd ix a n c k1 x1 v1 wr) (hn : L.length ≤ 1000000)
    (hb : Below wr.heap.size wr w1) (hs : SlM w1 (fun b => Y b ∨ wr.heap.size ≤ b) a1 t.subs) :
    ∃ g cap w3, (Builtin.append_ #[22, 22] 22 #[u, .slice (some ⟨w1.heap.size, 0, none⟩) 1 1]).run Try.prog (w1.alloc (.cells #[.int .i64 t.kind, .int .i64 t.idx, .slice a1 t.subs.length c1] 24)) = .ok (.slice (some ⟨g, 0, none⟩) (L.length + 1) cap) w3 ∧
      LmS w.heap.size b o kd ix a n c k1 x1 v1 w1 ∧ LmS w.heap.size b o kd ix a n c k1 x1 v1 (w1.alloc (.cells #[.int .i64 t.kind, .int .i64 t.idx, .slice a1 t.subs.length c1] 24)) ∧ LmS w.heap.size b o kd ix a n c k1 x1 v1 w3 ∧ w3.cell? ⟨O, 2, none⟩ = some u ∧ w3.frozen? ⟨O, 2, none⟩ = false ∧
      LmS w.heap.size b o kd ix a n c k1 x1 v1 (w3.setCell ⟨O, 2, none⟩ (.slice (some ⟨g, 0, none⟩) (L.length + 1) cap)) ∧ LmSet w Y O kd ix a n c (.slice (some ⟨g, 0, none⟩) (L.length + 1) cap) (L ++ [t]) (w3.setCell ⟨O, 2, none⟩ (.slice (some ⟨g, 0, none⟩) (L.length + 1) cap)) := by
  obtain ⟨xs, hrow, hx, hT, hR, hOb, hOl⟩ := hset
  obtain ⟨i0, hi, hz0, hz1, hz2⟩ := info_parts Try.infoLam
  have hlt := hrow.own.lt
  have hbs := hb.size
  have hsx := hx.size
  obtain ⟨g, cap, w3, hr, ho, hg, hat, hgl⟩ := run_append_lies (P := Try.prog) (w := w1.alloc (.cells #[.int .i64 t.kind, .int .i64 t.idx, .slice a1 t.subs.length c1] 24)) 22 22 (O + 1) 24 i0 _ 3 40 Try.underlying22 hi hz0 hz1 hz2 rfl (by decide) u L.length xs ((hrow.below hb).own.alloc _)
    ⟨w1.heap.size, 0, none⟩ 1 1 [.int .i64 t.kind, .int .i64 t.idx, .slice a1 t.subs.length c1] rfl (cell_lam_new _ _ _ _ _) (fun y hy => by simp at hy; rcases hy with rfl | rfl | rfl <;> rfl) (by decide) (by unfold maxLen; omega) (by omega) (by simp; omega) _ rfl
  have hp := hrow.push (w1 := w1) (w3 := w3) (t := t) (by omega) (fun b h => by have := hY b h; omega) hb ⟨a1, c1, rfl, hs⟩ _ rfl ho hg hat
  have hne : ∀ j, j < O + 1 → some j ≠ u.ownBlock := fun j hj e => by have := (hlt j e.symm).1; omega
  have hs3 := hg.size
  simp at hs3
  have hx3 : Below w.heap.size w w3 := ((hx.trans (hb.mono (by omega))).alloc (by omega) _).grown hg (by simp; omega) (fun k hk => by have := (hlt k hk).1; omega)
  have S1 := hS.below hb
  have S2 := S1.below ((Below.refl w1.heap.size w1).alloc (Nat.le_refl _) (.cells #[.int .i64 t.kind, .int .i64 t.idx, .slice a1 t.subs.length c1] 24))
  have S3 : LmS w.heap.size b o kd ix a n c k1 x1 v1 w3 := S2.kept (hg.block _ S2.1.lt (hne _ (by omega))) (hg.block _ (cell_ltM S2.2.1) (hne _ (by omega)))
  have hO3 := ((hOb.below hb (by omega)).alloc (.cells #[.int .i64 t.kind, .int .i64 t.idx, .slice a1 t.subs.length c1] 24)).grown hg (hne _ (by omega))
  refine ⟨g, cap, w3, hr, S1, S2, S3, hO3.cell 2, hO3.frozen 2, S3.kept (Below.heap_setCell _ _ _ _ (by simp; omega)) (Below.heap_setCell _ _ _ _ (by simp; omega)), _, hp.setCell (by omega) (fun h => by have := hY _ h; omega) _, hx3.setCell (p := ⟨O, 2, none⟩) (by simp; omega) _, ?_, ?_, ?_, by simp [World.setCell]; omega⟩
  · exact (((hT.below hb (by omega)).alloc _).grown hg (hne _ (by omega))).setOther _ _ (by omega)
  · exact (((hR.below hb (by omega)).alloc _).grown hg (hne _ (by omega))).setOther _ _ (by omega)
  · exact hO3.set 2 _
end Go.Proofs.Ytaifameeoipjjaa

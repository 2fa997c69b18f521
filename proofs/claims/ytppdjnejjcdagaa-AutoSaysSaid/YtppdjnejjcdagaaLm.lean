/- The tree that a lambda term is, and how it lies in memory. -/
import Derived.Test.YtppdjnejjcdagaaZAutoSaysOwn
namespace Go.Proofs.Ytppdjnejjcdagaa
open Go.RowKit

/-- A lambda term as a tree. -/
structure Lm where
  kind : Int
  idx : Int
  subs : List Lm

theorem Lm.ind {P : Lm → Prop} (h : ∀ k x l, (∀ y ∈ l, P y) → P ⟨k, x, l⟩) (t : Lm) : P t :=
  Lm.rec (motive_1 := P) (motive_2 := fun l => ∀ x ∈ l, P x) (fun k x l ih => h k x l ih) (fun x hx => by cases hx)
    (fun a l ha hl x hx => by
      rcases List.mem_cons.1 hx with e | e
      · subst e; exact ha
      · exact hl x e) t

theorem Lm.indL {P : List Lm → Prop} (h0 : P []) (h : ∀ k x l r, P l → P r → P (⟨k, x, l⟩ :: r)) (l : List Lm) : P l :=
  Lm.rec_1 (motive_1 := fun t => P t.subs) (motive_2 := P) (fun _ _ _ ih => ih) h0 (fun a l ha hl => by obtain ⟨k, x, m⟩ := a; exact h k x m l ha hl) l

/-- A list of lambda terms lies in a row of cells, three a term, in blocks that X lets. -/
def LiesM (w : World) (X : Nat → Prop) : Nat → Nat → List Lm → Prop
  | _, _, [] => True
  | b, o, ⟨k, x, l⟩ :: r => X b ∧ w.cell? ⟨b, o, none⟩ = some (.int .i64 k) ∧ w.cell? ⟨b, o + 1, none⟩ = some (.int .i64 x) ∧
      (∃ a c, w.cell? ⟨b, o + 2, none⟩ = some (.slice a l.length c) ∧ l.length ≤ 9223372036854775807 ∧ (l = [] ∨ ∃ b' o', a = some ⟨b', o', none⟩ ∧ LiesM w X b' o' l)) ∧ LiesM w X b (o + 3) r

/-- What a slice of lambda terms holds. -/
def SlM (w : World) (X : Nat → Prop) (a : Option Addr) (l : List Lm) : Prop := l.length ≤ 9223372036854775807 ∧ (l = [] ∨ ∃ b o, a = some ⟨b, o, none⟩ ∧ LiesM w X b o l)

/-- What a lambda term's value holds. -/
def MV (w : World) (X : Nat → Prop) (v : Value) (t : Lm) : Prop := ∃ a c, v = .agg #[.int .i64 t.kind, .int .i64 t.idx, .slice a t.subs.length c] ∧ SlM w X a t.subs

theorem liesM_kept {w w' : World} {X : Nat → Prop} (h : ∀ b, X b → w'.heap[b]? = w.heap[b]?) (l : List Lm) : ∀ b o, LiesM w X b o l → LiesM w' X b o l := by
  induction l using Lm.indL with
  | h0 => intro b o _; simp [LiesM]
  | h k x l r ihl ihr =>
    intro b o hl
    simp only [LiesM] at hl ⊢
    obtain ⟨hx, h1, h1', ⟨a, c, h2, h2', h3⟩, h4⟩ := hl
    refine ⟨hx, by rw [World.cell?_of_block (h b hx)]; exact h1, by rw [World.cell?_of_block (h b hx)]; exact h1', ⟨a, c, by rw [World.cell?_of_block (h b hx)]; exact h2, h2', ?_⟩, ihr _ _ h4⟩
    rcases h3 with h3 | ⟨b', o', h3, h5⟩
    · exact Or.inl h3
    · exact Or.inr ⟨b', o', h3, ihl _ _ h5⟩

theorem liesM_mono {w : World} {X Y : Nat → Prop} (h : ∀ b, X b → b < w.heap.size → Y b) (l : List Lm) : ∀ b o, LiesM w X b o l → LiesM w Y b o l := by
  induction l using Lm.indL with
  | h0 => intro b o _; simp [LiesM]
  | h k x l r ihl ihr =>
    intro b o hl
    simp only [LiesM] at hl ⊢
    obtain ⟨hx, h1, h1', ⟨a, c, h2, h2', h3⟩, h4⟩ := hl
    have hb : b < w.heap.size := by
      apply Classical.byContradiction
      intro hn
      have e : w.heap[b]? = none := Array.getElem?_eq_none (by omega)
      simp [World.cell?, e] at h1
    refine ⟨h b hx hb, h1, h1', ⟨a, c, h2, h2', ?_⟩, ihr _ _ h4⟩
    rcases h3 with h3 | ⟨b', o', h3, h5⟩
    · exact Or.inl h3
    · exact Or.inr ⟨b', o', h3, ihl _ _ h5⟩
theorem SlM.kept {w w' : World} {X : Nat → Prop} {a : Option Addr} {l : List Lm} (h : SlM w X a l) (hk : ∀ b, X b → w'.heap[b]? = w.heap[b]?) : SlM w' X a l := by
  obtain ⟨hl, h⟩ := h
  refine ⟨hl, ?_⟩
  rcases h with h | ⟨b, o, e, h⟩
  · exact Or.inl h
  · exact Or.inr ⟨b, o, e, liesM_kept hk _ _ _ h⟩

theorem SlM.mono {w : World} {X Y : Nat → Prop} {a : Option Addr} {l : List Lm} (h : SlM w X a l) (hk : ∀ b, X b → b < w.heap.size → Y b) : SlM w Y a l := by
  obtain ⟨hl, h⟩ := h
  refine ⟨hl, ?_⟩
  rcases h with h | ⟨b, o, e, h⟩
  · exact Or.inl h
  · exact Or.inr ⟨b, o, e, liesM_mono hk _ _ _ h⟩

theorem SlM.below {w w' : World} {X : Nat → Prop} {a : Option Addr} {l : List Lm} {B : Nat} (h : SlM w X a l) (hb : Below B w w') (hX : ∀ b, X b → b < w.heap.size → b < B) : SlM w' X a l := by
  have h1 : SlM w (fun b => X b ∧ b < B) a l := h.mono fun b hx hs => ⟨hx, hX b hx hs⟩
  have h2 : SlM w' (fun b => X b ∧ b < B) a l := h1.kept fun b hx => hb.block b hx.2
  exact h2.mono fun b hx _ => hx.1

theorem MV.kept {w w' : World} {X : Nat → Prop} {v : Value} {t : Lm} (h : MV w X v t) (hk : ∀ b, X b → w'.heap[b]? = w.heap[b]?) : MV w' X v t := by
  obtain ⟨a, c, e, h⟩ := h
  exact ⟨a, c, e, h.kept hk⟩

theorem MV.mono {w : World} {X Y : Nat → Prop} {v : Value} {t : Lm} (h : MV w X v t) (hk : ∀ b, X b → b < w.heap.size → Y b) : MV w Y v t := by
  obtain ⟨a, c, e, h⟩ := h
  exact ⟨a, c, e, h.mono hk⟩

theorem MV.below {w w' : World} {X : Nat → Prop} {v : Value} {t : Lm} {B : Nat} (h : MV w X v t) (hb : Below B w w') (hX : ∀ b, X b → b < w.heap.size → b < B) : MV w' X v t := by
  obtain ⟨a, c, e, h⟩ := h
  exact ⟨a, c, e, h.below hb hX⟩

theorem MV.alloc {w : World} {X : Nat → Prop} {v : Value} {t : Lm} (h : MV w X v t) (o : Obj) : MV (w.alloc o) X v t :=
  h.below ((Below.refl _ _).alloc (Nat.le_refl _) o) (fun _ _ h => h)

theorem MV.later {w w' : World} {X : Nat → Prop} {v : Value} {t : Lm} (h : MV w X v t) (hb : Below w.heap.size w w') : MV w' X v t := h.below hb (fun _ _ h => h)

theorem SlM.later {w w' : World} {X : Nat → Prop} {a : Option Addr} {l : List Lm} (h : SlM w X a l) (hb : Below w.heap.size w w') : SlM w' X a l := h.below hb (fun _ _ h => h)

/-- One of a row. -/
theorem liesM_get {w : World} {X : Nat → Prop} : ∀ (l : List Lm) (b o : Nat), LiesM w X b o l → ∀ i (h : i < l.length),
    X b ∧ w.cell? ⟨b, o + i * 3, none⟩ = some (.int .i64 l[i].kind) ∧ w.cell? ⟨b, o + i * 3 + 1, none⟩ = some (.int .i64 l[i].idx) ∧ ∃ a c, w.cell? ⟨b, o + i * 3 + 2, none⟩ = some (.slice a l[i].subs.length c) ∧ SlM w X a l[i].subs := by
  intro l
  induction l with
  | nil => intro b o _ i h; simp at h
  | cons t r ih =>
    intro b o hl i h
    obtain ⟨s, x, k⟩ := t
    simp only [LiesM] at hl
    obtain ⟨hx, h1, h1', ⟨a, c, h2, h3⟩, h4⟩ := hl
    cases i with
    | zero => exact ⟨hx, h1, h1', a, c, h2, h3⟩
    | succ i =>
      have := ih b (o + 3) h4 i (by simpa using h)
      simp only [List.getElem_cons_succ]
      rw [show o + (i + 1) * 3 = o + 3 + i * 3 by omega]
      exact this

/-- One of a slice, in a later world. -/
theorem SlM.get {w wr : World} {X : Nat → Prop} {a : Option Addr} {l : List Lm} {B : Nat} (h : SlM w X a l) (hb : Below B w wr) (hX : ∀ b, X b → b < w.heap.size → b < B) (k : Nat) (hk : k < l.length) :
    ∃ b o a' c', a = some ⟨b, o, none⟩ ∧ wr.cell? ⟨b, o + k * 3, none⟩ = some (.int .i64 l[k].kind) ∧ wr.cell? ⟨b, o + k * 3 + 1, none⟩ = some (.int .i64 l[k].idx) ∧ wr.cell? ⟨b, o + k * 3 + 2, none⟩ = some (.slice a' l[k].subs.length c') ∧ MV wr X (.agg #[.int .i64 l[k].kind, .int .i64 l[k].idx, .slice a' l[k].subs.length c']) l[k] := by
  have h' := h.below hb hX
  obtain ⟨_, h1⟩ := h'
  rcases h1 with h1 | ⟨b, o, e, h1⟩
  · subst h1; simp at hk
  · obtain ⟨_, h2, h2', a', c', h3, h4⟩ := liesM_get _ _ _ h1 k hk
    exact ⟨b, o, a', c', e, h2, h2', h3, a', c', rfl, h4⟩
end Go.Proofs.Ytppdjnejjcdagaa

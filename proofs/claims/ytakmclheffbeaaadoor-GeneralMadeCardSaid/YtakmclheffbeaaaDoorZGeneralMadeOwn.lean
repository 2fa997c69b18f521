/- Several texts in one. -/
import Derived.WalkKit
import Derived.WalkSpells
import Derived.WalkLawsBesides
import Derived.Test.YtakmclheffbeaaaDoorRows
import Derived.Deep.AppendLies
import Derived.BigQuiet
import Derived.Deep.RegionHeld
import Derived.Deep.RegionLaw
import Derived.Sort.Grow
import Derived.WideMake
import Derived.Maps.RangeRun
import Derived.Lib.Builder
import Derived.Lib.AppendStr
import Derived.Deep.AppendSrc
import Derived.Lib.ItoaNum
import Derived.Laws.IdiomStrings
import Derived.Test.YtakmclheffbeaaaDoorShelf
import Derived.Deep.RegionHeld3
import Derived.Deep.DeepCutAuto
import Derived.Laws.OwnMore
import Derived.Lib.AppendIntMem
/- The tree that a term is, and how it lies in memory: plain mathematics of terms, and what stays where it was. -/
namespace Go.Proofs.YtakmclheffbeaaaDoor
open Go.RowKit

/-- Kept from the walk. -/
theorem hide {p : Prop} (h : p) : Hid p := h

/-- A term as a tree. -/
structure Tm where
  name : ByteArray
  args : List Tm

theorem Tm.ind {P : Tm → Prop} (h : ∀ s l, (∀ x ∈ l, P x) → P ⟨s, l⟩) (t : Tm) : P t :=
  Tm.rec (motive_1 := P) (motive_2 := fun l => ∀ x ∈ l, P x) (fun s l ih => h s l ih) (fun x hx => by cases hx)
    (fun a l ha hl x hx => by
      rcases List.mem_cons.1 hx with e | e
      · subst e; exact ha
      · exact hl x e) t

theorem Tm.indL {P : List Tm → Prop} (h0 : P []) (h : ∀ s l r, P l → P r → P (⟨s, l⟩ :: r)) (l : List Tm) : P l :=
  Tm.rec_1 (motive_1 := fun t => P t.args) (motive_2 := P) (fun _ _ ih => ih) h0 (fun a l ha hl => by obtain ⟨s, k⟩ := a; exact h s k l ha hl) l

/-- The knots of a list of terms. -/
def sizeL : List Tm → Nat
  | [] => 0
  | ⟨_, l⟩ :: r => 1 + sizeL l + sizeL r

theorem sizeL_append (a b : List Tm) : sizeL (a ++ b) = sizeL a + sizeL b := by
  induction a with
  | nil => simp [sizeL]
  | cons t r ih => obtain ⟨s, l⟩ := t; simp only [List.cons_append, sizeL, ih]; omega

/-- A list of terms lies in a row of cells, two a term, in blocks that X lets. -/
def Lies (w : World) (X : Nat → Prop) : Nat → Nat → List Tm → Prop
  | _, _, [] => True
  | b, o, ⟨s, l⟩ :: r => X b ∧ w.cell? ⟨b, o, none⟩ = some (.string s) ∧
      (∃ a c, w.cell? ⟨b, o + 1, none⟩ = some (.slice a l.length c) ∧ l.length ≤ 9223372036854775807 ∧ (l = [] ∨ ∃ b' o', a = some ⟨b', o', none⟩ ∧ Lies w X b' o' l)) ∧ Lies w X b (o + 2) r

/-- What a slice of terms holds. -/
def Sl (w : World) (X : Nat → Prop) (a : Option Addr) (l : List Tm) : Prop := l.length ≤ 9223372036854775807 ∧ (l = [] ∨ ∃ b o, a = some ⟨b, o, none⟩ ∧ Lies w X b o l)

/-- What a term's value holds. -/
def TV (w : World) (X : Nat → Prop) (v : Value) (t : Tm) : Prop := ∃ a c, v = .agg #[.string t.name, .slice a t.args.length c] ∧ Sl w X a t.args

theorem lies_kept {w w' : World} {X : Nat → Prop} (h : ∀ b, X b → w'.heap[b]? = w.heap[b]?) (l : List Tm) : ∀ b o, Lies w X b o l → Lies w' X b o l := by
  induction l using Tm.indL with
  | h0 => intro b o _; simp [Lies]
  | h s l r ihl ihr =>
    intro b o hl
    simp only [Lies] at hl ⊢
    obtain ⟨hx, h1, ⟨a, c, h2, h2', h3⟩, h4⟩ := hl
    refine ⟨hx, by rw [World.cell?_of_block (h b hx)]; exact h1, ⟨a, c, by rw [World.cell?_of_block (h b hx)]; exact h2, h2', ?_⟩, ihr _ _ h4⟩
    rcases h3 with h3 | ⟨b', o', h3, h5⟩
    · exact Or.inl h3
    · exact Or.inr ⟨b', o', h3, ihl _ _ h5⟩

theorem lies_mono {w : World} {X Y : Nat → Prop} (h : ∀ b, X b → b < w.heap.size → Y b) (l : List Tm) : ∀ b o, Lies w X b o l → Lies w Y b o l := by
  induction l using Tm.indL with
  | h0 => intro b o _; simp [Lies]
  | h s l r ihl ihr =>
    intro b o hl
    simp only [Lies] at hl ⊢
    obtain ⟨hx, h1, ⟨a, c, h2, h2', h3⟩, h4⟩ := hl
    have hb : b < w.heap.size := by
      apply Classical.byContradiction
      intro hn
      have e : w.heap[b]? = none := Array.getElem?_eq_none (by omega)
      simp [World.cell?, e] at h1
    refine ⟨h b hx hb, h1, ⟨a, c, h2, h2', ?_⟩, ihr _ _ h4⟩
    rcases h3 with h3 | ⟨b', o', h3, h5⟩
    · exact Or.inl h3
    · exact Or.inr ⟨b', o', h3, ihl _ _ h5⟩

theorem Sl.kept {w w' : World} {X : Nat → Prop} {a : Option Addr} {l : List Tm} (h : Sl w X a l) (hk : ∀ b, X b → w'.heap[b]? = w.heap[b]?) : Sl w' X a l := by
  obtain ⟨hl, h⟩ := h
  refine ⟨hl, ?_⟩
  rcases h with h | ⟨b, o, e, h⟩
  · exact Or.inl h
  · exact Or.inr ⟨b, o, e, lies_kept hk _ _ _ h⟩

theorem Sl.mono {w : World} {X Y : Nat → Prop} {a : Option Addr} {l : List Tm} (h : Sl w X a l) (hk : ∀ b, X b → b < w.heap.size → Y b) : Sl w Y a l := by
  obtain ⟨hl, h⟩ := h
  refine ⟨hl, ?_⟩
  rcases h with h | ⟨b, o, e, h⟩
  · exact Or.inl h
  · exact Or.inr ⟨b, o, e, lies_mono hk _ _ _ h⟩

theorem Sl.below {w w' : World} {X : Nat → Prop} {a : Option Addr} {l : List Tm} {B : Nat} (h : Sl w X a l) (hb : Below B w w') (hX : ∀ b, X b → b < w.heap.size → b < B) : Sl w' X a l := by
  have h1 : Sl w (fun b => X b ∧ b < B) a l := h.mono fun b hx hs => ⟨hx, hX b hx hs⟩
  have h2 : Sl w' (fun b => X b ∧ b < B) a l := h1.kept fun b hx => hb.block b hx.2
  exact h2.mono fun b hx _ => hx.1

theorem TV.kept {w w' : World} {X : Nat → Prop} {v : Value} {t : Tm} (h : TV w X v t) (hk : ∀ b, X b → w'.heap[b]? = w.heap[b]?) : TV w' X v t := by
  obtain ⟨a, c, e, h⟩ := h
  exact ⟨a, c, e, h.kept hk⟩

theorem TV.mono {w : World} {X Y : Nat → Prop} {v : Value} {t : Tm} (h : TV w X v t) (hk : ∀ b, X b → b < w.heap.size → Y b) : TV w Y v t := by
  obtain ⟨a, c, e, h⟩ := h
  exact ⟨a, c, e, h.mono hk⟩

theorem TV.below {w w' : World} {X : Nat → Prop} {v : Value} {t : Tm} {B : Nat} (h : TV w X v t) (hb : Below B w w') (hX : ∀ b, X b → b < w.heap.size → b < B) : TV w' X v t := by
  obtain ⟨a, c, e, h⟩ := h
  exact ⟨a, c, e, h.below hb hX⟩

theorem TV.alloc {w : World} {X : Nat → Prop} {v : Value} {t : Tm} (h : TV w X v t) (o : Obj) : TV (w.alloc o) X v t :=
  h.below ((Below.refl _ _).alloc (Nat.le_refl _) o) (fun _ _ h => h)

theorem TV.later {w w' : World} {X : Nat → Prop} {v : Value} {t : Tm} (h : TV w X v t) (hb : Below w.heap.size w w') : TV w' X v t := h.below hb (fun _ _ h => h)

theorem Sl.later {w w' : World} {X : Nat → Prop} {a : Option Addr} {l : List Tm} (h : Sl w X a l) (hb : Below w.heap.size w w') : Sl w' X a l := h.below hb (fun _ _ h => h)

/-- One of a row. -/
theorem lies_get {w : World} {X : Nat → Prop} : ∀ (l : List Tm) (b o : Nat), Lies w X b o l → ∀ i (h : i < l.length),
    X b ∧ w.cell? ⟨b, o + i * 2, none⟩ = some (.string l[i].name) ∧ ∃ a c, w.cell? ⟨b, o + i * 2 + 1, none⟩ = some (.slice a l[i].args.length c) ∧ Sl w X a l[i].args := by
  intro l
  induction l with
  | nil => intro b o _ i h; simp at h
  | cons t r ih =>
    intro b o hl i h
    obtain ⟨s, k⟩ := t
    simp only [Lies] at hl
    obtain ⟨hx, h1, ⟨a, c, h2, h3⟩, h4⟩ := hl
    cases i with
    | zero => exact ⟨hx, h1, a, c, h2, h3⟩
    | succ i =>
      have := ih b (o + 2) h4 i (by simpa using h)
      simp only [List.getElem_cons_succ]
      rw [show o + (i + 1) * 2 = o + 2 + i * 2 by omega]
      exact this

theorem lies_mk {w : World} {X : Nat → Prop} : ∀ (l : List Tm) (b o : Nat), (∀ i (h : i < l.length),
    X b ∧ w.cell? ⟨b, o + i * 2, none⟩ = some (.string l[i].name) ∧ ∃ a c, w.cell? ⟨b, o + i * 2 + 1, none⟩ = some (.slice a l[i].args.length c) ∧ Sl w X a l[i].args) → Lies w X b o l := by
  intro l
  induction l with
  | nil => intro b o _; simp [Lies]
  | cons t r ih =>
    intro b o hl
    obtain ⟨s, k⟩ := t
    simp only [Lies]
    obtain ⟨hx, h1, a, c, h2, h3⟩ := hl 0 (by simp)
    refine ⟨hx, h1, ⟨a, c, h2, h3⟩, ih b (o + 2) fun i h => ?_⟩
    have := hl (i + 1) (by simpa using h)
    simp only [List.getElem_cons_succ] at this
    rw [show o + (i + 1) * 2 = o + 2 + i * 2 by omega] at this
    exact this

/-- One of a slice, in a later world. -/
theorem Sl.get {w wr : World} {X : Nat → Prop} {a : Option Addr} {l : List Tm} {B : Nat} (h : Sl w X a l) (hb : Below B w wr) (hX : ∀ b, X b → b < w.heap.size → b < B) (k : Nat) (hk : k < l.length) :
    ∃ b o a' c', a = some ⟨b, o, none⟩ ∧ wr.cell? ⟨b, o + k * 2, none⟩ = some (.string l[k].name) ∧ wr.cell? ⟨b, o + k * 2 + 1, none⟩ = some (.slice a' l[k].args.length c') ∧ TV wr X (.agg #[.string l[k].name, .slice a' l[k].args.length c']) l[k] := by
  have h' := h.below hb hX
  obtain ⟨_, h1⟩ := h'
  rcases h1 with h1 | ⟨b, o, e, h1⟩
  · subst h1; simp at hk
  · obtain ⟨_, h2, a', c', h3, h4⟩ := lies_get _ _ _ h1 k hk
    exact ⟨b, o, a', c', e, h2, h3, a', c', rfl, h4⟩

end Go.Proofs.YtakmclheffbeaaaDoor

/- Bindings in memory. -/
namespace Go.Proofs.YtakmclheffbeaaaDoor
open Go.RowKit
set_option linter.unusedSimpArgs false
set_option linter.unusedVariables false

/-- A variable and what stands for it. -/
structure Bd where
  nm : ByteArray
  t : Tm

/-- A list of bindings in memory. -/
def BV (w : World) (X : Nat → Prop) (v : Value) (l : List Bd) : Prop :=
  ∃ a c, v = .slice a l.length c ∧ (l.length ≤ 9223372036854775807 ∧ l.length ≤ c) ∧ (l = [] ∨ ∃ b o, a = some ⟨b, o, none⟩ ∧ X b ∧ ∀ i (h : i < l.length), w.cell? ⟨b, o + i * 3, none⟩ = some (.string l[i].nm) ∧ w.cell? ⟨b, o + i * 3 + 1, none⟩ = some (.string l[i].t.name) ∧ ∃ a' c', w.cell? ⟨b, o + i * 3 + 2, none⟩ = some (.slice a' l[i].t.args.length c') ∧ Sl w X a' l[i].t.args)

theorem BV.kept {w w' : World} {X : Nat → Prop} {v : Value} {l : List Bd} (h : BV w X v l) (hk : ∀ b, X b → w'.heap[b]? = w.heap[b]?) : BV w' X v l := by
  obtain ⟨a, c, e, hl, h⟩ := h
  refine ⟨a, c, e, hl, ?_⟩
  rcases h with h | ⟨b, o, ea, hX, h⟩
  · exact Or.inl h
  · refine Or.inr ⟨b, o, ea, hX, fun i hi => ?_⟩
    obtain ⟨h1, h2, a', c', h3, h4⟩ := h i hi
    have hb := hk b hX
    exact ⟨by simpa [World.cell?, hb] using h1, by simpa [World.cell?, hb] using h2, a', c', by simpa [World.cell?, hb] using h3, h4.kept hk⟩
theorem cell_lt {w : World} {b o : Nat} {v : Value} (h : w.cell? ⟨b, o, none⟩ = some v) : b < w.heap.size := by
  rcases Nat.lt_or_ge b w.heap.size with h' | h'
  · exact h'
  · simp [World.cell?, Array.getElem?_eq_none h'] at h
theorem BV.mono {w : World} {X Y : Nat → Prop} {v : Value} {l : List Bd} (h : BV w X v l) (hk : ∀ b, X b → b < w.heap.size → Y b) : BV w Y v l := by
  obtain ⟨a, c, e, hl, h⟩ := h
  refine ⟨a, c, e, hl, ?_⟩
  rcases h with h | ⟨b, o, ea, hX, h⟩
  · exact Or.inl h
  · by_cases h0 : l = []
    · exact Or.inl h0
    · have hp : 0 < l.length := List.length_pos_iff.2 h0
      refine Or.inr ⟨b, o, ea, hk b hX (cell_lt (h 0 hp).1), fun i hi => ?_⟩
      obtain ⟨h1, h2, a', c', h3, h4⟩ := h i hi
      exact ⟨h1, h2, a', c', h3, h4.mono hk⟩
theorem BV.later {w w' : World} {X : Nat → Prop} {v : Value} {l : List Bd} (h : BV w X v l) (hb : Below w.heap.size w w') : BV w' X v l :=
  ((h.mono (Y := fun b => X b ∧ b < w.heap.size) fun b h1 h2 => ⟨h1, h2⟩).kept fun b hx => hb.block b hx.2).mono fun b hx _ => hx.1
theorem BV.alloc {w : World} {X : Nat → Prop} {v : Value} {l : List Bd} (h : BV w X v l) (o : Obj) : BV (w.alloc o) X v l := h.later ((Below.refl _ _).alloc (Nat.le_refl _) o)
theorem BV.get {w : World} {X : Nat → Prop} {a : Option Addr} {n c : Nat} {l : List Bd} (h : BV w X (.slice a n c) l) (i : Nat) (hi : i < l.length) :
    ∃ b o a' c', a = some ⟨b, o, none⟩ ∧ w.cell? ⟨b, o + i * 3, none⟩ = some (.string l[i].nm) ∧ w.cell? ⟨b, o + i * 3 + 1, none⟩ = some (.string l[i].t.name) ∧ w.cell? ⟨b, o + i * 3 + 2, none⟩ = some (.slice a' l[i].t.args.length c') ∧ Sl w X a' l[i].t.args := by
  obtain ⟨a2, c2, e, hl, h⟩ := h
  simp at e
  obtain ⟨rfl, rfl, rfl⟩ := e
  rcases h with h | ⟨b, o, ea, hX, h⟩
  · subst h; simp at hi
  · obtain ⟨h1, h2, a', c', h3, h4⟩ := h i hi
    exact ⟨b, o, a', c', ea, h1, h2, h3, h4⟩

theorem bytes_inj {a b : ByteArray} (h : a.toList = b.toList) : a = b := by
  rw [ByteArray.toList_eq, ByteArray.toList_eq] at h
  cases a with
  | mk x =>
    cases b with
    | mk y => congr 1; exact Array.toList_inj.1 h
theorem bytes_yes {a b : ByteArray} (h : a = b) : (a.toList == b.toList) = true := by rw [h]; simp
theorem bytes_no {a b : ByteArray} (h : a ≠ b) : (a.toList == b.toList) = false := beq_eq_false_iff_ne.2 fun e => h (bytes_inj e)

/-- What stands for a variable. -/
def forT : List Bd → ByteArray → Option Tm
  | [], _ => none
  | d :: r, n => if d.nm = n then some d.t else forT r n
theorem forT_take {l : List Bd} {n : ByteArray} {k : Nat} (hk : k < l.length) (h : forT (l.take k) n = none) : (l[k].nm = n → forT l n = some l[k].t) ∧ (l[k].nm ≠ n → forT (l.take (k + 1)) n = none) := by
  induction l generalizing k with
  | nil => simp at hk
  | cons d r ih =>
    cases k with
    | zero =>
      refine ⟨fun e => ?_, fun e => ?_⟩
      · simp only [List.getElem_cons_zero] at e; simp [forT, e]
      · simp only [List.getElem_cons_zero] at e; simp [forT, e]
    | succ k =>
      simp only [List.take_succ_cons, forT] at h
      by_cases hd : d.nm = n
      · rw [if_pos hd] at h; cases h
      · rw [if_neg hd] at h
        obtain ⟨h1, h2⟩ := ih (by simpa using hk) h
        refine ⟨fun e => ?_, fun e => ?_⟩
        · rw [forT, if_neg hd]; exact h1 (by simpa using e)
        · rw [List.take_succ_cons, forT, if_neg hd]; exact h2 (by simpa using e)
end Go.Proofs.YtakmclheffbeaaaDoor

/- Walks: how many knots a term has. -/
namespace Go.Proofs.YtakmclheffbeaaaDoor
open Go.RowKit

/-- Behind a call that makes memory: old cells and marks read as before. -/
theorem bcell {W w1 : World} {B : Nat} (hb : Below B W w1) : (∀ b o, b < B → w1.cell? ⟨b, o, none⟩ = W.cell? ⟨b, o, none⟩) ∧ (∀ b o, b < B → w1.frozen? ⟨b, o, none⟩ = W.frozen? ⟨b, o, none⟩) :=
  ⟨fun b o h => hb.cell (p := ⟨b, o, none⟩) h, fun b o h => hb.frozen (p := ⟨b, o, none⟩) h⟩

theorem sizeL_take (l : List Tm) (k : Nat) (h : k < l.length) : sizeL (l.take (k + 1)) = sizeL (l.take k) + sizeL [l[k]] := by
  rw [List.take_succ_eq_append_getElem h, sizeL_append]

theorem sizeL_take_le (l : List Tm) (k : Nat) : sizeL (l.take k) ≤ sizeL l := by
  have := sizeL_append (l.take k) (l.drop k)
  rw [List.take_append_drop] at this
  omega

theorem ret_int {k : IntKind} {a b : Int} (h : a = b) : Ending.returned (.int k a) = .returned (.int k b) := by rw [h]

/-- Behind a call whose first deed was to lay its parameter down. -/
theorem below_box {w wr : World} {o : Obj} (hb : Below (w.heap.size + 1) (w.alloc o) wr) : Below w.heap.size w wr :=
  ((Below.refl _ _).alloc (Nat.le_refl _) _).trans (hb.mono (Nat.le_succ _))

set_option maxHeartbeats 400000 in
theorem size_any (t : Tm) : ∀ (v : Value) (most : Int) (w : World) (X : Nat → Prop), TV w X v t → 0 ≤ most → most ≤ 1000000 →
    Calls Tryd.prog 20 #[v, .int .i64 most] w fun e w' => e = .returned (.int .i64 (min (sizeL [t]) (most + 1))) ∧ Below w.heap.size w w' := by
  induction t using Tm.ind with
  | h s l ih =>
    intro v most w X hv hm0 hm1
    obtain ⟨a, c, rfl, hs⟩ := hv
    have IH := hide ih
    clear ih
    go_enter Tryd.func20, Tryd.ntmps20
    go_wp2_with fail
    go_loopw [5, 6] (fun n i wr => ∃ k : Nat, k ≤ l.length ∧ i = .int .i64 k ∧ n = .int .i64 (min (1 + sizeL (l.take k)) (most + 1)) ∧ Below (w.heap.size + 1) (w.alloc (Obj.cells #[Value.string s, Value.slice a l.length c] 24)) wr) (fun n i wr => l.length - (intOf i).toNat)
    case atStart => exact ⟨0, Nat.zero_le _, rfl, by simp [sizeL]; omega, Below.refl _ _⟩
    case round =>
      obtain ⟨k, hk, rfl, rfl, hb⟩ := hrel
      have hc := bcell hb
      have c0 : wr.cell? ⟨w.heap.size, 0, none⟩ = some (.string s) := by rw [hc.1 _ _ (by omega)]; simp
      have c1 : wr.cell? ⟨w.heap.size, 1, none⟩ = some (.slice a l.length c) := by rw [hc.1 _ _ (by omega)]; simp
      have hl := hs.1
      have hn : 0 ≤ ((1 : Int) + sizeL (l.take k)) := by omega
      by_cases hlt : k < l.length
      · obtain ⟨b, o, a', c', rfl, d0, d1, hx⟩ := hs.get (((Below.refl _ _).alloc (Nat.le_refl _) _).trans (hb.mono (Nat.le_succ _))) (fun _ _ h => h) k hlt
        by_cases hle : 1 + (sizeL (l.take k) : Int) ≤ most
        · have hmin : min (1 + (sizeL (l.take k) : Int)) (most + 1) = 1 + (sizeL (l.take k) : Int) := by omega
          rw [hmin]
          go_wp2_with fail
          refine (IH.out _ (List.getElem_mem hlt) _ _ _ X hx (by omega) (by omega)).mono ?_
          rintro e w1 ⟨rfl, hb1⟩
          have hsz : w.heap.size + 1 ≤ wr.heap.size := by have := hb.size; simpa using this
          have Hst := hide (sizeL_take l k hlt)
          have hm2 : 0 ≤ min ((sizeL [l[k]] : Int)) (most - (1 + (sizeL (l.take k) : Int)) + 1) := by omega
          have hm3 : min ((sizeL [l[k]] : Int)) (most - (1 + (sizeL (l.take k) : Int)) + 1) ≤ 1000001 := by omega
          go_wp2_with fail
          go_roundw
          case rel => exact ⟨k + 1, by omega, by go_num, by rw [Hst.out]; congr 1; omega, hb.trans (hb1.mono hsz)⟩
          case measure => simp [intOf]; omega
        · have hmin : min (1 + (sizeL (l.take k) : Int)) (most + 1) = most + 1 := by omega
          rw [hmin]
          have hz : (sizeL [(⟨s, l⟩ : Tm)] : Int) = 1 + sizeL l := by simp [sizeL]
          have hle2 : sizeL (l.take k) ≤ sizeL l := sizeL_take_le l k
          have HF := hide (show (most + 1 : Int) = min (sizeL [(⟨s, l⟩ : Tm)] : Int) (most + 1) by omega)
          clear hz
          go_wp2_with fail
          go_ret
          exact ⟨ret_int HF.out, below_box hb⟩
      · have htk : l.take k = l := List.take_of_length_le (by omega)
        rw [htk]
        have hz : (sizeL [(⟨s, l⟩ : Tm)] : Int) = 1 + sizeL l := by simp [sizeL]
        have HZ := hide hz
        clear hz
        go_wp2_with fail
        · go_ret
          exact ⟨ret_int (by have := HZ.out; omega), below_box hb⟩
        · go_ret
          exact ⟨ret_int (by have := HZ.out; omega), below_box hb⟩

end Go.Proofs.YtakmclheffbeaaaDoor

/- Walks: letters, digits, names. -/
namespace Go.Proofs.YtakmclheffbeaaaDoor
open Go.RowKit
set_option linter.unusedSimpArgs false
set_option linter.unusedVariables false

def digB (n : Int) : Bool := decide (48 ≤ n) && decide (n ≤ 57)
def capB (n : Int) : Bool := decide (65 ≤ n) && decide (n ≤ 90)
def lowB (n : Int) : Bool := decide (97 ≤ n) && decide (n ≤ 122)
def letB (n : Int) : Bool := lowB n || capB n
def alnB (n : Int) : Bool := letB n || digB n

theorem ret_bool {a b : Bool} (h : a = b) : Ending.returned (.bool a) = .returned (.bool b) := by rw [h]

set_option maxHeartbeats 400000 in
theorem isDigit_any (n : Int) (w : World) : Calls Tryd.prog 62 #[.int .u8 n] w fun e w' => e = .returned (.bool (digB n)) ∧ w' = w := by
  go_enter Tryd.func62, Tryd.ntmps62
  go_wp2_with fail
  all_goals (go_ret; refine ⟨ret_bool ?_, rfl⟩; rw [Bool.eq_iff_iff]; simp [alnB, letB, lowB, capB, digB] <;> omega)

set_option maxHeartbeats 400000 in
theorem isCapital_any (n : Int) (w : World) : Calls Tryd.prog 60 #[.int .u8 n] w fun e w' => e = .returned (.bool (capB n)) ∧ w' = w := by
  go_enter Tryd.func60, Tryd.ntmps60
  go_wp2_with fail
  all_goals (go_ret; refine ⟨ret_bool ?_, rfl⟩; rw [Bool.eq_iff_iff]; simp [alnB, letB, lowB, capB, digB] <;> omega)

set_option maxHeartbeats 400000 in
theorem isLetter_any (n : Int) (w : World) : Calls Tryd.prog 63 #[.int .u8 n] w fun e w' => e = .returned (.bool (letB n)) ∧ w' = w := by
  go_enter Tryd.func63, Tryd.ntmps63
  go_wp2_with (go_at_call 60; refine (isCapital_any _ _).mono ?_; rintro e w' ⟨rfl, rfl⟩)
  all_goals (go_ret; refine ⟨ret_bool ?_, rfl⟩; rw [Bool.eq_iff_iff]; simp [alnB, letB, lowB, capB, digB] <;> omega)

set_option maxHeartbeats 400000 in
theorem isLetterR_any (n : Int) (w : World) : Calls Tryd.prog 48 #[.int .u8 n] w fun e w' => e = .returned (.bool (alnB n)) ∧ w' = w := by
  go_enter Tryd.func48, Tryd.ntmps48
  go_wp2_with fail
  all_goals (go_ret; refine ⟨ret_bool ?_, rfl⟩; rw [Bool.eq_iff_iff]; simp [alnB, letB, lowB, capB, digB] <;> omega)
end Go.Proofs.YtakmclheffbeaaaDoor

/- Walks: which texts are names, and which of them are variables'. -/
namespace Go.Proofs.YtakmclheffbeaaaDoor
open Go.RowKit
set_option linter.unusedSimpArgs false
set_option linter.unusedVariables false

def byteAt (s : ByteArray) (i : Nat) : Int := if h : i < s.size then (s[i].toNat : Int) else 0
theorem byteAt_of {s : ByteArray} {i : Nat} (h : i < s.size) : (s[i].toNat : Int) = byteAt s i := by simp [byteAt, h]
def varB (s : ByteArray) : Bool := capB (byteAt s 0)
def alnTo (s : ByteArray) (k : Nat) : Bool := (List.range k).all fun i => alnB (byteAt s i)
def nameB (s : ByteArray) : Bool := decide (1 ≤ s.size) && decide (s.size ≤ 8) && !digB (byteAt s 0) && alnTo s s.size

theorem isEmpty_pos {s : ByteArray} (h : 0 < s.size) : s.toList.isEmpty = false := by
  rw [ByteArray.toList_eq, List.isEmpty_eq_false_iff, ← List.length_pos_iff]
  simpa using h
theorem isEmpty_zero {s : ByteArray} (h : ¬ 0 < s.size) : s.toList.isEmpty = true := by
  rw [ByteArray.toList_eq, List.isEmpty_iff, ← List.length_eq_zero_iff]
  have : s.size = 0 := by omega
  simpa using this
theorem alnTo_succ (s : ByteArray) (k : Nat) : alnTo s (k + 1) = (alnTo s k && alnB (byteAt s k)) := by
  simp [alnTo, List.range_succ, List.all_append]
theorem alnTo_false {s : ByteArray} {k n : Nat} (h : k ≤ n) (hf : alnTo s k = false) : alnTo s n = false := by
  cases hn : alnTo s n with
  | false => rfl
  | true =>
    rw [← hf]; symm
    unfold alnTo at hn ⊢
    rw [List.all_eq_true] at hn ⊢
    intro x hx; exact hn x (by rw [List.mem_range] at hx ⊢; omega)
set_option maxHeartbeats 400000 in
theorem isVarR_any (s : ByteArray) (w : World) : Calls Tryd.prog 30 #[.string s] w fun e w' => e = .returned (.bool (varB s)) ∧ w' = w := by
  by_cases h : 0 < s.size
  · have hb := hide (byteAt_of h)
    have he := isEmpty_pos h
    go_enter Tryd.func30, Tryd.ntmps30
    go_wp2_with fail
    all_goals (go_ret; refine ⟨ret_bool ?_, rfl⟩; have hb' := hb.out; rw [Bool.eq_iff_iff]; simp [varB, capB] <;> omega)
  · have he := isEmpty_zero h
    have hv : Hid (false = varB s) := by simp [Hid, varB, byteAt, h, capB]
    go_enter Tryd.func30, Tryd.ntmps30
    go_wp2_with fail
    go_ret
    exact ⟨ret_bool hv.out, rfl⟩

set_option maxHeartbeats 400000 in
theorem isVariable_all (s : ByteArray) (w : World) : Calls Tryd.prog 50 #[.string s] w fun e w' => e = .returned (.bool (varB s)) ∧ w' = w := by
  by_cases h : 0 < s.size
  · have hb := hide (byteAt_of h)
    have he := isEmpty_pos h
    go_enter Tryd.func50, Tryd.ntmps50
    go_wp2_with (go_at_call 60; refine (isCapital_any _ _).mono ?_; rintro e w' ⟨rfl, rfl⟩)
    go_ret
    refine ⟨ret_bool ?_, rfl⟩
    rw [hb.out]; rfl
  · have he := isEmpty_zero h
    have hv : Hid (false = varB s) := by simp [Hid, varB, byteAt, h, capB]
    go_enter Tryd.func50, Tryd.ntmps50
    go_wp2_with fail
    go_ret
    exact ⟨ret_bool hv.out, rfl⟩
theorem isVariable_any (s : ByteArray) (w : World) (h : 0 < s.size) : Calls Tryd.prog 50 #[.string s] w fun e w' => e = .returned (.bool (varB s)) ∧ w' = w := isVariable_all s w

theorem nameB_no {s : ByteArray} {k : Nat} (hk : k < s.size) (h : alnB (byteAt s k) = false) : nameB s = false := by
  have h1 : alnTo s (k + 1) = false := by rw [alnTo_succ, h]; simp
  have h2 := alnTo_false (n := s.size) (by omega) h1
  simp [nameB, h2]

set_option maxHeartbeats 400000 in
theorem isName_any (s : ByteArray) (w : World) : Calls Tryd.prog 54 #[.string s] w fun e w' => e = .returned (.bool (nameB s)) ∧ w' = w := by
  by_cases h0 : s.size < 1
  · have hn : Hid (false = nameB s) := by simp [Hid, nameB]; omega
    go_enter Tryd.func54, Tryd.ntmps54
    go_wp2_with fail
    go_ret
    exact ⟨ret_bool hn.out, rfl⟩
  · by_cases h8 : 8 < s.size
    · have hn : Hid (false = nameB s) := by simp [Hid, nameB]; omega
      go_enter Tryd.func54, Tryd.ntmps54
      go_wp2_with fail
      all_goals (go_ret; exact ⟨ret_bool hn.out, rfl⟩)
    · have hb := hide (byteAt_of (s := s) (i := 0) (by omega))
      by_cases hd : digB (byteAt s 0) = true
      · have hn : Hid (false = nameB s) := by simp [Hid, nameB, hd]
        have hd' := hide hd
        clear hd
        go_enter Tryd.func54, Tryd.ntmps54
        go_wp2_with (go_at_call 62; refine (isDigit_any _ _).mono ?_; rintro e w' ⟨rfl, rfl⟩; rw [hb.out, hd'.out])
        all_goals (go_ret; exact ⟨ret_bool hn.out, rfl⟩)
      · have hd' : Hid (digB (byteAt s 0) = false) := by simpa [Hid] using hd
        clear hd
        go_enter Tryd.func54, Tryd.ntmps54
        go_wp2_with (go_at_call 62; refine (isDigit_any _ _).mono ?_; rintro e w' ⟨rfl, rfl⟩; rw [hb.out, hd'.out])
        go_loop [19] (fun i => ∃ k : Nat, k ≤ s.size ∧ i = .int .i64 k ∧ alnTo s k = true) (fun i => s.size - (intOf i).toNat)
        case atStart => exact ⟨0, Nat.zero_le _, rfl, rfl⟩
        case round =>
          obtain ⟨k, hk, rfl, ha⟩ := hrel
          have HA := hide ha
          clear ha
          by_cases hlt : k < s.size
          · have hbk := hide (byteAt_of hlt)
            have hsuc := hide (alnTo_succ s k)
            cases hl : letB (byteAt s k) with
            | true =>
              have HL := hide hl
              clear hl
              go_wp2_with (go_at_call 63; refine (isLetter_any _ _).mono ?_; rintro e w' ⟨rfl, rfl⟩; rw [hbk.out, HL.out])
              go_round
              case rel => exact ⟨k + 1, by omega, by go_num, by rw [hsuc.out, HA.out, alnB, HL.out]; rfl⟩
              case measure => simp [intOf]; omega
            | false =>
              have HL := hide hl
              clear hl
              cases hg : digB (byteAt s k) with
              | true =>
                have HG := hide hg
                clear hg
                go_wp2_with (first | (go_at_call 63; refine (isLetter_any _ _).mono ?_; rintro e w' ⟨rfl, rfl⟩; rw [hbk.out, HL.out]) | (go_at_call 62; refine (isDigit_any _ _).mono ?_; rintro e w' ⟨rfl, rfl⟩; rw [hbk.out, HG.out]))
                go_round
                case rel => exact ⟨k + 1, by omega, by go_num, by rw [hsuc.out, HA.out, alnB, HL.out, HG.out]; rfl⟩
                case measure => simp [intOf]; omega
              | false =>
                have HG := hide hg
                clear hg
                go_wp2_with (first | (go_at_call 63; refine (isLetter_any _ _).mono ?_; rintro e w' ⟨rfl, rfl⟩; rw [hbk.out, HL.out]) | (go_at_call 62; refine (isDigit_any _ _).mono ?_; rintro e w' ⟨rfl, rfl⟩; rw [hbk.out, HG.out]))
                go_ret
                exact ⟨ret_bool (nameB_no hlt (by rw [alnB, HL.out, HG.out]; rfl)).symm, rfl⟩
          · have hn : Hid (true = nameB s) := by
              have e : k = s.size := by omega
              have := HA.out
              rw [e] at this
              simp [Hid, nameB, this, hd'.out]; omega
            go_wp2_with fail
            go_ret
            exact ⟨ret_bool hn.out, rfl⟩

set_option maxHeartbeats 400000 in
theorem isNameR_any (s : ByteArray) (w : World) : Calls Tryd.prog 29 #[.string s] w fun e w' => e = .returned (.bool (nameB s)) ∧ w' = w := by
  by_cases h0 : 0 < s.size
  · have he := isEmpty_pos h0
    have hb := hide (byteAt_of h0)
    by_cases h8 : 8 < s.size
    · have hn : Hid (false = nameB s) := by simp [Hid, nameB]; omega
      go_enter Tryd.func29, Tryd.ntmps29
      go_wp2_with fail
      all_goals (go_ret; exact ⟨ret_bool hn.out, rfl⟩)
    · cases hd : digB (byteAt s 0) with
      | true =>
        have hn : Hid (false = nameB s) := by simp [Hid, nameB, hd]
        have hd1 : 48 ≤ (s[0].toNat : Int) := by rw [hb.out]; simp [digB] at hd; exact hd.1
        have hd2 : (s[0].toNat : Int) ≤ 57 := by rw [hb.out]; simp [digB] at hd; exact hd.2
        clear hd
        go_enter Tryd.func29, Tryd.ntmps29
        go_wp2_with fail
        all_goals (go_ret; exact ⟨ret_bool hn.out, rfl⟩)
      | false =>
        have HD := hide hd
        clear hd
        have hor : (s[0].toNat : Int) < 48 ∨ (48 ≤ (s[0].toNat : Int) ∧ 57 < (s[0].toNat : Int)) := by
          have := HD.out; rw [hb.out]; simp [digB] at this; omega
        rcases hor with h1 | ⟨h1, h2⟩
        all_goals
          go_enter Tryd.func29, Tryd.ntmps29
          go_wp2_with fail
          go_loop [3] (fun i => ∃ k : Nat, k ≤ s.size ∧ i = .int .i64 k ∧ alnTo s k = true) (fun i => s.size - (intOf i).toNat)
          case atStart => exact ⟨0, Nat.zero_le _, rfl, rfl⟩
          case round =>
            obtain ⟨k, hk, rfl, ha⟩ := hrel
            have HA := hide ha
            clear ha
            by_cases hlt : k < s.size
            · have hbk := hide (byteAt_of hlt)
              have hsuc := hide (alnTo_succ s k)
              cases hl : alnB (byteAt s k) with
              | true =>
                have HL := hide hl
                clear hl
                go_wp2_with (go_at_call 48; refine (isLetterR_any _ _).mono ?_; rintro e w' ⟨rfl, rfl⟩; rw [hbk.out, HL.out])
                go_round
                case rel => exact ⟨k + 1, by omega, by go_num, by rw [hsuc.out, HA.out, HL.out]; rfl⟩
                case measure => simp [intOf]; omega
              | false =>
                have HL := hide hl
                clear hl
                go_wp2_with (go_at_call 48; refine (isLetterR_any _ _).mono ?_; rintro e w' ⟨rfl, rfl⟩; rw [hbk.out, HL.out])
                go_ret
                exact ⟨ret_bool (nameB_no hlt HL.out).symm, rfl⟩
            · have hn : Hid (true = nameB s) := by
                have e : k = s.size := by omega
                have := HA.out
                rw [e] at this
                simp [Hid, nameB, this, HD.out]; omega
              go_wp2_with fail
              go_ret
              exact ⟨ret_bool hn.out, rfl⟩
  · have he := isEmpty_zero h0
    have hn : Hid (false = nameB s) := by simp [Hid, nameB]; omega
    go_enter Tryd.func29, Tryd.ntmps29
    go_wp2_with fail
    all_goals (go_ret; exact ⟨ret_bool hn.out, rfl⟩)
end Go.Proofs.YtakmclheffbeaaaDoor

/- Walks: counting knots with a bound; what is wrong with a term. -/
namespace Go.Proofs.YtakmclheffbeaaaDoor
open Go.RowKit
set_option linter.unusedSimpArgs false
set_option linter.unusedVariables false

theorem argsOf_any (s : ByteArray) (a : Option Addr) (n c : Nat) (w : World) :
    Calls Tryd.prog 53 #[.agg #[.string s, .slice a n c]] w fun e w' => e = .returned (.slice a n c) ∧ w' = w.alloc (.cells #[.string s, .slice a n c] 24) := by
  go_enter Tryd.func53, Tryd.ntmps53
  go_wp2_with fail
  go_ret
  exact ⟨rfl, rfl⟩

set_option maxHeartbeats 400000 in
theorem countOn_any (M : Int) (hM0 : 0 ≤ M) (hM1 : M ≤ 1000000) (t : Tm) : ∀ (v : Value) (n : Int) (w : World) (X : Nat → Prop), TV w X v t → 0 ≤ n → n ≤ M →
    Calls Tryd.prog 61 #[v, .func (.func 53) #[] #[], .int .i64 M, .int .i64 n] w fun e w' => e = .returned (.int .i64 (min (n + sizeL [t]) (M + 1))) ∧ Below w.heap.size w w' := by
  induction t using Tm.ind with
  | h s l ih =>
    intro v n w X hv hn0 hn1
    obtain ⟨a, c, rfl, hs⟩ := hv
    have IH := hide ih
    clear ih
    have hz : Hid ((sizeL [(⟨s, l⟩ : Tm)] : Int) = 1 + sizeL l) := by simp [Hid, sizeL]
    go_enter Tryd.func61, Tryd.ntmps61
    go_wp2_with (go_at_call 53; refine (argsOf_any _ _ _ _ _).mono ?_; rintro e w' ⟨rfl, rfl⟩)
    have hB0 : Hid (Below w.heap.size w ((w.alloc (Obj.cells #[Value.string s, Value.slice a l.length c] 24)).alloc (Obj.cells #[Value.string s, Value.slice a l.length c] 24))) := ((Below.refl _ _).alloc (Nat.le_refl _) _).alloc (by simp) _
    have hZ0 : Hid (w.heap.size + 2 ≤ ((w.alloc (Obj.cells #[Value.string s, Value.slice a l.length c] 24)).alloc (Obj.cells #[Value.string s, Value.slice a l.length c] 24)).heap.size) := by simp [Hid]
    generalize ((w.alloc (Obj.cells #[Value.string s, Value.slice a l.length c] 24)).alloc (Obj.cells #[Value.string s, Value.slice a l.length c] 24)) = w0 at *
    go_loopw [9, 18] (fun m i wr => ∃ k : Nat, k ≤ l.length ∧ i = .int .i64 k ∧ m = .int .i64 (min (n + 1 + sizeL (l.take k)) (M + 1)) ∧ Below w.heap.size w wr) (fun m i wr => l.length - (intOf i).toNat)
    case atStart => exact ⟨0, Nat.zero_le _, rfl, by rw [show sizeL (l.take 0) = 0 by simp [sizeL]]; congr 1; omega, hB0.out⟩
    case round =>
      obtain ⟨k, hk, rfl, rfl, hb⟩ := hrel
      have hl := hs.1
      have hsz : w.heap.size ≤ wr.heap.size := hb.size
      by_cases hlt : k < l.length
      · obtain ⟨b, o, a', c', rfl, d0, d1, hx⟩ := hs.get hb (fun _ _ h => h) k hlt
        by_cases hle : n + 1 + (sizeL (l.take k) : Int) ≤ M
        · have hmin : min (n + 1 + (sizeL (l.take k) : Int)) (M + 1) = n + 1 + (sizeL (l.take k) : Int) := by omega
          rw [hmin]
          go_wp2_with fail
          refine (IH.out _ (List.getElem_mem hlt) _ _ _ X (hx.alloc _) (by omega) (by omega)).mono ?_
          rintro e w1 ⟨rfl, hb1⟩
          have Hst := hide (sizeL_take l k hlt)
          go_wp2_with fail
          go_roundw
          case rel => exact ⟨k + 1, by omega, by go_num, by rw [Hst.out]; congr 1; omega, (hb.alloc hsz _).trans (hb1.mono (by simp; omega))⟩
          case measure => simp [intOf]; omega
        · have hmin : min (n + 1 + (sizeL (l.take k) : Int)) (M + 1) = M + 1 := by omega
          rw [hmin]
          have hle2 : sizeL (l.take k) ≤ sizeL l := sizeL_take_le l k
          go_wp2_with fail
          go_ret
          refine ⟨ret_int (by have := hz.out; omega), ?_⟩
          exact hb.alloc (by omega) _
      · have htk : l.take k = l := List.take_of_length_le (by omega)
        rw [htk]
        go_wp2_with fail
        go_ret
        exact ⟨ret_int (by have := hz.out; omega), hb⟩

theorem countT_any (M : Int) (hM0 : 0 ≤ M) (hM1 : M ≤ 1000000) (t : Tm) (v : Value) (w : World) (X : Nat → Prop) (hv : TV w X v t) :
    Calls Tryd.prog 52 #[v, .func (.func 53) #[] #[], .int .i64 M] w fun e w' => e = .returned (.int .i64 (min (sizeL [t] : Int) (M + 1))) ∧ Below w.heap.size w w' := by
  obtain ⟨a, c, rfl, hs⟩ := hv
  have hv : TV w X (.agg #[.string t.name, .slice a t.args.length c]) t := ⟨a, c, rfl, hs⟩
  go_enter Tryd.func52, Tryd.ntmps52
  go_wp2_with fail
  refine (countOn_any M hM0 hM1 t _ _ _ X (hv.alloc _) (by omega) (by omega)).mono ?_
  rintro e w1 ⟨rfl, hb1⟩
  go_wp2_with fail
  go_ret
  exact ⟨ret_int (by omega), ((Below.refl _ _).alloc (Nat.le_refl _) _).trans (hb1.mono (by simp))⟩

theorem count_any (M : Int) (hM0 : 0 ≤ M) (hM1 : M ≤ 1000000) (t : Tm) (v : Value) (w : World) (X : Nat → Prop) (hv : TV w X v t) :
    Calls Tryd.prog 38 #[v, .int .i64 M] w fun e w' => e = .returned (.int .i64 (min (sizeL [t] : Int) (M + 1))) ∧ Below w.heap.size w w' := by
  obtain ⟨a, c, rfl, hs⟩ := hv
  have hv : TV w X (.agg #[.string t.name, .slice a t.args.length c]) t := ⟨a, c, rfl, hs⟩
  go_enter Tryd.func38, Tryd.ntmps38
  go_wp2_with fail
  refine (countT_any M hM0 hM1 t _ _ X (hv.alloc _)).mono ?_
  rintro e w1 ⟨rfl, hb1⟩
  go_wp2_with fail
  go_ret
  exact ⟨ret_int (by omega), ((Below.refl _ _).alloc (Nat.le_refl _) _).trans (hb1.mono (by simp))⟩

/-- What is wrong, knot by knot: 0 nothing, 1 no name, 2 a variable with terms below it. -/
def errL : List Tm → Int
  | [] => 0
  | ⟨s, l⟩ :: r => if nameB s = true then (if (varB s && decide (0 < l.length)) = true then 2 else if errL l = 0 then errL r else errL l) else 1

theorem errL_cons (t : Tm) (r : List Tm) : errL (t :: r) = if errL [t] = 0 then errL r else errL [t] := by
  obtain ⟨s, l⟩ := t
  simp only [errL]
  split
  · split
    · simp
    · split <;> simp_all
  · simp

theorem errL_append (a b : List Tm) : errL (a ++ b) = if errL a = 0 then errL b else errL a := by
  induction a with
  | nil => simp [errL]
  | cons t r ih =>
    rw [List.cons_append, errL_cons, errL_cons t r, ih]
    by_cases h : errL [t] = 0 <;> simp [h]

theorem errL_take (l : List Tm) (k : Nat) (h : k < l.length) : errL (l.take (k + 1)) = if errL (l.take k) = 0 then errL [l[k]] else errL (l.take k) := by
  rw [List.take_succ_eq_append_getElem h, errL_append]

theorem errL_of_take {l : List Tm} {k : Nat} (h : errL (l.take k) ≠ 0) : errL l = errL (l.take k) := by
  have := errL_append (l.take k) (l.drop k)
  rw [List.take_append_drop, if_neg h] at this
  exact this

theorem name_pos {s : ByteArray} (h : nameB s = true) : 0 < s.size := by
  simp [nameB] at h; omega

set_option maxHeartbeats 400000 in
theorem checkKnots_any (t : Tm) : ∀ (v : Value) (w : World) (X : Nat → Prop), TV w X v t →
    Calls Tryd.prog 39 #[v] w fun e w' => e = .returned (.int .i64 (errL [t])) ∧ Below w.heap.size w w' := by
  induction t using Tm.ind with
  | h s l ih =>
    intro v w X hv
    obtain ⟨a, c, rfl, hs⟩ := hv
    have IH := hide ih
    clear ih
    have hl := hs.1
    cases hn : nameB s with
    | false =>
      have hz : Hid (1 = errL [(⟨s, l⟩ : Tm)]) := by simp [Hid, errL, hn]
      have HN := hide hn
      clear hn
      go_enter Tryd.func39, Tryd.ntmps39
      go_wp2_with (go_at_call 54; refine (isName_any _ _).mono ?_; rintro e w' ⟨rfl, rfl⟩; rw [HN.out])
      go_ret
      exact ⟨ret_int hz.out, (Below.refl _ _).alloc (Nat.le_refl _) _⟩
    | true =>
      have HN := hide hn
      have hpos := name_pos hn
      by_cases hvl : varB s = true ∧ 0 < l.length
      · obtain ⟨hv, hlp⟩ := hvl
        have hz : Hid (2 = errL [(⟨s, l⟩ : Tm)]) := by simp [Hid, errL, hn, hv, hlp]
        have HV := hide hv
        clear hn hv
        go_enter Tryd.func39, Tryd.ntmps39
        go_wp2_with (first | (go_at_call 54; refine (isName_any _ _).mono ?_; rintro e w' ⟨rfl, rfl⟩; rw [HN.out]) | (go_at_call 50; refine (isVariable_any _ _ hpos).mono ?_; rintro e w' ⟨rfl, rfl⟩; rw [HV.out]))
        go_ret
        exact ⟨ret_int hz.out, (Below.refl _ _).alloc (Nat.le_refl _) _⟩
      · have hz : Hid (errL [(⟨s, l⟩ : Tm)] = errL l) := by
          have : (varB s && decide (0 < l.length)) = false := by
            rw [Bool.eq_false_iff]; intro h; simp at h; exact hvl ⟨h.1, by omega⟩
          simp only [Hid, errL, hn, this]
          by_cases h0 : errL l = 0 <;> simp [h0]
        have hcase : (varB s = true ∧ l.length < 1) ∨ varB s = false := by
          cases hv : varB s with
          | true => exact Or.inl ⟨rfl, by apply Classical.byContradiction; intro h; exact hvl ⟨hv, by omega⟩⟩
          | false => exact Or.inr rfl
        clear hn hvl
        rcases hcase with ⟨hv, hl0⟩ | hv
        · have e0 : l = [] := List.length_eq_zero_iff.1 (by omega)
          subst e0
          have HV := hide hv
          clear hv
          go_enter Tryd.func39, Tryd.ntmps39
          go_wp2_with (first | (go_at_call 54; refine (isName_any _ _).mono ?_; rintro e w' ⟨rfl, rfl⟩; rw [HN.out]) | (go_at_call 50; refine (isVariable_any _ _ hpos).mono ?_; rintro e w' ⟨rfl, rfl⟩; rw [HV.out]))
          go_loop [22] (fun i => i = .int .i64 0) (fun i => 0)
          case atStart => rfl
          case round =>
            subst hrel
            have HZ : Hid (0 = errL [(⟨s, []⟩ : Tm)]) := by unfold Hid; rw [hz.out]; simp [errL]
            go_wp2_with fail
            go_ret
            exact ⟨ret_int HZ.out, (Below.refl _ _).alloc (Nat.le_refl _) _⟩
        · have HV := hide hv
          clear hv
          go_enter Tryd.func39, Tryd.ntmps39
          go_wp2_with (first | (go_at_call 54; refine (isName_any _ _).mono ?_; rintro e w' ⟨rfl, rfl⟩; rw [HN.out]) | (go_at_call 50; refine (isVariable_any _ _ hpos).mono ?_; rintro e w' ⟨rfl, rfl⟩; rw [HV.out]))
          go_loopw [22] (fun i wr => ∃ k : Nat, k ≤ l.length ∧ i = .int .i64 k ∧ errL (l.take k) = 0 ∧ Below (w.heap.size + 1) (w.alloc (Obj.cells #[Value.string s, Value.slice a l.length c] 24)) wr) (fun i wr => l.length - (intOf i).toNat)
          case atStart => exact ⟨0, Nat.zero_le _, rfl, by simp [errL], Below.refl _ _⟩
          case round =>
            obtain ⟨k, hk, rfl, he, hb⟩ := hrel
            have HE := hide he
            clear he
            have hsz : w.heap.size + 1 ≤ wr.heap.size := by have := hb.size; simpa using this
            by_cases hlt : k < l.length
            · obtain ⟨b, o, a', c', rfl, d0, d1, hx⟩ := hs.get (below_box hb) (fun _ _ h => h) k hlt
              have HT := hide (errL_take l k hlt)
              go_wp2_with fail
              refine (IH.out _ (List.getElem_mem hlt) _ _ X (hx.alloc _)).mono ?_
              rintro e w1 ⟨rfl, hb1⟩
              by_cases hez : errL [l[k]] = 0
              · have HZ := hide hez
                rw [hez]
                clear hez
                go_wp2_with fail
                go_roundw
                case rel => exact ⟨k + 1, by omega, by go_num, by rw [HT.out, HE.out, HZ.out]; rfl, (hb.alloc hsz _).trans (hb1.mono (by simp; omega))⟩
                case measure => simp [intOf]; omega
              · have hez' : (errL [l[k]] == 0) = false := by simpa using hez
                have HZ : Hid (errL [l[k]] = errL [(⟨s, l⟩ : Tm)]) := by
                  have h1 : errL (l.take (k + 1)) = errL [l[k]] := by rw [HT.out, HE.out]; rfl
                  unfold Hid
                  rw [hz.out, errL_of_take (l := l) (k := k + 1) (by rw [h1]; exact hez), h1]
                go_wp2_with fail
                go_ret
                exact ⟨ret_int HZ.out, ((below_box hb).alloc (by omega) _).trans (hb1.mono (by simp; omega))⟩
            · have htk : l.take k = l := List.take_of_length_le (by omega)
              have HZ : Hid (0 = errL [(⟨s, l⟩ : Tm)]) := by unfold Hid; rw [hz.out, ← htk, HE.out]
              go_wp2_with fail
              go_ret
              exact ⟨ret_int HZ.out, below_box hb⟩

/-- What is wrong with a term. -/
def mayE (t : Tm) : Int := if 200 < sizeL [t] then 3 else errL [t]

set_option maxHeartbeats 400000 in
theorem check_any (t : Tm) (v : Value) (w : World) (X : Nat → Prop) (hv : TV w X v t) :
    Calls Tryd.prog 22 #[v] w fun e w' => e = .returned (.int .i64 (mayE t)) ∧ Below w.heap.size w w' := by
  obtain ⟨a, c, rfl, hs⟩ := hv
  have hv : TV w X (.agg #[.string t.name, .slice a t.args.length c]) t := ⟨a, c, rfl, hs⟩
  go_enter Tryd.func22, Tryd.ntmps22
  go_wp2_with fail
  refine (count_any 200 (by omega) (by omega) t _ _ X (hv.alloc _)).mono ?_
  rintro e w1 ⟨rfl, hb1⟩
  have c0 : w1.cell? ⟨w.heap.size, 0, none⟩ = some (.string t.name) := by rw [hb1.cell (p := ⟨_, _, none⟩) (by simp)]; simp
  have c1 : w1.cell? ⟨w.heap.size, 1, none⟩ = some (.slice a t.args.length c) := by rw [hb1.cell (p := ⟨_, _, none⟩) (by simp)]; simp
  have hb2 : Below w.heap.size w w1 := ((Below.refl _ _).alloc (Nat.le_refl _) _).trans (hb1.mono (by simp))
  by_cases h : 200 < sizeL [t]
  · have hm : Hid (3 = mayE t) := by simp [Hid, mayE, h]
    have e : min (sizeL [t] : Int) (200 + 1) = 201 := by omega
    rw [e]
    go_wp2_with fail
    go_ret
    exact ⟨ret_int hm.out, hb2⟩
  · have hm : Hid (errL [t] = mayE t) := by simp [Hid, mayE, h]
    have e : min (sizeL [t] : Int) (200 + 1) = sizeL [t] := by omega
    rw [e]
    go_wp2_with fail
    refine (checkKnots_any t _ _ X (hv.later hb2)).mono ?_
    rintro e w2 ⟨rfl, hb3⟩
    go_wp2_with fail
    go_ret
    exact ⟨ret_int hm.out, hb2.trans (hb3.mono hb2.size)⟩
end Go.Proofs.YtakmclheffbeaaaDoor

/- Rows of terms that a call makes. -/
namespace Go.Proofs.YtakmclheffbeaaaDoor
open Go.RowKit
set_option linter.unusedSimpArgs false
set_option linter.unusedVariables false

/-- These cells are these terms. -/
def RowT (w : World) (X : Nat → Prop) : List Tm → List Value → Prop
  | [], xs => xs = []
  | t :: l, xs => ∃ a c r, xs = .string t.name :: .slice a t.args.length c :: r ∧ Sl w X a t.args ∧ RowT w X l r

theorem RowT.len {w : World} {X : Nat → Prop} : ∀ {l : List Tm} {xs : List Value}, RowT w X l xs → xs.length = l.length * 2
  | [], xs, h => by simp [RowT] at h; simp [h]
  | t :: l, xs, h => by
    obtain ⟨a, c, r, rfl, _, h⟩ := h
    simp only [List.length_cons]
    rw [RowT.len h]; omega

theorem RowT.append {w : World} {X : Nat → Prop} : ∀ {l k : List Tm} {xs ys : List Value}, RowT w X l xs → RowT w X k ys → RowT w X (l ++ k) (xs ++ ys)
  | [], k, xs, ys, h, h' => by simp [RowT] at h; subst h; simpa using h'
  | t :: l, k, xs, ys, h, h' => by
    obtain ⟨a, c, r, rfl, hs, h⟩ := h
    exact ⟨a, c, r ++ ys, rfl, hs, RowT.append h h'⟩

theorem RowT.one {w : World} {X : Nat → Prop} : ∀ {l : List Tm} {xs : List Value}, RowT w X l xs → ∀ u ∈ xs, u.oneCell' = true
  | [], xs, h, u, hu => by simp [RowT] at h; subst h; cases hu
  | t :: l, xs, h, u, hu => by
    obtain ⟨a, c, r, rfl, _, h⟩ := h
    rcases List.mem_cons.1 hu with e | hu
    · subst e; rfl
    · rcases List.mem_cons.1 hu with e | hu
      · subst e; rfl
      · exact RowT.one h u hu

theorem RowT.imp {w w' : World} {X Y : Nat → Prop} (hs : ∀ a l, Sl w X a l → Sl w' Y a l) : ∀ {l : List Tm} {xs : List Value}, RowT w X l xs → RowT w' Y l xs
  | [], xs, h => h
  | t :: l, xs, h => by
    obtain ⟨a, c, r, e, h1, h⟩ := h
    exact ⟨a, c, r, e, hs _ _ h1, RowT.imp hs h⟩

theorem RowT.get {w : World} {X : Nat → Prop} : ∀ {l : List Tm} {xs : List Value}, RowT w X l xs → ∀ i (h : i < l.length),
    xs[i * 2]? = some (.string l[i].name) ∧ ∃ a c, xs[i * 2 + 1]? = some (.slice a l[i].args.length c) ∧ Sl w X a l[i].args
  | [], xs, h, i, hi => by simp at hi
  | t :: l, xs, h, i, hi => by
    obtain ⟨a, c, r, rfl, h1, h⟩ := h
    cases i with
    | zero => exact ⟨rfl, a, c, rfl, h1⟩
    | succ i =>
      have := RowT.get h i (by simpa using hi)
      rw [show (i + 1) * 2 = i * 2 + 2 by omega, show i * 2 + 2 + 1 = (i * 2 + 1) + 2 by omega]
      simpa using this

theorem sizeL_len (l : List Tm) : l.length ≤ sizeL l := by
  induction l with
  | nil => simp
  | cons t r ih => obtain ⟨s, k⟩ := t; simp only [List.length_cons, sizeL]; omega

theorem lies_of_rowT {w w' : World} {X Y : Nat → Prop} (b : Nat) (hb : Y b) : ∀ (l : List Tm) (xs : List Value) (o : Nat), RowT w X l xs → (∀ a k, Sl w X a k → Sl w' Y a k) → (∀ j u, xs[j]? = some u → w'.cell? ⟨b, o + j, none⟩ = some u) → Lies w' Y b o l := by
  intro l
  induction l with
  | nil => intro xs o _ _ _; simp [Lies]
  | cons t r ih =>
    intro xs o h hs hc
    obtain ⟨s, k⟩ := t
    obtain ⟨a, c, r', rfl, h1, h2⟩ := h
    simp only [Lies]
    obtain ⟨h3, h4⟩ := hs _ _ h1
    refine ⟨hb, hc 0 _ rfl, ⟨a, c, hc 1 _ rfl, h3, h4⟩, ih r' (o + 2) h2 hs fun j u hj => ?_⟩
    have := hc (j + 2) u (by simpa using hj)
    rwa [show o + (j + 2) = o + 2 + j by omega] at this

/-- The knots, each ahead of those below it. -/
def preL : List Tm → List Tm
  | [] => []
  | ⟨s, l⟩ :: r => ⟨s, l⟩ :: (preL l ++ preL r)

theorem preL_append (a b : List Tm) : preL (a ++ b) = preL a ++ preL b := by
  induction a with
  | nil => simp [preL]
  | cons t r ih => obtain ⟨s, l⟩ := t; simp [preL, ih]

theorem preL_take (l : List Tm) (k : Nat) (h : k < l.length) : preL (l.take (k + 1)) = preL (l.take k) ++ preL [l[k]] := by
  rw [List.take_succ_eq_append_getElem h, preL_append]

theorem preL_length (l : List Tm) : (preL l).length = sizeL l := by
  induction l using Tm.indL with
  | h0 => simp [preL, sizeL]
  | h s l r ihl ihr => simp [preL, sizeL, ihl, ihr]; omega

/-- Old memory, told by the world that was. -/
theorem Sl.back {w w' : World} {X : Nat → Prop} {a : Option Addr} {l : List Tm} {B : Nat} (h : Sl w' X a l) (hb : Below B w w') (hX : ∀ b, X b → b < B) : Sl w X a l :=
  h.kept fun b hx => (hb.block b (hX b hx)).symm

/-- What a row that is owned says of the slice. -/
theorem owned_val {w : World} {base e size : Nat} {v : Value} {n : Nat} {xs : List Value} (h : w.ownsRow base e size v n xs) (hn : 0 < n) :
    ∃ g cap, v = .slice (some ⟨g, 0, none⟩) n cap ∧ base ≤ g ∧ g < w.heap.size ∧ ∀ j u, xs[j]? = some u → w.cell? ⟨g, j, none⟩ = some u := by
  have h' := h
  obtain ⟨hl, h1⟩ := h
  rcases h1 with ⟨_, h0⟩ | ⟨g, cap, cur, hv, hg, hh, _⟩
  · omega
  · subst hv
    have hlt := (h'.lt g rfl).2
    refine ⟨g, cap, rfl, hg, hlt, fun j u hj => ?_⟩
    have := h'.cells (g := g) rfl j u hj
    by_cases h0 : j = 0
    · subst h0; simpa [Addr.add] using this
    · simpa [Addr.add, h0] using this

/-- An append whose outcome is known. -/
theorem wpList_append_eq {P : Program} {ops : Array Oper} {rest : List Oper} {o : Oper} {a : Act} {Q : Exit → Act → World → Prop} {w w' : World} {v u v' : Value} (hgd : o.guard = none) (s x : Operand) (t t' : TypeId)
    (ho : o.op = .call { callee := .builtin .append, args := #[s, x], argTypes := #[t, t'] }) (hs : a.eval s = v) (hx : a.eval x = u)
    (hr : (Builtin.append_ #[t, t'] o.type #[v, u]).run P w = .ok v' w') (h : wpList P ops Q rest (a.put o.dst v') w') : wpList P ops Q (o :: rest) a w :=
  wpList_plain hgd fun K hK => by
    unfold Oper.wp execOp
    simp only [ho, resolve, invoke, builtin, Sem.run_bind, Sem.run_pure, Result.andThen_ok, List.map_toArray, List.map_cons, List.map_nil, hs, hx, hr]
    exact hK _ _ h

end Go.Proofs.YtakmclheffbeaaaDoor

/- Walks: all knots of a term. -/
namespace Go.Proofs.YtakmclheffbeaaaDoor
open Go.RowKit
set_option linter.unusedSimpArgs false
set_option linter.unusedVariables false

theorem Tryd.infoTerm : (Tryd.prog.info? 24).map (fun i => (i.zero, i.size, i.bytes)) = some (some (.agg #[.string ByteArray.empty, .slice none 0 0]), 2, 40) := by kernel_rfl

theorem ownsRow_base {w : World} {base base' e size : Nat} {v : Value} {n : Nat} {xs : List Value} (h : w.ownsRow base e size v n xs) (hb : base' ≤ base) : w.ownsRow base' e size v n xs := by
  obtain ⟨h0, h1⟩ := h
  refine ⟨h0, ?_⟩
  rcases h1 with h1 | ⟨g, cap, cur, hv, hg, r⟩
  · exact Or.inl h1
  · exact Or.inr ⟨g, cap, cur, hv, Nat.le_trans hb hg, r⟩

set_option maxHeartbeats 400000 in
theorem knots_any (t : Tm) : ∀ (v : Value) (w : World) (X : Nat → Prop), TV w X v t → sizeL [t] ≤ 1000000 →
    Calls Tryd.prog 28 #[v] w fun e w' => ∃ v' xs, e = .returned v' ∧ w'.ownsRow w.heap.size 24 2 v' (sizeL [t]) xs ∧ RowT w X (preL [t]) xs ∧ Below w.heap.size w w' := by
  induction t using Tm.ind with
  | h s l ih =>
    intro v w X0 hv0 hsm
    obtain ⟨X, hX, hXX, hv⟩ : ∃ X : Nat → Prop, (∀ b, X b → b < w.heap.size) ∧ (∀ b, X b → X0 b) ∧ TV w X v ⟨s, l⟩ := ⟨fun b => X0 b ∧ b < w.heap.size, fun _ h => h.2, fun _ h => h.1, hv0.mono fun b h1 h2 => ⟨h1, h2⟩⟩
    clear hv0
    obtain ⟨a, c, rfl, hs⟩ := hv
    have IH := hide ih
    clear ih
    have hl := hs.1
    have hz : sizeL [(⟨s, l⟩ : Tm)] = 1 + sizeL l := by simp [sizeL]
    rw [hz] at hsm ⊢
    clear hz
    obtain ⟨i0, hi, hz0, hz1, hz2⟩ := info_parts Tryd.infoTerm
    go_enter Tryd.func28, Tryd.ntmps28
    go_wp2_with fail
    go_loopw [3, 4] (fun v i wr => ∃ (k : Nat) (xs : List Value), k ≤ l.length ∧ i = .int .i64 k ∧ wr.ownsRow (w.heap.size + 1) 24 2 v (1 + sizeL (l.take k)) xs ∧ RowT w X (⟨s, l⟩ :: preL (l.take k)) xs ∧ Below (w.heap.size + 1) (w.alloc (Obj.cells #[Value.string s, Value.slice a l.length c] 24)) wr) (fun v i wr => l.length - (intOf i).toNat)
    case atStart =>
      refine ⟨0, [.string s, .slice a l.length c], Nat.zero_le _, rfl, ⟨by simp [sizeL], Or.inr ⟨w.heap.size + 1, 1, #[.string s, .slice a l.length c], by simp [sizeL], Nat.le_refl _, ?_, by simp [sizeL], by decide, by simp, by simp [sizeL]⟩⟩, ⟨a, c, [], rfl, hs, by simp [preL, RowT]⟩, (Below.refl _ _).alloc (by simp) _⟩
      have := heap_alloc_new (w.alloc (Obj.cells #[Value.string s, Value.slice a l.length c] 24)) (Obj.cells #[Value.string s, Value.slice a l.length c] 24)
      simpa using this
    case round =>
      obtain ⟨k, xs, hk, rfl, hown, hrow, hb⟩ := hrel
      have HROW := hide hrow
      clear hrow
      have hc := bcell hb
      have c0 : wr.cell? ⟨w.heap.size, 0, none⟩ = some (.string s) := by rw [hc.1 _ _ (by omega)]; simp
      have c1 : wr.cell? ⟨w.heap.size, 1, none⟩ = some (.slice a l.length c) := by rw [hc.1 _ _ (by omega)]; simp
      clear hc
      have hsz : w.heap.size + 1 ≤ wr.heap.size := by have := hb.size; simpa using this
      by_cases hlt : k < l.length
      · obtain ⟨b, o, a', c', rfl, d0, d1, hx⟩ := hs.get (below_box hb) (fun _ _ h => h) k hlt
        have Hst := hide (sizeL_take l k hlt)
        have hle := sizeL_take_le l (k + 1)
        have hle1 : sizeL (l.take k) + sizeL [l[k]] ≤ sizeL l := by rw [← Hst.out]; exact hle
        have hpos : 0 < sizeL [l[k]] := by generalize l[k] = t; obtain ⟨s', l'⟩ := t; simp [sizeL]; omega
        clear hle
        go_wp2_with fail
        refine (IH.out _ (List.getElem_mem hlt) _ _ X hx (by omega)).mono ?_
        rintro e w1 ⟨v1, ys, rfl, hown1, hrow1, hb1⟩
        have HROW1 : Hid (RowT w X (preL [l[k]]) ys) := hrow1.imp fun a l h => h.back (below_box hb) hX
        have hlen1 := hide hown1.1
        have hcells := hide (owned_val hown1 hpos)
        obtain ⟨g1, cap1, rfl, hg1, hg1', hcel⟩ := hcells.out
        have hownw1 : w1.ownsRow (w.heap.size + 1) 24 2 _ (1 + sizeL (l.take k)) xs := hown.kept (w' := w1) (row := none) ⟨hb1.os, hb1.tape, hb1.output, hb1.size, fun j hj _ => hb1.block j hj⟩ (by rcases Option.eq_none_or_eq_some (Value.ownBlock _) with h | ⟨x, h⟩; exact Or.inl h; exact Or.inr (by rw [h]; simp))
        have hyl : ys.length = sizeL [l[k]] * 2 := hlen1.out
        obtain ⟨v2, w2, hr2, hown2, hgr2, hnil2⟩ := run_append_own (P := Tryd.prog) w1 (w.heap.size + 1) 22 22 24 i0 _ 2 40 Tryd.underlying22 hi hz0 hz1 hz2 rfl (by decide) _ _ xs hownw1
          ⟨g1, 0, none⟩ (sizeL [l[k]]) cap1 ys hyl (fun j u hj => by
            have := hcel j u hj
            by_cases h0 : j = 0
            · subst h0; simpa [Addr.add] using this
            · simpa [Addr.add, h0] using this) HROW1.out.one (by unfold maxLen; omega) (by omega) (by have := hb1.size; omega)
        clear hnil2
        have hb2 : Hid (Below (w.heap.size + 1) (w.alloc (Obj.cells #[Value.string s, Value.slice (some ⟨b, o, none⟩) l.length c] 24)) w2) :=
          (hb.trans (hb1.mono hsz)).grown hgr2 (by have := hb1.size; omega) (fun j hj => (hownw1.lt j hj).1)
        have HR2 : Hid (RowT w X (⟨s, l⟩ :: preL (l.take (k + 1))) (xs ++ ys)) := by
          have := HROW.out.append HROW1.out
          unfold Hid
          rw [preL_take l k hlt]
          simpa using this
        have hown3 := hide hown2
        clear hown1 hownw1 hown2 hgr2 hcel hyl
        have HA := hide hr2
        clear hr2
        go_wp2_with (at_builtin; refine wpList_append_eq rfl _ _ _ _ rfl rfl rfl HA.out ?_)
        go_roundw
        case rel => exact ⟨k + 1, xs ++ ys, by omega, by go_num, by have := hown3.out; rw [Hst.out, ← Nat.add_assoc]; exact this, HR2.out, hb2.out⟩
        case measure => simp [intOf]; omega
      · have htk : l.take k = l := List.take_of_length_le (by omega)
        rw [htk] at hown
        have hown3 := hide hown
        have hr3 : Hid (RowT w X0 (preL [(⟨s, l⟩ : Tm)]) xs) := by
          have := HROW.out
          rw [htk] at this
          have h2 : RowT w X0 (⟨s, l⟩ :: preL l) xs := this.imp fun a l h => h.mono fun b hb _ => hXX b hb
          unfold Hid
          simpa [preL] using h2
        clear hown
        go_wp2_with fail
        go_ret
        exact ⟨_, xs, rfl, ownsRow_base hown3.out (by omega), hr3.out, below_box hb⟩
end Go.Proofs.YtakmclheffbeaaaDoor

/- Walks: what the document says of a term. -/
namespace Go.Proofs.YtakmclheffbeaaaDoor
open Go.RowKit
set_option linter.unusedSimpArgs false
set_option linter.unusedVariables false

def kErr (t : Tm) : Int := if nameB t.name = true then (if (varB t.name && decide (0 < t.args.length)) = true then 2 else 0) else 1
def errP : List Tm → Int
  | [] => 0
  | t :: r => if kErr t = 0 then errP r else kErr t
theorem errP_append (a b : List Tm) : errP (a ++ b) = if errP a = 0 then errP b else errP a := by
  induction a with
  | nil => simp [errP]
  | cons t r ih => simp only [List.cons_append, errP, ih]; by_cases h : kErr t = 0 <;> simp [h]
theorem errL_preL (l : List Tm) : errL l = errP (preL l) := by
  induction l using Tm.indL with
  | h0 => simp [errL, preL, errP]
  | h s l r ihl ihr =>
    simp only [errL, preL, errP, errP_append, ← ihl, ← ihr, kErr]
    by_cases h1 : nameB s = true
    · by_cases h2 : (varB s && decide (0 < l.length)) = true
      · simp only [h1, h2, if_true]; simp
      · simp only [h1, if_true]; rw [if_neg h2, if_neg h2]; simp
    · rw [if_neg h1, if_neg h1]; simp
theorem errP_take (l : List Tm) (k : Nat) (h : k < l.length) : errP (l.take (k + 1)) = if errP (l.take k) = 0 then kErr l[k] else errP (l.take k) := by
  rw [List.take_succ_eq_append_getElem h, errP_append]
  congr 1
  simp only [errP]
  by_cases h : kErr l[k] = 0 <;> simp [h]
theorem errP_of_take {l : List Tm} {k : Nat} (h : errP (l.take k) ≠ 0) : errP l = errP (l.take k) := by
  have := errP_append (l.take k) (l.drop k)
  rw [List.take_append_drop, if_neg h] at this
  exact this
theorem errP_at {l : List Tm} {k : Nat} (h : k < l.length) (h0 : errP (l.take k) = 0) (h1 : kErr l[k] ≠ 0) : errP l = kErr l[k] := by
  have e := errP_take l k h
  rw [if_pos h0] at e
  rw [← e]
  exact errP_of_take (by rw [e]; exact h1)

set_option maxHeartbeats 400000 in
theorem termMay_any (t : Tm) (v : Value) (w : World) (X : Nat → Prop) (hv : TV w X v t) :
    Calls Tryd.prog 13 #[v] w fun e w' => e = .returned (.int .i64 (mayE t)) ∧ Below w.heap.size w w' := by
  obtain ⟨a, c, rfl, hs⟩ := hv
  have hv : TV w X (.agg #[.string t.name, .slice a t.args.length c]) t := ⟨a, c, rfl, hs⟩
  go_enter Tryd.func13, Tryd.ntmps13
  go_wp2_with fail
  refine (size_any t _ _ _ X (hv.alloc _) (by omega) (by omega)).mono ?_
  rintro e w1 ⟨rfl, hb1⟩
  have c0 : w1.cell? ⟨w.heap.size, 0, none⟩ = some (.string t.name) := by rw [hb1.cell (p := ⟨_, _, none⟩) (by simp)]; simp
  have c1 : w1.cell? ⟨w.heap.size, 1, none⟩ = some (.slice a t.args.length c) := by rw [hb1.cell (p := ⟨_, _, none⟩) (by simp)]; simp
  have hb2 : Below w.heap.size w w1 := ((Below.refl _ _).alloc (Nat.le_refl _) _).trans (hb1.mono (by simp))
  by_cases h : 200 < sizeL [t]
  · have hm : Hid (3 = mayE t) := by simp [Hid, mayE, h]
    have e : min ((sizeL [t] : Int)) (200 + 1) = 201 := by omega
    rw [e]
    go_wp2_with fail
    go_ret
    exact ⟨ret_int hm.out, hb2⟩
  · have hm : Hid (errP (preL [t]) = mayE t) := by simp [Hid, mayE, h, errL_preL]
    have e : min ((sizeL [t] : Int)) (200 + 1) = sizeL [t] := by omega
    rw [e]
    go_wp2_with fail
    refine (knots_any t _ _ X (hv.later hb2) (by omega)).mono ?_
    rintro e w2 ⟨v2, xs, rfl, hown, hrow, hb3⟩
    have hpos : 0 < sizeL [t] := by obtain ⟨s', l'⟩ := t; simp [sizeL]; omega
    obtain ⟨g, cap, rfl, hg, hg', hcel⟩ := owned_val hown hpos
    have hb4 := hide (hb2.trans (hb3.mono hb2.size))
    have HROW := hide hrow
    have HCEL := hide hcel
    have hpl := preL_length [t]
    generalize preL [t] = ks at *
    have hks : ks.length ≤ 1000 := by omega
    rw [← hpl]
    clear hown hrow hcel hb3 hb1 c0 c1 hpl hpos e
    go_wp2_with fail
    go_loop [4] (fun i => ∃ k : Nat, k ≤ ks.length ∧ i = .int .i64 k ∧ errP (ks.take k) = 0) (fun i => ks.length - (intOf i).toNat)
    case atStart => exact ⟨0, Nat.zero_le _, rfl, by simp [errP]⟩
    case round =>
      obtain ⟨k, hk, rfl, he⟩ := hrel
      have HE := hide he
      clear he
      by_cases hlt : k < ks.length
      · obtain ⟨x0, a', c', x1, hsl⟩ := HROW.out.get k hlt
        have d0 := HCEL.out _ _ x0
        have d1 := HCEL.out _ _ x1
        have hl1 := hsl.1
        clear x0 x1
        cases hn : nameB ks[k].name with
        | false =>
          have HN := hide hn
          have hz : Hid (1 = mayE t) := by
            have : kErr ks[k] = 1 := by simp [kErr, hn]
            unfold Hid; rw [← hm.out, errP_at hlt HE.out (by rw [this]; decide), this]
          clear hn
          go_wp2_with (go_at_call 29; refine (isNameR_any _ _).mono ?_; rintro e w' ⟨rfl, rfl⟩; rw [HN.out])
          go_ret
          exact ⟨ret_int hz.out, hb4.out⟩
        | true =>
          have HN := hide hn
          cases hv : varB ks[k].name with
          | true =>
            have HV := hide hv
            by_cases hp : 0 < ks[k].args.length
            · have hz : Hid (2 = mayE t) := by
                have : kErr ks[k] = 2 := by simp [kErr, hn, hv, hp]
                unfold Hid; rw [← hm.out, errP_at hlt HE.out (by rw [this]; decide), this]
              clear hn hv
              go_wp2_with (first | (go_at_call 29; refine (isNameR_any _ _).mono ?_; rintro e w' ⟨rfl, rfl⟩; rw [HN.out]) | (go_at_call 30; refine (isVarR_any _ _).mono ?_; rintro e w' ⟨rfl, rfl⟩; rw [HV.out]))
              go_ret
              exact ⟨ret_int hz.out, hb4.out⟩
            · have hz : Hid (errP (ks.take (k + 1)) = 0) := by
                have : kErr ks[k] = 0 := by simp [kErr, hn, hv, hp]
                unfold Hid; rw [errP_take _ _ hlt, HE.out, this]; rfl
              clear hn hv
              go_wp2_with (first | (go_at_call 29; refine (isNameR_any _ _).mono ?_; rintro e w' ⟨rfl, rfl⟩; rw [HN.out]) | (go_at_call 30; refine (isVarR_any _ _).mono ?_; rintro e w' ⟨rfl, rfl⟩; rw [HV.out]))
              go_round
              case rel => exact ⟨k + 1, by omega, by go_num, hz.out⟩
              case measure => simp [intOf]; omega
          | false =>
            have HV := hide hv
            have hz : Hid (errP (ks.take (k + 1)) = 0) := by
              have : kErr ks[k] = 0 := by simp [kErr, hn, hv]
              unfold Hid; rw [errP_take _ _ hlt, HE.out, this]; rfl
            clear hn hv
            go_wp2_with (first | (go_at_call 29; refine (isNameR_any _ _).mono ?_; rintro e w' ⟨rfl, rfl⟩; rw [HN.out]) | (go_at_call 30; refine (isVarR_any _ _).mono ?_; rintro e w' ⟨rfl, rfl⟩; rw [HV.out]))
            go_round
            case rel => exact ⟨k + 1, by omega, by go_num, hz.out⟩
            case measure => simp [intOf]; omega
      · have htk : ks.take k = ks := List.take_of_length_le (by omega)
        have hz : Hid (0 = mayE t) := by unfold Hid; rw [← hm.out, ← htk, HE.out]
        go_wp2_with fail
        go_ret
        exact ⟨ret_int hz.out, hb4.out⟩

/-- What is wrong with the first, else with the second. -/
def twoE (t x : Tm) : Int := if mayE t = 0 then mayE x else mayE t

set_option maxHeartbeats 400000 in
theorem twoMay_any (t x : Tm) (v u : Value) (w : World) (X : Nat → Prop) (hv : TV w X v t) (hu : TV w X u x) :
    Calls Tryd.prog 6 #[v, u] w fun e w' => e = .returned (.int .i64 (twoE t x)) ∧ Below w.heap.size w w' := by
  obtain ⟨a, c, rfl, hs⟩ := hv
  obtain ⟨a2, c2, rfl, hs2⟩ := hu
  have hv : TV w X (.agg #[.string t.name, .slice a t.args.length c]) t := ⟨a, c, rfl, hs⟩
  have hu : TV w X (.agg #[.string x.name, .slice a2 x.args.length c2]) x := ⟨a2, c2, rfl, hs2⟩
  go_enter Tryd.func6, Tryd.ntmps6
  go_wp2_with fail
  refine (termMay_any t _ _ X ((hv.alloc _).alloc _)).mono ?_
  rintro e w1 ⟨rfl, hb1⟩
  have c0 : w1.cell? ⟨w.heap.size + 1, 0, none⟩ = some (.string x.name) := by rw [hb1.cell (p := ⟨_, _, none⟩) (by simp)]; simp
  have c1 : w1.cell? ⟨w.heap.size + 1, 1, none⟩ = some (.slice a2 x.args.length c2) := by rw [hb1.cell (p := ⟨_, _, none⟩) (by simp)]; simp
  have hb2 : Below w.heap.size w w1 := (((Below.refl _ _).alloc (Nat.le_refl _) _).alloc (by simp) _).trans (hb1.mono (by simp; omega))
  by_cases h : mayE t = 0
  · have hz : Hid (mayE x = twoE t x) := by simp [Hid, twoE, h]
    rw [h]
    clear h
    go_wp2_with fail
    refine (termMay_any x _ _ X (hu.later hb2)).mono ?_
    rintro e w2 ⟨rfl, hb3⟩
    go_wp2_with fail
    go_ret
    exact ⟨ret_int hz.out, hb2.trans (hb3.mono hb2.size)⟩
  · have hz : Hid (mayE t = twoE t x) := by simp [Hid, twoE, h]
    have h' : (mayE t == 0) = false := by simpa using h
    clear h
    go_wp2_with fail
    go_ret
    exact ⟨ret_int hz.out, hb2⟩

set_option maxHeartbeats 400000 in
theorem huge_any (t : Tm) (v : Value) (w : World) (X : Nat → Prop) (hv : TV w X v t) :
    Calls Tryd.prog 5 #[v] w fun e w' => e = .returned (.bool (decide (3000 < sizeL [t]))) ∧ Below w.heap.size w w' := by
  obtain ⟨a, c, rfl, hs⟩ := hv
  have hv : TV w X (.agg #[.string t.name, .slice a t.args.length c]) t := ⟨a, c, rfl, hs⟩
  go_enter Tryd.func5, Tryd.ntmps5
  go_wp2_with fail
  refine (size_any t _ _ _ X (hv.alloc _) (by omega) (by omega)).mono ?_
  rintro e w1 ⟨rfl, hb1⟩
  have hb2 : Below w.heap.size w w1 := ((Below.refl _ _).alloc (Nat.le_refl _) _).trans (hb1.mono (by simp))
  go_wp2_with fail
  go_ret
  exact ⟨ret_bool (by rw [Bool.eq_iff_iff]; simp; omega), hb2⟩
end Go.Proofs.YtakmclheffbeaaaDoor

/- Pairs of terms in memory; what is wrong with them. -/
namespace Go.Proofs.YtakmclheffbeaaaDoor
open Go.RowKit
set_option linter.unusedSimpArgs false
set_option linter.unusedVariables false

/-- Two terms. -/
structure Pr where
  l : Tm
  r : Tm

/-- A list of pairs in memory. -/
def QV (w : World) (X : Nat → Prop) (v : Value) (l : List Pr) : Prop :=
  ∃ a c, v = .slice a l.length c ∧ (l.length ≤ 9223372036854775807 ∧ l.length ≤ c) ∧ (l = [] ∨ ∃ b o, a = some ⟨b, o, none⟩ ∧ X b ∧ ∀ i (h : i < l.length), ∃ a1 c1 a2 c2, w.cell? ⟨b, o + i * 4, none⟩ = some (.string l[i].l.name) ∧ w.cell? ⟨b, o + i * 4 + 1, none⟩ = some (.slice a1 l[i].l.args.length c1) ∧ w.cell? ⟨b, o + i * 4 + 2, none⟩ = some (.string l[i].r.name) ∧ w.cell? ⟨b, o + i * 4 + 3, none⟩ = some (.slice a2 l[i].r.args.length c2) ∧ Sl w X a1 l[i].l.args ∧ Sl w X a2 l[i].r.args)

theorem QV.kept {w w' : World} {X : Nat → Prop} {v : Value} {l : List Pr} (h : QV w X v l) (hk : ∀ b, X b → w'.heap[b]? = w.heap[b]?) : QV w' X v l := by
  obtain ⟨a, c, e, hl, h⟩ := h
  refine ⟨a, c, e, hl, ?_⟩
  rcases h with h | ⟨b, o, ea, hX, h⟩
  · exact Or.inl h
  · refine Or.inr ⟨b, o, ea, hX, fun i hi => ?_⟩
    obtain ⟨a1, c1, a2, c2, h1, h2, h3, h4, h5, h6⟩ := h i hi
    have hb := hk b hX
    exact ⟨a1, c1, a2, c2, by simpa [World.cell?, hb] using h1, by simpa [World.cell?, hb] using h2, by simpa [World.cell?, hb] using h3, by simpa [World.cell?, hb] using h4, h5.kept hk, h6.kept hk⟩
theorem QV.mono {w : World} {X Y : Nat → Prop} {v : Value} {l : List Pr} (h : QV w X v l) (hk : ∀ b, X b → b < w.heap.size → Y b) : QV w Y v l := by
  obtain ⟨a, c, e, hl, h⟩ := h
  refine ⟨a, c, e, hl, ?_⟩
  rcases h with h | ⟨b, o, ea, hX, h⟩
  · exact Or.inl h
  · by_cases h0 : l = []
    · exact Or.inl h0
    · have hp : 0 < l.length := List.length_pos_iff.2 h0
      obtain ⟨_, _, _, _, g, _⟩ := h 0 hp
      refine Or.inr ⟨b, o, ea, hk b hX (cell_lt g), fun i hi => ?_⟩
      obtain ⟨a1, c1, a2, c2, h1, h2, h3, h4, h5, h6⟩ := h i hi
      exact ⟨a1, c1, a2, c2, h1, h2, h3, h4, h5.mono hk, h6.mono hk⟩
theorem QV.later {w w' : World} {X : Nat → Prop} {v : Value} {l : List Pr} (h : QV w X v l) (hb : Below w.heap.size w w') : QV w' X v l :=
  ((h.mono (Y := fun b => X b ∧ b < w.heap.size) fun b h1 h2 => ⟨h1, h2⟩).kept fun b hx => hb.block b hx.2).mono fun b hx _ => hx.1
theorem QV.alloc {w : World} {X : Nat → Prop} {v : Value} {l : List Pr} (h : QV w X v l) (o : Obj) : QV (w.alloc o) X v l := h.later ((Below.refl _ _).alloc (Nat.le_refl _) o)
theorem QV.get {w : World} {X : Nat → Prop} {a : Option Addr} {n c : Nat} {l : List Pr} (h : QV w X (.slice a n c) l) (i : Nat) (hi : i < l.length) :
    ∃ b o a1 c1 a2 c2, a = some ⟨b, o, none⟩ ∧ w.cell? ⟨b, o + i * 4, none⟩ = some (.string l[i].l.name) ∧ w.cell? ⟨b, o + i * 4 + 1, none⟩ = some (.slice a1 l[i].l.args.length c1) ∧ w.cell? ⟨b, o + i * 4 + 2, none⟩ = some (.string l[i].r.name) ∧ w.cell? ⟨b, o + i * 4 + 3, none⟩ = some (.slice a2 l[i].r.args.length c2) ∧ Sl w X a1 l[i].l.args ∧ Sl w X a2 l[i].r.args := by
  obtain ⟨a2, c2, e, hl, h⟩ := h
  simp at e
  obtain ⟨rfl, rfl, rfl⟩ := e
  rcases h with h | ⟨b, o, ea, hX, h⟩
  · subst h; simp at hi
  · obtain ⟨a1, c1, a2, c2, h1, h2, h3, h4, h5, h6⟩ := h i hi
    exact ⟨b, o, a1, c1, a2, c2, ea, h1, h2, h3, h4, h5, h6⟩

end Go.Proofs.YtakmclheffbeaaaDoor

/- Small facts on blocks, and what a round that appends a term does to a row of terms. -/
namespace Go.Proofs.YtakmclheffbeaaaDoor
open Go.RowKit
set_option linter.unusedSimpArgs false
set_option linter.unusedVariables false

/-- A block of plain cells. -/
def Blk (w : World) (b : Nat) (cs : Array Value) (T : Nat) : Prop := w.heap[b]? = some (.cells cs T (0, 0))

theorem Blk.lt {w : World} {b : Nat} {cs : Array Value} {T : Nat} (h : Blk w b cs T) : b < w.heap.size := by
  apply Classical.byContradiction
  intro hn
  have e : w.heap[b]? = none := Array.getElem?_eq_none (by omega)
  rw [Blk, e] at h; cases h

theorem Blk.cell {w : World} {b : Nat} {cs : Array Value} {T : Nat} (h : Blk w b cs T) (i : Nat) : w.cell? ⟨b, i, none⟩ = cs[i]? := by
  unfold Blk at h; simp [World.cell?, h]

theorem Blk.frozen {w : World} {b : Nat} {cs : Array Value} {T : Nat} (h : Blk w b cs T) (i : Nat) : w.frozen? ⟨b, i, none⟩ = false := by
  unfold Blk at h; simp [World.frozen?, h]

theorem Blk.new (w : World) (cs : Array Value) (T : Nat) : Blk (w.alloc (.cells cs T)) w.heap.size cs T := heap_alloc_new w _

theorem Blk.alloc {w : World} {b : Nat} {cs : Array Value} {T : Nat} (h : Blk w b cs T) (o : Obj) : Blk (w.alloc o) b cs T := by
  unfold Blk at *; rw [Below.heap_alloc w o b (Blk.lt h)]; exact h

theorem Blk.below {w w' : World} {b B : Nat} {cs : Array Value} {T : Nat} (h : Blk w b cs T) (hb : Below B w w') (hB : b < B) : Blk w' b cs T := by
  unfold Blk at *; rw [hb.block b hB]; exact h

theorem Blk.drewN {w : World} {b : Nat} {cs : Array Value} {T : Nat} (h : Blk w b cs T) (n : Nat) : Blk (w.drewN n) b cs T := h

theorem Blk.grown {w w' : World} {b : Nat} {cs : Array Value} {T : Nat} {row : Option Nat} (h : Blk w b cs T) (hg : w.grownBy w' row) (hr : some b ≠ row) : Blk w' b cs T := by
  unfold Blk at *; rw [hg.block b (Blk.lt h) hr]; exact h

theorem Blk.set {w : World} {b : Nat} {cs : Array Value} {T : Nat} (h : Blk w b cs T) (i : Nat) (v : Value) : Blk (w.setCell ⟨b, i, none⟩ v) b (cs.setIfInBounds i v) T := by
  unfold Blk at *
  simp [World.setCell, Array.getElem?_modify, h]

theorem Blk.setOther {w : World} {b b' : Nat} {cs : Array Value} {T : Nat} (h : Blk w b cs T) (i : Nat) (v : Value) (hne : b ≠ b') : Blk (w.setCell ⟨b', i, none⟩ v) b cs T := by
  unfold Blk at *; rw [Below.heap_setCell _ _ _ _ (by simpa using hne)]; exact h

/-- The row so far, apart from what its terms are made of: old memory that Y lets, and new memory. -/
structure Row (w : World) (N : Nat) (T : Nat) (Y : Nat → Prop) (v : Value) (l : List Tm) (xs : List Value) : Prop where
  own : w.ownsRow N T 2 v l.length xs
  row : RowT w (fun b => Y b ∨ (N ≤ b ∧ some b ≠ v.ownBlock)) l xs

theorem Row.start (w : World) (N T : Nat) (Y : Nat → Prop) : Row w N T Y (.slice none 0 0) [] [] := ⟨World.ownsRow_nil w N T 2, rfl⟩

theorem Row.below {w w' : World} {N T : Nat} {Y : Nat → Prop} {v : Value} {l : List Tm} {xs : List Value} (h : Row w N T Y v l xs) (hb : Below w.heap.size w w') : Row w' N T Y v l xs :=
  ⟨h.own.kept (w' := w') (row := none) ⟨hb.os, hb.tape, hb.output, hb.size, fun j hj _ => hb.block j hj⟩ (by rcases Option.eq_none_or_eq_some (Value.ownBlock v) with h | ⟨x, h⟩; exact Or.inl h; exact Or.inr (by rw [h]; simp)),
   h.row.imp fun a l h => h.later hb⟩

theorem Row.ne {w : World} {N T : Nat} {Y : Nat → Prop} {v : Value} {l : List Tm} {xs : List Value} (h : Row w N T Y v l xs) {b : Nat} (hb : b < N) : some b ≠ v.ownBlock := fun e => by
  have := (h.own.lt b e.symm).1; omega

/-- One more: the term's cells have been laid into a block of their own, and appended. -/
theorem Row.push {w w1 w2 w3 : World} {N T : Nat} {Y : Nat → Prop} {v : Value} {l : List Tm} {xs : List Value} (h : Row w N T Y v l xs) (hN : N ≤ w.heap.size) (hY : ∀ b, Y b → b < N) (hb : Below w.heap.size w w1) {s : ByteArray} {a : Option Addr} {n c : Nat} {t : Tm}
    (ht : TV w1 (fun b => Y b ∨ w.heap.size ≤ b) (.agg #[.string s, .slice a n c]) t) (o : Obj) (hw2 : w2 = w1.alloc o) {g cap : Nat}
    (hown : w3.ownsRow N T 2 (.slice (some ⟨g, 0, none⟩) (l.length + 1) cap) (l.length + 1) (xs ++ [.string s, .slice a n c])) (hg : w2.grownBy w3 v.ownBlock) (hg1 : v.ownBlock = some g ∨ g = w2.heap.size) :
    Row w3 N T Y (.slice (some ⟨g, 0, none⟩) (l.length + 1) cap) (l ++ [t]) (xs ++ [.string s, .slice a n c]) := by
  subst hw2
  have hlt := h.own.lt
  refine ⟨by simpa using hown, ?_⟩
  have hsz : w1.heap.size ≤ (w1.alloc o).heap.size := by simp
  have hbs := hb.size
  have hgN : N ≤ g := by
    rcases hg1 with e | e
    · exact (hlt g e).1
    · simp at e; omega
  refine RowT.append (h.row.imp fun a' k' hs => ?_) ?_
  · have h1 : Sl w (fun b => (Y b ∨ (N ≤ b ∧ some b ≠ v.ownBlock)) ∧ b < w.heap.size) a' k' := hs.mono fun b h1 h2 => ⟨h1, h2⟩
    have h2 : Sl w3 (fun b => (Y b ∨ (N ≤ b ∧ some b ≠ v.ownBlock)) ∧ b < w.heap.size) a' k' := h1.kept fun b hx => by
      have hne : some b ≠ v.ownBlock := by
        rcases hx.1 with hy | hy
        · exact h.ne (hY b hy)
        · exact hy.2
      rw [hg.block b (by simp; omega) hne, Below.heap_alloc _ _ _ (by omega), hb.block b hx.2]
    refine h2.mono fun b hx _ => ?_
    rcases hx.1 with hy | hy
    · exact Or.inl hy
    · refine Or.inr ⟨hy.1, fun e => ?_⟩
      simp [Value.ownBlock] at e
      rcases hg1 with e' | e'
      · exact hy.2 (by rw [e', e])
      · simp at e'; omega
  · obtain ⟨a2, c2, e, hs⟩ := ht
    simp at e
    obtain ⟨rfl, rfl, rfl, rfl⟩ := e
    refine ⟨a, c, [], rfl, ?_, rfl⟩
    have h1 : Sl w1 (fun b => (Y b ∨ w.heap.size ≤ b) ∧ b < w1.heap.size) a t.args := hs.mono fun b h1 h2 => ⟨h1, h2⟩
    have h2 : Sl w3 (fun b => (Y b ∨ w.heap.size ≤ b) ∧ b < w1.heap.size) a t.args := h1.kept fun b hx => by
      have hne : some b ≠ v.ownBlock := by
        rcases hx.1 with hy | hy
        · exact h.ne (hY b hy)
        · intro e; have := (hlt b e.symm).2; omega
      rw [hg.block b (by simp; omega) hne, Below.heap_alloc _ _ _ hx.2]
    refine h2.mono fun b hx _ => ?_
    rcases hx.1 with hy | hy
    · exact Or.inl hy
    · refine Or.inr ⟨by omega, fun e => ?_⟩
      simp [Value.ownBlock] at e
      rcases hg1 with e' | e'
      · have := (hlt g e').2; omega
      · simp at e'; omega

/-- A store into a block that is none of the row's. -/
theorem Row.setCell {w : World} {N T : Nat} {Y : Nat → Prop} {v : Value} {l : List Tm} {xs : List Value} (h : Row w N T Y v l xs) {b i : Nat} (hb : b < N) (hY : ¬ Y b) (u : Value) : Row (w.setCell ⟨b, i, none⟩ u) N T Y v l xs :=
  ⟨ownsRow_setCell_below h.own (by simpa using hb) u, h.row.imp fun a k hs => hs.kept fun c hc => Below.heap_setCell _ _ _ _ (by
    simp
    rcases hc with hc | hc
    · intro e; subst e; exact hY hc
    · omega)⟩

theorem Row.sl {w : World} {N T : Nat} {Y : Nat → Prop} {v : Value} {l : List Tm} {xs : List Value} (h : Row w N T Y v l xs) : ∃ a c, v = .slice a l.length c ∧ Sl w (fun b => Y b ∨ N ≤ b) a l := by
  have hml : l.length ≤ 9223372036854775807 := by
    rcases h.own.2 with ⟨_, h0⟩ | ⟨g, cap, cur, _, _, _, h1, h2, _⟩
    · omega
    · unfold maxLen at h2; omega
  by_cases h0 : 0 < l.length
  · obtain ⟨g, cap, rfl, hg, hlt, hc⟩ := owned_val h.own h0
    exact ⟨_, _, rfl, hml, Or.inr ⟨g, 0, rfl, lies_of_rowT g (Or.inr hg) l xs 0 h.row (fun a k hs => hs.mono fun b hb _ => hb.imp id (fun h => h.1)) (fun j u hj => by simpa using hc j u hj)⟩⟩
  · have e : l = [] := List.length_eq_zero_iff.1 (by omega)
    subst e
    rcases h.own.2 with ⟨hv, _⟩ | ⟨g, cap, cur, hv, _⟩
    · exact ⟨none, 0, hv, hml, Or.inl rfl⟩
    · exact ⟨_, _, hv, hml, Or.inl rfl⟩

theorem copy_blk {wr w1 w3 : World} {o1 o2 : Obj} {b T : Nat} {cs : Array Value} {row : Option Nat} (h : Blk wr b cs T) (hb1 : Below (wr.alloc o1).drew.heap.size (wr.alloc o1).drew w1) (hg : (w1.alloc o2).grownBy w3 row) (hr : some b ≠ row) : Blk w3 b cs T :=
  (((((h.alloc o1).drewN 1).below hb1 (by have := h.lt; simp; omega)).alloc o2).grown hg hr)

end Go.Proofs.YtakmclheffbeaaaDoor

/- Rows of bindings that a call makes. -/
namespace Go.Proofs.YtakmclheffbeaaaDoor
open Go.RowKit
set_option linter.unusedSimpArgs false
set_option linter.unusedVariables false

/-- A binding, and where those below its term's first knot lie. -/
abbrev Bc := Bd × Option Addr × Nat
instance : Inhabited Bc := ⟨(⟨⟨#[]⟩, ⟨⟨#[]⟩, []⟩⟩, none, 0)⟩
def enc3 (x : Bc) : List Value := [.string x.1.nm, .string x.1.t.name, .slice x.2.1 x.1.t.args.length x.2.2]
def flat3 : List Bc → List Value
  | [] => []
  | x :: r => enc3 x ++ flat3 r
theorem flat3_append (b : List Bc) : ∀ a, flat3 (a ++ b) = flat3 a ++ flat3 b
  | [] => rfl
  | x :: r => by rw [List.cons_append, flat3, flat3, flat3_append b r, List.append_assoc]
theorem flat3_length : ∀ a : List Bc, (flat3 a).length = a.length * 3
  | [] => rfl
  | x :: r => by rw [flat3, List.length_append, flat3_length r]; simp [enc3]; omega
theorem flat3_get : ∀ (a : List Bc) (i : Nat) (h : i < a.length) (j : Nat), j < 3 → (flat3 a)[i * 3 + j]? = (enc3 a[i])[j]?
  | [], i, h, j, hj => by simp at h
  | x :: r, 0, h, j, hj => by
    rw [flat3, List.getElem?_append_left (by simp [enc3]; omega)]; simp
  | x :: r, i + 1, h, j, hj => by
    rw [flat3, List.getElem?_append_right (by simp [enc3]; omega)]
    have e : (i + 1) * 3 + j - (enc3 x).length = i * 3 + j := by simp [enc3]; omega
    rw [e, flat3_get r i (by simpa using h) j hj]
    simp

/-- The row so far, apart from what its terms are made of: old memory that Y lets, and new memory. -/
structure BRow (w : World) (N : Nat) (Y : Nat → Prop) (v : Value) (cs : List Bc) : Prop where
  own : w.ownsRow N 36 3 v cs.length (flat3 cs)
  row : ∀ x ∈ cs, Sl w (fun b => Y b ∨ (N ≤ b ∧ some b ≠ v.ownBlock)) x.2.1 x.1.t.args

theorem BRow.start (w : World) (N : Nat) (Y : Nat → Prop) : BRow w N Y (.slice none 0 0) [] := ⟨World.ownsRow_nil w N _ 3, by simp⟩

theorem BRow.below {w w' : World} {N : Nat} {Y : Nat → Prop} {v : Value} {cs : List Bc} (h : BRow w N Y v cs) (hb : Below w.heap.size w w') : BRow w' N Y v cs :=
  ⟨h.own.kept (w' := w') (row := none) ⟨hb.os, hb.tape, hb.output, hb.size, fun j hj _ => hb.block j hj⟩ (by rcases Option.eq_none_or_eq_some (Value.ownBlock v) with h | ⟨x, h⟩; exact Or.inl h; exact Or.inr (by rw [h]; simp)),
   fun x hx => (h.row x hx).later hb⟩

theorem BRow.ne {w : World} {N : Nat} {Y : Nat → Prop} {v : Value} {cs : List Bc} (h : BRow w N Y v cs) {b : Nat} (hb : b < N) : some b ≠ v.ownBlock := fun e => by
  have := (h.own.lt b e.symm).1; omega

/-- Other blocks may turn: those that are none of the row's, nor of what its terms are made of. -/
theorem BRow.kept {w w' : World} {N : Nat} {Y : Nat → Prop} {v : Value} {cs : List Bc} {r : Nat} (h : BRow w N Y v cs) (hr : r < N) (hY : ¬ Y r) (ho : w'.os = w.os) (ht : w'.tape = w.tape) (hu : w'.output = w.output) (hz : w.heap.size ≤ w'.heap.size) (hk : ∀ j, j ≠ r → j < w.heap.size → w'.heap[j]? = w.heap[j]?) : BRow w' N Y v cs :=
  ⟨h.own.kept (w' := w') (row := some r) ⟨ho, ht, hu, hz, fun j hj hne => hk j (fun e => hne (by rw [e])) hj⟩ (Or.inr (fun e => h.ne hr e.symm)),
   fun x hx => by
    have h1 := (h.row x hx).mono (Y := fun b => (Y b ∨ (N ≤ b ∧ some b ≠ v.ownBlock)) ∧ b < w.heap.size) fun b h1 h2 => ⟨h1, h2⟩
    refine (h1.kept fun b hb => hk b (fun e => ?_) hb.2).mono fun b hb _ => hb.1
    rcases hb.1 with h2 | h2
    · exact hY (e ▸ h2)
    · omega⟩

/-- One more: the binding's cells have been laid into a block of their own, and appended. -/
theorem BRow.push {w w1 w2 w3 : World} {N : Nat} {Y : Nat → Prop} {v : Value} {cs : List Bc} (h : BRow w N Y v cs) (hN : N ≤ w.heap.size) (hY : ∀ b, Y b → b < N) (hb : Below w.heap.size w w1) {x : Bc}
    (ht : Sl w1 (fun b => Y b ∨ w.heap.size ≤ b) x.2.1 x.1.t.args) (o : Obj) (hw2 : w2 = w1.alloc o) {g cap : Nat}
    (hown : w3.ownsRow N 36 3 (.slice (some ⟨g, 0, none⟩) (cs.length + 1) cap) (cs.length + 1) (flat3 cs ++ enc3 x)) (hg : w2.grownBy w3 v.ownBlock) (hg1 : v.ownBlock = some g ∨ g = w2.heap.size) :
    BRow w3 N Y (.slice (some ⟨g, 0, none⟩) (cs.length + 1) cap) (cs ++ [x]) := by
  subst hw2
  have hlt := h.own.lt
  refine ⟨by rw [flat3_append]; simpa [flat3] using hown, fun y hy => ?_⟩
  have hsz : w1.heap.size ≤ (w1.alloc o).heap.size := by simp
  have hbs := hb.size
  have hgN : N ≤ g := by
    rcases hg1 with e | e
    · exact (hlt g e).1
    · simp at e; omega
  rcases List.mem_append.1 hy with hy | hy
  · have h1 : Sl w (fun b => (Y b ∨ (N ≤ b ∧ some b ≠ v.ownBlock)) ∧ b < w.heap.size) y.2.1 y.1.t.args := (h.row y hy).mono fun b h1 h2 => ⟨h1, h2⟩
    have h2 : Sl w3 (fun b => (Y b ∨ (N ≤ b ∧ some b ≠ v.ownBlock)) ∧ b < w.heap.size) y.2.1 y.1.t.args := h1.kept fun b hx => by
      have hne : some b ≠ v.ownBlock := by
        rcases hx.1 with hy | hy
        · exact h.ne (hY b hy)
        · exact hy.2
      rw [hg.block b (by simp; omega) hne, Below.heap_alloc _ _ _ (by omega), hb.block b hx.2]
    refine h2.mono fun b hx _ => ?_
    rcases hx.1 with hy | hy
    · exact Or.inl hy
    · refine Or.inr ⟨hy.1, fun e => ?_⟩
      simp [Value.ownBlock] at e
      rcases hg1 with e' | e'
      · exact hy.2 (by rw [e', e])
      · simp at e'; omega
  · have e : y = x := by simpa using hy
    subst e
    have h1 : Sl w1 (fun b => (Y b ∨ w.heap.size ≤ b) ∧ b < w1.heap.size) y.2.1 y.1.t.args := ht.mono fun b h1 h2 => ⟨h1, h2⟩
    have h2 : Sl w3 (fun b => (Y b ∨ w.heap.size ≤ b) ∧ b < w1.heap.size) y.2.1 y.1.t.args := h1.kept fun b hx => by
      have hne : some b ≠ v.ownBlock := by
        rcases hx.1 with hy | hy
        · exact h.ne (hY b hy)
        · intro e; have := (hlt b e.symm).2; omega
      rw [hg.block b (by simp; omega) hne, Below.heap_alloc _ _ _ hx.2]
    refine h2.mono fun b hx _ => ?_
    rcases hx.1 with hy | hy
    · exact Or.inl hy
    · refine Or.inr ⟨by omega, fun e => ?_⟩
      simp [Value.ownBlock] at e
      rcases hg1 with e' | e'
      · have := (hlt g e').2; omega
      · simp at e'; omega

/-- As a list of bindings. -/
theorem BRow.bv {w : World} {N : Nat} {Y : Nat → Prop} {v : Value} {cs : List Bc} (h : BRow w N Y v cs) : BV w (fun b => Y b ∨ N ≤ b) v (cs.map (·.1)) := by
  have hml : cs.length ≤ 9223372036854775807 := by
    rcases h.own.2 with ⟨_, h0⟩ | ⟨g, cap, cur, _, _, _, h1, h2, _⟩
    · omega
    · unfold maxLen at h2; omega
  by_cases h0 : 0 < cs.length
  · obtain ⟨g, cap, rfl, hg, hlt, hc⟩ := owned_val h.own h0
    have hcap : cs.length ≤ cap := by
      rcases h.own.2 with ⟨e, _⟩ | ⟨g', cap', cur, e, _, _, h1, _⟩
      · cases e
      · simp at e; omega
    refine ⟨_, cap, by simp, ⟨by simpa using hml, by simpa using hcap⟩, Or.inr ⟨g, 0, rfl, Or.inr hg, fun i hi => ?_⟩⟩
    have hi' : i < cs.length := by simpa using hi
    have g0 := hc (i * 3 + 0) (.string cs[i].1.nm) (by rw [flat3_get cs i hi' 0 (by decide)]; rfl)
    have g1 := hc (i * 3 + 1) (.string cs[i].1.t.name) (by rw [flat3_get cs i hi' 1 (by decide)]; rfl)
    have g2 := hc (i * 3 + 2) (.slice cs[i].2.1 cs[i].1.t.args.length cs[i].2.2) (by rw [flat3_get cs i hi' 2 (by decide)]; rfl)
    simp only [List.getElem_map, Nat.zero_add]
    exact ⟨g0, g1, _, _, g2, (h.row cs[i] (List.getElem_mem hi')).mono fun b hb _ => hb.imp id (fun h => h.1)⟩
  · have e : cs = [] := List.length_eq_zero_iff.1 (by omega)
    subst e
    rcases h.own.2 with ⟨hv, _⟩ | ⟨g, cap, cur, hv, _⟩
    · exact ⟨none, 0, hv, by simp, Or.inl rfl⟩
    · exact ⟨_, _, hv, by simp, Or.inl rfl⟩
end Go.Proofs.YtakmclheffbeaaaDoor

/- Bindings in the order of their names: plain. -/
namespace Go.Proofs.YtakmclheffbeaaaDoor
open Go.RowKit
set_option linter.unusedSimpArgs false
set_option linter.unusedVariables false

/-- One text is ahead of another one. -/
def ltB (a b : ByteArray) : Bool := Op.bytesLess a.toList b.toList
theorem bl_irrefl : ∀ a : List UInt8, Op.bytesLess a a = false
  | [] => rfl
  | x :: r => by simp [Op.bytesLess, bl_irrefl r]
theorem bl_trans : ∀ a b c : List UInt8, Op.bytesLess a b = true → Op.bytesLess b c = true → Op.bytesLess a c = true
  | _, [], _, h, _ => by simp [Op.bytesLess] at h
  | _, _ :: _, [], _, h => by simp [Op.bytesLess] at h
  | [], _ :: _, _ :: _, _, _ => by simp [Op.bytesLess]
  | x :: a, y :: b, z :: c, h1, h2 => by
    simp only [Op.bytesLess, Bool.or_eq_true, Bool.and_eq_true, decide_eq_true_eq, beq_iff_eq] at h1 h2 ⊢
    rw [UInt8.lt_iff_toNat_lt] at h1 h2 ⊢
    rcases h1 with h1 | ⟨rfl, h1⟩ <;> rcases h2 with h2 | ⟨rfl, h2⟩
    · left; omega
    · left; exact h1
    · left; exact h2
    · right; exact ⟨rfl, bl_trans a b c h1 h2⟩
theorem bl_conn : ∀ a b : List UInt8, Op.bytesLess a b = false → Op.bytesLess b a = false → a = b
  | [], [], _, _ => rfl
  | [], _ :: _, h, _ => by simp [Op.bytesLess] at h
  | _ :: _, [], _, h => by simp [Op.bytesLess] at h
  | x :: a, y :: b, h1, h2 => by
    simp only [Op.bytesLess, Bool.or_eq_false_iff, decide_eq_false_iff_not] at h1 h2
    obtain ⟨h1, h3⟩ := h1
    obtain ⟨h2, h4⟩ := h2
    rw [UInt8.lt_iff_toNat_lt] at h1 h2
    have e : x = y := UInt8.toNat_inj.mp (by omega)
    subst e
    simp only [BEq.rfl, Bool.true_and] at h3 h4
    rw [bl_conn a b h3 h4]
theorem ltB_irrefl (a : ByteArray) : ltB a a = false := bl_irrefl _
theorem ltB_trans {a b c : ByteArray} (h1 : ltB a b = true) (h2 : ltB b c = true) : ltB a c = true := bl_trans _ _ _ h1 h2
theorem ltB_conn {a b : ByteArray} (h1 : ltB a b = false) (h2 : ltB b a = false) : a = b := bytes_inj (bl_conn _ _ h1 h2)
theorem ltB_asymm {a b : ByteArray} (h : ltB a b = true) : ltB b a = false := by
  cases hb : ltB b a with
  | false => rfl
  | true => have := ltB_trans h hb; rw [ltB_irrefl] at this; cases this
theorem ltB_ntrans {a b c : ByteArray} (h1 : ltB a b = false) (h2 : ltB b c = false) : ltB a c = false := by
  cases h : ltB a c with
  | false => rfl
  | true =>
    cases h3 : ltB b a with
    | true => rw [ltB_trans h3 h] at h2; cases h2
    | false =>
      have e := ltB_conn h1 h3
      subst e
      rw [h] at h2; cases h2

/-- No name twice, and each ahead of the next. -/
def SortedB (l : List Bd) : Prop := l.Pairwise fun a b => ltB a.nm b.nm = true
/-- No name twice. -/
def ApartB (l : List Bd) : Prop := l.Pairwise fun a b => a.nm ≠ b.nm
theorem SortedB.apart {l : List Bd} (h : SortedB l) : ApartB l := h.imp fun {a b} h e => by rw [e, ltB_irrefl] at h; cases h
theorem ApartB.perm {l k : List Bd} (h : ApartB l) (hp : k.Perm l) : ApartB k := (hp.pairwise_iff (fun {_ _} hne => Ne.symm hne)).2 h
theorem sortedB_unique {l k : List Bd} (hp : l.Perm k) (h1 : SortedB l) (h2 : SortedB k) : l = k :=
  List.Perm.eq_of_pairwise (le := fun a b : Bd => ltB a.nm b.nm = true) (fun a b _ _ h3 h4 => by rw [ltB_asymm h3] at h4; cases h4) h1 h2 hp
/-- Sorted, if none is behind one that it is ahead of. -/
theorem sortedB_of {l : List Bd} (ha : ApartB l) (h : l.Pairwise fun a b => ltB b.nm a.nm = false) : SortedB l := by
  unfold SortedB ApartB at *
  refine (List.pairwise_and_iff.2 ⟨ha, h⟩).imp fun {a b} ⟨h1, h2⟩ => ?_
  cases h3 : ltB a.nm b.nm with
  | true => rfl
  | false => exact absurd (ltB_conn h3 h2) h1

/-- A binding as the map holds it. -/
def toP (x : Bc) : ByteArray × Value := (x.1.nm, .agg #[.string x.1.t.name, .slice x.2.1 x.1.t.args.length x.2.2])
theorem perm_lift {α β : Type} (f : α → β) {l m : List β} (h : l.Perm m) : ∀ zs : List α, zs.map f = m → ∃ zs' : List α, zs'.Perm zs ∧ zs'.map f = l := by
  induction h with
  | nil => intro zs h; exact ⟨zs, List.Perm.refl _, h⟩
  | cons x h ih =>
    intro zs hz
    match zs, hz with
    | z :: zs, hz =>
      simp only [List.map_cons, List.cons.injEq] at hz
      obtain ⟨zs', h1, h2⟩ := ih zs hz.2
      exact ⟨z :: zs', h1.cons z, by simp [h2, hz.1]⟩
  | swap x y l =>
    intro zs hz
    match zs, hz with
    | a :: b :: zs, hz =>
      simp only [List.map_cons, List.cons.injEq] at hz
      exact ⟨b :: a :: zs, List.Perm.swap a b zs, by simp [hz.1, hz.2.1, hz.2.2]⟩
  | trans h1 h2 ih1 ih2 =>
    intro zs hz
    obtain ⟨zs', h3, h4⟩ := ih2 zs hz
    obtain ⟨zs'', h5, h6⟩ := ih1 zs' h4
    exact ⟨zs'', h5.trans h3, h6⟩
/-- The next of those that are still to come. -/
theorem next_lift {Zr : List Bc} {p : ByteArray × Value} {rem : List (ByteArray × Value)} (h : (Zr.map toP).Perm (p :: rem)) : ∃ x Z', Zr.Perm (x :: Z') ∧ p = toP x ∧ rem = Z'.map toP := by
  obtain ⟨zs, h1, h2⟩ := perm_lift toP h.symm Zr rfl
  match zs, h2 with
  | x :: Z', h2 =>
    simp only [List.map_cons, List.cons.injEq] at h2
    exact ⟨x, Z', h1.symm, h2.1.symm, h2.2.symm⟩
end Go.Proofs.YtakmclheffbeaaaDoor


/- Walks: what stands at a place. -/
namespace Go.Proofs.YtakmclheffbeaaaDoor
open Go.RowKit
set_option linter.unusedSimpArgs false
set_option linter.unusedVariables false

/-- A list of numbers in memory. -/
def PV (w : World) (X : Nat → Prop) (v : Value) (zs : List Int) : Prop :=
  ∃ a c, v = .slice a zs.length c ∧ (zs.length ≤ 9223372036854775807 ∧ zs.length ≤ c) ∧ (zs = [] ∨ ∃ b o, a = some ⟨b, o, none⟩ ∧ X b ∧ ∀ i (h : i < zs.length), w.cell? ⟨b, o + i, none⟩ = some (.int .i64 zs[i]))

theorem PV.kept {w w' : World} {X : Nat → Prop} {v : Value} {zs : List Int} (h : PV w X v zs) (hk : ∀ b, X b → w'.heap[b]? = w.heap[b]?) : PV w' X v zs := by
  obtain ⟨a, c, e, hl, h⟩ := h
  refine ⟨a, c, e, hl, ?_⟩
  rcases h with h | ⟨b, o, e, hx, h⟩
  · exact Or.inl h
  · exact Or.inr ⟨b, o, e, hx, fun i hi => by rw [World.cell?_of_block (hk b hx)]; exact h i hi⟩

theorem PV.mono {w : World} {X Y : Nat → Prop} {v : Value} {zs : List Int} (h : PV w X v zs) (hk : ∀ b, X b → b < w.heap.size → Y b) : PV w Y v zs := by
  obtain ⟨a, c, e, hl, h⟩ := h
  refine ⟨a, c, e, hl, ?_⟩
  rcases h with h | ⟨b, o, e, hx, h⟩
  · exact Or.inl h
  · by_cases h0 : zs = []
    · exact Or.inl h0
    · have hp : 0 < zs.length := List.length_pos_iff.2 h0
      exact Or.inr ⟨b, o, e, hk b hx (World.block_lt_of_cell? w _ (h 0 hp)), h⟩

theorem PV.below {w w' : World} {X : Nat → Prop} {v : Value} {zs : List Int} {B : Nat} (h : PV w X v zs) (hb : Below B w w') (hX : ∀ b, X b → b < w.heap.size → b < B) : PV w' X v zs := by
  have h1 : PV w (fun b => X b ∧ b < B) v zs := h.mono fun b hx hs => ⟨hx, hX b hx hs⟩
  have h2 : PV w' (fun b => X b ∧ b < B) v zs := h1.kept fun b hx => hb.block b hx.2
  exact h2.mono fun b hx _ => hx.1

theorem PV.later {w w' : World} {X : Nat → Prop} {v : Value} {zs : List Int} (h : PV w X v zs) (hb : Below w.heap.size w w') : PV w' X v zs := h.below hb (fun _ _ h => h)
theorem PV.alloc {w : World} {X : Nat → Prop} {v : Value} {zs : List Int} (h : PV w X v zs) (o : Obj) : PV (w.alloc o) X v zs := h.later ((Below.refl _ _).alloc (Nat.le_refl _) o)

/-- The empty term's value. -/
def zeroT : Value := .agg #[.string ⟨#[]⟩, .slice none 0 0]

theorem below2 {w : World} (o1 o2 : Obj) : Below w.heap.size w ((w.alloc o1).alloc o2) := ((Below.refl _ _).alloc (Nat.le_refl _) _).alloc (by simp) _

end Go.Proofs.YtakmclheffbeaaaDoor


/- Walks: what stands at a place, as the document says. -/
namespace Go.Proofs.YtakmclheffbeaaaDoor
open Go.RowKit
set_option linter.unusedSimpArgs false
set_option linter.unusedVariables false

theorem TV.back {w w' : World} {X : Nat → Prop} {v : Value} {t : Tm} {B : Nat} (h : TV w' X v t) (hb : Below B w w') (hX : ∀ b, X b → b < B) : TV w X v t := by
  obtain ⟨a, c, e, h⟩ := h
  exact ⟨a, c, e, h.back hb hX⟩

end Go.Proofs.YtakmclheffbeaaaDoor

/- Walks: a copy of a term. -/
namespace Go.Proofs.YtakmclheffbeaaaDoor
open Go.RowKit
set_option linter.unusedSimpArgs false
set_option linter.unusedVariables false

theorem below3 {w : World} (o1 o2 o3 : Obj) : Below w.heap.size w (((w.alloc o1).alloc o2).alloc o3) := (below2 o1 o2).alloc (by simp; omega) o3

theorem copy_step {w wr w1 w3 : World} {T k : Nat} {u : Value} {l : List Tm} {xs : List Value} {o1 o2 : Obj} {s s' : ByteArray} {a1 : Option Addr} {n1 c1 g cap : Nat} {c0 : Array Value} (hrow : Row wr (w.heap.size + 3) T (fun _ => False) u (l.take k) xs) (hb : Below w.heap.size w wr)
    (h1 : Blk wr (w.heap.size + 1) c0 T) (h2 : Blk wr (w.heap.size + 1 + 1) #[.string s, u] T) (hsz : w.heap.size + 3 ≤ wr.heap.size) (hlt : k < l.length)
    (hb1 : Below (wr.alloc o1).drew.heap.size (wr.alloc o1).drew w1) (ht : TV w1 (fun b => (wr.alloc o1).drew.heap.size ≤ b) (.agg #[.string s', .slice a1 n1 c1]) l[k])
    (hown : w3.ownsRow (w.heap.size + 3) T 2 (.slice (some ⟨g, 0, none⟩) ((l.take k).length + 1) cap) ((l.take k).length + 1) (xs ++ [.string s', .slice a1 n1 c1])) (hg : (w1.alloc o2).grownBy w3 u.ownBlock) (hat : u.ownBlock = some g ∨ g = (w1.alloc o2).heap.size) :
    let w4 := w3.setCell ⟨w.heap.size + 1 + 1, 1, none⟩ (.slice (some ⟨g, 0, none⟩) ((l.take k).length + 1) cap)
    Row w4 (w.heap.size + 3) T (fun _ => False) (.slice (some ⟨g, 0, none⟩) ((l.take k).length + 1) cap) (l.take (k + 1)) (xs ++ [.string s', .slice a1 n1 c1]) ∧ Below w.heap.size w w4 ∧ Blk w4 (w.heap.size + 1) c0 T ∧ Blk w4 (w.heap.size + 1 + 1) #[.string s, .slice (some ⟨g, 0, none⟩) ((l.take k).length + 1) cap] T ∧ w.heap.size + 3 ≤ w4.heap.size := by
  intro w4
  have hbb : Below wr.heap.size wr (wr.alloc o1).drew := ((Below.refl _ _).alloc (Nat.le_refl _) o1).drew
  have hr1 := hrow.below hbb
  have hlt' := hrow.own.lt
  have hs1 := hb1.size
  have hsg := hg.size
  simp at hs1 hsg
  have hp := hr1.push (w1 := w1) (w2 := w1.alloc o2) (w3 := w3) (by simp; omega) (fun _ h => h.elim) hb1 (ht.mono fun b h _ => Or.inr h) o2 rfl hown hg hat
  have hw3 : Below w.heap.size w w3 := (((hb.trans (hbb.mono (by omega))).trans (hb1.mono (by simp; omega))).alloc (by omega) o2).grown hg (by simp; omega) (fun j hj => by have := (hlt' j hj).1; omega)
  have hA : Below w.heap.size w w4 := hw3.setCell (p := ⟨w.heap.size + 1 + 1, 1, none⟩) (by simp; omega) _
  refine ⟨?_, hA, (copy_blk h1 hb1 hg (fun e => by have := (hlt' _ e.symm).1; omega)).setOther _ _ (by omega), ?_, by simp [w4, World.setCell]; omega⟩
  · rw [List.take_succ_eq_append_getElem hlt]
    exact hp.setCell (by omega) (fun h => h) _
  · exact (copy_blk h2 hb1 hg (fun e => by have := (hlt' _ e.symm).1; omega)).set 1 _

set_option maxHeartbeats 1000000 in
theorem copyOf_any (t : Tm) : ∀ (v : Value) (w : World) (X : Nat → Prop), TV w X v t → sizeL [t] ≤ 1000000 →
    Calls Tryd.prog 44 #[v] w fun e w' => ∃ v', e = .returned v' ∧ TV w' (fun b => w.heap.size ≤ b) v' t ∧ Below w.heap.size w w' := by
  induction t using Tm.ind with
  | h s l ih =>
    intro v w X hv hsm
    have IH := hide ih
    clear ih
    obtain ⟨a, c, rfl, hs⟩ := hv
    have hl := hs.1
    have hz : sizeL [(⟨s, l⟩ : Tm)] = 1 + sizeL l := by simp [sizeL]
    rw [hz] at hsm
    clear hz
    have hlen := sizeL_len l
    obtain ⟨i0, hi, hz0, hz1, hz2⟩ := info_parts Tryd.infoTerm
    go_enter Tryd.func44, Tryd.ntmps44
    go_wp2_with fail
    go_loopw [12] (fun i wr => ∃ (k : Nat) (u : Value) (xs : List Value), k ≤ l.length ∧ i = .int .i64 k ∧ Row wr (w.heap.size + 3) 24 (fun _ => False) u (l.take k) xs ∧ Below w.heap.size w wr ∧ Blk wr (w.heap.size + 1) #[.string ⟨#[]⟩, .slice none 0 0] 24 ∧ Blk wr (w.heap.size + 1 + 1) #[.string s, u] 24 ∧ w.heap.size + 3 ≤ wr.heap.size) (fun i wr => l.length - (intOf i).toNat)
    case atStart =>
      refine ⟨0, .slice none 0 0, [], Nat.zero_le _, rfl, Row.start _ _ _ _, below3 _ _ _, ?_, ?_, by simp⟩
      · have := ((Blk.new (w.alloc (.cells #[.string s, .slice a l.length c] 24)) #[.string ⟨#[]⟩, .slice none 0 0] 24)).alloc (.cells #[.string s, .slice none 0 0] 24)
        simpa using this
      · have := Blk.new ((w.alloc (.cells #[.string s, .slice a l.length c] 24)).alloc (.cells #[.string ⟨#[]⟩, .slice none 0 0] 24)) #[.string s, .slice none 0 0] 24
        simpa using this
    case round =>
      obtain ⟨k, u, xs, hk, rfl, hrow, hb, hbl1, hbl2, hsz⟩ := hrel
      have HROW := hide hrow
      have HBL1 := hide hbl1
      have HBL2 := hide hbl2
      have HB := hide hb
      clear hrow hbl1
      by_cases hlt : k < l.length
      · obtain ⟨b, o, a', c', rfl, d0, d1, hx⟩ := hs.get hb (fun _ _ h => h) k hlt
        have hc2 : ∀ o, (wr.alloc o).cell? ⟨w.heap.size + 1 + 1, 1, none⟩ = some u := fun o => (hbl2.alloc o).cell 1
        have HX := hide hx
        have hszk : sizeL [l[k]] ≤ 1000000 := by
          have := sizeL_take l k hlt; have := sizeL_take_le l (k + 1); omega
        clear hbl2 hb hx
        go_wp2_with fail
        go_region_law (first
          | (go_simp; go_at_call 44; refine (IH.out _ (List.getElem_mem hlt) _ _ X (by exact (HX.out.alloc _).later (below_drewN (Below.refl _ _) 1)) hszk).mono ?_; rintro e w1 ⟨v1, rfl, ht1, hb1⟩; obtain ⟨a1, c1, rfl, hs1⟩ := ht1; have hc3 : ∀ o, (w1.alloc o).cell? ⟨w.heap.size + 1 + 1, 1, none⟩ = some u := fun o => ((((HBL2.out.alloc _).drewN 1).below hb1 (by simp; omega)).alloc o).cell 1; have hc4 : w1.cell? ⟨w.heap.size + 1 + 1, 1, none⟩ = some u := (((HBL2.out.alloc _).drewN 1).below hb1 (by simp; omega)).cell 1)
          | (refine step_append_lies _ rfl _ _ 22 rfl (w.heap.size + 3) 24 i0 _ 2 40 Tryd.underlying22 hi hz0 hz1 hz2 rfl (by decide) u (l.take k).length xs rfl (by exact (((HROW.out.below ((Below.refl _ _).alloc (Nat.le_refl _) _)).below (below_drewN (Below.refl _ _) 1)).below hb1).own.alloc _) ⟨w1.heap.size, 0, none⟩ 1 1 [.string l[k].name, .slice a1 l[k].args.length c1] rfl rfl (cell_two_new _ _ _ _) (fun x hx => by simp at hx; rcases hx with rfl | rfl <;> rfl) (by decide) (by unfold maxLen; simp; omega) (by simp; omega) (by have := hb1.size; simp at this ⊢; omega) _ rfl ?_; intro g cap w3 hown3 hgrow3 hat3 hlt3; have hB3 := hide (copy_blk HBL2.out hb1 hgrow3 (HROW.out.ne (Nat.lt_succ_self _))); have hc5 : w3.cell? ⟨w.heap.size + 1 + 1, 1, none⟩ = some u := hB3.out.cell 1; have hf5 := hB3.out.frozen 1))
        all_goals
          have HFIN := hide (copy_step HROW.out HB.out HBL1.out HBL2.out hsz hlt hb1 ⟨a1, c1, rfl, hs1⟩ hown3 hgrow3 hat3)
          clear hown3 hgrow3 hat3 hc2 hc3 hc4
          go_wp2_with fail
          go_roundw
          case rel =>
            have hkl : (l.take k).length = k := by simp; omega
            obtain ⟨r1, r2, r3, r4, r5⟩ := HFIN.out
            simp only [hkl] at r1 r2 r3 r4 r5
            exact ⟨k + 1, _, _, by omega, by go_num, r1, r2, r3, r4, r5⟩
          case measure => simp [intOf]; omega
      · have htk : l.take k = l := List.take_of_length_le (by omega)
        have hc0 := hbl2.cell 0
        have hc1 := hbl2.cell 1
        have hr0 := HBL1.out.cell 0
        have hr1 := HBL1.out.cell 1
        have hrf := HBL1.out.frozen
        obtain ⟨a9, c9, hu9, hsl9⟩ := HROW.out.sl
        rw [htk] at hu9 hsl9
        have HSL := hide hsl9
        subst hu9
        clear hsl9 htk hbl2
        go_wp2_with fail
        refine bodyPost_ret (v := .agg #[.string s, .slice a9 l.length c9]) (by simp [results, Tryd.results44, go_sem, hr0, hr1, World.cell?_setCell_same, World.cell?_setCell_other]) rfl ⟨_, rfl, ?_, ?_⟩
        · refine ⟨a9, c9, rfl, ?_⟩
          have hk9 : Sl wr (fun b => w.heap.size + 3 ≤ b) a9 l := HSL.out.mono fun b h _ => h.elim False.elim id
          exact ((hk9.kept fun b hb => by rw [Below.heap_setCell _ _ _ _ (by simp; omega), Below.heap_setCell _ _ _ _ (by simp; omega)]).mono fun b hb _ => by omega)
        · exact (HB.out.setCell (by simp) _).setCell (by simp) _
end Go.Proofs.YtakmclheffbeaaaDoor

/- Walks: two bindings by their names. -/
namespace Go.Proofs.YtakmclheffbeaaaDoor
open Go.RowKit
set_option linter.unusedSimpArgs false
set_option linter.unusedVariables false
set_option maxRecDepth 8000

/-- How two texts stand to each other. -/
def cmpN (a b : ByteArray) : Int := if ltB a b = true then -1 else if ltB b a = true then 1 else 0
theorem isNaN_any (a : ByteArray) (w : World) : Calls Tryd.prog 59 #[.string a] w fun e w' => e = .returned (.bool false) ∧ w' = w := by
  go_enter Tryd.func59, Tryd.ntmps59
  go_wp2_with fail
  go_ret
  exact ⟨by simp, rfl⟩
theorem compare_any (a b : ByteArray) (w : World) : Calls Tryd.prog 47 #[.string a, .string b] w fun e w' => e = .returned (.int .i64 (cmpN a b)) ∧ w' = w := by
  cases h1 : Op.bytesLess a.toList b.toList with
  | true =>
    have HN : Hid (cmpN a b = -1) := by unfold Hid cmpN ltB; rw [h1]; rfl
    go_enter Tryd.func47, Tryd.ntmps47
    go_wp2_with (go_at_call 59; refine (isNaN_any _ _).mono ?_; rintro e w' ⟨rfl, rfl⟩)
    go_ret
    exact ⟨by rw [HN.out]; rfl, rfl⟩
  | false =>
    by_cases he : a = b
    · have HN : Hid (cmpN a b = 0) := by unfold Hid cmpN ltB; rw [h1, he, bl_irrefl]; rfl
      have h2 : (a.toList == b.toList) = true := bytes_yes he
      clear he
      go_enter Tryd.func47, Tryd.ntmps47
      go_wp2_with (go_at_call 59; refine (isNaN_any _ _).mono ?_; rintro e w' ⟨rfl, rfl⟩)
      go_ret
      exact ⟨by rw [HN.out]; rfl, rfl⟩
    · have HN : Hid (cmpN a b = 1) := by
        unfold Hid cmpN
        have h3 : ltB b a = true := by
          cases h : ltB b a with
          | true => rfl
          | false => exact absurd (ltB_conn h1 h) he
        rw [if_neg (by unfold ltB; rw [h1]; simp), if_pos h3]
      have h2 : (a.toList == b.toList) = false := bytes_no he
      clear he
      go_enter Tryd.func47, Tryd.ntmps47
      go_wp2_with (go_at_call 59; refine (isNaN_any _ _).mono ?_; rintro e w' ⟨rfl, rfl⟩)
      go_ret
      exact ⟨by rw [HN.out]; rfl, rfl⟩
open Go.Sort in
theorem inOrder1_any (x y : Bc) (w : World) : Calls Tryd.prog 46 #[.agg (enc3 x).toArray, .agg (enc3 y).toArray] w fun e w' => e = .returned (.int .i64 (cmpN x.1.nm y.1.nm)) ∧ ∃ q os', w' = grow (w.drewN q) os' := by
  have HC := hide (fun w' => compare_any x.1.nm y.1.nm w')
  generalize cmpN x.1.nm y.1.nm = z at *
  unfold enc3
  go_enter Tryd.func46, Tryd.ntmps46
  go_wp2_with (go_at_call 47; refine (HC.out _).mono ?_; rintro e w' ⟨rfl, rfl⟩)
  go_ret
  exact ⟨rfl, 0, _, by rw [alloc_eq_grow, alloc_eq_grow, grow_grow]; rfl⟩
end Go.Proofs.YtakmclheffbeaaaDoor

/- Maps by texts, as they lie in memory. -/
namespace Go.Proofs.YtakmclheffbeaaaDoor
open Go.RowKit
set_option linter.unusedSimpArgs false
set_option linter.unusedVariables false

def mapGet : List (ByteArray × Value) → ByteArray → Option Value
  | [], _ => none
  | p :: r, n => if p.1 = n then some p.2 else mapGet r n

/-- The entries' stamps: each below the clock, none twice. -/
def Stamps (es : Array MapEntry) (clk : Nat) : Prop := (∀ x ∈ es.toList, x.born < clk) ∧ (es.toList.map (·.born)).Nodup
/-- The map at r has these keys, in the order in which they came, and what stands for them. -/
def MapAt (w : World) (r : Nat) (L : List (ByteArray × Value)) : Prop :=
  ∃ es clk, w.heap[r]? = some (.map es clk) ∧ es.toList.map (fun e => (e.key, e.val)) = L.map (fun p => (Value.string p.1, p.2)) ∧ Stamps es clk
theorem Stamps.push {es : Array MapEntry} {clk : Nat} (h : Stamps es clk) (k v : Value) : Stamps (es.push { key := k, val := v, born := clk }) (clk + 1) := by
  obtain ⟨h1, h2⟩ := h
  refine ⟨fun x hx => ?_, ?_⟩
  · rw [Array.toList_push, List.mem_append] at hx
    rcases hx with hx | hx
    · have := h1 x hx; omega
    · have e : x = { key := k, val := v, born := clk } := by simpa using hx
      subst e; exact Nat.lt_succ_self _
  · rw [Array.toList_push, List.map_append, List.nodup_append]
    refine ⟨h2, by simp, fun a ha b hb => ?_⟩
    obtain ⟨x, hx, rfl⟩ := List.mem_map.1 ha
    have := h1 x hx
    have e : b = clk := by simpa using hb
    omega
theorem map_born_modify (j : Nat) (k v : Value) : ∀ l : List MapEntry, (l.modify j fun e => { e with key := k, val := v }).map (·.born) = l.map (·.born) := by
  induction j with
  | zero => intro l; cases l <;> simp
  | succ j ih => intro l; cases l with
    | nil => simp
    | cons a r => simp [List.modify_succ_cons, ih r]
theorem Stamps.modify {es : Array MapEntry} {clk : Nat} (h : Stamps es clk) (j : Nat) (k v : Value) : Stamps (es.modify j fun e => { e with key := k, val := v }) clk := by
  obtain ⟨h1, h2⟩ := h
  have e := map_born_modify j k v es.toList
  refine ⟨fun x hx => ?_, by rw [Array.toList_modify, e]; exact h2⟩
  rw [Array.toList_modify] at hx
  have : x.born ∈ es.toList.map (·.born) := by rw [← e]; exact List.mem_map.2 ⟨x, hx, rfl⟩
  obtain ⟨y, hy, hb⟩ := List.mem_map.1 this
  rw [← hb]; exact h1 y hy

theorem MapAt.new (w : World) : MapAt (w.alloc (.map #[] 0)) w.heap.size [] := ⟨#[], 0, heap_alloc_new w _, rfl, by simp [Stamps]⟩
theorem MapAt.lt {w : World} {r : Nat} {L : List (ByteArray × Value)} (h : MapAt w r L) : r < w.heap.size := by
  obtain ⟨es, clk, h, _⟩ := h
  exact (Array.getElem?_eq_some_iff.1 h).1
theorem MapAt.kept {w w' : World} {r : Nat} {L : List (ByteArray × Value)} (h : MapAt w r L) (hk : w'.heap[r]? = w.heap[r]?) : MapAt w' r L := by
  obtain ⟨es, clk, h1, h2⟩ := h
  exact ⟨es, clk, hk.trans h1, h2⟩
theorem MapAt.below {w w' : World} {r B : Nat} {L : List (ByteArray × Value)} (h : MapAt w r L) (hb : Below B w w') (hB : r < B) : MapAt w' r L := h.kept (hb.block r hB)

theorem findNow_map (n : ByteArray) : ∀ (l : List MapEntry) (L : List (ByteArray × Value)) (i : Nat), l.map (fun e => (e.key, e.val)) = L.map (fun p => (Value.string p.1, p.2)) →
    (mapGet L n = none → Instr.findNow .string (.string n) l i = some none) ∧ (∀ v, mapGet L n = some v → ∃ j, Instr.findNow .string (.string n) l i = some (some (j, v)))
  | [], [], i, h => ⟨fun _ => rfl, fun v h => by simp [mapGet] at h⟩
  | [], p :: L, i, h => by simp at h
  | e :: l, [], i, h => by simp at h
  | e :: l, p :: L, i, h => by
    simp only [List.map_cons, List.cons.injEq, Prod.mk.injEq] at h
    obtain ⟨⟨hk, hv⟩, ht⟩ := h
    obtain ⟨ih1, ih2⟩ := findNow_map n l L (i + 1) ht
    by_cases hn : p.1 = n
    · have hs : Instr.sameNow .string (.string n) e.key = some true := by
        rw [hk, hn]
        show some (n == n) = some true
        rw [show (n == n) = true from (MapKept.bytes_beq _ _).2 rfl]
      refine ⟨fun h => by simp [mapGet, hn] at h, fun v h => ⟨i, ?_⟩⟩
      simp only [mapGet, hn, if_true, Option.some.injEq] at h
      simp [Instr.findNow, hs, hv, h]
    · have hs : Instr.sameNow .string (.string n) e.key = some false := by
        rw [hk]
        show some (n == p.1) = some false
        have hb : (n == p.1) = false := by
          cases hh : (n == p.1) with
          | false => rfl
          | true => exact absurd ((MapKept.bytes_beq _ _).1 hh).symm hn
        rw [hb]
      refine ⟨fun h => ?_, fun v h => ?_⟩
      · rw [mapGet, if_neg hn] at h
        simp [Instr.findNow, hs, ih1 h]
      · rw [mapGet, if_neg hn] at h
        obtain ⟨j, hj⟩ := ih2 v h
        exact ⟨j, by simp [Instr.findNow, hs, hj]⟩

theorem run_look {P : Program} {w : World} {T kt et : TypeId} {r : Nat} {L : List (ByteArray × Value)} {z : Value} (hm : P.underlying T = some (.map kt et)) (hk : P.underlying kt = some .string) (hz : (zeroValue et).run P w = .ok z w) (h : MapAt w r L) (n : ByteArray) :
    (Instr.lookup T (.map (some r)) (.string n) true).run P w = .ok (.tuple #[(mapGet L n).getD z, .bool (mapGet L n).isSome]) w := by
  obtain ⟨es, clk, hb, he, hst⟩ := h
  obtain ⟨h1, h2⟩ := findNow_map n es.toList L 0 he
  have hc : ∀ b, (Instr.checkKey b 10000 kt (.string n)).run P w = .ok () w := fun b => MapKept.run_checkKey (k := .string n) hk (by simp [MapKept.IsKey]) b 9999
  cases hg : mapGet L n with
  | none => simp [Instr.lookup, run_underlying hm, MapKept.run_getObj_map hb, hc, MapKept.run_findKey hk (h1 hg), Result.andThen, hz]
  | some v =>
    obtain ⟨j, hj⟩ := h2 v hg
    simp [Instr.lookup, run_underlying hm, MapKept.run_getObj_map hb, hc, MapKept.run_findKey hk hj, Result.andThen]

theorem run_put {P : Program} {w : World} {T kt et : TypeId} {r : Nat} {L : List (ByteArray × Value)} (hm : P.underlying T = some (.map kt et)) (hk : P.underlying kt = some .string) (h : MapAt w r L) (n : ByteArray) (v : Value) (hn : mapGet L n = none) :
    ∃ w', (Instr.mapUpdate T (.map (some r)) (.string n) v).run P w = .ok () w' ∧ MapAt w' r (L ++ [(n, v)]) ∧ w'.heap.size = w.heap.size ∧ w'.os = w.os ∧ w'.tape = w.tape ∧ w'.output = w.output ∧ (∀ b, b ≠ r → w'.heap[b]? = w.heap[b]?) := by
  obtain ⟨es, clk, hb, he, hst⟩ := h
  obtain ⟨h1, h2⟩ := findNow_map n es.toList L 0 he
  have hc : (Instr.checkKey false 10000 kt (.string n)).run P w = .ok () w := MapKept.run_checkKey (k := .string n) hk (by simp [MapKept.IsKey]) false 9999
  have hlt : r < w.heap.size := (Array.getElem?_eq_some_iff.1 hb).1
  refine ⟨{ w with heap := w.heap.setIfInBounds r (.map (es.push { key := .string n, val := v, born := clk }) (clk + 1)) }, ?_, ⟨_, _, (MapKept.heap_set hb).1, by simp [he], hst.push _ _⟩, by simp, rfl, rfl, rfl, fun b hne => (MapKept.heap_set hb).2 b hne⟩
  simp [Instr.mapUpdate, run_underlying hm, MapKept.run_getObj_map hb, hc, MapKept.run_findKey hk (h1 hn), MapKept.run_setObj_map _ hb, Result.andThen]
end Go.Proofs.YtakmclheffbeaaaDoor

/- Maps by texts: looked into, and set where the key is there. -/
namespace Go.Proofs.YtakmclheffbeaaaDoor
open Go.RowKit
set_option linter.unusedSimpArgs false
set_option linter.unusedVariables false

/-- What stands for a key is another. -/
def setAt : List (ByteArray × Value) → ByteArray → Value → List (ByteArray × Value)
  | [], _, _ => []
  | p :: r, n, v => if p.1 = n then (p.1, v) :: r else p :: setAt r n v
theorem findNow_set (n : ByteArray) (x : Value) : ∀ (l : List MapEntry) (L : List (ByteArray × Value)) (i : Nat) (v : Value), l.map (fun e => (e.key, e.val)) = L.map (fun p => (Value.string p.1, p.2)) → mapGet L n = some v →
    ∃ j e, Instr.findNow .string (.string n) l i = some (some (i + j, v)) ∧ l[j]? = some e ∧ e.key = .string n ∧ (l.modify j fun e => { e with key := .string n, val := x }).map (fun e => (e.key, e.val)) = (setAt L n x).map (fun p => (Value.string p.1, p.2))
  | [], [], i, v, h, hv => by simp [mapGet] at hv
  | [], p :: L, i, v, h, hv => by simp at h
  | e :: l, [], i, v, h, hv => by simp at h
  | e :: l, p :: L, i, v, h, hv => by
    simp only [List.map_cons, List.cons.injEq, Prod.mk.injEq] at h
    obtain ⟨⟨hk, he⟩, ht⟩ := h
    by_cases hn : p.1 = n
    · have hs : Instr.sameNow .string (.string n) e.key = some true := by
        rw [hk, hn]
        show some (n == n) = some true
        rw [show (n == n) = true from (MapKept.bytes_beq _ _).2 rfl]
      simp only [mapGet, hn, if_true, Option.some.injEq] at hv
      refine ⟨0, e, by simp [Instr.findNow, hs, he, hv], rfl, by rw [hk, hn], ?_⟩
      simp [setAt, hn, ht]
    · have hs : Instr.sameNow .string (.string n) e.key = some false := by
        rw [hk]
        show some (n == p.1) = some false
        have hb : (n == p.1) = false := by
          cases hh : (n == p.1) with
          | false => rfl
          | true => exact absurd ((MapKept.bytes_beq _ _).1 hh).symm hn
        rw [hb]
      rw [mapGet, if_neg hn] at hv
      obtain ⟨j, e', h1, h2, h3, h4⟩ := findNow_set n x l L (i + 1) v ht hv
      refine ⟨j + 1, e', by simp [Instr.findNow, hs, h1]; omega, by simpa using h2, h3, ?_⟩
      rw [setAt, if_neg hn]
      simp [List.modify_succ_cons, h4, hk, he]

theorem run_set {P : Program} {w : World} {T kt et : TypeId} {r : Nat} {L : List (ByteArray × Value)} (hm : P.underlying T = some (.map kt et)) (hk : P.underlying kt = some .string) (h : MapAt w r L) (n : ByteArray) (v old : Value) (hn : mapGet L n = some old) :
    ∃ w', (Instr.mapUpdate T (.map (some r)) (.string n) v).run P w = .ok () w' ∧ MapAt w' r (setAt L n v) ∧ w'.heap.size = w.heap.size ∧ w'.os = w.os ∧ w'.tape = w.tape ∧ w'.output = w.output ∧ (∀ b, b ≠ r → w'.heap[b]? = w.heap[b]?) := by
  obtain ⟨es, clk, hb, he, hstm⟩ := h
  obtain ⟨j, e0, h1, h2, h3, h4⟩ := findNow_set n v es.toList L 0 old he hn
  have hc : (Instr.checkKey false 10000 kt (.string n)).run P w = .ok () w := MapKept.run_checkKey (k := .string n) hk (by simp [MapKept.IsKey]) false 9999
  have hj : es[j]? = some e0 := by simpa using h2
  rw [Nat.zero_add] at h1
  have hst : (Instr.keyThatStays (.string n) (.string n)).run P w = .ok (.string n) w := MapKept.run_keyThatStays (d := .string) (by simp [MapKept.IsKey])
  refine ⟨{ w with heap := w.heap.setIfInBounds r (.map (es.modify j fun e => { e with key := .string n, val := v }) clk) }, ?_, ⟨_, _, (MapKept.heap_set hb).1, by rw [Array.toList_modify]; exact h4, hstm.modify _ _ _⟩, by simp, rfl, rfl, rfl, fun b hne => (MapKept.heap_set hb).2 b hne⟩
  simp [Instr.mapUpdate, run_underlying hm, MapKept.run_getObj_map hb, hc, MapKept.run_findKey hk h1, hj, h3, hst, MapKept.run_setObj_map _ hb, Result.andThen]
end Go.Proofs.YtakmclheffbeaaaDoor

/- Maps by texts: a loop over one, and what is struck in it. -/
namespace Go.Proofs.YtakmclheffbeaaaDoor
open Go.RowKit
open Go.ChangeMaps (setBlock)
set_option linter.unusedSimpArgs false
set_option linter.unusedVariables false

/-- A loop over the map at b, its iterator at r: the map's entries, and those that are still to come. -/
def RangeAt (w : World) (b r : Nat) (L rem : List (ByteArray × Value)) : Prop :=
  ∃ es clk since seen c0, w.heap[b]? = some (.map es clk) ∧ es.toList.map (fun e => (e.key, e.val)) = L.map (fun p => (Value.string p.1, p.2)) ∧ Stamps es clk ∧
    w.heap[r]? = some (.mapIter (some b) since seen c0) ∧ (∀ x ∈ es.toList, x.born < since) ∧ since ≤ c0 ∧ since ≤ clk ∧
    (leftOf es seen).toList.map (fun e => (e.key, e.val)) = rem.map (fun p => (Value.string p.1, p.2))

/-- How many are still to come. -/
def leftAt (w : World) (b r : Nat) : Nat :=
  match w.heap[b]?, w.heap[r]? with
  | some (.map es _), some (.mapIter _ _ seen _) => (leftOf es seen).size
  | _, _ => 0

theorem RangeAt.left {w : World} {b r : Nat} {L rem : List (ByteArray × Value)} (h : RangeAt w b r L rem) : leftAt w b r = rem.length := by
  obtain ⟨es, clk, since, seen, c0, hb, _, _, hr, _, _, _, hl⟩ := h
  have := congrArg List.length hl
  simp only [List.length_map, Array.length_toList] at this
  simp only [leftAt, hb, hr]
  exact this
theorem RangeAt.map {w : World} {b r : Nat} {L rem : List (ByteArray × Value)} (h : RangeAt w b r L rem) : MapAt w b L := by
  obtain ⟨es, clk, since, seen, c0, hb, he, hs, _⟩ := h
  exact ⟨es, clk, hb, he, hs⟩
theorem RangeAt.ne {w : World} {b r : Nat} {L rem : List (ByteArray × Value)} (h : RangeAt w b r L rem) : r ≠ b := by
  obtain ⟨es, clk, since, seen, c0, hb, he, hs, hr, _⟩ := h
  intro e
  rw [e, hb] at hr
  cases hr
theorem RangeAt.lt {w : World} {b r : Nat} {L rem : List (ByteArray × Value)} (h : RangeAt w b r L rem) : r < w.heap.size := by
  obtain ⟨es, clk, since, seen, c0, hb, he, hs, hr, _⟩ := h
  exact (Array.getElem?_eq_some_iff.1 hr).1
theorem RangeAt.kept {w w' : World} {b r : Nat} {L rem : List (ByteArray × Value)} (h : RangeAt w b r L rem) (hb' : w'.heap[b]? = w.heap[b]?) (hr' : w'.heap[r]? = w.heap[r]?) : RangeAt w' b r L rem := by
  obtain ⟨es, clk, since, seen, c0, hb, he, hs, hr, rest⟩ := h
  exact ⟨es, clk, since, seen, c0, hb'.trans hb, he, hs, hr'.trans hr, rest⟩
theorem RangeAt.below {w w' : World} {b r B : Nat} {L rem : List (ByteArray × Value)} (h : RangeAt w b r L rem) (hb : Below B w w') (h1 : b < B) (h2 : r < B) : RangeAt w' b r L rem := h.kept (hb.block b h1) (hb.block r h2)

theorem MapAt.range {P : Program} {w : World} {T kt et : TypeId} {b : Nat} {L : List (ByteArray × Value)} (h : MapAt w b L) (hm : P.underlying T = some (.map kt et)) :
    ∃ o, (Instr.range T (.map (some b))).run P w = .ok (.pointer (some ⟨w.heap.size, 0, none⟩)) (w.alloc o) ∧ RangeAt (w.alloc o) b w.heap.size L L := by
  have hlt := h.lt
  obtain ⟨es, clk, hb, he, hs⟩ := h
  refine ⟨_, run_range_map w T kt et b es clk hm hb, es, clk, clk, #[], clk, (Below.heap_alloc _ _ _ hlt).trans hb, he, hs, heap_alloc_new w _, hs.1, Nat.le_refl _, Nat.le_refl _, ?_⟩
  rw [← he]
  congr 1
  simp [leftOf]

theorem kv_inj {l : List MapEntry} {L : List (ByteArray × Value)} (h : l.map (fun e => (e.key, e.val)) = L.map (fun p => (Value.string p.1, p.2))) {e : MapEntry} (he : e ∈ l) : ∃ p ∈ L, e.key = .string p.1 ∧ e.val = p.2 := by
  have : (e.key, e.val) ∈ L.map (fun p => (Value.string p.1, p.2)) := by rw [← h]; exact List.mem_map.2 ⟨e, he, rfl⟩
  obtain ⟨p, hp, e2⟩ := List.mem_map.1 this
  simp only [Prod.mk.injEq] at e2
  exact ⟨p, hp, e2.1.symm, e2.2.symm⟩

/-- One goes out of those that were left. -/
theorem left_out (seen : Array Nat) (e : MapEntry) : ∀ (l : List MapEntry) (R : List (ByteArray × Value)), (l.map (·.born)).Nodup → e ∈ l → seen.contains e.born = false → (l.filter fun x => !seen.contains x.born).map (fun e => (e.key, e.val)) = R.map (fun p => (Value.string p.1, p.2)) →
    ∃ p R', e.key = .string p.1 ∧ e.val = p.2 ∧ R.Perm (p :: R') ∧ (l.filter fun x => !(seen.push e.born).contains x.born).map (fun e => (e.key, e.val)) = R'.map (fun p => (Value.string p.1, p.2))
  | [], R, _, he, _, _ => by cases he
  | a :: l, R, hn, he, hs, hR => by
    simp only [List.map_cons, List.nodup_cons] at hn
    obtain ⟨hn1, hn2⟩ := hn
    by_cases ha : a.born = e.born
    · have hae : e = a := by
        rcases List.mem_cons.1 he with h | h
        · exact h
        · exact absurd (List.mem_map.2 ⟨e, h, ha.symm⟩) hn1
      subst hae
      have hs' : (!seen.contains e.born) = true := by rw [hs]; rfl
      rw [List.filter_cons_of_pos (by simpa using hs')] at hR
      match R, hR with
      | p :: R', hR =>
        simp only [List.map_cons, List.cons.injEq, Prod.mk.injEq] at hR
        refine ⟨p, R', hR.1.1, hR.1.2, List.Perm.refl _, ?_⟩
        rw [List.filter_cons_of_neg (by simp), ← hR.2]
        congr 1
        refine List.filter_congr fun x hx => ?_
        have hne : x.born ≠ e.born := fun h => hn1 (List.mem_map.2 ⟨x, hx, h⟩)
        simp [hne]
    · have he' : e ∈ l := by
        rcases List.mem_cons.1 he with h | h
        · exact absurd (by rw [h]) ha
        · exact h
      by_cases hsa : seen.contains a.born = true
      · rw [List.filter_cons_of_neg (by simpa using hsa)] at hR
        obtain ⟨p, R', h1, h2, h3, h4⟩ := left_out seen e l R hn2 he' hs hR
        refine ⟨p, R', h1, h2, h3, ?_⟩
        rw [List.filter_cons_of_neg (by simp at hsa ⊢; exact fun h => absurd hsa h), h4]
      · have hsa' : seen.contains a.born = false := by simpa using hsa
        rw [List.filter_cons_of_pos (by simpa using hsa')] at hR
        match R, hR with
        | q :: R0, hR =>
          simp only [List.map_cons, List.cons.injEq] at hR
          obtain ⟨p, R', h1, h2, h3, h4⟩ := left_out seen e l R0 hn2 he' hs hR.2
          refine ⟨p, q :: R', h1, h2, (List.Perm.cons q h3).trans (List.Perm.swap p q R'), ?_⟩
          rw [List.filter_cons_of_pos (by simp at hsa' ⊢; exact ⟨hsa', ha⟩), List.map_cons, List.map_cons, h4, hR.1]

theorem RangeAt.next {P : Program} {w : World} {b r : Nat} {L rem : List (ByteArray × Value)} (h : RangeAt w b r L rem) (ty : TypeId) :
    (rem = [] ∧ (Instr.next (.pointer (some ⟨r, 0, none⟩)) false ty).run P w = .ok (.tuple #[.bool false]) w) ∨
    ∃ p rem' w', rem.Perm (p :: rem') ∧ (Instr.next (.pointer (some ⟨r, 0, none⟩)) false ty).run P w = .ok (.tuple #[.bool true, .string p.1, p.2]) w' ∧ RangeAt w' b r L rem' ∧
      w'.heap.size = w.heap.size ∧ w'.os = w.os ∧ w'.tape = w.tape ∧ w'.output = w.output ∧ (∀ j, j ≠ r → w'.heap[j]? = w.heap[j]?) ∧ (Instr.entry (.pointer (some ⟨r, 0, none⟩))).run P w' = .ok (.tuple #[.string p.1, p.2]) w' := by
  have hne := h.ne
  obtain ⟨es, clk, since, seen, c0, hb, he, hs, hr, hold, hsc, hsk, hl⟩ := h
  rcases run_next_at (P := P) w ty r b since c0 seen es clk hr hb hold hsc with ⟨h0, hrun⟩ | ⟨e, hem, w1, hal, hrun⟩
  · refine Or.inl ⟨?_, hrun⟩
    have := congrArg List.length hl
    simp only [List.length_map, Array.length_toList, h0] at this
    exact List.length_eq_zero_iff.1 this.symm
  · obtain ⟨hm1, hm2⟩ := mem_left hem
    have hl' : (es.toList.filter fun x => !seen.contains x.born).map (fun e => (e.key, e.val)) = rem.map (fun p => (Value.string p.1, p.2)) := by
      rw [← hl]; unfold leftOf; rw [Array.toList_filter]
    obtain ⟨p, rem', hk, hv, hperm, hrem⟩ := left_out seen e es.toList rem hs.2 hm1 hm2 hl'
    have hr1 : w1.heap[r]? = some (.mapIter (some b) since seen c0) := by rcases hal with rfl | rfl <;> exact hr
    have hb1 : w1.heap[b]? = some (.map es clk) := by rcases hal with rfl | rfl <;> exact hb
    have hset := MapKept.heap_set (o' := .mapIter (some b) since (seen.push e.born) clk) hr1
    have hb' : (setBlock w1 r (.mapIter (some b) since (seen.push e.born) clk)).heap[b]? = some (.map es clk) := (hset.2 b (fun e1 => hne e1.symm)).trans hb1
    rw [hk, hv] at hrun
    refine Or.inr ⟨p, rem', _, hperm, hrun, ⟨es, clk, since, seen.push e.born, clk, hb', he, hs, hset.1, hold, hsk, hsk, ?_⟩, ?_, ?_, ?_, ?_, ?_, ?_⟩
    · rw [← hrem]; unfold leftOf; rw [Array.toList_filter]
    · rcases hal with rfl | rfl <;> simp [setBlock]
    · rcases hal with rfl | rfl <;> rfl
    · rcases hal with rfl | rfl <;> rfl
    · rcases hal with rfl | rfl <;> rfl
    · intro j hj
      have := hset.2 j hj
      rcases hal with rfl | rfl <;> exact this
    · have := run_entry_at (P := P) _ r b since seen es clk e hset.1 hb' hm1 hs.2
      rw [hk, hv] at this
      exact this

/-- What is left when a key is struck. -/
def delP : List (ByteArray × Value) → ByteArray → List (ByteArray × Value)
  | [], _ => []
  | p :: r, n => if p.1 = n then r else p :: delP r n
theorem findNow_del (n : ByteArray) (q : MapEntry → Bool) : ∀ (l : List MapEntry) (L : List (ByteArray × Value)) (i : Nat), l.map (fun e => (e.key, e.val)) = L.map (fun p => (Value.string p.1, p.2)) → (∀ e ∈ l, e.key = .string n → q e = false) →
    (mapGet L n = none → delP L n = L) ∧ (∀ v, mapGet L n = some v → ∃ j, Instr.findNow .string (.string n) l i = some (some (i + j, v)) ∧ j < l.length ∧ (l.eraseIdx j).map (fun e => (e.key, e.val)) = (delP L n).map (fun p => (Value.string p.1, p.2)) ∧ (l.eraseIdx j).filter q = l.filter q)
  | [], [], i, h, _ => ⟨fun _ => rfl, fun v hv => by simp [mapGet] at hv⟩
  | [], p :: L, i, h, _ => by simp at h
  | e :: l, [], i, h, _ => by simp at h
  | e :: l, p :: L, i, h, hq => by
    simp only [List.map_cons, List.cons.injEq, Prod.mk.injEq] at h
    obtain ⟨⟨hk, he⟩, ht⟩ := h
    obtain ⟨ih1, ih2⟩ := findNow_del n q l L (i + 1) ht fun e he => hq e (by simp [he])
    by_cases hn : p.1 = n
    · have hs : Instr.sameNow .string (.string n) e.key = some true := by
        rw [hk, hn]
        show some (n == n) = some true
        rw [show (n == n) = true from (MapKept.bytes_beq _ _).2 rfl]
      refine ⟨fun h => by simp [mapGet, hn] at h, fun v hv => ?_⟩
      simp only [mapGet, hn, if_true, Option.some.injEq] at hv
      refine ⟨0, by simp [Instr.findNow, hs, he, hv], by simp, ?_, ?_⟩
      · simp [delP, hn, ht]
      · rw [List.eraseIdx_cons_zero, List.filter_cons_of_neg (by rw [hq e (by simp) (by rw [hk, hn])]; simp)]
    · have hs : Instr.sameNow .string (.string n) e.key = some false := by
        rw [hk]
        show some (n == p.1) = some false
        have hb : (n == p.1) = false := by
          cases hh : (n == p.1) with
          | false => rfl
          | true => exact absurd ((MapKept.bytes_beq _ _).1 hh).symm hn
        rw [hb]
      refine ⟨fun h => ?_, fun v hv => ?_⟩
      · rw [mapGet, if_neg hn] at h
        rw [delP, if_neg hn, ih1 h]
      · rw [mapGet, if_neg hn] at hv
        obtain ⟨j, h1, h2, h3, h4⟩ := ih2 v hv
        refine ⟨j + 1, by simp [Instr.findNow, hs, h1]; omega, by simpa using h2, ?_, ?_⟩
        · rw [delP, if_neg hn]; simp [h3, hk, he]
        · rw [List.eraseIdx_cons_succ]
          cases hqe : q e with
          | true => rw [List.filter_cons_of_pos hqe, List.filter_cons_of_pos hqe, h4]
          | false => rw [List.filter_cons_of_neg (by simp [hqe]), List.filter_cons_of_neg (by simp [hqe]), h4]

theorem RangeAt.drop {P : Program} {w : World} {T kt et ty : TypeId} {b r : Nat} {L rem : List (ByteArray × Value)} (h : RangeAt w b r L rem) (hm : P.underlying T = some (.map kt et)) (hk : P.underlying kt = some .string) (n : ByteArray) (hr0 : ∀ p ∈ rem, p.1 ≠ n) (v : Value) (hv : mapGet L n = some v) :
    ∃ w', (Builtin.delete_ #[T, kt] ty #[.map (some b), .string n]).run P w = .ok (.tuple #[]) w' ∧ RangeAt w' b r (delP L n) rem ∧ w'.heap.size = w.heap.size ∧ w'.os = w.os ∧ w'.tape = w.tape ∧ w'.output = w.output ∧ (∀ j, j ≠ b → w'.heap[j]? = w.heap[j]?) := by
  have hne := h.ne
  obtain ⟨es, clk, since, seen, c0, hb, he, hs, hr, hold, hsc, hsk, hl⟩ := h
  have hl' : (es.toList.filter fun x => !seen.contains x.born).map (fun e => (e.key, e.val)) = rem.map (fun p => (Value.string p.1, p.2)) := by
    rw [← hl]; unfold leftOf; rw [Array.toList_filter]
  have hq : ∀ e ∈ es.toList, e.key = .string n → (!seen.contains e.born) = false := fun e hee hke => by
    cases hc : seen.contains e.born with
    | true => rfl
    | false =>
      obtain ⟨p, hp, h1, _⟩ := kv_inj hl' (List.mem_filter.2 ⟨hee, by rw [hc]; rfl⟩)
      rw [hke] at h1
      exact absurd (Value.string.inj h1).symm (hr0 p hp)
  obtain ⟨j, h1, h2, h3, h4⟩ := (findNow_del n (fun x => !seen.contains x.born) es.toList L 0 he hq).2 v hv
  rw [Nat.zero_add] at h1
  have hc : ∀ b, (Instr.checkKey b 10000 kt (.string n)).run P w = .ok () w := fun b => MapKept.run_checkKey (k := .string n) hk (by simp [MapKept.IsKey]) b 9999
  have hsub : (es.eraseIdxIfInBounds j).toList = es.toList.eraseIdx j := by
    unfold Array.eraseIdxIfInBounds
    rw [dif_pos (by simpa using h2)]
    simp
  have hmem : ∀ x ∈ (es.eraseIdxIfInBounds j).toList, x ∈ es.toList := fun x hx => by rw [hsub] at hx; exact (List.eraseIdx_sublist _ _).subset hx
  refine ⟨setBlock w b (.map (es.eraseIdxIfInBounds j) clk), ?_, ⟨es.eraseIdxIfInBounds j, clk, since, seen, c0, (MapKept.heap_set hb).1, by rw [hsub]; exact h3, ⟨fun x hx => hs.1 x (hmem x hx), ?_⟩, ((MapKept.heap_set hb).2 r hne).trans hr, fun x hx => hold x (hmem x hx), hsc, hsk, ?_⟩, by simp [setBlock], rfl, rfl, rfl, fun i hi => (MapKept.heap_set hb).2 i hi⟩
  · simp [Builtin.delete_, run_underlying hm, MapKept.run_getObj_map hb, hc, MapKept.run_findKey hk h1, MapKept.run_setObj_map _ hb, Result.andThen, setBlock]
  · rw [hsub]
    exact hs.2.sublist ((List.eraseIdx_sublist _ _).map _)
  · unfold leftOf
    rw [Array.toList_filter, hsub, h4]
    exact hl'
end Go.Proofs.YtakmclheffbeaaaDoor

/- Walks: bindings out of a map, in order. -/
namespace Go.Proofs.YtakmclheffbeaaaDoor
open Go.RowKit
set_option linter.unusedSimpArgs false
set_option linter.unusedVariables false
set_option maxRecDepth 8000

/-- What the library's sort does to a row of bindings. -/
def SortBinds : Prop := ∀ (cs : List Bc) (v : Value) (w : World) (N : Nat) (Y : Nat → Prop), BRow w N Y v cs → (∀ b, Y b → b < N) → cs.length < 4611686018427387904 →
  Calls Tryd.prog 45 #[v, .func (.func 46) #[] #[]] w fun e w' => e = .returned (.tuple #[]) ∧ ∃ cs' : List Bc, cs'.Perm cs ∧ (cs'.Pairwise fun x y => ltB y.1.nm x.1.nm = false) ∧ BRow w' N Y v cs' ∧ w.grownBy w' v.ownBlock

theorem Tryd.infoBind : (Tryd.prog.info? 36).map (fun i => (i.zero, i.size, i.bytes)) = some (some (.agg #[.string ByteArray.empty, .string ByteArray.empty, .slice none 0 0]), 3, 56) := by kernel_rfl

theorem cell_three_new (w : World) (c0 c1 c2 : Value) (T : Nat) : ∀ j u, [c0, c1, c2][j]? = some u → (w.alloc (.cells #[c0, c1, c2] T)).cell? ((⟨w.heap.size, 0, none⟩ : Addr).add j) = some u :=
  World.news_of_block (cs := #[c0, c1, c2]) (heap_alloc_new w _)

/-- A binding appended to a row of them. -/
theorem binds_append {w w1 : World} {N : Nat} {Y : Nat → Prop} {v : Value} {cs : List Bc} (h : BRow w N Y v cs) (hN : N ≤ w.heap.size) (hY : ∀ b, Y b → b < N) (hb : Below w.heap.size w w1) (x : Bc) (ht : Sl w1 (fun b => Y b ∨ w.heap.size ≤ b) x.2.1 x.1.t.args) (hn : cs.length ≤ 1000000) (A : Nat) (hA : w1.heap.size = A) :
    ∃ v2 w3, (Builtin.append_ #[28, 28] 28 #[v, .slice (some ⟨A, 0, none⟩) 1 1]).run Tryd.prog (w1.alloc (.cells #[.string x.1.nm, .string x.1.t.name, .slice x.2.1 x.1.t.args.length x.2.2] 36)) = .ok v2 w3 ∧ BRow w3 N Y v2 (cs ++ [x]) ∧
      (w1.alloc (.cells #[.string x.1.nm, .string x.1.t.name, .slice x.2.1 x.1.t.args.length x.2.2] 36)).grownBy w3 v.ownBlock := by
  subst hA
  obtain ⟨i0, hi, hz0, hz1, hz2⟩ := info_parts Tryd.infoBind
  have hs := hb.size
  obtain ⟨g, cap, w3, hr, ho, hg, hat, hlt⟩ := run_append_lies (P := Tryd.prog) (w := w1.alloc (.cells #[.string x.1.nm, .string x.1.t.name, .slice x.2.1 x.1.t.args.length x.2.2] 36)) 28 28 N 36 i0 _ 3 56 Tryd.underlying28 hi hz0 hz1 hz2 rfl (by decide) v cs.length (flat3 cs) ((h.below hb).own.alloc _)
    ⟨w1.heap.size, 0, none⟩ 1 1 (enc3 x) rfl (cell_three_new _ _ _ _ _) (fun y hy => by simp [enc3] at hy; rcases hy with rfl | rfl | rfl <;> rfl) (by decide) (by unfold maxLen; omega) (by omega) (by simp; omega) _ rfl
  exact ⟨_, w3, hr, h.push hN hY hb ht _ rfl ho hg hat, hg⟩

/-- What is known midway. -/
def IoInv (w : World) (Z : List Bc) (b : Nat) (u : Value) (wr : World) : Prop :=
  ∃ Zr cs : List Bc, RangeAt wr b w.heap.size (Z.map toP) (Zr.map toP) ∧ (cs.map (·.1) ++ Zr.map (·.1)).Perm (Z.map (·.1)) ∧ (∀ x ∈ Zr, x ∈ Z) ∧ BRow wr (w.heap.size + 1) (fun _ => False) u cs ∧ Below w.heap.size w wr ∧ w.heap.size + 1 ≤ wr.heap.size

set_option maxHeartbeats 1000000 in
theorem inOrder_of (HSORT : Hid SortBinds) (Z : List Bc) (b : Nat) (w : World) (X : Nat → Prop) (hM : MapAt w b (Z.map toP)) (hZ : ∀ x ∈ Z, Sl w X x.2.1 x.1.t.args) (hsz : ∀ x ∈ Z, sizeL [x.1.t] ≤ 1000000) (hlen : Z.length ≤ 1000000) (hap : ApartB (Z.map (·.1))) :
    Calls Tryd.prog 25 #[.map (some b)] w fun e w' => ∃ v ls', e = .returned v ∧ BV w' (fun b => w.heap.size ≤ b) v ls' ∧ ls'.Perm (Z.map (·.1)) ∧ SortedB ls' ∧ Below w.heap.size w w' := by
  have hbl := hM.lt
  obtain ⟨o, hrange, hR0⟩ := hM.range (P := Tryd.prog) Tryd.underlying59
  have HR0 := hide hR0
  have HZ := hide hZ
  have HSZ := hide hsz
  have HAP := hide hap
  clear hR0 hZ hsz hap hM
  go_enter Tryd.func25, Tryd.ntmps25
  go_wp2_with fail
  go_loopw [3] (fun u wr => IoInv w Z b u wr) (fun u wr => leftAt wr b w.heap.size)
  case atStart =>
    exact ⟨Z, [], HR0.out, by simp, fun _ h => h, BRow.start _ _ _, (Below.refl _ _).alloc (Nat.le_refl _) _, by simp⟩
  case round =>
    obtain ⟨Zr, cs, hR, hP, hsub, hB, hb, hz⟩ := hrel
    have HB := hide hb
    have HR := hide hR
    have HP := hide hP
    have HBR := hide hB
    clear hP hB
    rcases hR.next (P := Tryd.prog) 0 with ⟨he, hnx⟩ | ⟨p, rem', w1, hpm, hnx, hR1, hz1, ho1, ht1, hu1, hk1, hen⟩
    · have hZr : Zr = [] := by simpa using he
      subst hZr
      have HBV := hide (show cs.length < 4611686018427387904 by have := HP.out.length_eq; simp at this; omega)
      clear hR hb he
      go_wp2_with fail
      refine (HSORT.out cs u3 wr (w.heap.size + 1) (fun _ => False) HBR.out (fun _ h => h.elim) HBV.out).mono ?_
      rintro e w2 ⟨rfl, cs', hp2, hs2, hr2, hg2⟩
      have HR2 := hide hr2
      have HP2 : Hid ((cs'.map (·.1)).Perm (Z.map (·.1))) := (hp2.map _).trans (by simpa using HP.out)
      have HS2 : Hid (SortedB (cs'.map (·.1))) := sortedB_of (HAP.out.perm HP2.out) (List.pairwise_map.2 hs2)
      have HB2 : Hid (Below w.heap.size w w2) := HB.out.grown hg2 HB.out.size (fun j hj => by have := (HBR.out.own.lt j hj).1; omega)
      clear hr2 hp2 hs2 hg2
      go_wp2_with fail
      go_ret
      exact ⟨u3, _, rfl, HR2.out.bv.mono (fun b hb _ => by rcases hb with h | h; exact h.elim; omega), HP2.out, HS2.out, HB2.out⟩
    · obtain ⟨x, Z', hpx, rfl, rfl⟩ := next_lift hpm
      simp only [toP] at hnx hen
      have hxZ : x ∈ Z := hsub x (hpx.symm.subset (by simp))
      have HB1 : Hid (Below w.heap.size w w1) := ⟨ho1.trans hb.os, ht1.trans hb.tape, hu1.trans hb.output, by rw [hz1]; exact hb.size, fun j hj => (hk1 j (by omega)).trans (hb.block j hj)⟩
      have HBR1 := hide (HBR.out.kept (r := w.heap.size) (w' := w1) (by omega) (fun h => h) ho1 ht1 hu1 (by omega) (fun j hj _ => hk1 j hj))
      have HZ1 : Hid (w.heap.size + 1 ≤ w1.heap.size) := by unfold Hid; omega
      have HR1 := hide hR1
      have HX := hide (HZ.out x hxZ)
      have HXS := hide (HSZ.out x hxZ)
      have HP1 : Hid ((cs.map (·.1) ++ [x.1] ++ Z'.map (·.1)).Perm (Z.map (·.1))) := by
        have h1 : (Zr.map (·.1)).Perm (x.1 :: Z'.map (·.1)) := by simpa using hpx.map (·.1)
        have h2 := (h1.append_left (cs.map (·.1))).symm.trans HP.out
        unfold Hid
        simpa using h2
      have HSUB : Hid (∀ y ∈ Z', y ∈ Z) := fun y hy => hsub y (hpx.symm.subset (by simp [hy]))
      have HLEN : Hid (cs.length ≤ 1000000) := by have := HP.out.length_eq; simp at this; unfold Hid; omega
      have HMS : Hid (Z'.length < Zr.length) := by have := hpx.length_eq; simp at this; unfold Hid; omega
      clear hR hb hz1 ho1 ht1 hu1 hk1 hR1 hpm hpx hsub hxZ
      go_wp2_with fail
      have HB2 := hide (HB1.out.alloc HB1.out.size (.cells #[.string x.1.t.name, .slice x.2.1 x.1.t.args.length x.2.2] 24))
      have HBR2 := hide (HBR1.out.below ((Below.refl _ _).alloc (Nat.le_refl _) (.cells #[.string x.1.t.name, .slice x.2.1 x.1.t.args.length x.2.2] 24)))
      have HR2 := hide (HR1.out.below ((Below.refl _ _).alloc (Nat.le_refl _) (.cells #[.string x.1.t.name, .slice x.2.1 x.1.t.args.length x.2.2] 24)) (by have := HZ1.out; omega) HR1.out.lt)
      have HZ2 : Hid (w.heap.size + 1 ≤ (w1.alloc (.cells #[.string x.1.t.name, .slice x.2.1 x.1.t.args.length x.2.2] 24)).heap.size) := by have := HZ1.out; unfold Hid; simp; omega
      clear hnx hen
      generalize w1.alloc (.cells #[.string x.1.t.name, .slice x.2.1 x.1.t.args.length x.2.2] 24) = w2 at *
      refine (copyOf_any x.1.t _ w2 X ⟨_, _, rfl, HX.out.later HB2.out⟩ HXS.out).mono ?_
      rintro e w3 ⟨v3, rfl, ⟨a3, c3, rfl, hs3⟩, hb3⟩
      have hz3 := hb3.size
      obtain ⟨v4, w4, hrun, hB4, hg4⟩ := binds_append HBR2.out HZ2.out (fun _ h => h.elim) hb3 (x.1, a3, c3) (hs3.mono fun b h _ => Or.inr h) HLEN.out w3.heap.size rfl
      have HRUN := hide hrun
      have HB4 := hide hB4
      have hlt := HBR2.out.own.lt
      have HBB : Hid (Below w.heap.size w w4) := ((HB2.out.trans (hb3.mono HB2.out.size)).alloc (by have := HZ2.out; omega) _).grown hg4 (by have := HZ2.out; simp; omega) (fun j hj => by have := (hlt j hj).1; omega)
      have HR4 : Hid (RangeAt w4 b w.heap.size (Z.map toP) (Z'.map toP)) := by
        have hz2 := HZ2.out
        refine HR2.out.kept ?_ ?_
        · rw [hg4.block b (by simp; omega) (HBR2.out.ne (by omega)), Below.heap_alloc _ _ _ (by omega), hb3.block b (by omega)]
        · rw [hg4.block w.heap.size (by simp; omega) (HBR2.out.ne (by omega)), Below.heap_alloc _ _ _ (by omega), hb3.block w.heap.size (by omega)]
      have HZ4 : Hid (w.heap.size + 1 ≤ w4.heap.size) := by have := hg4.size; have := HZ2.out; simp at *; unfold Hid; omega
      clear hs3 hb3 hrun hB4 hg4 hlt hz3
      go_wp2_with (at_builtin; refine wpList_append_eq rfl _ _ _ _ rfl rfl rfl HRUN.out ?_)
      go_roundw
      case rel => exact ⟨Z', _, HR4.out, by simpa using HP1.out, HSUB.out, HB4.out, HBB.out, HZ4.out⟩
      case measure =>
        rw [HR4.out.left, HR.out.left]
        have := HMS.out
        simpa using this
end Go.Proofs.YtakmclheffbeaaaDoor

/- Rows of pairs that a call makes. -/
namespace Go.Proofs.YtakmclheffbeaaaDoor
open Go.RowKit
set_option linter.unusedSimpArgs false
set_option linter.unusedVariables false

/-- A pair, and where those below its terms' first knots lie. -/
abbrev Pc := Pr × (Option Addr × Nat) × (Option Addr × Nat)
instance : Inhabited Pc := ⟨(⟨⟨⟨#[]⟩, []⟩, ⟨⟨#[]⟩, []⟩⟩, (none, 0), (none, 0))⟩
def enc4 (x : Pc) : List Value := [.string x.1.l.name, .slice x.2.1.1 x.1.l.args.length x.2.1.2, .string x.1.r.name, .slice x.2.2.1 x.1.r.args.length x.2.2.2]
def flat4 : List Pc → List Value
  | [] => []
  | x :: r => enc4 x ++ flat4 r
theorem flat4_append (b : List Pc) : ∀ a, flat4 (a ++ b) = flat4 a ++ flat4 b
  | [] => rfl
  | x :: r => by rw [List.cons_append, flat4, flat4, flat4_append b r, List.append_assoc]
theorem flat4_get : ∀ (a : List Pc) (i : Nat) (h : i < a.length) (j : Nat), j < 4 → (flat4 a)[i * 4 + j]? = (enc4 a[i])[j]?
  | [], i, h, j, hj => by simp at h
  | x :: r, 0, h, j, hj => by
    rw [flat4, List.getElem?_append_left (by simp [enc4]; omega)]; simp
  | x :: r, i + 1, h, j, hj => by
    rw [flat4, List.getElem?_append_right (by simp [enc4]; omega)]
    have e : (i + 1) * 4 + j - (enc4 x).length = i * 4 + j := by simp [enc4]; omega
    rw [e, flat4_get r i (by simpa using h) j hj]
    simp

/-- The row so far, apart from what its terms are made of: old memory that Y lets, and new memory. -/
structure QRow (w : World) (N : Nat) (Y : Nat → Prop) (v : Value) (cs : List Pc) : Prop where
  own : w.ownsRow N 34 4 v cs.length (flat4 cs)
  row : ∀ x ∈ cs, Sl w (fun b => Y b ∨ (N ≤ b ∧ some b ≠ v.ownBlock)) x.2.1.1 x.1.l.args ∧ Sl w (fun b => Y b ∨ (N ≤ b ∧ some b ≠ v.ownBlock)) x.2.2.1 x.1.r.args

theorem QRow.start (w : World) (N : Nat) (Y : Nat → Prop) : QRow w N Y (.slice none 0 0) [] := ⟨World.ownsRow_nil w N _ 4, by simp⟩
theorem QRow.below {w w' : World} {N : Nat} {Y : Nat → Prop} {v : Value} {cs : List Pc} (h : QRow w N Y v cs) (hb : Below w.heap.size w w') : QRow w' N Y v cs :=
  ⟨h.own.kept (w' := w') (row := none) ⟨hb.os, hb.tape, hb.output, hb.size, fun j hj _ => hb.block j hj⟩ (by rcases Option.eq_none_or_eq_some (Value.ownBlock v) with h | ⟨x, h⟩; exact Or.inl h; exact Or.inr (by rw [h]; simp)),
   fun x hx => ⟨(h.row x hx).1.later hb, (h.row x hx).2.later hb⟩⟩
theorem QRow.ne {w : World} {N : Nat} {Y : Nat → Prop} {v : Value} {cs : List Pc} (h : QRow w N Y v cs) {b : Nat} (hb : b < N) : some b ≠ v.ownBlock := fun e => by
  have := (h.own.lt b e.symm).1; omega
/-- One more: the pair's cells have been laid into a block of their own, and appended. -/
theorem QRow.push {w w1 w2 w3 : World} {N : Nat} {Y : Nat → Prop} {v : Value} {cs : List Pc} (h : QRow w N Y v cs) (hN : N ≤ w.heap.size) (hY : ∀ b, Y b → b < N) (hb : Below w.heap.size w w1) {x : Pc}
    (ht : Sl w1 (fun b => Y b ∨ w.heap.size ≤ b) x.2.1.1 x.1.l.args ∧ Sl w1 (fun b => Y b ∨ w.heap.size ≤ b) x.2.2.1 x.1.r.args) (o : Obj) (hw2 : w2 = w1.alloc o) {g cap : Nat}
    (hown : w3.ownsRow N 34 4 (.slice (some ⟨g, 0, none⟩) (cs.length + 1) cap) (cs.length + 1) (flat4 cs ++ enc4 x)) (hg : w2.grownBy w3 v.ownBlock) (hg1 : v.ownBlock = some g ∨ g = w2.heap.size) :
    QRow w3 N Y (.slice (some ⟨g, 0, none⟩) (cs.length + 1) cap) (cs ++ [x]) := by
  subst hw2
  have hlt := h.own.lt
  have hsz : w1.heap.size ≤ (w1.alloc o).heap.size := by simp
  have hbs := hb.size
  have hgN : N ≤ g := by
    rcases hg1 with e | e
    · exact (hlt g e).1
    · simp at e; omega
  have old : ∀ (a : Option Addr) (l : List Tm), Sl w (fun b => Y b ∨ (N ≤ b ∧ some b ≠ v.ownBlock)) a l → Sl w3 (fun b => Y b ∨ (N ≤ b ∧ some b ≠ (Value.slice (some ⟨g, 0, none⟩) (cs.length + 1) cap).ownBlock)) a l := fun a l h0 => by
    have h1 : Sl w (fun b => (Y b ∨ (N ≤ b ∧ some b ≠ v.ownBlock)) ∧ b < w.heap.size) a l := h0.mono fun b h1 h2 => ⟨h1, h2⟩
    have h2 : Sl w3 (fun b => (Y b ∨ (N ≤ b ∧ some b ≠ v.ownBlock)) ∧ b < w.heap.size) a l := h1.kept fun b hx => by
      have hne : some b ≠ v.ownBlock := by
        rcases hx.1 with hy | hy
        · exact h.ne (hY b hy)
        · exact hy.2
      rw [hg.block b (by simp; omega) hne, Below.heap_alloc _ _ _ (by omega), hb.block b hx.2]
    refine h2.mono fun b hx _ => ?_
    rcases hx.1 with hy | hy
    · exact Or.inl hy
    · refine Or.inr ⟨hy.1, fun e => ?_⟩
      simp [Value.ownBlock] at e
      rcases hg1 with e' | e'
      · exact hy.2 (by rw [e', e])
      · simp at e'; omega
  have new : ∀ (a : Option Addr) (l : List Tm), Sl w1 (fun b => Y b ∨ w.heap.size ≤ b) a l → Sl w3 (fun b => Y b ∨ (N ≤ b ∧ some b ≠ (Value.slice (some ⟨g, 0, none⟩) (cs.length + 1) cap).ownBlock)) a l := fun a l h0 => by
    have h1 : Sl w1 (fun b => (Y b ∨ w.heap.size ≤ b) ∧ b < w1.heap.size) a l := h0.mono fun b h1 h2 => ⟨h1, h2⟩
    have h2 : Sl w3 (fun b => (Y b ∨ w.heap.size ≤ b) ∧ b < w1.heap.size) a l := h1.kept fun b hx => by
      have hne : some b ≠ v.ownBlock := by
        rcases hx.1 with hy | hy
        · exact h.ne (hY b hy)
        · intro e; have := (hlt b e.symm).2; omega
      rw [hg.block b (by simp; omega) hne, Below.heap_alloc _ _ _ hx.2]
    refine h2.mono fun b hx _ => ?_
    rcases hx.1 with hy | hy
    · exact Or.inl hy
    · refine Or.inr ⟨by omega, fun e => ?_⟩
      simp [Value.ownBlock] at e
      rcases hg1 with e' | e'
      · have := (hlt g e').2; omega
      · simp at e'; omega
  refine ⟨by rw [flat4_append]; simpa [flat4] using hown, fun y hy => ?_⟩
  rcases List.mem_append.1 hy with hy | hy
  · exact ⟨old _ _ (h.row y hy).1, old _ _ (h.row y hy).2⟩
  · have e : y = x := by simpa using hy
    subst e
    exact ⟨new _ _ ht.1, new _ _ ht.2⟩

/-- As a list of pairs. -/
theorem QRow.qv {w : World} {N : Nat} {Y : Nat → Prop} {v : Value} {cs : List Pc} (h : QRow w N Y v cs) : QV w (fun b => Y b ∨ N ≤ b) v (cs.map (·.1)) := by
  have hml : cs.length ≤ 9223372036854775807 := by
    rcases h.own.2 with ⟨_, h0⟩ | ⟨g, cap, cur, _, _, _, h1, h2, _⟩
    · omega
    · unfold maxLen at h2; omega
  by_cases h0 : 0 < cs.length
  · obtain ⟨g, cap, rfl, hg, hlt, hc⟩ := owned_val h.own h0
    have hcap : cs.length ≤ cap := by
      rcases h.own.2 with ⟨e, _⟩ | ⟨g', cap', cur, e, _, _, h1, _⟩
      · cases e
      · simp at e; omega
    refine ⟨_, cap, by simp, ⟨by simpa using hml, by simpa using hcap⟩, Or.inr ⟨g, 0, rfl, Or.inr hg, fun i hi => ?_⟩⟩
    have hi' : i < cs.length := by simpa using hi
    have g0 := hc (i * 4 + 0) (.string cs[i].1.l.name) (by rw [flat4_get cs i hi' 0 (by decide)]; rfl)
    have g1 := hc (i * 4 + 1) (.slice cs[i].2.1.1 cs[i].1.l.args.length cs[i].2.1.2) (by rw [flat4_get cs i hi' 1 (by decide)]; rfl)
    have g2 := hc (i * 4 + 2) (.string cs[i].1.r.name) (by rw [flat4_get cs i hi' 2 (by decide)]; rfl)
    have g3 := hc (i * 4 + 3) (.slice cs[i].2.2.1 cs[i].1.r.args.length cs[i].2.2.2) (by rw [flat4_get cs i hi' 3 (by decide)]; rfl)
    simp only [List.getElem_map, Nat.zero_add]
    obtain ⟨r1, r2⟩ := h.row cs[i] (List.getElem_mem hi')
    exact ⟨_, _, _, _, g0, g1, g2, g3, r1.mono fun b hb _ => hb.imp id (fun h => h.1), r2.mono fun b hb _ => hb.imp id (fun h => h.1)⟩
  · have e : cs = [] := List.length_eq_zero_iff.1 (by omega)
    subst e
    rcases h.own.2 with ⟨hv, _⟩ | ⟨g, cap, cur, hv, _⟩
    · exact ⟨none, 0, hv, by simp, Or.inl rfl⟩
    · exact ⟨_, _, hv, by simp, Or.inl rfl⟩

theorem Tryd.infoPair : (Tryd.prog.info? 34).map (fun i => (i.zero, i.size, i.bytes)) = some (some (.agg #[.string ByteArray.empty, .slice none 0 0, .string ByteArray.empty, .slice none 0 0]), 4, 80) := by kernel_rfl
end Go.Proofs.YtakmclheffbeaaaDoor

/- But for one block the world is as it was. -/
namespace Go.Proofs.YtakmclheffbeaaaDoor
open Go.RowKit
set_option linter.unusedSimpArgs false
set_option linter.unusedVariables false
set_option maxRecDepth 8000

/-- But for block B the world is as it was. -/
structure Ex (B : Nat) (w w' : World) : Prop where
  os : w'.os = w.os
  tape : w'.tape = w.tape
  output : w'.output = w.output
  size : w.heap.size ≤ w'.heap.size
  block : ∀ k, k < w.heap.size → k ≠ B → w'.heap[k]? = w.heap[k]?
theorem Ex.refl (B : Nat) (w : World) : Ex B w w := ⟨rfl, rfl, rfl, Nat.le_refl _, fun _ _ _ => rfl⟩
theorem Ex.trans {B : Nat} {a b c : World} (h : Ex B a b) (k : Ex B b c) : Ex B a c :=
  ⟨k.os.trans h.os, k.tape.trans h.tape, k.output.trans h.output, Nat.le_trans h.size k.size, fun i hi hn => (k.block i (Nat.lt_of_lt_of_le hi h.size) hn).trans (h.block i hi hn)⟩
theorem Ex.drewN {B : Nat} {a w : World} (h : Ex B a w) (n : Nat) : Ex B a (w.drewN n) := ⟨h.os, h.tape, h.output, h.size, h.block⟩
theorem Ex.drew {B : Nat} {a w : World} (h : Ex B a w) : Ex B a w.drew := ⟨h.os, h.tape, h.output, h.size, h.block⟩
theorem Ex.set {B : Nat} {a w : World} (h : Ex B a w) (i : Nat) (v : Value) : Ex B a (w.setCell ⟨B, i, none⟩ v) :=
  ⟨h.os, h.tape, h.output, by simpa [World.setCell] using h.size, fun k hk hn => (Below.heap_setCell _ _ _ _ (by simpa using hn)).trans (h.block k hk hn)⟩

theorem Ex.alloc {B : Nat} {a w : World} (h : Ex B a w) (o : Obj) : Ex B a (w.alloc o) :=
  ⟨h.os, h.tape, h.output, by have := h.size; simp; omega, fun k hk hn => (Below.heap_alloc _ _ _ (Nat.lt_of_lt_of_le hk h.size)).trans (h.block k hk hn)⟩

theorem Blk.ex {w w' : World} {B b T : Nat} {cs : Array Value} (h : Blk w b cs T) (he : Ex B w w') (hne : b ≠ B) : Blk w' b cs T := by
  unfold Blk at *
  rw [he.block b (Blk.lt h) hne]; exact h
theorem Ex.mid {B : Nat} {w w1 : World} (h : Ex B w w1) : ∃ wm, Below wm.heap.size wm w1 ∧ wm.heap.size = w.heap.size ∧ Ex B w wm := by
  by_cases hB : B < w.heap.size
  · have hB1 : B < w1.heap.size := Nat.lt_of_lt_of_le hB h.size
    refine ⟨{ w with heap := w.heap.setIfInBounds B w1.heap[B] }, ⟨h.os, h.tape, h.output, by simpa using h.size, fun k hk => ?_⟩, by simp, ⟨rfl, rfl, rfl, by simp, fun k hk hn => ?_⟩⟩
    · simp at hk
      by_cases e : k = B
      · subst e
        simp [Array.getElem?_setIfInBounds, hB, hB1]
      · rw [h.block k hk e]
        simp [Array.getElem?_setIfInBounds, Ne.symm e]
    · simp [Array.getElem?_setIfInBounds, Ne.symm hn]
  · exact ⟨w, ⟨h.os, h.tape, h.output, h.size, fun k hk => h.block k hk (by omega)⟩, rfl, Ex.refl _ _⟩

theorem Row.ex {w w' : World} {B N T : Nat} {Y : Nat → Prop} {v : Value} {l : List Tm} {xs : List Value} (h : Row w N T Y v l xs) (he : Ex B w w') (hB : B < N) (hY : ¬ Y B) : Row w' N T Y v l xs :=
  ⟨h.own.kept (w' := w') (row := some B) ⟨he.os, he.tape, he.output, he.size, fun j hj hn => he.block j hj (fun e => hn (by rw [e]))⟩ (Or.inr (fun e => by have := (h.own.lt B e).1; omega)),
   h.row.imp fun a l hs => ((hs.mono (Y := fun b => (Y b ∨ (N ≤ b ∧ some b ≠ v.ownBlock)) ∧ b < w.heap.size) fun b h1 h2 => ⟨h1, h2⟩).kept fun b hb => he.block b hb.2 (fun e => by
     rcases hb.1 with h1 | h1
     · rw [e] at h1; exact hY h1
     · omega)).mono fun b hb _ => hb.1⟩

theorem Ex.grown {B : Nat} {a w w' : World} {row : Option Nat} (h : Ex B a w) (hg : w.grownBy w' row) (hr : ∀ k, row = some k → a.heap.size ≤ k) : Ex B a w' :=
  ⟨hg.os.trans h.os, hg.tape.trans h.tape, hg.output.trans h.output, Nat.le_trans h.size hg.size, fun k hk hn => (hg.block k (Nat.lt_of_lt_of_le hk h.size) (fun e => by have := hr k e.symm; omega)).trans (h.block k hk hn)⟩
theorem Ex.setNew {B : Nat} {a w : World} (h : Ex B a w) {b : Nat} (hb : a.heap.size ≤ b) (i : Nat) (v : Value) : Ex B a (w.setCell ⟨b, i, none⟩ v) :=
  ⟨h.os, h.tape, h.output, by simpa [World.setCell] using h.size, fun k hk hn => (Below.heap_setCell _ _ _ _ (by simp; omega)).trans (h.block k hk hn)⟩

end Go.Proofs.YtakmclheffbeaaaDoor

/- But for some blocks the world is as it was. -/
namespace Go.Proofs.YtakmclheffbeaaaDoor
open Go.RowKit
set_option linter.unusedSimpArgs false
set_option linter.unusedVariables false
set_option maxRecDepth 8000

/-- But for the blocks that Q names the world is as it was. -/
structure ExQ (Q : Nat → Prop) (w w' : World) : Prop where
  os : w'.os = w.os
  tape : w'.tape = w.tape
  output : w'.output = w.output
  size : w.heap.size ≤ w'.heap.size
  block : ∀ k, k < w.heap.size → ¬ Q k → w'.heap[k]? = w.heap[k]?
theorem ExQ.refl (Q : Nat → Prop) (w : World) : ExQ Q w w := ⟨rfl, rfl, rfl, Nat.le_refl _, fun _ _ _ => rfl⟩
theorem ExQ.trans {Q : Nat → Prop} {a b c : World} (h : ExQ Q a b) (k : ExQ Q b c) : ExQ Q a c :=
  ⟨k.os.trans h.os, k.tape.trans h.tape, k.output.trans h.output, Nat.le_trans h.size k.size, fun i hi hn => (k.block i (Nat.lt_of_lt_of_le hi h.size) hn).trans (h.block i hi hn)⟩
/-- One behind the other, the second naming blocks that the first world had not. -/
theorem ExQ.transN {Q R : Nat → Prop} {a b c : World} (h : ExQ Q a b) (k : ExQ R b c) (hR : ∀ i, R i → i < a.heap.size → Q i) : ExQ Q a c :=
  ⟨k.os.trans h.os, k.tape.trans h.tape, k.output.trans h.output, Nat.le_trans h.size k.size, fun i hi hn => (k.block i (Nat.lt_of_lt_of_le hi h.size) (fun hr => hn (hR i hr hi))).trans (h.block i hi hn)⟩
theorem ExQ.mono {Q R : Nat → Prop} {a b : World} (h : ExQ Q a b) (hR : ∀ i, Q i → i < a.heap.size → R i) : ExQ R a b := ⟨h.os, h.tape, h.output, h.size, fun i hi hn => h.block i hi (fun hq => hn (hR i hq hi))⟩
theorem ExQ.drewN {Q : Nat → Prop} {a w : World} (h : ExQ Q a w) (n : Nat) : ExQ Q a (w.drewN n) := ⟨h.os, h.tape, h.output, h.size, h.block⟩
theorem ExQ.drew {Q : Nat → Prop} {a w : World} (h : ExQ Q a w) : ExQ Q a w.drew := ⟨h.os, h.tape, h.output, h.size, h.block⟩
theorem ExQ.set {Q : Nat → Prop} {a w : World} (h : ExQ Q a w) {B : Nat} (hB : Q B) (i : Nat) (v : Value) : ExQ Q a (w.setCell ⟨B, i, none⟩ v) :=
  ⟨h.os, h.tape, h.output, by simpa [World.setCell] using h.size, fun k hk hn => (Below.heap_setCell _ _ _ _ (by simp; intro e; subst e; exact hn hB)).trans (h.block k hk hn)⟩
theorem ExQ.alloc {Q : Nat → Prop} {a w : World} (h : ExQ Q a w) (o : Obj) : ExQ Q a (w.alloc o) :=
  ⟨h.os, h.tape, h.output, by have := h.size; simp; omega, fun k hk hn => (Below.heap_alloc _ _ _ (Nat.lt_of_lt_of_le hk h.size)).trans (h.block k hk hn)⟩
theorem ExQ.grown {Q : Nat → Prop} {a w w' : World} {row : Option Nat} (h : ExQ Q a w) (hg : w.grownBy w' row) (hr : ∀ k, row = some k → a.heap.size ≤ k ∨ Q k) : ExQ Q a w' :=
  ⟨hg.os.trans h.os, hg.tape.trans h.tape, hg.output.trans h.output, Nat.le_trans h.size hg.size, fun k hk hn => (hg.block k (Nat.lt_of_lt_of_le hk h.size) (fun e => by rcases hr k e.symm with h1 | h1; omega; exact hn h1)).trans (h.block k hk hn)⟩
theorem ExQ.setNew {Q : Nat → Prop} {a w : World} (h : ExQ Q a w) {b : Nat} (hb : a.heap.size ≤ b) (i : Nat) (v : Value) : ExQ Q a (w.setCell ⟨b, i, none⟩ v) :=
  ⟨h.os, h.tape, h.output, by simpa [World.setCell] using h.size, fun k hk hn => (Below.heap_setCell _ _ _ _ (by simp; omega)).trans (h.block k hk hn)⟩
theorem ExQ.ofBelow {Q : Nat → Prop} {w w' : World} (h : Below w.heap.size w w') : ExQ Q w w' := ⟨h.os, h.tape, h.output, h.size, fun k hk _ => h.block k hk⟩
theorem ExQ.below {Q : Nat → Prop} {w w' : World} {B : Nat} (h : ExQ Q w w') (hB : B ≤ w.heap.size) (hQ : ∀ b, Q b → B ≤ b) : Below B w w' :=
  ⟨h.os, h.tape, h.output, h.size, fun k hk => h.block k (by omega) (fun hq => by have := hQ k hq; omega)⟩
theorem Blk.exq {w w' : World} {Q : Nat → Prop} {b T : Nat} {cs : Array Value} (h : Blk w b cs T) (he : ExQ Q w w') (hne : ¬ Q b) : Blk w' b cs T := by
  unfold Blk at *
  rw [he.block b (Blk.lt h) hne]; exact h
theorem Sl.exq {w w' : World} {Q X : Nat → Prop} {a : Option Addr} {l : List Tm} (h : Sl w X a l) (he : ExQ Q w w') (hX : ∀ b, X b → ¬ Q b) : Sl w' X a l :=
  ((h.mono (Y := fun b => X b ∧ b < w.heap.size) fun b h1 h2 => ⟨h1, h2⟩).kept fun b hb => he.block b hb.2 (hX b hb.1)).mono fun b hb _ => hb.1
theorem ExQ.mid {Q : Nat → Prop} {w w1 : World} (h : ExQ Q w w1) : ∃ wm, Below wm.heap.size wm w1 ∧ wm.heap.size = w.heap.size ∧ ExQ Q w wm := by
  have hs := h.size
  have hz : (w1.heap.extract 0 w.heap.size).size = w.heap.size := by simp; omega
  refine ⟨{ w1 with heap := w1.heap.extract 0 w.heap.size }, ⟨rfl, rfl, rfl, by simp; omega, fun k hk => ?_⟩, hz, ⟨h.os, h.tape, h.output, by simp [hz], fun k hk hn => ?_⟩⟩
  · have hk2 : k < w.heap.size := by simp at hk; omega
    simp [Array.getElem?_extract, hk2]
    omega
  · rw [← h.block k hk hn]
    simp [Array.getElem?_extract, hk]
    omega
theorem ownsRow_at {w w' : World} {base e size n : Nat} {v : Value} {xs : List Value} (h : w.ownsRow base e size v n xs) (hk : ∀ g, v.ownBlock = some g → w'.heap[g]? = w.heap[g]?) : w'.ownsRow base e size v n xs := by
  obtain ⟨hl, h1⟩ := h
  refine ⟨hl, ?_⟩
  rcases h1 with h1 | ⟨g, cap, cur, hv, hg, hh, hr⟩
  · exact Or.inl h1
  · refine Or.inr ⟨g, cap, cur, hv, hg, ?_, hr⟩
    rw [hk g (by rw [hv]; rfl)]
    exact hh
theorem Row.exq {w w' : World} {Q : Nat → Prop} {N T : Nat} {Y : Nat → Prop} {v : Value} {l : List Tm} {xs : List Value} (h : Row w N T Y v l xs) (he : ExQ Q w w') (hQ : ∀ b, Q b → b < N) (hY : ∀ b, Q b → ¬ Y b) : Row w' N T Y v l xs :=
  ⟨ownsRow_at h.own fun g hg => he.block g (h.own.lt g hg).2 (fun hq => by have := hQ g hq; have := (h.own.lt g hg).1; omega),
   h.row.imp fun a l hs => hs.exq he fun b hb hq => by
     rcases hb with h1 | h1
     · exact hY b hq h1
     · have := hQ b hq; omega⟩
theorem BRow.exq {w w' : World} {Q : Nat → Prop} {N : Nat} {Y : Nat → Prop} {v : Value} {cs : List Bc} (h : BRow w N Y v cs) (he : ExQ Q w w') (hQ : ∀ b, Q b → b < N) (hY : ∀ b, Q b → ¬ Y b) : BRow w' N Y v cs :=
  ⟨ownsRow_at h.own fun g hg => he.block g (h.own.lt g hg).2 (fun hq => by have := hQ g hq; have := (h.own.lt g hg).1; omega),
   fun x hx => (h.row x hx).exq he fun b hb hq => by
     rcases hb with h1 | h1
     · exact hY b hq h1
     · have := hQ b hq; omega⟩
end Go.Proofs.YtakmclheffbeaaaDoor

/- Lists of things of one cell each. -/
namespace Go.Proofs.YtakmclheffbeaaaDoor
open Go.RowKit
set_option linter.unusedSimpArgs false
set_option linter.unusedVariables false

/-- A list in memory, a cell each. -/
def LV {α : Type} (f : α → Value) (w : World) (X : Nat → Prop) (v : Value) (l : List α) : Prop :=
  ∃ a c, v = .slice a l.length c ∧ (l.length ≤ 9223372036854775807 ∧ l.length ≤ c) ∧ (l = [] ∨ ∃ b o, a = some ⟨b, o, none⟩ ∧ X b ∧ ∀ i (h : i < l.length), w.cell? ⟨b, o + i, none⟩ = some (f l[i]))

theorem LV.kept {α : Type} {f : α → Value} {w w' : World} {X : Nat → Prop} {v : Value} {l : List α} (h : LV f w X v l) (hk : ∀ b, X b → w'.heap[b]? = w.heap[b]?) : LV f w' X v l := by
  obtain ⟨a, c, e, hl, h⟩ := h
  refine ⟨a, c, e, hl, ?_⟩
  rcases h with h | ⟨b, o, e, hx, h⟩
  · exact Or.inl h
  · exact Or.inr ⟨b, o, e, hx, fun i hi => by rw [World.cell?_of_block (hk b hx)]; exact h i hi⟩

theorem LV.mono {α : Type} {f : α → Value} {w : World} {X Y : Nat → Prop} {v : Value} {l : List α} (h : LV f w X v l) (hk : ∀ b, X b → b < w.heap.size → Y b) : LV f w Y v l := by
  obtain ⟨a, c, e, hl, h⟩ := h
  refine ⟨a, c, e, hl, ?_⟩
  rcases h with h | ⟨b, o, e, hx, h⟩
  · exact Or.inl h
  · by_cases h0 : l = []
    · exact Or.inl h0
    · have hp : 0 < l.length := List.length_pos_iff.2 h0
      exact Or.inr ⟨b, o, e, hk b hx (World.block_lt_of_cell? w _ (h 0 hp)), h⟩

theorem LV.below {α : Type} {f : α → Value} {w w' : World} {X : Nat → Prop} {v : Value} {l : List α} {B : Nat} (h : LV f w X v l) (hb : Below B w w') (hX : ∀ b, X b → b < w.heap.size → b < B) : LV f w' X v l := by
  have h1 : LV f w (fun b => X b ∧ b < B) v l := h.mono fun b hx hs => ⟨hx, hX b hx hs⟩
  have h2 : LV f w' (fun b => X b ∧ b < B) v l := h1.kept fun b hx => hb.block b hx.2
  exact h2.mono fun b hx _ => hx.1

theorem LV.later {α : Type} {f : α → Value} {w w' : World} {X : Nat → Prop} {v : Value} {l : List α} (h : LV f w X v l) (hb : Below w.heap.size w w') : LV f w' X v l := h.below hb (fun _ _ h => h)
theorem LV.alloc {α : Type} {f : α → Value} {w : World} {X : Nat → Prop} {v : Value} {l : List α} (h : LV f w X v l) (o : Obj) : LV f (w.alloc o) X v l := h.later ((Below.refl _ _).alloc (Nat.le_refl _) o)

/-- Out of a row that a call owns. -/
theorem LV.of_own {α : Type} {f : α → Value} {w : World} {N T : Nat} {v : Value} {l : List α} (h : w.ownsRow N T 1 v l.length (l.map f)) : LV f w (fun b => N ≤ b) v l := by
  have h' := h
  obtain ⟨_, h1⟩ := h
  rcases h1 with ⟨rfl, h0⟩ | ⟨g, cap, cur, hv, hg, hh, hnc, hcm, _⟩
  · have e : l = [] := List.length_eq_zero_iff.1 h0
    subst e
    exact ⟨none, 0, rfl, by simp, Or.inl rfl⟩
  · unfold maxLen at hcm
    refine ⟨some ⟨g, 0, none⟩, cap, hv, ⟨by omega, hnc⟩, ?_⟩
    by_cases h0 : l = []
    · exact Or.inl h0
    · have hp : 0 < l.length := List.length_pos_iff.2 h0
      obtain ⟨g2, cap2, hv2, _, _, hc⟩ := owned_val h' hp
      rw [hv] at hv2
      simp at hv2
      obtain ⟨rfl, rfl⟩ := hv2
      exact Or.inr ⟨g, 0, rfl, hg, fun i hi => by rw [Nat.zero_add]; exact hc i _ (by simp [hi])⟩
end Go.Proofs.YtakmclheffbeaaaDoor


/- Walks: lists that are the same; whether a text is in a list. -/
namespace Go.Proofs.YtakmclheffbeaaaDoor
open Go.RowKit
set_option linter.unusedSimpArgs false
set_option linter.unusedVariables false

/-- Is a text in a list? -/
def inB (x : ByteArray) (l : List ByteArray) : Bool := l.any fun y => y.toList == x.toList
theorem inB_take {x : ByteArray} {l : List ByteArray} {k : Nat} (h : k < l.length) (h0 : inB x (l.take k) = false) (h1 : (l[k].toList == x.toList) = false) : inB x (l.take (k + 1)) = false := by
  unfold inB at *
  rw [List.take_succ_eq_append_getElem h, List.any_append, h0]
  simpa using h1
theorem inB_yes {x : ByteArray} {l : List ByteArray} {k : Nat} (h : k < l.length) (h1 : (l[k].toList == x.toList) = true) : inB x l = true := by
  unfold inB
  rw [List.any_eq_true]
  exact ⟨l[k], List.getElem_mem h, h1⟩

set_option maxHeartbeats 400000 in
theorem in_any (x : ByteArray) (l : List ByteArray) (v : Value) (w : World) (X : Nat → Prop) (hv : LV Value.string w X v l) :
    Calls Tryd.prog 32 #[.string x, v] w fun e w' => e = .returned (.bool (inB x l)) ∧ w' = w := by
  obtain ⟨a, c, rfl, ⟨hl, _⟩, h1⟩ := hv
  go_enter Tryd.func32, Tryd.ntmps32
  go_wp2_with fail
  go_loop [5] (fun i => ∃ k : Nat, k ≤ l.length ∧ i = .int .i64 k ∧ inB x (l.take k) = false) (fun i => l.length - (intOf i).toNat)
  case atStart => exact ⟨0, Nat.zero_le _, rfl, by simp [inB]⟩
  case round =>
    obtain ⟨k, hk, rfl, ha⟩ := hrel
    have HA := hide ha
    clear ha
    by_cases hlt : k < l.length
    · obtain ⟨b, o, rfl, _, hc⟩ := h1.resolve_left (fun h => by rw [h] at hlt; simp at hlt)
      have d1 := hc k hlt
      clear hc h1
      cases hq : (l[k].toList == x.toList) with
      | true =>
        have HQ := hide (inB_yes hlt hq)
        go_wp2_with fail
        go_ret
        exact ⟨ret_bool HQ.out.symm, rfl⟩
      | false =>
        have HQ := hide (inB_take hlt HA.out hq)
        go_wp2_with fail
        go_round
        case rel => exact ⟨k + 1, by omega, by go_num, HQ.out⟩
        case measure => simp [intOf]; omega
    · have htk : l.take k = l := List.take_of_length_le (by omega)
      have HF : Hid (false = inB x l) := by unfold Hid; rw [← HA.out, htk]
      go_wp2_with fail
      go_ret
      exact ⟨ret_bool HF.out, rfl⟩
end Go.Proofs.YtakmclheffbeaaaDoor


/- Walks: the variables of a term, each once. -/
namespace Go.Proofs.YtakmclheffbeaaaDoor
open Go.RowKit
set_option linter.unusedSimpArgs false
set_option linter.unusedVariables false

theorem Tryd.infoStr : (Tryd.prog.info? 9).map (fun i => (i.zero, i.size, i.bytes)) = some (some (.string ByteArray.empty), 1, 16) := by kernel_rfl

/-- A variable more. -/
def addV (acc : List ByteArray) (s : ByteArray) : List ByteArray := if (varB s && !inB s acc) = true then acc ++ [s] else acc
/-- The variables of knots, as they come. -/
def varsP (acc : List ByteArray) (ks : List Tm) : List ByteArray := ks.foldl (fun acc k => addV acc k.name) acc

theorem addV_yes {acc : List ByteArray} {s : ByteArray} (h : varB s = true) (h2 : inB s acc = false) : addV acc s = acc ++ [s] := by simp [addV, h, h2]
theorem addV_in {acc : List ByteArray} {s : ByteArray} (h : varB s = true) (h2 : inB s acc = true) : addV acc s = acc := by simp [addV, h, h2]
theorem addV_no {acc : List ByteArray} {s : ByteArray} (h : varB s = false) : addV acc s = acc := by simp [addV, h]
theorem addV_len (acc : List ByteArray) (s : ByteArray) : (addV acc s).length ≤ acc.length + 1 := by
  unfold addV; split <;> simp
theorem varsP_append (acc : List ByteArray) (a b : List Tm) : varsP acc (a ++ b) = varsP (varsP acc a) b := by simp [varsP, List.foldl_append]
theorem varsP_len (ks : List Tm) : ∀ acc, (varsP acc ks).length ≤ acc.length + ks.length := by
  induction ks with
  | nil => intro acc; simp [varsP]
  | cons k r ih => intro acc; have := ih (addV acc k.name); have h2 := addV_len acc k.name; simp only [varsP, List.foldl_cons, List.length_cons] at *; omega
theorem varsP_take (acc : List ByteArray) (ks : List Tm) (k : Nat) (h : k < ks.length) : varsP acc (ks.take (k + 1)) = addV (varsP acc (ks.take k)) ks[k].name := by
  rw [List.take_succ_eq_append_getElem h, varsP_append]; rfl

set_option maxHeartbeats 1000000 in
theorem varsOf_any (t : Tm) (v : Value) (w : World) (X : Nat → Prop) (hv : TV w X v t) (hsm : sizeL [t] ≤ 1000000) :
    Calls Tryd.prog 31 #[v] w fun e w' => ∃ v', e = .returned v' ∧ LV Value.string w' (fun b => w.heap.size ≤ b) v' (varsP [] (preL [t])) ∧ Below w.heap.size w w' := by
  obtain ⟨a, c, rfl, hs⟩ := hv
  have HV := hide (show TV w X (.agg #[.string t.name, .slice a t.args.length c]) t from ⟨a, c, rfl, hs⟩)
  clear hs
  obtain ⟨i0, hi, hz0, hz1, hz2⟩ := info_parts Tryd.infoStr
  go_enter Tryd.func31, Tryd.ntmps31
  go_wp2_with fail
  refine (knots_any t _ _ X (by exact HV.out.alloc _) hsm).mono ?_
  rintro e w2 ⟨v2, xs, rfl, hown, hrow, hb3⟩
  have hpos : 0 < sizeL [t] := by obtain ⟨s', l'⟩ := t; simp [sizeL]; omega
  obtain ⟨g, cap, rfl, hg, hg', hcel⟩ := owned_val hown hpos
  have hb4 := hide (((Below.refl w.heap.size w).alloc (Nat.le_refl _) (.cells #[.string t.name, .slice a t.args.length c] 24)).trans (hb3.mono (by simp)))
  have HROW := hide hrow
  have HCEL := hide hcel
  have hpl := preL_length [t]
  generalize hkse : preL [t] = ks at *
  have HKSE := hide hkse
  clear hkse
  have hks : ks.length ≤ 1000000 := by omega
  rw [← hpl]
  clear hown hrow hcel hb3 hpl hpos hsm
  go_wp2_with fail
  go_loopw [4, 5] (fun q i wr => ∃ k : Nat, k ≤ ks.length ∧ i = .int .i64 k ∧ wr.ownsRow w2.heap.size 9 1 q (varsP [] (ks.take k)).length ((varsP [] (ks.take k)).map Value.string) ∧ Below w2.heap.size w2 wr) (fun q i wr => ks.length - (intOf i).toNat)
  case atStart => exact ⟨0, Nat.zero_le _, rfl, by simpa [varsP] using World.ownsRow_nil w2 w2.heap.size 9 1, Below.refl _ _⟩
  case round =>
    obtain ⟨k, hk, rfl, hown, hb⟩ := hrel
    have HOWN := hide hown
    have HB := hide hb
    by_cases hlt : k < ks.length
    · obtain ⟨x0, a', c', x1, hsl⟩ := HROW.out.get k hlt
      have d0 := cell_later hb (HCEL.out _ _ x0)
      have HT := hide (varsP_take [] ks k hlt)
      have hlen0 := varsP_len (ks.take k) []
      have hlen : (varsP [] (ks.take k)).length ≤ 1000000 := by
        have : (ks.take k).length ≤ k := List.length_take_le _ _
        simp at hlen0; omega
      clear x0 x1 hsl hown hb hlen0
      generalize hacc : varsP [] (ks.take k) = acc at *
      have HACC := hide hacc
      clear hacc
      cases hvb : varB ks[k].name with
      | false =>
        have HN := hide (addV_no (acc := acc) hvb)
        have HVB := hide hvb
        clear hvb
        go_wp2_with (go_at_call 30; refine (isVarR_any _ _).mono ?_; rintro e w' ⟨rfl, rfl⟩; rw [HVB.out])
        go_roundw
        case rel => exact ⟨k + 1, by omega, by go_num, by rw [HT.out, HN.out]; exact HOWN.out, HB.out⟩
        case measure => simp [intOf]; omega
      | true =>
        have HVB := hide hvb
        cases hin : inB ks[k].name acc with
        | true =>
          have HN := hide (addV_in hvb hin)
          have HIN := hide hin
          clear hvb hin
          go_wp2_with (first | (go_at_call 30; refine (isVarR_any _ _).mono ?_; rintro e w' ⟨rfl, rfl⟩; rw [HVB.out]) | (go_at_call 32; refine (in_any _ _ _ _ _ (LV.of_own HOWN.out)).mono ?_; rintro e w' ⟨rfl, rfl⟩; rw [HIN.out]))
          go_roundw
          case rel => exact ⟨k + 1, by omega, by go_num, by rw [HT.out, HN.out]; exact HOWN.out, HB.out⟩
          case measure => simp [intOf]; omega
        | false =>
          have HN := hide (addV_yes hvb hin)
          have HIN := hide hin
          clear hvb hin
          obtain ⟨q2, w3, hr2, hown2, hgr2, _⟩ := run_append_own (P := Tryd.prog) (wr.alloc (.cells #[.string ks[k].name] 9)) w2.heap.size 67 67 9 i0 _ 1 16 Tryd.underlying67 hi hz0 hz1 hz2 rfl (by decide) _ acc.length (acc.map Value.string) (HOWN.out.alloc _)
            ⟨wr.heap.size, 0, none⟩ 1 1 [.string ks[k].name] rfl (cell_one_new _ _ _) (fun x hx => by simp at hx; subst hx; rfl) (by unfold maxLen; omega) (by omega) (by have := HB.out.size; simp; omega)
          have HR := hide hr2
          have HO2 := hide hown2
          have HB2 := hide ((HB.out.alloc HB.out.size _).grown hgr2 (by have := HB.out.size; simp; omega) (fun j hj => (HOWN.out.lt j hj).1))
          clear hr2 hown2 hgr2
          go_wp2_with (first | (go_at_call 30; refine (isVarR_any _ _).mono ?_; rintro e w' ⟨rfl, rfl⟩; rw [HVB.out]) | (go_at_call 32; refine (in_any _ _ _ _ _ (LV.of_own HOWN.out)).mono ?_; rintro e w' ⟨rfl, rfl⟩; rw [HIN.out]) | (at_builtin; refine wpList_append_eq rfl _ _ _ _ rfl rfl rfl HR.out ?_))
          go_roundw
          case rel => exact ⟨k + 1, by omega, by go_num, by rw [HT.out, HN.out]; simpa using HO2.out, HB2.out⟩
          case measure => simp [intOf]; omega
    · have htk : ks.take k = ks := List.take_of_length_le (by omega)
      rw [htk] at hown
      have HO := hide hown
      clear hown hb
      go_wp2_with fail
      go_ret
      exact ⟨_, rfl, by rw [HKSE.out]; exact (LV.of_own HO.out).mono fun b hb _ => Nat.le_trans hb4.out.size hb, hb4.out.trans (HB.out.mono hb4.out.size)⟩

theorem grown_trans {w w1 w2 : World} {r r1 : Option Nat} (h : w.grownBy w1 r) (h1 : w1.grownBy w2 r1) (hr : ∀ k, r1 = some k → r = some k ∨ w.heap.size ≤ k) : w.grownBy w2 r :=
  ⟨h1.os.trans h.os, h1.tape.trans h.tape, h1.output.trans h.output, Nat.le_trans h.size h1.size, fun k hk hne => (h1.block k (Nat.lt_of_lt_of_le hk h.size) (fun e => by
    rcases hr k e.symm with h2 | h2
    · exact hne h2.symm
    · omega)).trans (h.block k hk hne)⟩

theorem grown_of_below {w w' : World} (hb : Below w.heap.size w w') (r : Option Nat) : w.grownBy w' r := ⟨hb.os, hb.tape, hb.output, hb.size, fun k hk _ => hb.block k hk⟩

theorem TV.grown {w w' : World} {X : Nat → Prop} {v : Value} {t : Tm} {r : Option Nat} (h : TV w X v t) (hg : w.grownBy w' r) (hX : ∀ b, X b → some b ≠ r) : TV w' X v t := by
  have h1 : TV w (fun b => X b ∧ b < w.heap.size) v t := h.mono fun b h1 h2 => ⟨h1, h2⟩
  have h2 : TV w' (fun b => X b ∧ b < w.heap.size) v t := h1.kept fun b hx => hg.block b hx.2 (hX b hx.1)
  exact h2.mono fun b hx _ => hx.1

/-- What stays true of a row of texts while it is added to. -/
def NamesAt (w0 : World) (B : Nat) (q0 : Value) (acc : List ByteArray) (q : Value) (wr : World) : Prop :=
  wr.ownsRow B 9 1 q acc.length (acc.map Value.string) ∧ w0.grownBy wr q0.ownBlock ∧ (∀ k, q.ownBlock = some k → q0.ownBlock = some k ∨ w0.heap.size ≤ k)

theorem NamesAt.below {w0 w1 w2 : World} {B : Nat} {q0 q1 : Value} {acc1 : List ByteArray} (h1 : NamesAt w0 B q0 acc1 q1 w1) (hb : Below w1.heap.size w1 w2) : NamesAt w0 B q0 acc1 q1 w2 :=
  ⟨h1.1.kept (w' := w2) (row := none) ⟨hb.os, hb.tape, hb.output, hb.size, fun j hj _ => hb.block j hj⟩ (by rcases Option.eq_none_or_eq_some (Value.ownBlock q1) with h | ⟨x, h⟩; exact Or.inl h; exact Or.inr (by rw [h]; simp)),
   grown_trans h1.2.1 (grown_of_below hb q1.ownBlock) h1.2.2, h1.2.2⟩
end Go.Proofs.YtakmclheffbeaaaDoor

/- Walks: writing into a Builder, with all else as it was. -/
namespace Go.Proofs.YtakmclheffbeaaaDoor
open Go.RowKit
set_option linter.unusedSimpArgs false
set_option linter.unusedVariables false

theorem Tryd.infoByte : (Tryd.prog.info? 5).map (fun i => (i.zero, i.size, i.bytes)) = some (some (.int .u8 0), 1, 1) := by kernel_rfl
theorem Tryd.sizeBuilder : (Tryd.prog.info? 94).map (·.size) = some 2 := by kernel_rfl
theorem Tryd.liesBuilder : liesAt Tryd.prog Tryd.prog.depth 94 (2 / Tryd.prog.cellsOf 94) 0 94 1 = true := by kernel_rfl

/-- A Builder in block b, its bytes in a row of its own. -/
def Bld (w : World) (B b : Nat) (bs : List Value) (v : Value) : Prop :=
  B ≤ b ∧ (∃ p, (p = .pointer none ∨ p = .pointer (some ⟨b, 0, none⟩)) ∧ w.heap[b]? = some (.cells #[p, v] 94 (0, 0))) ∧ w.ownsRow B 5 1 v bs.length bs

/-- What a write leaves alone. -/
def BFr (w w' : World) (b : Nat) (v v' : Value) : Prop :=
  w'.os = w.os ∧ w'.tape = w.tape ∧ w'.output = w.output ∧ w.heap.size ≤ w'.heap.size ∧ (∀ k, k < w.heap.size → k ≠ b → some k ≠ v.ownBlock → w'.heap[k]? = w.heap[k]?) ∧ (∀ k, v'.ownBlock = some k → v.ownBlock = some k ∨ w.heap.size ≤ k)

theorem BFr.refl (w : World) (b : Nat) (v : Value) : BFr w w b v v := ⟨rfl, rfl, rfl, Nat.le_refl _, fun _ _ _ _ => rfl, fun _ h => Or.inl h⟩
theorem BFr.trans {w w1 w2 : World} {b : Nat} {v v1 v2 : Value} (h : BFr w w1 b v v1) (h1 : BFr w1 w2 b v1 v2) : BFr w w2 b v v2 := by
  obtain ⟨a1, a2, a3, a4, a5, a6⟩ := h
  obtain ⟨c1, c2, c3, c4, c5, c6⟩ := h1
  refine ⟨c1.trans a1, c2.trans a2, c3.trans a3, Nat.le_trans a4 c4, fun k hk hb hv => ?_, fun k hk => ?_⟩
  · refine (c5 k (Nat.lt_of_lt_of_le hk a4) hb (fun e => ?_)).trans (a5 k hk hb hv)
    rcases a6 k e.symm with h | h
    · exact hv h.symm
    · omega
  · rcases c6 k hk with h | h
    · exact a6 k h
    · exact Or.inr (Nat.le_trans a4 h)
theorem BFr.of_below {w w' : World} (hb : Below w.heap.size w w') (b : Nat) (v : Value) : BFr w w' b v v := ⟨hb.os, hb.tape, hb.output, hb.size, fun k hk _ _ => hb.block k hk, fun _ h => Or.inl h⟩

theorem bd_ne {w : World} {B b : Nat} {bs : List Value} {v : Value} (h : Bld w B b bs v) : v.ownBlock ≠ some b := by
  obtain ⟨_, ⟨p, _, hb⟩, hown⟩ := h
  exact Lib.ownBlock_ne hown hb (by decide)

set_option maxHeartbeats 1000000 in
set_option maxRecDepth 100000 in
theorem copyCheck_any (B b : Nat) (bs : List Value) (v : Value) (w : World) (h : Bld w B b bs v) :
    Calls Tryd.prog 92 #[.pointer (some ⟨b, 0, none⟩)] w fun e w' => e = .returned (.tuple #[]) ∧ w'.heap[b]? = some (.cells #[.pointer (some ⟨b, 0, none⟩), v] 94 (0, 0)) ∧ w'.ownsRow B 5 1 v bs.length bs ∧ BFr w w' b v v := by
  obtain ⟨j, hj, hjs⟩ := Option.map_eq_some_iff.1 Tryd.sizeBuilder
  have hne := bd_ne h
  obtain ⟨hB, ⟨p, hp, hbk⟩, hown⟩ := h
  have h0 : w.cell? ⟨b, 0, none⟩ = some p := by rw [Lib.cell_of_heap hbk]; rfl
  have hsh : w.shape? b = some (94, 2) := by simp [World.shape?, hbk]
  have hfz : w.frozen? ⟨b, 0, none⟩ = false := Lib.frozen_of_heap hbk 0
  rcases hp with rfl | rfl
  · have HF : Hid ((w.setCell ⟨b, 0, none⟩ (.pointer (some ⟨b, 0, none⟩))).heap[b]? = some (.cells #[.pointer (some ⟨b, 0, none⟩), v] 94 (0, 0)) ∧ (w.setCell ⟨b, 0, none⟩ (.pointer (some ⟨b, 0, none⟩))).ownsRow B 5 1 v bs.length bs ∧ BFr w (w.setCell ⟨b, 0, none⟩ (.pointer (some ⟨b, 0, none⟩))) b v v) := by
      refine ⟨by simp [World.setCell, Array.getElem?_modify, hbk], ?_, rfl, rfl, rfl, by simp [World.setCell], fun k hk hkb _ => Below.heap_setCell _ _ _ _ (by simpa using hkb), fun _ h => Or.inl h⟩
      refine hown.kept (w' := w.setCell ⟨b, 0, none⟩ (.pointer (some ⟨b, 0, none⟩))) (row := some b) ⟨rfl, rfl, rfl, by simp [World.setCell], fun k hk hkb => Below.heap_setCell _ _ _ _ (by simp at hkb; simpa using hkb)⟩ (Or.inr hne)
    have HOWN := hide hown
    clear hown
    go_enter Tryd.func92, Tryd.ntmps92
    go_wp2_with fail
    rw [Lib.run_to_unsafe w ⟨b, 0, none⟩ Tryd.underlying92 Tryd.underlying132 hj (by rw [hjs]; decide) hsh (Nat.zero_lt_succ 1)]
    simp only [Result.andThen]
    rw [Oper.upon_value]
    go_wp2_with fail
    rw [run_callFunc_extern Tryd.func96 (by kernel_rfl) (by kernel_rfl) (by kernel_rfl) (e := Extern.AbiNoEscape.same) (by kernel_rfl)]
    rw [Lib.run_noEscape]
    simp only [Result.andThen]
    rw [Oper.upon_value]
    go_wp2_with fail
    rw [Lib.run_from_unsafe w ⟨b, 0, none⟩ Tryd.underlying132 Tryd.underlying92 hj hsh Tryd.liesBuilder]
    simp only [Result.andThen]
    rw [Oper.upon_value]
    go_wp2_with fail
    go_end0
    exact ⟨rfl, HF.out⟩
  · have HOWN := hide hown
    go_enter Tryd.func92, Tryd.ntmps92
    go_wp2_with fail
    rw [Lib.run_neq_ptr_same w _ Tryd.underlying92 hj]
    go_wp2_with fail
    go_end0
    exact ⟨rfl, hbk, HOWN.out, BFr.refl _ _ _⟩

theorem bd_lt {w : World} {b : Nat} {o : Obj} (h : w.heap[b]? = some o) : b < w.heap.size := by
  apply Classical.byContradiction
  intro hn
  rw [Array.getElem?_eq_none (by omega)] at h; cases h

/-- Behind an append and the store of its slice. -/
theorem bd_put {w w2 : World} {B b : Nat} {bs bs' : List Value} {v v' : Value} (hB : B ≤ b) (hBw : B ≤ w.heap.size) (hbk : w.heap[b]? = some (.cells #[.pointer (some ⟨b, 0, none⟩), v] 94 (0, 0))) (hown : w.ownsRow B 5 1 v bs.length bs) (hown' : w2.ownsRow B 5 1 v' bs'.length bs') (hg : w.grownBy w2 v.ownBlock)
    (hat : ∀ k, v'.ownBlock = some k → v.ownBlock = some k ∨ w.heap.size ≤ k) : Bld (w2.setCell ⟨b, 1, none⟩ v') B b bs' v' ∧ BFr w (w2.setCell ⟨b, 1, none⟩ v') b v v' := by
  have hne : v.ownBlock ≠ some b := Lib.ownBlock_ne hown hbk (by decide)
  have hlt := bd_lt hbk
  have hb2 : w2.heap[b]? = some (.cells #[.pointer (some ⟨b, 0, none⟩), v] 94 (0, 0)) := by rw [hg.block b hlt (fun e => hne e.symm)]; exact hbk
  have hne' : v'.ownBlock ≠ some b := Lib.ownBlock_ne hown' hb2 (by decide)
  refine ⟨⟨hB, ⟨_, Or.inr rfl, by simp [World.setCell, Array.getElem?_modify, hb2]⟩, ?_⟩, hg.os, hg.tape, hg.output, by simp [World.setCell]; exact hg.size, fun k hk hkb hv => ?_, hat⟩
  · exact hown'.kept (w' := w2.setCell ⟨b, 1, none⟩ v') (row := some b) ⟨rfl, rfl, rfl, by simp [World.setCell], fun k hk hkb => Below.heap_setCell _ _ _ _ (by simp at hkb; simpa using hkb)⟩ (Or.inr hne')
  · rw [Below.heap_setCell _ _ _ _ (by simpa using hkb)]; exact hg.block k hk hv

/-- Where the row lies behind an append of a text's bytes. -/
theorem str_at {w w' : World} {B : Nat} {v v' : Value} {n : Nat} {xs : List Value} {s : ByteArray} {ty : TypeId} (hown : w.ownsRow B 5 1 v n xs) (hsm : n + s.size ≤ 2000000000) (hr : (Builtin.append_ #[56, 9] ty #[v, .string s]).run Tryd.prog w = .ok v' w')
    (hnil : v' = .slice none 0 0 ↔ v = .slice none 0 0 ∧ s.size = 0) : ∀ k, v'.ownBlock = some k → v.ownBlock = some k ∨ w.heap.size ≤ k := by
  obtain ⟨i0, hi, hz0, hz1, hz2⟩ := info_parts Tryd.infoByte
  have hsrc : Src Tryd.prog i0.size 9 (.string s) s.size (byteCells s) w := by rw [hz1]; exact Src.ofString w Tryd.underlying9 s
  have hlx := hown.1
  intro k hk
  rcases hown.2 with ⟨rfl, rfl⟩ | ⟨g, cap, cur, rfl, hBg, hh, hnc, hcm, hcs, htk⟩
  · by_cases h0 : s.size = 0
    · have := hnil.2 ⟨rfl, h0⟩
      rw [this] at hk; cases hk
    · have hg := run_append_grow_src (P := Tryd.prog) w 56 9 ty 5 i0 (.int .u8 0) Tryd.underlying56 hi hz0 none 0 0 [] (by simpa using run_firstCells_none w.drew i0.size 0 0 0) (.string s) s.size (byteCells s) hsrc (by omega) (by omega) (by rw [hz2]; have := growslice_fits (need := 0 + s.size) (old := 0) (bytes := 1) (by omega) (by omega); omega)
      rw [hr] at hg
      simp only [Result.ok.injEq] at hg
      rw [hg.1] at hk
      simp [Value.ownBlock] at hk
      right; omega
  · by_cases hroom : n + s.size ≤ cap
    · have hc : ∀ j, j < (byteCells s).length → (w.cell? ⟨g, 0 + n * i0.size + j, none⟩).isSome = true := fun j hj => by
        rw [byteCells_length] at hj
        rw [Lib.cell_of_heap hh, hz1]
        simp; omega
      have hf : ∀ j, j < (byteCells s).length → w.frozen? ⟨g, 0 + n * i0.size + j, none⟩ = false := fun j hj => Lib.frozen_of_heap hh _
      have hg := run_append_room_src (P := Tryd.prog) w 56 9 ty 5 i0 Tryd.underlying56 hi g 0 n cap (.string s) s.size (byteCells s) hsrc hroom hc hf
      rw [hr] at hg
      simp only [Result.ok.injEq] at hg
      rw [hg.1] at hk
      simp [Value.ownBlock] at hk
      left; simp [Value.ownBlock, hk]
    · have hfc := run_firstCells_some (P := Tryd.prog) w.drew i0.size n ⟨g, 0, none⟩ n cap xs (by rw [hz1]; exact hlx) (fun j u hj => by have := hown.cells (g := g) rfl j u hj; simpa using this)
      have hg := run_append_grow_src (P := Tryd.prog) w 56 9 ty 5 i0 (.int .u8 0) Tryd.underlying56 hi hz0 (some ⟨g, 0, none⟩) n cap xs hfc (.string s) s.size (byteCells s) hsrc (by omega) (by omega) (by rw [hz2]; have := growslice_fits (need := n + s.size) (old := cap) (bytes := 1) (by omega) (by omega); omega)
      rw [hr] at hg
      simp only [Result.ok.injEq] at hg
      rw [hg.1] at hk
      simp [Value.ownBlock] at hk
      right; omega

set_option maxHeartbeats 1000000 in
set_option maxRecDepth 100000 in
theorem writeByte_any (B b : Nat) (bs : List Value) (v : Value) (c : Int) (w : World) (h : Bld w B b bs v) (hlen : bs.length ≤ 1000000000) (hBw : B ≤ w.heap.size) :
    Calls Tryd.prog 82 #[.pointer (some ⟨b, 0, none⟩), .int .u8 c] w fun e w' => e = .returned .nilIface ∧ ∃ v', Bld w' B b (bs ++ [.int .u8 c]) v' ∧ BFr w w' b v v' := by
  obtain ⟨i0, hi, hz0, hz1, hz2⟩ := info_parts Tryd.infoByte
  have hB := h.1
  have H := hide h
  clear h
  go_enter Tryd.func82, Tryd.ntmps82
  go_wp2_with (go_at_call 92; refine (copyCheck_any B b bs v _ H.out).mono ?_)
  rintro e w1 ⟨rfl, hbk, hown, hfr⟩
  have c0 : w1.cell? ⟨b, 0, none⟩ = some (.pointer (some ⟨b, 0, none⟩)) := by rw [Lib.cell_of_heap hbk]; rfl
  have c1 : w1.cell? ⟨b, 1, none⟩ = some v := by rw [Lib.cell_of_heap hbk]; rfl
  have hlt := bd_lt hbk
  have hne : v.ownBlock ≠ some b := Lib.ownBlock_ne hown hbk (by decide)
  have hBw1 : B ≤ w1.heap.size := Nat.le_trans hBw hfr.2.2.2.1
  obtain ⟨g, cap, w2, hr2, hown2, hg2, hat2, _⟩ := run_append_lies (P := Tryd.prog) (w := w1.alloc (.cells #[.int .u8 c] 5)) 56 56 B 5 i0 _ 1 1 Tryd.underlying56 hi hz0 hz1 hz2 rfl (by decide) v bs.length bs (hown.alloc _)
    ⟨w1.heap.size, 0, none⟩ 1 1 [.int .u8 c] rfl (cell_one_new _ _ _) (fun x hx => by simp at hx; subst hx; rfl) (by decide) (by unfold maxLen; omega) (by omega) (by simp; omega) _ rfl
  have hg3 : w1.grownBy w2 v.ownBlock := grown_trans (grown_of_below ((Below.refl _ _).alloc (Nat.le_refl _) _) v.ownBlock) hg2 (fun k hk => Or.inl hk)
  have HPUT := hide (bd_put (bs' := bs ++ [.int .u8 c]) hB hBw1 hbk hown (by simpa using hown2) hg3 (fun k hk => by
    simp [Value.ownBlock] at hk
    subst hk
    rcases hat2 with e | e
    · exact Or.inl e
    · right; simp at e; omega))
  have hb2 : w2.heap[b]? = some (.cells #[.pointer (some ⟨b, 0, none⟩), v] 94 (0, 0)) := by rw [hg3.block b hlt (fun e => hne e.symm)]; exact hbk
  have d0 : w2.cell? ⟨b, 0, none⟩ = some (.pointer (some ⟨b, 0, none⟩)) := by rw [Lib.cell_of_heap hb2]; rfl
  have d1 : w2.cell? ⟨b, 1, none⟩ = some v := by rw [Lib.cell_of_heap hb2]; rfl
  have f1 : w2.frozen? ⟨b, 1, none⟩ = false := Lib.frozen_of_heap hb2 1
  have HR := hide hr2
  have HFR := hide hfr
  clear hr2 hown hown2 hg2 hg3 hat2 hbk hfr hb2
  go_wp2_with (at_builtin; refine wpList_append_eq rfl _ _ _ _ rfl rfl rfl HR.out ?_)
  go_ret
  exact ⟨rfl, _, HPUT.out.1, HFR.out.trans HPUT.out.2⟩

set_option maxHeartbeats 1000000 in
set_option maxRecDepth 100000 in
theorem writeString_any (B b : Nat) (bs : List Value) (v : Value) (s : ByteArray) (w : World) (h : Bld w B b bs v) (hlen : bs.length + s.size ≤ 1000000000) (hBw : B ≤ w.heap.size) :
    Calls Tryd.prog 81 #[.pointer (some ⟨b, 0, none⟩), .string s] w fun e w' => e = .returned (.tuple #[.int .i64 s.size, .nilIface]) ∧ ∃ v', Bld w' B b (bs ++ Lib.strCells s) v' ∧ BFr w w' b v v' := by
  obtain ⟨i0, hi, hz0, hz1, hz2⟩ := info_parts Tryd.infoByte
  have hB := h.1
  have H := hide h
  clear h
  go_enter Tryd.func81, Tryd.ntmps81
  go_wp2_with (go_at_call 92; refine (copyCheck_any B b bs v _ H.out).mono ?_)
  rintro e w1 ⟨rfl, hbk, hown, hfr⟩
  have c0 : w1.cell? ⟨b, 0, none⟩ = some (.pointer (some ⟨b, 0, none⟩)) := by rw [Lib.cell_of_heap hbk]; rfl
  have c1 : w1.cell? ⟨b, 1, none⟩ = some v := by rw [Lib.cell_of_heap hbk]; rfl
  have hlt := bd_lt hbk
  have hne : v.ownBlock ≠ some b := Lib.ownBlock_ne hown hbk (by decide)
  have hBw1 : B ≤ w1.heap.size := Nat.le_trans hBw hfr.2.2.2.1
  obtain ⟨v2, w2, hr2, hown2, hg2, hnil2⟩ := Lib.run_append_own_string (P := Tryd.prog) w1 B 56 9 56 5 i0 Tryd.underlying56 Tryd.underlying9 hi hz0 hz1 hz2 v bs.length bs hown s (by unfold maxLen; omega) (by omega) hBw1
  have hat := str_at hown (by omega) hr2 hnil2
  have HPUT := hide (bd_put (bs' := bs ++ Lib.strCells s) hB hBw1 hbk hown (by simpa [Lib.strCells_length] using hown2) hg2 hat)
  have hb2 : w2.heap[b]? = some (.cells #[.pointer (some ⟨b, 0, none⟩), v] 94 (0, 0)) := by rw [hg2.block b hlt (fun e => hne e.symm)]; exact hbk
  have d0 : w2.cell? ⟨b, 0, none⟩ = some (.pointer (some ⟨b, 0, none⟩)) := by rw [Lib.cell_of_heap hb2]; rfl
  have d1 : w2.cell? ⟨b, 1, none⟩ = some v := by rw [Lib.cell_of_heap hb2]; rfl
  have f1 : w2.frozen? ⟨b, 1, none⟩ = false := Lib.frozen_of_heap hb2 1
  obtain ⟨ao, n', cap, rfl⟩ : ∃ ao n' cap, v2 = .slice ao n' cap := by
    rcases hown2.2 with ⟨hv, _⟩ | ⟨g, cap, cur, hv, _⟩
    · exact ⟨_, _, _, hv⟩
    · exact ⟨_, _, _, hv⟩
  have HR := hide hr2
  have HFR := hide hfr
  clear hr2 hown hown2 hg2 hat hnil2 hbk hfr hb2
  go_wp2_with (at_builtin; refine wpList_append_eq rfl _ _ _ _ rfl rfl rfl HR.out ?_)
  go_ret2
  exact ⟨rfl, _, HPUT.out.1, HFR.out.trans HPUT.out.2⟩
end Go.Proofs.YtakmclheffbeaaaDoor

/- The tree that a lambda term is, and how it lies in memory. -/
namespace Go.Proofs.YtakmclheffbeaaaDoor
open Go.RowKit

/-- A lambda term as a tree. -/
structure Lm where
  kind : Int
  idx : Int
  subs : List Lm

theorem Lm.ind {P : Lm → Prop} (h : ∀ k x l, (∀ y ∈ l, P y) → P ⟨k, x, l⟩) (t : Lm) : P t :=
  Lm.rec (motive_1 := P) (motive_2 := fun l => ∀ x ∈ l, P x) (fun k x l ih => h k x l ih) (fun x hx => by cases hx)
    (fun a l ha hl x hx => by
      rcases List.mem_cons.1 hx with e | e
      · subst e; exact ha
      · exact hl x e) t

theorem Lm.indL {P : List Lm → Prop} (h0 : P []) (h : ∀ k x l r, P l → P r → P (⟨k, x, l⟩ :: r)) (l : List Lm) : P l :=
  Lm.rec_1 (motive_1 := fun t => P t.subs) (motive_2 := P) (fun _ _ _ ih => ih) h0 (fun a l ha hl => by obtain ⟨k, x, m⟩ := a; exact h k x m l ha hl) l

/-- A list of lambda terms lies in a row of cells, three a term, in blocks that X lets. -/
def LiesM (w : World) (X : Nat → Prop) : Nat → Nat → List Lm → Prop
  | _, _, [] => True
  | b, o, ⟨k, x, l⟩ :: r => X b ∧ w.cell? ⟨b, o, none⟩ = some (.int .i64 k) ∧ w.cell? ⟨b, o + 1, none⟩ = some (.int .i64 x) ∧
      (∃ a c, w.cell? ⟨b, o + 2, none⟩ = some (.slice a l.length c) ∧ l.length ≤ 9223372036854775807 ∧ (l = [] ∨ ∃ b' o', a = some ⟨b', o', none⟩ ∧ LiesM w X b' o' l)) ∧ LiesM w X b (o + 3) r

/-- What a slice of lambda terms holds. -/
def SlM (w : World) (X : Nat → Prop) (a : Option Addr) (l : List Lm) : Prop := l.length ≤ 9223372036854775807 ∧ (l = [] ∨ ∃ b o, a = some ⟨b, o, none⟩ ∧ LiesM w X b o l)

/-- What a lambda term's value holds. -/
def MV (w : World) (X : Nat → Prop) (v : Value) (t : Lm) : Prop := ∃ a c, v = .agg #[.int .i64 t.kind, .int .i64 t.idx, .slice a t.subs.length c] ∧ SlM w X a t.subs

theorem liesM_kept {w w' : World} {X : Nat → Prop} (h : ∀ b, X b → w'.heap[b]? = w.heap[b]?) (l : List Lm) : ∀ b o, LiesM w X b o l → LiesM w' X b o l := by
  induction l using Lm.indL with
  | h0 => intro b o _; simp [LiesM]
  | h k x l r ihl ihr =>
    intro b o hl
    simp only [LiesM] at hl ⊢
    obtain ⟨hx, h1, h1', ⟨a, c, h2, h2', h3⟩, h4⟩ := hl
    refine ⟨hx, by rw [World.cell?_of_block (h b hx)]; exact h1, by rw [World.cell?_of_block (h b hx)]; exact h1', ⟨a, c, by rw [World.cell?_of_block (h b hx)]; exact h2, h2', ?_⟩, ihr _ _ h4⟩
    rcases h3 with h3 | ⟨b', o', h3, h5⟩
    · exact Or.inl h3
    · exact Or.inr ⟨b', o', h3, ihl _ _ h5⟩

theorem liesM_mono {w : World} {X Y : Nat → Prop} (h : ∀ b, X b → b < w.heap.size → Y b) (l : List Lm) : ∀ b o, LiesM w X b o l → LiesM w Y b o l := by
  induction l using Lm.indL with
  | h0 => intro b o _; simp [LiesM]
  | h k x l r ihl ihr =>
    intro b o hl
    simp only [LiesM] at hl ⊢
    obtain ⟨hx, h1, h1', ⟨a, c, h2, h2', h3⟩, h4⟩ := hl
    have hb : b < w.heap.size := by
      apply Classical.byContradiction
      intro hn
      have e : w.heap[b]? = none := Array.getElem?_eq_none (by omega)
      simp [World.cell?, e] at h1
    refine ⟨h b hx hb, h1, h1', ⟨a, c, h2, h2', ?_⟩, ihr _ _ h4⟩
    rcases h3 with h3 | ⟨b', o', h3, h5⟩
    · exact Or.inl h3
    · exact Or.inr ⟨b', o', h3, ihl _ _ h5⟩
theorem SlM.kept {w w' : World} {X : Nat → Prop} {a : Option Addr} {l : List Lm} (h : SlM w X a l) (hk : ∀ b, X b → w'.heap[b]? = w.heap[b]?) : SlM w' X a l := by
  obtain ⟨hl, h⟩ := h
  refine ⟨hl, ?_⟩
  rcases h with h | ⟨b, o, e, h⟩
  · exact Or.inl h
  · exact Or.inr ⟨b, o, e, liesM_kept hk _ _ _ h⟩

theorem SlM.mono {w : World} {X Y : Nat → Prop} {a : Option Addr} {l : List Lm} (h : SlM w X a l) (hk : ∀ b, X b → b < w.heap.size → Y b) : SlM w Y a l := by
  obtain ⟨hl, h⟩ := h
  refine ⟨hl, ?_⟩
  rcases h with h | ⟨b, o, e, h⟩
  · exact Or.inl h
  · exact Or.inr ⟨b, o, e, liesM_mono hk _ _ _ h⟩

theorem SlM.below {w w' : World} {X : Nat → Prop} {a : Option Addr} {l : List Lm} {B : Nat} (h : SlM w X a l) (hb : Below B w w') (hX : ∀ b, X b → b < w.heap.size → b < B) : SlM w' X a l := by
  have h1 : SlM w (fun b => X b ∧ b < B) a l := h.mono fun b hx hs => ⟨hx, hX b hx hs⟩
  have h2 : SlM w' (fun b => X b ∧ b < B) a l := h1.kept fun b hx => hb.block b hx.2
  exact h2.mono fun b hx _ => hx.1

theorem MV.kept {w w' : World} {X : Nat → Prop} {v : Value} {t : Lm} (h : MV w X v t) (hk : ∀ b, X b → w'.heap[b]? = w.heap[b]?) : MV w' X v t := by
  obtain ⟨a, c, e, h⟩ := h
  exact ⟨a, c, e, h.kept hk⟩

theorem MV.mono {w : World} {X Y : Nat → Prop} {v : Value} {t : Lm} (h : MV w X v t) (hk : ∀ b, X b → b < w.heap.size → Y b) : MV w Y v t := by
  obtain ⟨a, c, e, h⟩ := h
  exact ⟨a, c, e, h.mono hk⟩

theorem MV.below {w w' : World} {X : Nat → Prop} {v : Value} {t : Lm} {B : Nat} (h : MV w X v t) (hb : Below B w w') (hX : ∀ b, X b → b < w.heap.size → b < B) : MV w' X v t := by
  obtain ⟨a, c, e, h⟩ := h
  exact ⟨a, c, e, h.below hb hX⟩

theorem MV.alloc {w : World} {X : Nat → Prop} {v : Value} {t : Lm} (h : MV w X v t) (o : Obj) : MV (w.alloc o) X v t :=
  h.below ((Below.refl _ _).alloc (Nat.le_refl _) o) (fun _ _ h => h)

theorem MV.later {w w' : World} {X : Nat → Prop} {v : Value} {t : Lm} (h : MV w X v t) (hb : Below w.heap.size w w') : MV w' X v t := h.below hb (fun _ _ h => h)

theorem SlM.later {w w' : World} {X : Nat → Prop} {a : Option Addr} {l : List Lm} (h : SlM w X a l) (hb : Below w.heap.size w w') : SlM w' X a l := h.below hb (fun _ _ h => h)

/-- One of a row. -/
theorem liesM_get {w : World} {X : Nat → Prop} : ∀ (l : List Lm) (b o : Nat), LiesM w X b o l → ∀ i (h : i < l.length),
    X b ∧ w.cell? ⟨b, o + i * 3, none⟩ = some (.int .i64 l[i].kind) ∧ w.cell? ⟨b, o + i * 3 + 1, none⟩ = some (.int .i64 l[i].idx) ∧ ∃ a c, w.cell? ⟨b, o + i * 3 + 2, none⟩ = some (.slice a l[i].subs.length c) ∧ SlM w X a l[i].subs := by
  intro l
  induction l with
  | nil => intro b o _ i h; simp at h
  | cons t r ih =>
    intro b o hl i h
    obtain ⟨s, x, k⟩ := t
    simp only [LiesM] at hl
    obtain ⟨hx, h1, h1', ⟨a, c, h2, h3⟩, h4⟩ := hl
    cases i with
    | zero => exact ⟨hx, h1, h1', a, c, h2, h3⟩
    | succ i =>
      have := ih b (o + 3) h4 i (by simpa using h)
      simp only [List.getElem_cons_succ]
      rw [show o + (i + 1) * 3 = o + 3 + i * 3 by omega]
      exact this

/-- One of a slice, in a later world. -/
theorem SlM.get {w wr : World} {X : Nat → Prop} {a : Option Addr} {l : List Lm} {B : Nat} (h : SlM w X a l) (hb : Below B w wr) (hX : ∀ b, X b → b < w.heap.size → b < B) (k : Nat) (hk : k < l.length) :
    ∃ b o a' c', a = some ⟨b, o, none⟩ ∧ wr.cell? ⟨b, o + k * 3, none⟩ = some (.int .i64 l[k].kind) ∧ wr.cell? ⟨b, o + k * 3 + 1, none⟩ = some (.int .i64 l[k].idx) ∧ wr.cell? ⟨b, o + k * 3 + 2, none⟩ = some (.slice a' l[k].subs.length c') ∧ MV wr X (.agg #[.int .i64 l[k].kind, .int .i64 l[k].idx, .slice a' l[k].subs.length c']) l[k] := by
  have h' := h.below hb hX
  obtain ⟨_, h1⟩ := h'
  rcases h1 with h1 | ⟨b, o, e, h1⟩
  · subst h1; simp at hk
  · obtain ⟨_, h2, h2', a', c', h3, h4⟩ := liesM_get _ _ _ h1 k hk
    exact ⟨b, o, a', c', e, h2, h2', h3, a', c', rfl, h4⟩
end Go.Proofs.YtakmclheffbeaaaDoor


/- Walks: how many knots a lambda term has. -/
namespace Go.Proofs.YtakmclheffbeaaaDoor
open Go.RowKit
set_option linter.unusedSimpArgs false
set_option linter.unusedVariables false

end Go.Proofs.YtakmclheffbeaaaDoor


/- Walks: may a lambda term be? -/
namespace Go.Proofs.YtakmclheffbeaaaDoor
open Go.RowKit
set_option linter.unusedSimpArgs false
set_option linter.unusedVariables false
set_option maxRecDepth 8000

end Go.Proofs.YtakmclheffbeaaaDoor

/- The text of a lambda term. -/
namespace Go.Proofs.YtakmclheffbeaaaDoor

theorem dec_len (n : Nat) : (Lib.decDigits n).length ≤ n + 1 := by
  induction n using Nat.strongRecOn with
  | ind n ih =>
    rw [Lib.decDigits]
    by_cases h : n < 10
    · rw [dif_pos h]; simp
    · rw [dif_neg h]
      have := ih (n / 10) (by omega)
      simp only [List.length_append, List.length_cons, List.length_nil]
      omega
end Go.Proofs.YtakmclheffbeaaaDoor

/- Walks: a number's decimals, as the document writes them. -/
namespace Go.Proofs.YtakmclheffbeaaaDoor
open Go.RowKit
set_option linter.unusedSimpArgs false
set_option linter.unusedVariables false
set_option maxRecDepth 8000

theorem dec_small {n : Nat} (h : n < 10) : Lib.decDigits n = [UInt8.ofNat (48 + n)] := by rw [Lib.decDigits, dif_pos h]
theorem dec_great {n : Nat} (h : ¬ n < 10) : Lib.decDigits n = Lib.decDigits (n / 10) ++ Lib.decDigits (n % 10) := by
  conv => lhs; rw [Lib.decDigits, dif_neg h]
  rw [dec_small (n := n % 10) (by omega)]

theorem ret_strL {a b : ByteArray} (h : a.data.toList = b.data.toList) : Ending.returned (.string a) = .returned (.string b) := by
  have : a = b := by
    obtain ⟨⟨x⟩⟩ := a; obtain ⟨⟨y⟩⟩ := b; simp at h; rw [h]
  rw [this]

set_option maxHeartbeats 1000000 in
theorem dec_any (n : Nat) : n ≤ 1000000 → ∀ (w : World), Calls Tryd.prog 8 #[.int .i64 n] w fun e w' => e = .returned (.string ⟨(Lib.decDigits n).toArray⟩) ∧ Below w.heap.size w w' := by
  induction n using Nat.strongRecOn with
  | ind n ih =>
    intro hn w
    by_cases h : n < 10
    · have HD := hide (dec_small h)
      generalize Lib.decDigits n = D at HD ⊢
      have h' : (n : Int) < 10 := by omega
      have hw2 : 48 + (n : Int) = ((UInt8.ofNat (48 + n)).toNat : Int) := by
        have : (UInt8.ofNat (48 + n)).toNat = 48 + n := by simp; omega
        rw [this]; omega
      have hcv : (convert 56 9 (.slice (some ⟨w.heap.size, 0, none⟩) 1 1)).run Tryd.prog (w.alloc (.cells #[.int .u8 (48 + (n : Int))] 5)) = .ok (.string ⟨([UInt8.ofNat (48 + n)]).toArray⟩) (w.alloc (.cells #[.int .u8 (48 + (n : Int))] 5)) :=
        run_convert_bytes_back _ 56 9 5 ⟨w.heap.size, 0, none⟩ 1 [UInt8.ofNat (48 + n)] Tryd.underlying56 Tryd.underlying5 Tryd.underlying9 (fun j hj => by
          have hj0 : j = 0 := by simp at hj; exact hj
          subst hj0
          have := (Blk.new w #[.int .u8 (48 + (n : Int))] 5).cell 0
          rw [hw2] at this
          rw [hw2]
          exact this)
      clear hw2
      go_enter Tryd.func8, Tryd.ntmps8
      go_wp2_with fail
      go_ret
      exact ⟨ret_strL (by rw [HD.out]; simp [UInt8.ofNat_add]), (Below.refl _ _).alloc (Nat.le_refl _) _⟩
    · have IH := hide ih
      have HD := hide (dec_great h)
      clear ih
      have h' : ¬ (n : Int) < 10 := by omega
      have e1 : (n : Int) / 10 = ((n / 10 : Nat) : Int) := by omega
      have e2 : (n : Int) % 10 = ((n % 10 : Nat) : Int) := by omega
      have E1 := hide e1
      have E2 := hide e2
      clear e1 e2
      generalize Lib.decDigits n = D at HD ⊢
      go_enter Tryd.func8, Tryd.ntmps8
      go_wp2_with fail
      rw [E1.out]
      refine (IH.out (n / 10) (by omega) (by omega) _).mono ?_
      rintro e w1 ⟨rfl, hb1⟩
      go_wp2_with fail
      rw [E2.out]
      refine (IH.out (n % 10) (by omega) (by omega) _).mono ?_
      rintro e w2 ⟨rfl, hb2⟩
      have HB2 : Hid (Below w.heap.size w w2) := hb1.trans (hb2.mono hb1.size)
      clear hb1 hb2
      have l1 : (Lib.decDigits (n / 10)).length ≤ 1000001 := by have := dec_len (n / 10); omega
      have l2 : (Lib.decDigits (n % 10)).length ≤ 1000001 := by have := dec_len (n % 10); omega
      go_wp2_with fail
      go_ret
      exact ⟨ret_strL (by rw [HD.out]; simp), HB2.out⟩
end Go.Proofs.YtakmclheffbeaaaDoor


/- Walks: names from outside, by the program and by the document. -/
namespace Go.Proofs.YtakmclheffbeaaaDoor
open Go.RowKit
set_option linter.unusedSimpArgs false
set_option linter.unusedVariables false
set_option maxRecDepth 8000

end Go.Proofs.YtakmclheffbeaaaDoor


/- Walks: writing into a Builder that is part of a writer, with all else as it was. -/
namespace Go.Proofs.YtakmclheffbeaaaDoor
open Go.RowKit
set_option linter.unusedSimpArgs false
set_option linter.unusedVariables false

end Go.Proofs.YtakmclheffbeaaaDoor

/- Rows of lambda terms. -/
namespace Go.Proofs.YtakmclheffbeaaaDoor
open Go.RowKit
set_option linter.unusedSimpArgs false
set_option linter.unusedVariables false

/-- These cells are these lambda terms. -/
def RowTM (w : World) (X : Nat → Prop) : List Lm → List Value → Prop
  | [], xs => xs = []
  | t :: l, xs => ∃ a c r, xs = .int .i64 t.kind :: .int .i64 t.idx :: .slice a t.subs.length c :: r ∧ SlM w X a t.subs ∧ RowTM w X l r
theorem RowTM.len {w : World} {X : Nat → Prop} : ∀ {l : List Lm} {xs : List Value}, RowTM w X l xs → xs.length = l.length * 3
  | [], xs, h => by simp [RowTM] at h; simp [h]
  | t :: l, xs, h => by
    obtain ⟨a, c, r, rfl, _, h⟩ := h
    simp only [List.length_cons]
    rw [RowTM.len h]; omega
theorem RowTM.append {w : World} {X : Nat → Prop} : ∀ {l k : List Lm} {xs ys : List Value}, RowTM w X l xs → RowTM w X k ys → RowTM w X (l ++ k) (xs ++ ys)
  | [], k, xs, ys, h, h' => by simp [RowTM] at h; subst h; simpa using h'
  | t :: l, k, xs, ys, h, h' => by
    obtain ⟨a, c, r, rfl, hs, h⟩ := h
    exact ⟨a, c, r ++ ys, rfl, hs, RowTM.append h h'⟩
theorem RowTM.imp {w w' : World} {X Y : Nat → Prop} (hs : ∀ a l, SlM w X a l → SlM w' Y a l) : ∀ {l : List Lm} {xs : List Value}, RowTM w X l xs → RowTM w' Y l xs
  | [], xs, h => h
  | t :: l, xs, h => by
    obtain ⟨a, c, r, e, h1, h⟩ := h
    exact ⟨a, c, r, e, hs _ _ h1, RowTM.imp hs h⟩
theorem liesM_of_row {w w' : World} {X Y : Nat → Prop} (b : Nat) (hb : Y b) : ∀ (l : List Lm) (xs : List Value) (o : Nat), RowTM w X l xs → (∀ a k, SlM w X a k → SlM w' Y a k) → (∀ j u, xs[j]? = some u → w'.cell? ⟨b, o + j, none⟩ = some u) → LiesM w' Y b o l := by
  intro l
  induction l with
  | nil => intro xs o _ _ _; simp [LiesM]
  | cons t r ih =>
    intro xs o h hs hc
    obtain ⟨s, x, k⟩ := t
    obtain ⟨a, c, r', rfl, h1, h2⟩ := h
    simp only [LiesM]
    obtain ⟨h3, h4⟩ := hs _ _ h1
    refine ⟨hb, hc 0 _ rfl, hc 1 _ rfl, ⟨a, c, hc 2 _ rfl, h3, h4⟩, ih r' (o + 3) h2 hs fun j u hj => ?_⟩
    have := hc (j + 3) u (by simpa using hj)
    rwa [show o + (j + 3) = o + 3 + j by omega] at this

/-- The row so far, apart from what its terms are made of: old memory that Y lets, and new memory. -/
structure RowM (w : World) (N : Nat) (T : Nat) (Y : Nat → Prop) (v : Value) (l : List Lm) (xs : List Value) : Prop where
  own : w.ownsRow N T 3 v l.length xs
  row : RowTM w (fun b => Y b ∨ (N ≤ b ∧ some b ≠ v.ownBlock)) l xs

theorem RowM.start (w : World) (N T : Nat) (Y : Nat → Prop) : RowM w N T Y (.slice none 0 0) [] [] := ⟨World.ownsRow_nil w N T 3, rfl⟩

theorem RowM.below {w w' : World} {N T : Nat} {Y : Nat → Prop} {v : Value} {l : List Lm} {xs : List Value} (h : RowM w N T Y v l xs) (hb : Below w.heap.size w w') : RowM w' N T Y v l xs :=
  ⟨h.own.kept (w' := w') (row := none) ⟨hb.os, hb.tape, hb.output, hb.size, fun j hj _ => hb.block j hj⟩ (by rcases Option.eq_none_or_eq_some (Value.ownBlock v) with h | ⟨x, h⟩; exact Or.inl h; exact Or.inr (by rw [h]; simp)),
   h.row.imp fun a l h => h.later hb⟩

theorem RowM.ne {w : World} {N T : Nat} {Y : Nat → Prop} {v : Value} {l : List Lm} {xs : List Value} (h : RowM w N T Y v l xs) {b : Nat} (hb : b < N) : some b ≠ v.ownBlock := fun e => by
  have := (h.own.lt b e.symm).1; omega

/-- One more: the term's cells have been laid into a block of their own, and appended. -/
theorem RowM.push {w w1 w2 w3 : World} {N T : Nat} {Y : Nat → Prop} {v : Value} {l : List Lm} {xs : List Value} (h : RowM w N T Y v l xs) (hN : N ≤ w.heap.size) (hY : ∀ b, Y b → b < N) (hb : Below w.heap.size w w1) {s s2 : Int} {a : Option Addr} {n c : Nat} {t : Lm}
    (ht : MV w1 (fun b => Y b ∨ w.heap.size ≤ b) (.agg #[.int .i64 s, .int .i64 s2, .slice a n c]) t) (o : Obj) (hw2 : w2 = w1.alloc o) {g cap : Nat}
    (hown : w3.ownsRow N T 3 (.slice (some ⟨g, 0, none⟩) (l.length + 1) cap) (l.length + 1) (xs ++ [.int .i64 s, .int .i64 s2, .slice a n c])) (hg : w2.grownBy w3 v.ownBlock) (hg1 : v.ownBlock = some g ∨ g = w2.heap.size) :
    RowM w3 N T Y (.slice (some ⟨g, 0, none⟩) (l.length + 1) cap) (l ++ [t]) (xs ++ [.int .i64 s, .int .i64 s2, .slice a n c]) := by
  subst hw2
  have hlt := h.own.lt
  refine ⟨by simpa using hown, ?_⟩
  have hsz : w1.heap.size ≤ (w1.alloc o).heap.size := by simp
  have hbs := hb.size
  have hgN : N ≤ g := by
    rcases hg1 with e | e
    · exact (hlt g e).1
    · simp at e; omega
  refine RowTM.append (h.row.imp fun a' k' hs => ?_) ?_
  · have h1 : SlM w (fun b => (Y b ∨ (N ≤ b ∧ some b ≠ v.ownBlock)) ∧ b < w.heap.size) a' k' := hs.mono fun b h1 h2 => ⟨h1, h2⟩
    have h2 : SlM w3 (fun b => (Y b ∨ (N ≤ b ∧ some b ≠ v.ownBlock)) ∧ b < w.heap.size) a' k' := h1.kept fun b hx => by
      have hne : some b ≠ v.ownBlock := by
        rcases hx.1 with hy | hy
        · exact h.ne (hY b hy)
        · exact hy.2
      rw [hg.block b (by simp; omega) hne, Below.heap_alloc _ _ _ (by omega), hb.block b hx.2]
    refine h2.mono fun b hx _ => ?_
    rcases hx.1 with hy | hy
    · exact Or.inl hy
    · refine Or.inr ⟨hy.1, fun e => ?_⟩
      simp [Value.ownBlock] at e
      rcases hg1 with e' | e'
      · exact hy.2 (by rw [e', e])
      · simp at e'; omega
  · obtain ⟨a2, c2, e, hs⟩ := ht
    simp at e
    obtain ⟨rfl, rfl, rfl, rfl, rfl⟩ := e
    refine ⟨a, c, [], rfl, ?_, rfl⟩
    have h1 : SlM w1 (fun b => (Y b ∨ w.heap.size ≤ b) ∧ b < w1.heap.size) a t.subs := hs.mono fun b h1 h2 => ⟨h1, h2⟩
    have h2 : SlM w3 (fun b => (Y b ∨ w.heap.size ≤ b) ∧ b < w1.heap.size) a t.subs := h1.kept fun b hx => by
      have hne : some b ≠ v.ownBlock := by
        rcases hx.1 with hy | hy
        · exact h.ne (hY b hy)
        · intro e; have := (hlt b e.symm).2; omega
      rw [hg.block b (by simp; omega) hne, Below.heap_alloc _ _ _ hx.2]
    refine h2.mono fun b hx _ => ?_
    rcases hx.1 with hy | hy
    · exact Or.inl hy
    · refine Or.inr ⟨by omega, fun e => ?_⟩
      simp [Value.ownBlock] at e
      rcases hg1 with e' | e'
      · have := (hlt g e').2; omega
      · simp at e'; omega

/-- A store into a block that is none of the row's. -/
theorem RowM.setCell {w : World} {N T : Nat} {Y : Nat → Prop} {v : Value} {l : List Lm} {xs : List Value} (h : RowM w N T Y v l xs) {b i : Nat} (hb : b < N) (hY : ¬ Y b) (u : Value) : RowM (w.setCell ⟨b, i, none⟩ u) N T Y v l xs :=
  ⟨ownsRow_setCell_below h.own (by simpa using hb) u, h.row.imp fun a k hs => hs.kept fun c hc => Below.heap_setCell _ _ _ _ (by
    simp
    rcases hc with hc | hc
    · intro e; subst e; exact hY hc
    · omega)⟩

theorem RowM.sl {w : World} {N T : Nat} {Y : Nat → Prop} {v : Value} {l : List Lm} {xs : List Value} (h : RowM w N T Y v l xs) : ∃ a c, v = .slice a l.length c ∧ SlM w (fun b => Y b ∨ N ≤ b) a l := by
  have hml : l.length ≤ 9223372036854775807 := by
    rcases h.own.2 with ⟨_, h0⟩ | ⟨g, cap, cur, _, _, _, h1, h2, _⟩
    · omega
    · unfold maxLen at h2; omega
  by_cases h0 : 0 < l.length
  · obtain ⟨g, cap, rfl, hg, hlt, hc⟩ := owned_val h.own h0
    exact ⟨_, _, rfl, hml, Or.inr ⟨g, 0, rfl, liesM_of_row g (Or.inr hg) l xs 0 h.row (fun a k hs => hs.mono fun b hb _ => hb.imp id (fun h => h.1)) (fun j u hj => by simpa using hc j u hj)⟩⟩
  · have e : l = [] := List.length_eq_zero_iff.1 (by omega)
    subst e
    rcases h.own.2 with ⟨hv, _⟩ | ⟨g, cap, cur, hv, _⟩
    · exact ⟨none, 0, hv, hml, Or.inl rfl⟩
    · exact ⟨_, _, hv, hml, Or.inl rfl⟩

end Go.Proofs.YtakmclheffbeaaaDoor


/- Walks: may a lambda term be, as the document says. -/
namespace Go.Proofs.YtakmclheffbeaaaDoor
open Go.RowKit
set_option linter.unusedSimpArgs false
set_option linter.unusedVariables false
set_option maxRecDepth 8000

end Go.Proofs.YtakmclheffbeaaaDoor


/- What a round that appends a lambda term does. -/
namespace Go.Proofs.YtakmclheffbeaaaDoor
open Go.RowKit
set_option linter.unusedSimpArgs false
set_option linter.unusedVariables false
set_option maxRecDepth 8000

end Go.Proofs.YtakmclheffbeaaaDoor

/- Lambda terms: what is bound from outside is moved; a term is put in (plain). -/
namespace Go.Proofs.YtakmclheffbeaaaDoor
open Go.RowKit
set_option linter.unusedSimpArgs false
set_option linter.unusedVariables false
set_option maxRecDepth 8000

/-- No number is great. -/
def BndM : List Lm → Prop
  | [] => True
  | ⟨_, x, l⟩ :: r => (0 ≤ x ∧ x ≤ 100000) ∧ BndM l ∧ BndM r
theorem BndM_nil : BndM [] := by simp [BndM]
theorem BndM_cons (k x : Int) (l r : List Lm) : BndM (⟨k, x, l⟩ :: r) ↔ (0 ≤ x ∧ x ≤ 100000) ∧ BndM l ∧ BndM r := by simp [BndM]
theorem BndM.at : ∀ {l : List Lm} (k : Nat) (h : k < l.length), BndM l → BndM [l[k]]
  | [], k, h, _ => by simp at h
  | ⟨s, x, l⟩ :: r, 0, h, hb => by
    rw [BndM_cons] at hb
    exact (BndM_cons s x l []).2 ⟨hb.1, hb.2.1, BndM_nil⟩
  | ⟨s, x, l⟩ :: r, k + 1, h, hb => by
    rw [BndM_cons] at hb
    have := BndM.at (l := r) k (by simpa using h) hb.2.2
    simpa using this
end Go.Proofs.YtakmclheffbeaaaDoor


/- Walks: what is bound from outside is moved, as the document says. -/
namespace Go.Proofs.YtakmclheffbeaaaDoor
open Go.RowKit
set_option linter.unusedSimpArgs false
set_option linter.unusedVariables false
set_option maxRecDepth 8000

theorem step_append_eqM {P : Program} {ops : Array Oper} {o : Oper} {a : Act} {K : Act → World → Prop} {Q : Exit → Act → World → Prop} {E : Prop} {w w' : World} {v u v' : Value} (hgd : o.guard = none) (s x : Operand) (t t' : TypeId)
    (ho : o.op = .call { callee := .builtin .append, args := #[s, x], argTypes := #[t, t'] }) (hs : a.eval s = v) (hx : a.eval x = u)
    (hr : (Builtin.append_ #[t, t'] o.type #[v, u]).run P w = .ok v' w') (h : K (a.put o.dst v') w') : if Region.wanted o (yielded ops a.tmps) = true then Oper.wp P o a w K Q else E := by
  have hw : Region.wanted o (yielded ops a.tmps) = true := by simp [Region.wanted, hgd]
  rw [if_pos hw]
  unfold Oper.wp execOp
  simp only [ho, resolve, invoke, builtin, Sem.run_bind, Sem.run_pure, Result.andThen_ok, List.map_toArray, List.map_cons, List.map_nil, hs, hx, hr]
  exact h

end Go.Proofs.YtakmclheffbeaaaDoor


/- Walks: the text of a lambda term, as the document writes it. -/
namespace Go.Proofs.YtakmclheffbeaaaDoor
open Go.RowKit
set_option linter.unusedSimpArgs false
set_option linter.unusedVariables false
set_option maxRecDepth 8000

end Go.Proofs.YtakmclheffbeaaaDoor


/- Walks: the text of a lambda term, as the program writes it. -/
namespace Go.Proofs.YtakmclheffbeaaaDoor
open Go.RowKit
set_option linter.unusedSimpArgs false
set_option linter.unusedVariables false
set_option maxRecDepth 8000

/-- The library's table of powers, whatever is done from block B on. -/
def Tb (B : Nat) (w : World) : Prop := Lib.TabBelow Tryd.prog B w "internal/strconv.uint64pow10" .u64 Lib.pow10Tab
theorem Tb.on {B : Nat} {w w1 : World} (h : Tb B w) (hb : Below B w w1) : Tb B w1 := Lib.TabBelow.on h hb
theorem MV.bfr {w w' : World} {X : Nat → Prop} {v : Value} {t : Lm} {B : Nat} (h : MV w X v t) (hb : Below B w w') (hX : ∀ x, X x → x < B) : MV w' X v t := h.below hb (fun b hb _ => hX b hb)
theorem LV.bfr {w w' : World} {Y : Nat → Prop} {v : Value} {l : List ByteArray} {B : Nat} (h : LV Value.string w Y v l) (hb : Below B w w') (hX : ∀ x, Y x → x < B) : LV Value.string w' Y v l := h.below hb (fun b hb _ => hX b hb)
theorem itoa_any (n B : Nat) (hn : n ≤ 1000000) (w : World) (hT : Tb B w) : Calls Tryd.prog 41 #[.int .i64 n] w fun e w' => e = .returned (.string ⟨(Lib.decDigits n).toArray⟩) ∧ Below w.heap.size w w' := by
  refine (Tryd.strconv_Itoa n (by omega) (by omega) w hT.here).mono ?_
  rintro e w' ⟨rfl, k, os, rfl⟩
  refine ⟨?_, Lib.below_grow _ _ (Nat.le_refl _) _ _⟩
  have : Lib.itoa (n : Int) = Lib.decDigits n := by simp [Lib.itoa]
  rw [this]

end Go.Proofs.YtakmclheffbeaaaDoor

/- Walks: new names, Z1, Z2, .. as they are asked for (knots.Namer). -/
namespace Go.Proofs.YtakmclheffbeaaaDoor
open Go.RowKit
set_option linter.unusedSimpArgs false
set_option linter.unusedVariables false
set_option maxRecDepth 8000

/-- The k-th name. -/
def nmZ (k : Nat) : ByteArray := ⟨(90 :: Lib.decDigits k).toArray⟩
/-- What has a name already, and the number of it. -/
def numS : Nat → List ByteArray → List (ByteArray × Value)
  | _, [] => []
  | k, n :: r => (n, .int .i64 ((k + 1 : Nat) : Int)) :: numS (k + 1) r
def idxS (s : ByteArray) : List ByteArray → Nat
  | [] => 0
  | n :: r => if n = s then 0 else idxS s r + 1
def addS (ns : List ByteArray) (s : ByteArray) : List ByteArray := if idxS s ns < ns.length then ns else ns ++ [s]
theorem idxS_le (s : ByteArray) : ∀ ns : List ByteArray, idxS s ns ≤ ns.length
  | [] => by simp [idxS]
  | n :: r => by
    have := idxS_le s r
    simp only [idxS, List.length_cons]
    split <;> omega
theorem numS_len : ∀ (k : Nat) (ns : List ByteArray), (numS k ns).length = ns.length
  | _, [] => rfl
  | k, n :: r => by simp [numS, numS_len (k + 1) r]
theorem numS_get (s : ByteArray) : ∀ (k : Nat) (ns : List ByteArray), mapGet (numS k ns) s = if idxS s ns < ns.length then some (.int .i64 ((k + idxS s ns + 1 : Nat) : Int)) else none
  | _, [] => by simp [numS, mapGet]
  | k, n :: r => by
    have ih := numS_get s (k + 1) r
    by_cases h : n = s
    · have e : idxS s (n :: r) = 0 := by simp [idxS, h]
      rw [if_pos (show idxS s (n :: r) < (n :: r).length by rw [e]; simp), e]
      simp [numS, mapGet, h]
    · have e : idxS s (n :: r) = idxS s r + 1 := by simp [idxS, h]
      have e2 : mapGet (numS k (n :: r)) s = mapGet (numS (k + 1) r) s := by simp [numS, mapGet, h]
      rw [e2, ih]
      by_cases h2 : idxS s r < r.length
      · rw [if_pos h2, if_pos (show idxS s (n :: r) < (n :: r).length by rw [e]; simp; omega), e]
        rw [show k + 1 + idxS s r + 1 = k + (idxS s r + 1) + 1 by omega]
      · rw [if_neg h2, if_neg (show ¬ idxS s (n :: r) < (n :: r).length by rw [e]; simp; omega)]
theorem numS_push (s : ByteArray) : ∀ (k : Nat) (ns : List ByteArray), numS k (ns ++ [s]) = numS k ns ++ [(s, .int .i64 ((k + ns.length + 1 : Nat) : Int))]
  | k, [] => by simp [numS]
  | k, n :: r => by
    simp only [List.cons_append, numS, numS_push s (k + 1) r, List.length_cons]
    rw [show k + 1 + r.length + 1 = k + (r.length + 1) + 1 by omega]
theorem addS_len (ns : List ByteArray) (s : ByteArray) : (addS ns s).length ≤ ns.length + 1 := by
  unfold addS; split <;> simp
theorem addS_idx (s : ByteArray) : ∀ ns : List ByteArray, idxS s (addS ns s) = idxS s ns := by
  intro ns
  unfold addS
  split
  · rfl
  · rename_i h
    induction ns with
    | nil => simp [idxS]
    | cons n r ih =>
      simp only [idxS, List.length_cons, List.cons_append] at h ⊢
      by_cases h2 : n = s
      · rw [if_pos h2, if_pos h2]
      · rw [if_neg h2] at h
        rw [if_neg h2, if_neg h2, ih (by omega)]
/-- One who gives names: the box of its map, the map. -/
structure NmAt (w : World) (B r : Nat) (ns : List ByteArray) : Prop where
  box : Blk w B #[.map (some r)] 76
  map : MapAt w r (numS 0 ns)
  ne : B ≠ r
theorem NmAt.later {w w' : World} {B r : Nat} {ns : List ByteArray} (h : NmAt w B r ns) (hb : Below w.heap.size w w') : NmAt w' B r ns := ⟨h.box.below hb h.box.lt, h.map.below hb h.map.lt, h.ne⟩
theorem NmAt.alloc {w : World} {B r : Nat} {ns : List ByteArray} (h : NmAt w B r ns) (o : Obj) : NmAt (w.alloc o) B r ns := h.later ((Below.refl _ _).alloc (Nat.le_refl _) o)
theorem str_nmZ (k : Nat) : (⟨#[90]⟩ : ByteArray) ++ ⟨(Lib.decDigits k).toArray⟩ = nmZ k := by
  apply ByteArray.ext
  unfold nmZ
  apply Array.ext'
  simp [ByteArray.toList_data_append]
theorem run_lenZ {P : Program} {w : World} {T kt et : TypeId} {r : Nat} {L : List (ByteArray × Value)} (hm : P.underlying T = some (.map kt et)) (h : MapAt w r L) (ty : TypeId) : (Builtin.len_ #[T] ty #[.map (some r)]).run P w = .ok (.int .i64 (L.length : Int)) w := by
  obtain ⟨es, clk, hb, he, _⟩ := h
  have hl : es.size = L.length := by have := congrArg List.length he; simpa using this
  simp [Builtin.len_, run_underlying hm, MapKept.run_getObj_map hb, goInt, Result.andThen, hl]

set_option maxHeartbeats 1000000 in
theorem newNamer_any (w : World) :
    Calls Tryd.prog 23 #[] w fun e w' => ∃ B r, e = .returned (.func (.func 40) #[] #[.pointer (some ⟨B, 0, none⟩)]) ∧ NmAt w' B r [] ∧ w.heap.size ≤ r ∧ w.heap.size ≤ B ∧ Below w.heap.size w w' := by
  have hmf : ∀ (fn : Fn) (first cap : Array Value) (w : World), (Instr.makeFunc fn first cap).run Tryd.prog w = .ok (.func fn first cap) w := fun _ _ _ _ => rfl
  have hmm := @run_makeMap Tryd.prog
  go_enter Tryd.func23, Tryd.ntmps23
  go_wp2_with fail
  go_ret
  have h := Blk.new (w.alloc (.map #[] 0)) #[.map (some w.heap.size)] 76
  have hz : (w.alloc (.map #[] 0)).heap.size = w.heap.size + 1 := by simp
  rw [hz] at h
  have hb : Below w.heap.size w ((w.alloc (.map #[] 0)).alloc (.cells #[.map (some w.heap.size)] 76)) := ((Below.refl _ _).alloc (Nat.le_refl _) _).alloc (by simp) _
  exact ⟨w.heap.size + 1, w.heap.size, rfl, ⟨h, (MapAt.new w).below (B := w.heap.size + 1) ((Below.refl _ _).alloc (by simp) _) (by omega), by omega⟩, Nat.le_refl _, by omega, hb⟩

set_option maxHeartbeats 2000000 in
theorem namer_any (BT : Nat) (s : ByteArray) (ns : List ByteArray) (B r : Nat) (w : World) (h : NmAt w B r ns) (hT : Tb BT w) (hBr : BT ≤ r) (hBw : BT ≤ w.heap.size) (hl : ns.length ≤ 100000) :
    Calls Tryd.prog 40 #[.string s, .pointer (some ⟨B, 0, none⟩)] w fun e w' => e = .returned (.string (nmZ (idxS s ns + 1))) ∧ NmAt w' B r (addS ns s) ∧ ExQ (fun b => b = r) w w' := by
  have HN := hide h
  have HTB := hide hT
  have b0 : w.cell? ⟨B, 0, none⟩ = some (.map (some r)) := h.box.cell 0
  have hget := numS_get s 0 ns
  have hz := Tryd.zeroValue3 w
  have hix := idxS_le s ns
  by_cases hin : idxS s ns < ns.length
  · rw [if_pos hin] at hget
    have hlook : (Instr.lookup 76 (.map (some r)) (.string s) true).run Tryd.prog w = .ok (.tuple #[.int .i64 ((idxS s ns + 1 : Nat) : Int), .bool true]) w := by
      rw [run_look (P := Tryd.prog) Tryd.underlying76 Tryd.underlying9 hz h.map _, hget]
      simp
    have HA : Hid (addS ns s = ns) := by unfold Hid addS; rw [if_pos hin]
    obtain ⟨k, hk⟩ : ∃ k, k = idxS s ns + 1 := ⟨_, rfl⟩
    rw [← hk] at hlook
    rw [← hk]
    have hk2 : k ≤ 1000000 := by omega
    have HST := hide (str_nmZ k)
    have hdl : (Lib.decDigits k).length ≤ 1000001 := by have := dec_len k; omega
    have hdl3 : 1 + (Lib.decDigits k).length ≤ 9223372036854775807 := by omega
    have hdl2 : ¬ 9223372036854775807 < 1 + (Lib.decDigits k).length := by omega
    clear hget hz hin hix hk h
    go_enter Tryd.func40, Tryd.ntmps40
    go_wp2_with fail
    refine (itoa_any k BT hk2 _ HTB.out).mono ?_
    rintro e w1 ⟨rfl, hb1⟩
    have HB1 := hide hb1
    clear hb1 b0 hlook
    go_wp2_with fail
    rw [HST.out]
    go_ret
    exact ⟨rfl, by rw [HA.out]; exact HN.out.later HB1.out, ExQ.ofBelow HB1.out⟩
  · rw [if_neg hin] at hget
    have hlook : (Instr.lookup 76 (.map (some r)) (.string s) true).run Tryd.prog w = .ok (.tuple #[.int .i64 0, .bool false]) w := by
      rw [run_look (P := Tryd.prog) Tryd.underlying76 Tryd.underlying9 hz h.map _, hget]
      simp
    have hlen : (Builtin.len_ #[76] 3 #[.map (some r)]).run Tryd.prog w = .ok (.int .i64 (ns.length : Int)) w := by
      rw [run_lenZ Tryd.underlying76 h.map, numS_len]
    have HA : Hid (addS ns s = ns ++ [s]) := by unfold Hid addS; rw [if_neg hin]
    have hnl : idxS s ns = ns.length := by omega
    obtain ⟨k, hk⟩ : ∃ k, k = ns.length + 1 := ⟨_, rfl⟩
    have hki : (ns.length : Int) + 1 = (k : Int) := by omega
    have hk2 : k ≤ 1000000 := by omega
    have hwr : IntKind.i64.wrap ((ns.length : Int) + 1) = (k : Int) := by rw [IntKind.wrap_i64]; omega
    obtain ⟨w2, hrun2, hM2, hz2, ho2, ht2, hu2, hkp⟩ := run_put (P := Tryd.prog) Tryd.underlying76 Tryd.underlying9 h.map s (.int .i64 (k : Int)) hget
    have HE2 : Hid (ExQ (fun b => b = r) w w2) := ⟨ho2, ht2, hu2, by omega, fun b _ hn => hkp b hn⟩
    have HN2 : Hid (NmAt w2 B r (addS ns s)) := ⟨(hkp B h.ne).trans h.box, by rw [HA.out, numS_push]; rw [show 0 + ns.length + 1 = k by omega]; exact hM2, h.ne⟩
    have HT2 : Hid (Tb BT w2) := HTB.out.on (HE2.out.below (B := BT) hBw (fun b hb => by omega))
    rw [show idxS s ns + 1 = k by omega]
    have HST := hide (str_nmZ k)
    have hdl : (Lib.decDigits k).length ≤ 1000001 := by have := dec_len k; omega
    have hdl3 : 1 + (Lib.decDigits k).length ≤ 9223372036854775807 := by omega
    have hdl2 : ¬ 9223372036854775807 < 1 + (Lib.decDigits k).length := by omega
    have HKI := hide hki
    generalize (ns.length : Int) = nl at *
    clear hget hz hin hix hk h hM2 hz2 ho2 ht2 hu2 hkp hnl hki
    go_enter Tryd.func40, Tryd.ntmps40
    go_wp2_with fail
    refine (itoa_any k BT hk2 _ HT2.out).mono ?_
    rintro e w1 ⟨rfl, hb1⟩
    have HB1 := hide hb1
    clear hb1 b0 hlook
    go_wp2_with fail
    rw [HST.out]
    go_ret
    exact ⟨rfl, HN2.out.later HB1.out, HE2.out.trans (ExQ.ofBelow HB1.out)⟩
end Go.Proofs.YtakmclheffbeaaaDoor

/- Walks: variables get new names (knots.Rename). -/
namespace Go.Proofs.YtakmclheffbeaaaDoor
open Go.RowKit
set_option linter.unusedSimpArgs false
set_option linter.unusedVariables false
set_option maxRecDepth 8000

/-- New names for the variables, as they come; the names that were asked for. -/
def renL : List ByteArray → List Tm → List Tm × List ByteArray
  | ns, [] => ([], ns)
  | ns, ⟨s, l⟩ :: r =>
    if varB s = true then (⟨nmZ (idxS s ns + 1), []⟩ :: (renL (addS ns s) r).1, (renL (addS ns s) r).2)
    else (⟨s, (renL ns l).1⟩ :: (renL (renL ns l).2 r).1, (renL (renL ns l).2 r).2)
def renT (ns : List ByteArray) (t : Tm) : Tm × List ByteArray :=
  if varB t.name = true then (⟨nmZ (idxS t.name ns + 1), []⟩, addS ns t.name) else (⟨t.name, (renL ns t.args).1⟩, (renL ns t.args).2)
theorem renL_nil (ns : List ByteArray) : renL ns [] = ([], ns) := by rw [renL]
theorem renL_cons (ns : List ByteArray) (t : Tm) (r : List Tm) : renL ns (t :: r) = ((renT ns t).1 :: (renL (renT ns t).2 r).1, (renL (renT ns t).2 r).2) := by
  obtain ⟨s, l⟩ := t
  rw [renL]
  unfold renT
  by_cases h : varB s = true
  · simp [h]
  · simp [h]
theorem renL_append (b : List Tm) : ∀ (a : List Tm) (ns : List ByteArray), renL ns (a ++ b) = ((renL ns a).1 ++ (renL (renL ns a).2 b).1, (renL (renL ns a).2 b).2)
  | [], ns => by simp [renL_nil]
  | t :: r, ns => by
    rw [List.cons_append, renL_cons, renL_append b r, renL_cons]
    simp
theorem renL_take (ns : List ByteArray) (l : List Tm) (k : Nat) (h : k < l.length) : renL ns (l.take (k + 1)) = ((renL ns (l.take k)).1 ++ [(renT (renL ns (l.take k)).2 l[k]).1], (renT (renL ns (l.take k)).2 l[k]).2) := by
  rw [List.take_succ_eq_append_getElem h, renL_append, renL_cons, renL_nil]
theorem renL_len : ∀ (l : List Tm) (ns : List ByteArray), (renL ns l).1.length = l.length
  | [], ns => by simp [renL_nil]
  | t :: r, ns => by rw [renL_cons]; simp [renL_len r]
theorem renL_names (l : List Tm) : ∀ (ns : List ByteArray), (renL ns l).2.length ≤ ns.length + sizeL l := by
  induction l using Tm.indL with
  | h0 => intro ns; simp [renL_nil]
  | h s l r ihl ihr =>
    intro ns
    have e : sizeL ((⟨s, l⟩ : Tm) :: r) = 1 + sizeL l + sizeL r := by simp [sizeL]
    rw [e, renL_cons]
    have h2 := ihr (renT ns ⟨s, l⟩).2
    have h3 : (renT ns ⟨s, l⟩).2.length ≤ ns.length + (1 + sizeL l) := by
      unfold renT
      split
      · have := addS_len ns s; simp only; omega
      · have := ihl ns; simp only; omega
    simp only
    omega
theorem cell_termZ (w : World) (a b : Value) (T : Nat) : ∀ j u, ([a, b] : List Value)[j]? = some u → (w.alloc (.cells #[a, b] T)).cell? ((⟨w.heap.size, 0, none⟩ : Addr).add j) = some u := fun j u h => by
  have hb := Blk.new w #[a, b] T
  have h1 : (⟨w.heap.size, 0, none⟩ : Addr).add j = ⟨w.heap.size, j, none⟩ := by
    by_cases h0 : j = 0
    · subst h0; simp [Addr.add]
    · simp [Addr.add, h0]
  rw [h1, hb.cell j]
  simpa using h
/-- What is held while the next one is made. -/
def RnS (Q : Nat) (s1 : ByteArray) (v1 : Value) (w' : World) : Prop := w'.cell? ⟨Q, 0, none⟩ = some (.string s1) ∧ w'.cell? ⟨Q, 1, none⟩ = some v1
theorem RnS.kept {Q : Nat} {s1 : ByteArray} {v1 : Value} {w w' : World} (h : RnS Q s1 v1 w) (hk : w'.heap[Q]? = w.heap[Q]?) : RnS Q s1 v1 w' := ⟨by simpa [World.cell?, hk] using h.1, by simpa [World.cell?, hk] using h.2⟩
/-- How far it is. -/
structure RnI (w : World) (B r : Nat) (s : ByteArray) (T : Array Value) (u : Value) (L : List Tm) (xs : List Value) (ns : List ByteArray) (wr : World) : Prop where
  row : Row wr (w.heap.size + 3) 24 (fun _ => False) u L xs
  ex : ExQ (fun b => b = r) w wr
  res : Blk wr (w.heap.size + 1) #[.string ⟨#[]⟩, .slice none 0 0] 24
  out : Blk wr (w.heap.size + 2) #[.string s, u] 24
  sz : w.heap.size + 3 ≤ wr.heap.size
  nm : NmAt wr B r ns
theorem rn_round {w wq w5 : World} {B r : Nat} {s : ByteArray} {T : Array Value} {u : Value} {L : List Tm} {xs : List Value} {ns ns' : List ByteArray} {t : Tm} {a5 : Option Addr} {c5 Q : Nat} {s1 : ByteArray} {v1 : Value} (hr : r < w.heap.size) (hB : B < w.heap.size) (h : RnI w B r s T u L xs ns wq) (hQ : w.heap.size + 3 ≤ Q ∧ some Q ≠ u.ownBlock) (hS : RnS Q s1 v1 wq) (hl : L.length ≤ 1000000)
    (h5 : ExQ (fun b => b = r) wq w5) (hs5 : Sl w5 (fun b => wq.heap.size ≤ b) a5 t.args) (hn5 : NmAt w5 B r ns') :
    ∃ g cap w3, (Builtin.append_ #[22, 22] 22 #[u, .slice (some ⟨w5.heap.size, 0, none⟩) 1 1]).run Tryd.prog (w5.alloc (.cells #[.string t.name, .slice a5 t.args.length c5] 24)) = .ok (.slice (some ⟨g, 0, none⟩) (L.length + 1) cap) w3 ∧
      RnS Q s1 v1 w5 ∧ RnS Q s1 v1 (w5.alloc (.cells #[.string t.name, .slice a5 t.args.length c5] 24)) ∧ RnS Q s1 v1 w3 ∧ w5.cell? ⟨w.heap.size + 2, 1, none⟩ = some u ∧ (w5.alloc (.cells #[.string t.name, .slice a5 t.args.length c5] 24)).cell? ⟨w.heap.size + 2, 1, none⟩ = some u ∧ w3.cell? ⟨w.heap.size + 2, 1, none⟩ = some u ∧ w3.frozen? ⟨w.heap.size + 2, 1, none⟩ = false ∧ w.heap.size + 2 < w3.heap.size ∧
      RnS Q s1 v1 (w3.setCell ⟨w.heap.size + 2, 1, none⟩ (.slice (some ⟨g, 0, none⟩) (L.length + 1) cap)) ∧ RnI w B r s T (.slice (some ⟨g, 0, none⟩) (L.length + 1) cap) (L ++ [t]) (xs ++ [.string t.name, .slice a5 t.args.length c5]) ns' (w3.setCell ⟨w.heap.size + 2, 1, none⟩ (.slice (some ⟨g, 0, none⟩) (L.length + 1) cap)) := by
  obtain ⟨hrow, hex, hres, hout, hsz, hnm⟩ := h
  obtain ⟨i0, hi, hz0, hz1, hz2⟩ := info_parts Tryd.infoTerm
  obtain ⟨wm, hbm, hsm, hem⟩ := h5.mid
  have hlt := hrow.own.lt
  have hrm := hrow.exq hem (fun b hb => by omega) (fun b _ h => h)
  have hsx := hbm.size
  have hQl : Q < wq.heap.size := by
    apply Classical.byContradiction
    intro hn
    have e : wq.heap[Q]? = none := Array.getElem?_eq_none (by omega)
    have := hS.1
    simp [World.cell?, e] at this
  obtain ⟨g, cap, w3, hr3, ho, hg, hat, hgl⟩ := run_append_lies (P := Tryd.prog) (w := w5.alloc (.cells #[.string t.name, .slice a5 t.args.length c5] 24)) 22 22 (w.heap.size + 3) 24 i0 _ 2 40 Tryd.underlying22 hi hz0 hz1 hz2 rfl (by decide) u L.length xs ((hrm.below hbm).own.alloc _)
    ⟨w5.heap.size, 0, none⟩ 1 1 [.string t.name, .slice a5 t.args.length c5] rfl (cell_termZ _ _ _ _) (fun y hy => by simp at hy; rcases hy with rfl | rfl <;> rfl) (by decide) (by unfold maxLen; omega) (by omega) (by simp; omega) _ rfl
  have hp := hrm.push (w1 := w5) (w3 := w3) (t := t) (by omega) (fun b h => h.elim) hbm ⟨a5, c5, rfl, hs5.mono fun b h _ => Or.inr (by omega)⟩ _ rfl ho hg hat
  have hne : ∀ j, j < w.heap.size + 3 → some j ≠ u.ownBlock := fun j hj e => by have := (hlt j e.symm).1; omega
  have hs3 := hg.size
  simp at hs3
  have hx5 : ExQ (fun b => b = r) w w5 := hex.transN h5 (fun i h _ => h)
  have hx3 : ExQ (fun b => b = r) w w3 := (hx5.alloc _).grown hg (fun k hk => Or.inl (by have := (hlt k hk).1; omega))
  have hO5 := hout.exq h5 (by omega)
  have hO3 := (hO5.alloc (.cells #[.string t.name, .slice a5 t.args.length c5] 24)).grown hg (hne _ (by omega))
  have hR3 := ((hres.exq h5 (by omega)).alloc (.cells #[.string t.name, .slice a5 t.args.length c5] 24)).grown hg (hne _ (by omega))
  have S5 : RnS Q s1 v1 w5 := hS.kept (h5.block Q hQl (by omega))
  have S6 : RnS Q s1 v1 (w5.alloc (.cells #[.string t.name, .slice a5 t.args.length c5] 24)) := S5.kept (Below.heap_alloc _ _ _ (by omega))
  have S3 : RnS Q s1 v1 w3 := S6.kept (hg.block Q (by simp; omega) hQ.2)
  have N3 : NmAt w3 B r ns' := ⟨((hn5.alloc _).box).grown hg (hne _ (by omega)), (hn5.alloc (.cells #[.string t.name, .slice a5 t.args.length c5] 24)).map.kept (hg.block r (by have := hn5.map.lt; simp; omega) (hne _ (by omega))), hn5.ne⟩
  refine ⟨g, cap, w3, hr3, S5, S6, S3, hO5.cell 1, (hO5.alloc _).cell 1, hO3.cell 1, hO3.frozen 1, by omega, S3.kept (Below.heap_setCell _ _ _ _ (by simp; omega)), ?_⟩
  refine ⟨hp.setCell (by omega) (fun h => h) _, hx3.setNew (by omega) _ _, hR3.setOther _ _ (by omega), hO3.set 1 _, by simp [World.setCell]; omega, ⟨N3.box.setOther _ _ (by omega), N3.map.kept (Below.heap_setCell _ _ _ _ (by simp; omega)), N3.ne⟩⟩
/-- What Rename tells. -/
def RnP (B r : Nat) (y : Tm × List ByteArray) (w : World) (e : Ending) (w' : World) : Prop :=
  ∃ a c, e = .returned (.agg #[.string y.1.name, .slice a y.1.args.length c]) ∧ Sl w' (fun b => w.heap.size ≤ b) a y.1.args ∧ NmAt w' B r y.2 ∧ ExQ (fun b => b = r) w w'

set_option maxHeartbeats 4000000 in
theorem rename_any (BT B r : Nat) (hBr : BT ≤ r) (t : Tm) : ∀ (v : Value) (ns : List ByteArray) (w : World) (X : Nat → Prop), TV w X v t → (∀ b, X b → b ≠ r) → NmAt w B r ns → Tb BT w → ns.length + sizeL [t] ≤ 100000 →
    Calls Tryd.prog 34 #[v, .func (.func 40) #[] #[.pointer (some ⟨B, 0, none⟩)]] w fun e w' => RnP B r (renT ns t) w e w' := by
  induction t using Tm.ind with
  | h s l ih =>
    intro v ns w X hv hX hN hT hsz
    obtain ⟨a, c, rfl, hs⟩ := hv
    have IH := hide ih
    have HS := hide hs
    have HX := hide hX
    have HN := hide hN
    have HT := hide hT
    have hl := hs.1
    have hz : sizeL [(⟨s, l⟩ : Tm)] = 1 + sizeL l := by simp [sizeL]
    rw [hz] at hsz
    have hlen := sizeL_len l
    have hrl : r < w.heap.size := hN.map.lt
    have hBl : B < w.heap.size := hN.box.lt
    have HRB : Hid (r < w.heap.size ∧ B < w.heap.size) := ⟨hrl, hBl⟩
    have hBw : BT ≤ w.heap.size := by omega
    clear ih hs hz hX hN hT
    have T2 : Hid (Blk ((w.alloc (.cells #[.string s, .slice a l.length c] 24)).alloc (.cells #[.string ⟨#[]⟩, .slice none 0 0] 24)) w.heap.size #[.string s, .slice a l.length c] 24) := (Blk.new w _ _).alloc _
    have R2 : Hid (Blk ((w.alloc (.cells #[.string s, .slice a l.length c] 24)).alloc (.cells #[.string ⟨#[]⟩, .slice none 0 0] 24)) (w.heap.size + 1) #[.string ⟨#[]⟩, .slice none 0 0] 24) := by
      have h := Blk.new (w.alloc (.cells #[.string s, .slice a l.length c] 24)) #[.string ⟨#[]⟩, .slice none 0 0] 24
      rw [World.size_alloc] at h
      exact h
    have B2 : Hid (Below w.heap.size w ((w.alloc (.cells #[.string s, .slice a l.length c] 24)).alloc (.cells #[.string ⟨#[]⟩, .slice none 0 0] 24))) := ((Below.refl _ _).alloc (Nat.le_refl _) _).alloc (by simp) _
    have c0 := T2.out.cell 0
    have c1 := T2.out.cell 1
    cases hvs : varB s with
    | true =>
      have HR : Hid (renT ns ⟨s, l⟩ = (⟨nmZ (idxS s ns + 1), []⟩, addS ns s)) := by unfold Hid renT; simp [hvs]
      have NM := hide (namer_any BT s ns B r _ (HN.out.later B2.out) (HT.out.on (B2.out.mono hBw)) hBr (Nat.le_trans hBw B2.out.size) (by omega))
      have HV := hide hvs
      clear hvs
      go_enter Tryd.func34, Tryd.ntmps34
      go_wp2_with fail
      refine (isVariable_all s _).mono ?_
      rintro e w2 ⟨rfl, rfl⟩
      rw [HV.out]
      go_wp2_with fail
      refine NM.out.mono ?_
      rintro e w3 ⟨rfl, hn3, hx3⟩
      have R3 := hide (R2.out.exq hx3 (by omega))
      have HN3 := hide hn3
      have HX3 := hide ((ExQ.ofBelow (Q := fun b => b = r) B2.out).transN hx3 (fun i h _ => h))
      clear hn3 hx3 c0 c1 NM
      have r0 : w3.cell? ⟨w.heap.size + 1, 0, none⟩ = some (.string ⟨#[]⟩) := R3.out.cell 0
      have r1 : w3.cell? ⟨w.heap.size + 1, 1, none⟩ = some (.slice none 0 0) := R3.out.cell 1
      have rf := R3.out.frozen
      have hRl : w.heap.size + 1 < w3.heap.size := R3.out.lt
      generalize nmZ (idxS s ns + 1) = nm at *
      go_wp2_with fail
      refine bodyPost_ret (v := .agg #[.string nm, .slice none 0 0]) (by simp [results, Tryd.results34, go_sem, World.cell?_setCell_same, World.cell?_setCell_other, r0, r1, hRl]) rfl ?_
      rw [HR.out]
      refine ⟨none, 0, rfl, ⟨by simp, Or.inl rfl⟩, ⟨(HN3.out.box.setOther _ _ (by omega)).setOther _ _ (by omega), ?_, HN3.out.ne⟩, (HX3.out.setNew (by omega) _ _).setNew (by omega) _ _⟩
      refine HN3.out.map.kept ?_
      rw [Below.heap_setCell _ _ _ _ (by simp; omega), Below.heap_setCell _ _ _ _ (by simp; omega)]
    | false =>
      have HR : Hid (renT ns ⟨s, l⟩ = (⟨s, (renL ns l).1⟩, (renL ns l).2)) := by unfold Hid renT; simp [hvs]
      have HV := hide hvs
      clear hvs
      go_enter Tryd.func34, Tryd.ntmps34
      go_wp2_with fail
      refine (isVariable_all s _).mono ?_
      rintro e w2 ⟨rfl, rfl⟩
      rw [HV.out]
      go_wp2_with fail
      have O3 : Hid (Blk (((w.alloc (.cells #[.string s, .slice a l.length c] 24)).alloc (.cells #[.string ⟨#[]⟩, .slice none 0 0] 24)).alloc (.cells #[.string s, .slice none 0 0] 24)) (w.heap.size + 2) #[.string s, .slice none 0 0] 24) := by
        have h := Blk.new ((w.alloc (.cells #[.string s, .slice a l.length c] 24)).alloc (.cells #[.string ⟨#[]⟩, .slice none 0 0] 24)) #[.string s, .slice none 0 0] 24
        have e : ((w.alloc (.cells #[.string s, .slice a l.length c] 24)).alloc (.cells #[.string ⟨#[]⟩, .slice none 0 0] 24)).heap.size = w.heap.size + 2 := by simp
        rw [e] at h
        exact h
      have R3 := hide (R2.out.alloc (.cells #[.string s, .slice none 0 0] 24))
      have B3 := hide (B2.out.alloc B2.out.size (.cells #[.string s, .slice none 0 0] 24))
      have SZ3 : Hid (w.heap.size + 3 ≤ (((w.alloc (.cells #[.string s, .slice a l.length c] 24)).alloc (.cells #[.string ⟨#[]⟩, .slice none 0 0] 24)).alloc (.cells #[.string s, .slice none 0 0] 24)).heap.size) := by unfold Hid; simp
      clear c0 c1 B2 T2 R2
      generalize (((w.alloc (.cells #[.string s, .slice a l.length c] 24)).alloc (.cells #[.string ⟨#[]⟩, .slice none 0 0] 24)).alloc (.cells #[.string s, .slice none 0 0] 24)) = w3 at *
      go_loopw [22] (fun i wr => ∃ (k : Nat) (u : Value) (xs : List Value), k ≤ l.length ∧ i = .int .i64 (k : Int) ∧ RnI w B r s #[] u (renL ns (l.take k)).1 xs (renL ns (l.take k)).2 wr) (fun i wr => l.length - (intOf i).toNat)
      case atStart => exact ⟨0, .slice none 0 0, [], Nat.zero_le _, rfl, ⟨by have h := Row.start w3 (w.heap.size + 3) 24 (fun _ => False); simpa [renL_nil] using h, ExQ.ofBelow B3.out, R3.out, O3.out, SZ3.out, by simpa [renL_nil] using HN.out.later B3.out⟩⟩
      case round =>
        obtain ⟨k, u9, xs, hk, rfl, hin⟩ := hrel
        have SET := hide hin
        clear hin
        have o0 : wr.cell? ⟨w.heap.size + 2, 0, none⟩ = some (.string s) := SET.out.out.cell 0
        have o1 : wr.cell? ⟨w.heap.size + 2, 1, none⟩ = some u9 := SET.out.out.cell 1
        by_cases hlt : k < l.length
        · obtain ⟨b, o, a', c', rfl, d0, d1, hx⟩ := (((HS.out.mono (Y := fun b => X b ∧ b < w.heap.size) fun b h1 h2 => ⟨h1, h2⟩).exq SET.out.ex (fun b h => HX.out b h.1)).mono (Y := fun b => (X b ∧ b < w.heap.size) ∧ b < wr.heap.size) fun b h1 h2 => ⟨h1, h2⟩).get (Below.refl wr.heap.size wr) (fun b h _ => h.2) k hlt
          have hlt2 : (k : Int) < (l.length : Int) := by omega
          have hszk : sizeL [l[k]] ≤ sizeL l - sizeL (l.take k) := by
            have h1 := sizeL_take l k hlt
            have h2 := sizeL_take_le l (k + 1)
            omega
          have hszk2 : sizeL (l.take k) ≤ sizeL l := sizeL_take_le l k
          have HLN : Hid ((renL ns (l.take k)).1.length ≤ 1000000) := by unfold Hid; rw [renL_len]; simp; omega
          have hnn := renL_names (l.take k) ns
          have HTK := hide (renL_take ns l k hlt)
          have BQ : Below wr.heap.size wr (wr.alloc (.cells #[.string l[k].name, .slice a' l[k].args.length c'] 24)) := (Below.refl _ _).alloc (Nat.le_refl _) _
          have HXK := hide (hx.later BQ)
          have HOB : Hid (w.heap.size + 3 ≤ wr.heap.size ∧ some wr.heap.size ≠ u9.ownBlock) := ⟨SET.out.sz, fun e => by have := (SET.out.row.own.lt _ e.symm).2; omega⟩
          have SQ : Hid (RnI w B r s #[] u9 (renL ns (l.take k)).1 xs (renL ns (l.take k)).2 (wr.alloc (.cells #[.string l[k].name, .slice a' l[k].args.length c'] 24))) := ⟨SET.out.row.below BQ, SET.out.ex.alloc _, SET.out.res.alloc _, SET.out.out.alloc _, by have := SET.out.sz; simp; omega, SET.out.nm.alloc _⟩
          have HS8 : Hid (RnS wr.heap.size l[k].name (.slice a' l[k].args.length c') (wr.alloc (.cells #[.string l[k].name, .slice a' l[k].args.length c'] 24))) := ⟨(Blk.new wr _ _).cell 0, (Blk.new wr _ _).cell 1⟩
          have HTW : Hid (Tb BT (wr.alloc (.cells #[.string l[k].name, .slice a' l[k].args.length c'] 24))) := HT.out.on (SQ.out.ex.below hBw (fun b hb => by omega))
          clear hx BQ o0
          go_upto_region 7 with fail
          clear d0 d1 SET o1
          generalize (wr.alloc (.cells #[.string l[k].name, .slice a' l[k].args.length c'] 24)) = wq at *
          generalize wr.heap.size = Q at *
          have IHQ : Hid (Calls Tryd.prog 34 #[.agg #[.string l[k].name, .slice a' l[k].args.length c'], .func (.func 40) #[] #[.pointer (some ⟨B, 0, none⟩)]] wq.drew fun e w'' => ∃ a1 c1, e = .returned (.agg #[.string (renT (renL ns (l.take k)).2 l[k]).1.name, .slice a1 (renT (renL ns (l.take k)).2 l[k]).1.args.length c1]) ∧ Sl w'' (fun b => wq.heap.size ≤ b) a1 (renT (renL ns (l.take k)).2 l[k]).1.args ∧ NmAt w'' B r (renT (renL ns (l.take k)).2 l[k]).2 ∧ ExQ (fun b => b = r) wq w'') := (IH.out l[k] (List.getElem_mem hlt) _ _ wq.drew _ (HXK.out.later ((Below.refl wq.heap.size wq).drew)) (fun b h => HX.out b h.1.1) (SQ.out.nm.later ((Below.refl wq.heap.size wq).drew)) (HTW.out.on ((Below.refl BT wq).drew)) (by omega)).mono fun e w'' hp => by
              obtain ⟨a1, c1, h1, h2, h3, h4⟩ := hp
              exact ⟨a1, c1, h1, h2, h3, ((ExQ.refl _ wq).drew).trans h4⟩
          generalize renT (renL ns (l.take k)).2 l[k] = y at *
          have HSd : Hid (RnS Q l[k].name (.slice a' l[k].args.length c') wq.drew) := HS8.out
          refine wp_region_held_drew (S := RnS Q l[k].name (.slice a' l[k].args.length c')) (by kernel_rfl) HSd.out (fun hHeld => ?_)
          refine wpAnyH_take (i := 0) (v := ?_) rfl (by kernel_rfl) (by kernel_rfl) (by kernel_rfl) (fun _ _ _ h => h) (Or.inl ⟨by rfl, ?_⟩) (by assumption) ?_
          rotate_left
          · intro w' hSw
            go_simp <;> with_reducible rfl
          try simp only [Act.put, List.setIfInBounds_toArray, List.set_cons_zero, List.set_cons_succ, List.getElem_toArray, List.getElem_cons_succ, List.getElem_cons_zero]
          refine wpAnyH_take (i := 2) (v := ?_) rfl (by kernel_rfl) (by kernel_rfl) (by kernel_rfl) (fun _ _ _ h => h) (Or.inl ⟨by rfl, ?_⟩) (by assumption) ?_
          rotate_left
          · intro w' hSw
            have e0 := hSw.1
            have e1 := hSw.2
            go_simp <;> with_reducible rfl
          try simp only [Act.put, List.setIfInBounds_toArray, List.set_cons_zero, List.set_cons_succ, List.getElem_toArray, List.getElem_cons_succ, List.getElem_cons_zero]
          refine wpAnyH_take (i := 3) (v := ?_) rfl (by kernel_rfl) (by kernel_rfl) (by kernel_rfl) (fun _ _ _ h => h) (Or.inl ⟨by rfl, ?_⟩) (by assumption) ?_
          rotate_left
          · intro w' hSw
            go_simp <;> with_reducible rfl
          try simp only [Act.put, List.setIfInBounds_toArray, List.set_cons_zero, List.set_cons_succ, List.getElem_toArray, List.getElem_cons_succ, List.getElem_cons_zero]
          have ob4 : wq.drew.cell? ⟨w.heap.size + 2, 1, none⟩ = some u9 := SQ.out.out.cell 1
          refine wpAnyH_ready (rs := [1, 4]) (by kernel_rfl) (by simp) ?_
          refine AllReadyH.cons rfl (fun K hK => ?_) (AllReadyH.cons rfl (fun K hK => ?_) AllReadyH.nil)
          · go_simp
            refine hK.out _ _ (by exact HSd.out) (fun hHeld => ?_)
            clear hK K
            try simp only [Act.put, List.setIfInBounds_toArray, List.set_cons_zero, List.set_cons_succ, List.getElem_toArray, List.getElem_cons_succ, List.getElem_cons_zero]
            refine wpAnyH_ready (rs := [4]) (by kernel_rfl) (by simp) ?_
            refine AllReadyH.cons rfl (fun K hK => ?_) AllReadyH.nil
            go_simp
            go_at_call 34
            refine IHQ.out.mono ?_
            rintro e w5 ⟨a5, c5, rfl, hs5, hn5, hx5⟩
            obtain ⟨g, cap, w3, hrun, S1, S2, S3, p5, p6, o3, of, ol, S4, hset⟩ := rn_round (t := y.1) (c5 := c5) HRB.out.1 HRB.out.2 SQ.out ⟨HOB.out.1, HOB.out.2⟩ HS8.out HLN.out hx5 hs5 hn5
            have HRUN := hide hrun
            have HSET := hide hset
            have S1h := hide S1
            have S2h := hide S2
            have S3h := hide S3
            have S4h := hide S4
            have O5 := hide (And.intro p5 (And.intro o3 (And.intro of ol)))
            clear hrun hset S1 S2 S3 S4 hs5 hn5 hx5
            go_simp
            refine hK.out _ _ (by exact S1h.out) (fun hHeld => ?_)
            clear hK K
            try simp only [Act.put, List.setIfInBounds_toArray, List.set_cons_zero, List.set_cons_succ, List.getElem_toArray, List.getElem_cons_succ, List.getElem_cons_zero]
            refine wpAnyH_ready (rs := [5]) (by kernel_rfl) (by simp) ?_
            refine AllReadyH.cons rfl (fun K hK => ?_) AllReadyH.nil
            go_simp
            refine hK.out _ _ (by exact S2h.out) (fun hHeld => ?_)
            clear hK K
            try simp only [Act.put, List.setIfInBounds_toArray, List.set_cons_zero, List.set_cons_succ, List.getElem_toArray, List.getElem_cons_succ, List.getElem_cons_zero]
            refine wpAnyH_ready (rs := [6]) (by kernel_rfl) (by simp) ?_
            refine AllReadyH.cons rfl (fun K hK => ?_) AllReadyH.nil
            refine step_append_eqM rfl _ _ _ _ rfl rfl rfl HRUN.out ?_
            refine hK.out _ _ (by exact S3h.out) (fun hHeld => ?_)
            clear hK K
            try simp only [Act.put, List.setIfInBounds_toArray, List.set_cons_zero, List.set_cons_succ, List.getElem_toArray, List.getElem_cons_succ, List.getElem_cons_zero]
            refine wpAnyH_take (i := 7) (v := ?_) rfl (by kernel_rfl) (by kernel_rfl) (by kernel_rfl) (fun _ _ _ h => h) (Or.inl ⟨by rfl, ?_⟩) (by assumption) ?_
            rotate_left
            · intro w' hSw
              go_simp <;> with_reducible rfl
            try simp only [Act.put, List.setIfInBounds_toArray, List.set_cons_zero, List.set_cons_succ, List.getElem_toArray, List.getElem_cons_succ, List.getElem_cons_zero]
            refine wpAnyH_ready (rs := [8]) (by kernel_rfl) (by simp) ?_
            refine AllReadyH.cons rfl (fun K hK => ?_) AllReadyH.nil
            go_simp
            refine hK.out _ _ (by exact S4h.out) (fun hHeld => ?_)
            clear hK K
            try simp only [Act.put, List.setIfInBounds_toArray, List.set_cons_zero, List.set_cons_succ, List.getElem_toArray, List.getElem_cons_succ, List.getElem_cons_zero]
            refine wpAnyH_done (by kernel_rfl) ?_ _
            clear o3 of ol p5 p6
            go_wp2_with fail
            go_roundw
            case rel => exact ⟨k + 1, _, _, by omega, by go_num, by rw [HTK.out]; exact HSET.out⟩
            case measure => simp [intOf]; omega
          · go_simp
            go_at_call 34
            refine IHQ.out.mono ?_
            rintro e w5 ⟨a5, c5, rfl, hs5, hn5, hx5⟩
            obtain ⟨g, cap, w3, hrun, S1, S2, S3, p5, p6, o3, of, ol, S4, hset⟩ := rn_round (t := y.1) (c5 := c5) HRB.out.1 HRB.out.2 SQ.out ⟨HOB.out.1, HOB.out.2⟩ HS8.out HLN.out hx5 hs5 hn5
            have HRUN := hide hrun
            have HSET := hide hset
            have S1h := hide S1
            have S2h := hide S2
            have S3h := hide S3
            have S4h := hide S4
            have O5 := hide (And.intro p5 (And.intro o3 (And.intro of ol)))
            clear hrun hset S1 S2 S3 S4 hs5 hn5 hx5
            go_simp
            refine hK.out _ _ (by exact S1h.out) (fun hHeld => ?_)
            clear hK K
            try simp only [Act.put, List.setIfInBounds_toArray, List.set_cons_zero, List.set_cons_succ, List.getElem_toArray, List.getElem_cons_succ, List.getElem_cons_zero]
            refine wpAnyH_ready (rs := [1, 5]) (by kernel_rfl) (by simp) ?_
            refine AllReadyH.cons rfl (fun K hK => ?_) (AllReadyH.cons rfl (fun K hK => ?_) AllReadyH.nil)
            · go_simp
              refine hK.out _ _ (by exact S1h.out) (fun hHeld => ?_)
              clear hK K
              try simp only [Act.put, List.setIfInBounds_toArray, List.set_cons_zero, List.set_cons_succ, List.getElem_toArray, List.getElem_cons_succ, List.getElem_cons_zero]
              refine wpAnyH_ready (rs := [5]) (by kernel_rfl) (by simp) ?_
              refine AllReadyH.cons rfl (fun K hK => ?_) AllReadyH.nil
              go_simp
              refine hK.out _ _ (by exact S2h.out) (fun hHeld => ?_)
              clear hK K
              try simp only [Act.put, List.setIfInBounds_toArray, List.set_cons_zero, List.set_cons_succ, List.getElem_toArray, List.getElem_cons_succ, List.getElem_cons_zero]
              refine wpAnyH_ready (rs := [6]) (by kernel_rfl) (by simp) ?_
              refine AllReadyH.cons rfl (fun K hK => ?_) AllReadyH.nil
              refine step_append_eqM rfl _ _ _ _ rfl rfl rfl HRUN.out ?_
              refine hK.out _ _ (by exact S3h.out) (fun hHeld => ?_)
              clear hK K
              try simp only [Act.put, List.setIfInBounds_toArray, List.set_cons_zero, List.set_cons_succ, List.getElem_toArray, List.getElem_cons_succ, List.getElem_cons_zero]
              refine wpAnyH_take (i := 7) (v := ?_) rfl (by kernel_rfl) (by kernel_rfl) (by kernel_rfl) (fun _ _ _ h => h) (Or.inl ⟨by rfl, ?_⟩) (by assumption) ?_
              rotate_left
              · intro w' hSw
                go_simp <;> with_reducible rfl
              try simp only [Act.put, List.setIfInBounds_toArray, List.set_cons_zero, List.set_cons_succ, List.getElem_toArray, List.getElem_cons_succ, List.getElem_cons_zero]
              refine wpAnyH_ready (rs := [8]) (by kernel_rfl) (by simp) ?_
              refine AllReadyH.cons rfl (fun K hK => ?_) AllReadyH.nil
              go_simp
              refine hK.out _ _ (by exact S4h.out) (fun hHeld => ?_)
              clear hK K
              try simp only [Act.put, List.setIfInBounds_toArray, List.set_cons_zero, List.set_cons_succ, List.getElem_toArray, List.getElem_cons_succ, List.getElem_cons_zero]
              refine wpAnyH_done (by kernel_rfl) ?_ _
              clear o3 of ol p5 p6
              go_wp2_with fail
              go_roundw
              case rel => exact ⟨k + 1, _, _, by omega, by go_num, by rw [HTK.out]; exact HSET.out⟩
              case measure => simp [intOf]; omega
            · go_simp
              refine hK.out _ _ (by exact S2h.out) (fun hHeld => ?_)
              clear hK K
              try simp only [Act.put, List.setIfInBounds_toArray, List.set_cons_zero, List.set_cons_succ, List.getElem_toArray, List.getElem_cons_succ, List.getElem_cons_zero]
              refine wpAnyH_ready (rs := [1]) (by kernel_rfl) (by simp) ?_
              refine AllReadyH.cons rfl (fun K hK => ?_) AllReadyH.nil
              go_simp
              refine hK.out _ _ (by exact S2h.out) (fun hHeld => ?_)
              clear hK K
              try simp only [Act.put, List.setIfInBounds_toArray, List.set_cons_zero, List.set_cons_succ, List.getElem_toArray, List.getElem_cons_succ, List.getElem_cons_zero]
              refine wpAnyH_ready (rs := [6]) (by kernel_rfl) (by simp) ?_
              refine AllReadyH.cons rfl (fun K hK => ?_) AllReadyH.nil
              refine step_append_eqM rfl _ _ _ _ rfl rfl rfl HRUN.out ?_
              refine hK.out _ _ (by exact S3h.out) (fun hHeld => ?_)
              clear hK K
              try simp only [Act.put, List.setIfInBounds_toArray, List.set_cons_zero, List.set_cons_succ, List.getElem_toArray, List.getElem_cons_succ, List.getElem_cons_zero]
              refine wpAnyH_take (i := 7) (v := ?_) rfl (by kernel_rfl) (by kernel_rfl) (by kernel_rfl) (fun _ _ _ h => h) (Or.inl ⟨by rfl, ?_⟩) (by assumption) ?_
              rotate_left
              · intro w' hSw
                go_simp <;> with_reducible rfl
              try simp only [Act.put, List.setIfInBounds_toArray, List.set_cons_zero, List.set_cons_succ, List.getElem_toArray, List.getElem_cons_succ, List.getElem_cons_zero]
              refine wpAnyH_ready (rs := [8]) (by kernel_rfl) (by simp) ?_
              refine AllReadyH.cons rfl (fun K hK => ?_) AllReadyH.nil
              go_simp
              refine hK.out _ _ (by exact S4h.out) (fun hHeld => ?_)
              clear hK K
              try simp only [Act.put, List.setIfInBounds_toArray, List.set_cons_zero, List.set_cons_succ, List.getElem_toArray, List.getElem_cons_succ, List.getElem_cons_zero]
              refine wpAnyH_done (by kernel_rfl) ?_ _
              clear o3 of ol p5 p6
              go_wp2_with fail
              go_roundw
              case rel => exact ⟨k + 1, _, _, by omega, by go_num, by rw [HTK.out]; exact HSET.out⟩
              case measure => simp [intOf]; omega
        · have hge : ¬ ((k : Int) < (l.length : Int)) := by omega
          have htk : l.take k = l := List.take_of_length_le (by omega)
          rw [htk] at SET
          obtain ⟨ae, ce, rfl, hse⟩ := SET.out.row.sl
          have HSE := hide hse
          clear hse
          have r0 : wr.cell? ⟨w.heap.size + 1, 0, none⟩ = some (.string ⟨#[]⟩) := SET.out.res.cell 0
          have r1 : wr.cell? ⟨w.heap.size + 1, 1, none⟩ = some (.slice none 0 0) := SET.out.res.cell 1
          have rf := SET.out.res.frozen
          have hRl : w.heap.size + 1 < wr.heap.size := SET.out.res.lt
          go_wp2_with fail
          refine bodyPost_ret (v := .agg #[.string s, .slice ae (renL ns l).1.length ce]) (by simp [results, Tryd.results34, go_sem, World.cell?_setCell_same, World.cell?_setCell_other, r0, r1, hRl]) rfl ?_
          rw [HR.out]
          have hbs := SET.out.sz
          have hRB := HRB.out
          refine ⟨ae, ce, rfl, (HSE.out.kept fun b hb => ?_).mono fun b hb _ => ?_, ⟨(SET.out.nm.box.setOther _ _ (by omega)).setOther _ _ (by omega), ?_, SET.out.nm.ne⟩, (SET.out.ex.setNew (by omega) _ _).setNew (by omega) _ _⟩
          · have hbn : b ≠ w.heap.size + 1 := by
              rcases hb with h | h
              · exact h.elim
              · omega
            rw [Below.heap_setCell _ _ _ _ (by simpa using hbn), Below.heap_setCell _ _ _ _ (by simpa using hbn)]
          · rcases hb with h | h
            · exact h.elim
            · omega
          · refine SET.out.nm.map.kept ?_
            rw [Below.heap_setCell _ _ _ _ (by simp; omega), Below.heap_setCell _ _ _ _ (by simp; omega)]
end Go.Proofs.YtakmclheffbeaaaDoor

/- Memory for the document's least: the pairs met so far, owned across calls, and a row of terms that is made meanwhile. -/
namespace Go.Proofs.YtakmclheffbeaaaDoor
open Go.RowKit
set_option linter.unusedSimpArgs false
set_option linter.unusedVariables false
set_option maxRecDepth 8000

/-- The pairs met so far: their own row; their terms lie in old memory. -/
structure LRow (w : World) (N : Nat) (Y : Nat → Prop) (v : Value) (cs : List Pc) : Prop where
  own : w.ownsRow N 34 4 v cs.length (flat4 cs)
  row : ∀ x ∈ cs, Sl w Y x.2.1.1 x.1.l.args ∧ Sl w Y x.2.2.1 x.1.r.args
theorem LRow.start (w : World) (N : Nat) (Y : Nat → Prop) : LRow w N Y (.slice none 0 0) [] := ⟨World.ownsRow_nil w N _ 4, by simp⟩
theorem LRow.exq {w w' : World} {N : Nat} {Q Y : Nat → Prop} {v : Value} {cs : List Pc} (h : LRow w N Y v cs) (he : ExQ Q w w') (hQ : ∀ b, Q b → N ≤ b) (hY : ∀ b, Y b → b < N) (hv : ∀ b, v.ownBlock = some b → ¬ Q b) : LRow w' N Y v cs :=
  ⟨ownsRow_at h.own fun g hg => he.block g (h.own.lt g hg).2 (hv g hg),
   fun x hx => ⟨(h.row x hx).1.exq he fun b hb hq => by have := hQ b hq; have := hY b hb; omega, (h.row x hx).2.exq he fun b hb hq => by have := hQ b hq; have := hY b hb; omega⟩⟩
theorem LRow.below {w w' : World} {N : Nat} {Y : Nat → Prop} {v : Value} {cs : List Pc} (h : LRow w N Y v cs) (hb : Below w.heap.size w w') : LRow w' N Y v cs :=
  ⟨ownsRow_at h.own fun g hg => hb.block g (h.own.lt g hg).2, fun x hx => ⟨(h.row x hx).1.later hb, (h.row x hx).2.later hb⟩⟩
theorem cell_four_newL (w : World) (c0 c1 c2 c3 : Value) (T : Nat) : ∀ j u, [c0, c1, c2, c3][j]? = some u → (w.alloc (.cells #[c0, c1, c2, c3] T)).cell? ((⟨w.heap.size, 0, none⟩ : Addr).add j) = some u :=
  World.news_of_block (cs := #[c0, c1, c2, c3]) (heap_alloc_new w _)
/-- One pair more. -/
theorem app_pairL {w : World} {N : Nat} {Y : Nat → Prop} {v : Value} {cs : List Pc} (x : Pc) (h : LRow w N Y v cs) (hN : N ≤ w.heap.size) (hY : ∀ b, Y b → b < N) (hl : cs.length ≤ 1000000) (hx : Sl w Y x.2.1.1 x.1.l.args ∧ Sl w Y x.2.2.1 x.1.r.args) :
    ∃ g cap w3, (Builtin.append_ #[29, 29] 29 #[v, .slice (some ⟨w.heap.size, 0, none⟩) 1 1]).run Tryd.prog (w.alloc (.cells #[.string x.1.l.name, .slice x.2.1.1 x.1.l.args.length x.2.1.2, .string x.1.r.name, .slice x.2.2.1 x.1.r.args.length x.2.2.2] 34)) = .ok (.slice (some ⟨g, 0, none⟩) (cs.length + 1) cap) w3 ∧
      LRow w3 N Y (.slice (some ⟨g, 0, none⟩) (cs.length + 1) cap) (cs ++ [x]) ∧ ExQ (fun b => some b = v.ownBlock) w w3 ∧ (v.ownBlock = some g ∨ g = w.heap.size + 1) := by
  obtain ⟨i0, hi, hz0, hz1, hz2⟩ := info_parts Tryd.infoPair
  obtain ⟨g, cap, w3, hr, ho, hg, hat, _⟩ := run_append_lies (P := Tryd.prog) (w := w.alloc (.cells #[.string x.1.l.name, .slice x.2.1.1 x.1.l.args.length x.2.1.2, .string x.1.r.name, .slice x.2.2.1 x.1.r.args.length x.2.2.2] 34)) 29 29 N 34 i0 _ 4 80 Tryd.underlying29 hi hz0 hz1 hz2 rfl (by decide) v cs.length (flat4 cs) (h.own.alloc _) ⟨w.heap.size, 0, none⟩ 1 1 (enc4 x) rfl (cell_four_newL _ _ _ _ _ _) (fun y hy => by simp [enc4] at hy; rcases hy with rfl | rfl | rfl | rfl <;> rfl) (by decide) (by unfold maxLen; omega) (by omega) (by simp; omega) _ rfl
  have he : ExQ (fun b => some b = v.ownBlock) w w3 := ((ExQ.refl _ w).alloc _).grown hg (fun k hk => Or.inr hk.symm)
  have hold : ∀ (a : Option Addr) (l : List Tm), Sl w Y a l → Sl w3 Y a l := fun a l hs => hs.exq he fun b hb e => by have := (h.own.lt b e.symm).1; have := hY b hb; omega
  refine ⟨g, cap, w3, hr, ⟨by simpa [flat4_append, flat4] using ho, fun y hy => ?_⟩, he, by simpa using hat⟩
  rcases List.mem_append.1 hy with hy | hy
  · exact ⟨hold _ _ (h.row y hy).1, hold _ _ (h.row y hy).2⟩
  · have e : y = x := by simpa using hy
    rw [e]
    exact ⟨hold _ _ hx.1, hold _ _ hx.2⟩
/-- A row of terms whose parts lie where Z says. -/
structure RowZ (w : World) (N : Nat) (Z : Nat → Prop) (v : Value) (l : List Tm) (xs : List Value) : Prop where
  own : w.ownsRow N 24 2 v l.length xs
  row : RowT w Z l xs
theorem RowZ.start (w : World) (N : Nat) (Z : Nat → Prop) : RowZ w N Z (.slice none 0 0) [] [] := ⟨World.ownsRow_nil w N _ 2, rfl⟩
theorem RowZ.mono {w : World} {N : Nat} {Z Z' : Nat → Prop} {v : Value} {l : List Tm} {xs : List Value} (h : RowZ w N Z v l xs) (hZ : ∀ b, Z b → b < w.heap.size → Z' b) : RowZ w N Z' v l xs :=
  ⟨h.own, h.row.imp fun a l hs => hs.mono hZ⟩
theorem RowZ.exq {w w' : World} {N : Nat} {Q Z : Nat → Prop} {v : Value} {l : List Tm} {xs : List Value} (h : RowZ w N Z v l xs) (he : ExQ Q w w') (hv : ∀ b, v.ownBlock = some b → ¬ Q b) (hZ : ∀ b, Z b → ¬ Q b) : RowZ w' N Z v l xs :=
  ⟨ownsRow_at h.own fun g hg => he.block g (h.own.lt g hg).2 (hv g hg), h.row.imp fun a l hs => hs.exq he hZ⟩
theorem RowZ.below {w w' : World} {N : Nat} {Z : Nat → Prop} {v : Value} {l : List Tm} {xs : List Value} (h : RowZ w N Z v l xs) (hb : Below w.heap.size w w') : RowZ w' N Z v l xs :=
  ⟨ownsRow_at h.own fun g hg => hb.block g (h.own.lt g hg).2, h.row.imp fun a l hs => hs.later hb⟩
/-- One term more. -/
theorem app_termZ {w : World} {N : Nat} {Z : Nat → Prop} {u : Value} {L : List Tm} {xs : List Value} {z : Tm} {a1 : Option Addr} {c : Nat} (h : RowZ w N Z u L xs) (hN : N ≤ w.heap.size) (hZ : ∀ b, Z b → some b ≠ u.ownBlock) (hl : L.length ≤ 1000000) (hz : Sl w Z a1 z.args) :
    ∃ g cap w3, (Builtin.append_ #[22, 22] 22 #[u, .slice (some ⟨w.heap.size, 0, none⟩) 1 1]).run Tryd.prog (w.alloc (.cells #[.string z.name, .slice a1 z.args.length c] 24)) = .ok (.slice (some ⟨g, 0, none⟩) (L.length + 1) cap) w3 ∧
      RowZ w3 N (fun b => Z b ∧ b ≠ g) (.slice (some ⟨g, 0, none⟩) (L.length + 1) cap) (L ++ [z]) (xs ++ [.string z.name, .slice a1 z.args.length c]) ∧ ExQ (fun b => some b = u.ownBlock) w w3 ∧ (u.ownBlock = some g ∨ g = w.heap.size + 1) := by
  obtain ⟨i0, hi, hz0, hz1, hz2⟩ := info_parts Tryd.infoTerm
  obtain ⟨g, cap, w3, hr, ho, hg, hat, _⟩ := run_append_lies (P := Tryd.prog) (w := w.alloc (.cells #[.string z.name, .slice a1 z.args.length c] 24)) 22 22 N 24 i0 _ 2 40 Tryd.underlying22 hi hz0 hz1 hz2 rfl (by decide) u L.length xs (h.own.alloc _) ⟨w.heap.size, 0, none⟩ 1 1 [.string z.name, .slice a1 z.args.length c] rfl (cell_termZ _ _ _ _) (fun x hx => by simp at hx; rcases hx with rfl | rfl <;> rfl) (by decide) (by unfold maxLen; omega) (by omega) (by simp; omega) _ rfl
  have he : ExQ (fun b => some b = u.ownBlock) w w3 := ((ExQ.refl _ w).alloc _).grown hg (fun k hk => Or.inr hk.symm)
  have hold : ∀ (a : Option Addr) (l : List Tm), Sl w Z a l → Sl w3 (fun b => Z b ∧ b ≠ g) a l := fun a l hs =>
    ((hs.mono (Y := fun b => Z b ∧ b < w.heap.size) fun b h1 h2 => ⟨h1, h2⟩).exq he (fun b hb e => hZ b hb.1 e)).mono fun b hb _ => ⟨hb.1, fun e => by
      subst e
      rcases hat with e' | e'
      · exact hZ b hb.1 e'.symm
      · simp at e'; omega⟩
  refine ⟨g, cap, w3, hr, ⟨by simpa using ho, RowT.append (h.row.imp hold) ⟨a1, c, [], rfl, hold _ _ hz, rfl⟩⟩, he, by simpa using hat⟩
end Go.Proofs.YtakmclheffbeaaaDoor

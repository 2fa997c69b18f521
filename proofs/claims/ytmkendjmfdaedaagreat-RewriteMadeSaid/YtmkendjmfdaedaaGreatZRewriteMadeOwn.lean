/- Several texts in one. -/
import Derived.Deep.RegionHeld3
import Derived.WalkKit
import Derived.WalkSpells
import Derived.WalkLawsBesides
import Derived.Test.YtmkendjmfdaedaaGreatRows
import Derived.BigQuiet
import Derived.Deep.RegionHeld
import Derived.Deep.AppendLies
import Derived.Deep.AppendSrc
import Derived.WideMake
import Derived.Laws.CopyOwn
import Derived.Deep.RegionLaw
import Derived.Sort.Grow
import Derived.Maps.RangeRun
namespace Go.Proofs.YtmkendjmfdaedaaGreat
theorem sqA : type_of% @List.setIfInBounds_toArray := @List.setIfInBounds_toArray
theorem sqB : type_of% @List.set_cons_zero := @List.set_cons_zero
theorem sqC : type_of% @List.set_cons_succ := @List.set_cons_succ
theorem sqD : type_of% @List.getElem_toArray := @List.getElem_toArray
theorem sqE : type_of% @List.getElem_cons_succ := @List.getElem_cons_succ
theorem sqF : type_of% @List.getElem_cons_zero := @List.getElem_cons_zero
theorem sq {α : Type} : (∀ (l : List α) (i : Nat) (a : α), l.toArray.setIfInBounds i a = (l.set i a).toArray) ∧ (∀ (x y : α) (l : List α), (x :: l).set 0 y = y :: l) ∧ (∀ (x y : α) (l : List α) (i : Nat), (x :: l).set (i + 1) y = x :: l.set i y) ∧
    (∀ (l : List α) (i : Nat) (h : i < l.toArray.size), l.toArray[i] = l[i]'(by simpa using h)) ∧ (∀ (a : α) (l : List α) (i : Nat) (h : i + 1 < (a :: l).length), (a :: l)[i + 1] = l[i]'(Nat.lt_of_succ_lt_succ h)) ∧ ∀ (a : α) (l : List α) (h : 0 < (a :: l).length), (a :: l)[0] = a :=
  ⟨fun _ _ _ => List.setIfInBounds_toArray .., fun _ _ _ => rfl, fun _ _ _ _ => rfl, fun _ _ _ => List.getElem_toArray .., fun _ _ _ _ => rfl, fun _ _ _ => rfl⟩
theorem tkq {P : Program} {ops : Array Oper} {Q : Exit → Act → World → Prop} {md : Region.Mode} {S : World → Prop} {oi : Oper} {v : Value} {fuel : Nat} {listed : Array Bool} {a : Act} {w : World} (i : Nat) (hi : ops[i]? = some oi)
    (hy : ∀ w, S w → (execOp a.eval oi).run P w = .ok (.value v) w) (h : wpAnyH P md ops Q S fuel (listed.setIfInBounds i true) (a.put oi.dst v) w)
    (hs : Region.noSelect ops = true := by kernel_rfl) (hf : Region.free md ops listed i = true := by kernel_rfl) (hr : (Region.ready md ops listed).contains i = true := by kernel_rfl)
    (hQ : ∀ c a w, Q (.panic c) (a.put oi.dst v) w → Q (.panic c) a w := by exact fun _ _ _ h => h) (hw : Region.wanted oi (yielded ops a.tmps) = true := by rfl) (hS : S w := by assumption) : wpAnyH P md ops Q S (fuel + 1) listed a w :=
  wpAnyH_take hi hs hf hr hQ (Or.inl ⟨hw, hy⟩) hS h
theorem rdq {P : Program} {ops : Array Oper} {Q : Exit → Act → World → Prop} {md : Region.Mode} {S : World → Prop} {fuel : Nat} {listed : Array Bool} {a : Act} {w : World} (i : Nat) {o : Oper} (ho : ops[i]? = some o)
    (h : ∀ K' : Act → World → Prop, Shut (∀ a w, S w → (S w → wpAnyH P md ops Q S fuel (listed.setIfInBounds i true) a w) → K' a w) → if Region.wanted o (yielded ops a.tmps) = true then Oper.wp P o a w K' Q else K' (a.put o.dst undef) w)
    (hr : Region.ready md ops listed = [i] := by kernel_rfl) : wpAnyH P md ops Q S (fuel + 1) listed a w :=
  wpAnyH_ready hr (by simp) (AllReadyH.cons ho h AllReadyH.nil)
open Go.RowKit
theorem hide {p : Prop} (h : p) : Hid p := h
structure Tm where
 name : ByteArray
 args : List Tm
theorem Tm.ind {P : Tm → Prop} (h : ∀ s l, (∀ x ∈ l, P x) → P ⟨s, l⟩) (t : Tm) : P t :=
 Tm.rec (motive_1 := P) (motive_2 := fun l => ∀ x ∈ l, P x) (fun s l ih => h s l ih) (fun x hx => by cases hx)
  (fun a l ha hl x hx => by
   rcases List.mem_cons.1 hx with e | e
   ·subst e; exact ha
   ·exact hl x e) t
theorem Tm.indL {P : List Tm → Prop} (h0 : P []) (h : ∀ s l r, P l → P r → P (⟨s, l⟩ :: r)) (l : List Tm) : P l :=
 Tm.rec_1 (motive_1 := fun t => P t.args) (motive_2 := P) (fun _ _ ih => ih) h0 (fun a l ha hl => by obtain ⟨s, k⟩ := a; exact h s k l ha hl) l
def sizeL : List Tm → Nat
 | [] => 0
 | ⟨_, l⟩ :: r => 1 + sizeL l + sizeL r
theorem sizeL_append (a b : List Tm) : sizeL (a ++ b) = sizeL a + sizeL b := by
 induction a with
 | nil => simp [sizeL]
 | cons t r ih => obtain ⟨s, l⟩ := t; simp only [List.cons_append, sizeL, ih]; omega
def Lies (w : World) (X : Nat → Prop) : Nat → Nat → List Tm → Prop
 | _, _, [] => True
 | b, o, ⟨s, l⟩ :: r => X b ∧ w.cell? ⟨b, o, none⟩ = some (.string s) ∧
   (∃ a c, w.cell? ⟨b, o + 1, none⟩ = some (.slice a l.length c) ∧ l.length ≤ 9223372036854775807 ∧ (l = [] ∨ ∃ b' o', a = some ⟨b', o', none⟩ ∧ Lies w X b' o' l)) ∧ Lies w X b (o + 2) r
def Sl (w : World) (X : Nat → Prop) (a : Option Addr) (l : List Tm) : Prop := l.length ≤ 9223372036854775807 ∧ (l = [] ∨ ∃ b o, a = some ⟨b, o, none⟩ ∧ Lies w X b o l)
def TV (w : World) (X : Nat → Prop) (v : Value) (t : Tm) : Prop := ∃ a c, v = .agg #[.string t.name, .slice a t.args.length c] ∧ Sl w X a t.args
theorem lies_kept {w w' : World} {X : Nat → Prop} (h : ∀ b, X b → w'.heap[b]? = w.heap[b]?) (l : List Tm) : ∀ b o, Lies w X b o l → Lies w' X b o l := by
 induction l using Tm.indL with
 | h0 => intro b o _; simp [Lies]
 | h s l r ihl ihr =>
  intro b o hl
  simp only [Lies] at hl ⊢
  obtain ⟨hx, h1, ⟨a, c, h2, h2', h3⟩, h4⟩ := hl
  refine ⟨hx, by rw [World.cell?_of_block (h b hx)]; exact h1, ⟨a, c, by rw [World.cell?_of_block (h b hx)]; exact h2, h2', ?_⟩, ihr _ _ h4⟩
  rcases h3 with h3 | ⟨b', o', h3, h5⟩
  ·exact Or.inl h3
  ·exact Or.inr ⟨b', o', h3, ihl _ _ h5⟩
theorem lies_mono {w : World} {X Y : Nat → Prop} (h : ∀ b, X b → b < w.heap.size → Y b) (l : List Tm) : ∀ b o, Lies w X b o l → Lies w Y b o l := by
 induction l using Tm.indL with
 | h0 => intro b o _; simp [Lies]
 | h s l r ihl ihr =>
  intro b o hl
  simp only [Lies] at hl ⊢
  obtain ⟨hx, h1, ⟨a, c, h2, h2', h3⟩, h4⟩ := hl
  have hb : b < w.heap.size := by
   apply Classical.byContradiction
   intro hn
   have e : w.heap[b]? = none := Array.getElem?_eq_none (by omega)
   simp [World.cell?, e] at h1
  refine ⟨h b hx hb, h1, ⟨a, c, h2, h2', ?_⟩, ihr _ _ h4⟩
  rcases h3 with h3 | ⟨b', o', h3, h5⟩
  ·exact Or.inl h3
  ·exact Or.inr ⟨b', o', h3, ihl _ _ h5⟩
theorem Sl.kept {w w' : World} {X : Nat → Prop} {a : Option Addr} {l : List Tm} (h : Sl w X a l) (hk : ∀ b, X b → w'.heap[b]? = w.heap[b]?) : Sl w' X a l := by
 obtain ⟨hl, h⟩ := h
 refine ⟨hl, ?_⟩
 rcases h with h | ⟨b, o, e, h⟩
 ·exact Or.inl h
 ·exact Or.inr ⟨b, o, e, lies_kept hk _ _ _ h⟩
theorem Sl.mono {w : World} {X Y : Nat → Prop} {a : Option Addr} {l : List Tm} (h : Sl w X a l) (hk : ∀ b, X b → b < w.heap.size → Y b) : Sl w Y a l := by
 obtain ⟨hl, h⟩ := h
 refine ⟨hl, ?_⟩
 rcases h with h | ⟨b, o, e, h⟩
 ·exact Or.inl h
 ·exact Or.inr ⟨b, o, e, lies_mono hk _ _ _ h⟩
theorem Sl.below {w w' : World} {X : Nat → Prop} {a : Option Addr} {l : List Tm} {B : Nat} (h : Sl w X a l) (hb : Below B w w') (hX : ∀ b, X b → b < w.heap.size → b < B) : Sl w' X a l := by
 have h1 : Sl w (fun b => X b ∧ b < B) a l := h.mono fun b hx hs => ⟨hx, hX b hx hs⟩
 have h2 : Sl w' (fun b => X b ∧ b < B) a l := h1.kept fun b hx => hb.block b hx.2
 exact h2.mono fun b hx _ => hx.1
theorem TV.kept {w w' : World} {X : Nat → Prop} {v : Value} {t : Tm} (h : TV w X v t) (hk : ∀ b, X b → w'.heap[b]? = w.heap[b]?) : TV w' X v t := by
 obtain ⟨a, c, e, h⟩ := h
 exact ⟨a, c, e, h.kept hk⟩
theorem TV.mono {w : World} {X Y : Nat → Prop} {v : Value} {t : Tm} (h : TV w X v t) (hk : ∀ b, X b → b < w.heap.size → Y b) : TV w Y v t := by
 obtain ⟨a, c, e, h⟩ := h
 exact ⟨a, c, e, h.mono hk⟩
theorem TV.below {w w' : World} {X : Nat → Prop} {v : Value} {t : Tm} {B : Nat} (h : TV w X v t) (hb : Below B w w') (hX : ∀ b, X b → b < w.heap.size → b < B) : TV w' X v t := by
 obtain ⟨a, c, e, h⟩ := h
 exact ⟨a, c, e, h.below hb hX⟩
theorem TV.alloc {w : World} {X : Nat → Prop} {v : Value} {t : Tm} (h : TV w X v t) (o : Obj) : TV (w.alloc o) X v t :=
 h.below ((Below.refl _ _).alloc (Nat.le_refl _) o) (fun _ _ h => h)
theorem TV.later {w w' : World} {X : Nat → Prop} {v : Value} {t : Tm} (h : TV w X v t) (hb : Below w.heap.size w w') : TV w' X v t := h.below hb (fun _ _ h => h)
theorem Sl.later {w w' : World} {X : Nat → Prop} {a : Option Addr} {l : List Tm} (h : Sl w X a l) (hb : Below w.heap.size w w') : Sl w' X a l := h.below hb (fun _ _ h => h)
theorem lies_get {w : World} {X : Nat → Prop} : ∀ (l : List Tm) (b o : Nat), Lies w X b o l → ∀ i (h : i < l.length),
  X b ∧ w.cell? ⟨b, o + i * 2, none⟩ = some (.string l[i].name) ∧ ∃ a c, w.cell? ⟨b, o + i * 2 + 1, none⟩ = some (.slice a l[i].args.length c) ∧ Sl w X a l[i].args := by
 intro l
 induction l with
 | nil => intro b o _ i h; simp at h
 | cons t r ih =>
  intro b o hl i h
  obtain ⟨s, k⟩ := t
  simp only [Lies] at hl
  obtain ⟨hx, h1, ⟨a, c, h2, h3⟩, h4⟩ := hl
  cases i with
  | zero => exact ⟨hx, h1, a, c, h2, h3⟩
  | succ i =>
   have := ih b (o + 2) h4 i (by simpa using h)
   simp only [List.getElem_cons_succ]
   rw [show o + (i + 1) * 2 = o + 2 + i * 2 by omega]
   exact this
theorem lies_mk {w : World} {X : Nat → Prop} : ∀ (l : List Tm) (b o : Nat), (∀ i (h : i < l.length),
  X b ∧ w.cell? ⟨b, o + i * 2, none⟩ = some (.string l[i].name) ∧ ∃ a c, w.cell? ⟨b, o + i * 2 + 1, none⟩ = some (.slice a l[i].args.length c) ∧ Sl w X a l[i].args) → Lies w X b o l := by
 intro l
 induction l with
 | nil => intro b o _; simp [Lies]
 | cons t r ih =>
  intro b o hl
  obtain ⟨s, k⟩ := t
  simp only [Lies]
  obtain ⟨hx, h1, a, c, h2, h3⟩ := hl 0 (by simp)
  refine ⟨hx, h1, ⟨a, c, h2, h3⟩, ih b (o + 2) fun i h => ?_⟩
  have := hl (i + 1) (by simpa using h)
  simp only [List.getElem_cons_succ] at this
  rw [show o + (i + 1) * 2 = o + 2 + i * 2 by omega] at this
  exact this
theorem Sl.get {w wr : World} {X : Nat → Prop} {a : Option Addr} {l : List Tm} {B : Nat} (h : Sl w X a l) (hb : Below B w wr) (hX : ∀ b, X b → b < w.heap.size → b < B) (k : Nat) (hk : k < l.length) :
  ∃ b o a' c', a = some ⟨b, o, none⟩ ∧ wr.cell? ⟨b, o + k * 2, none⟩ = some (.string l[k].name) ∧ wr.cell? ⟨b, o + k * 2 + 1, none⟩ = some (.slice a' l[k].args.length c') ∧ TV wr X (.agg #[.string l[k].name, .slice a' l[k].args.length c']) l[k] := by
 have h' := h.below hb hX
 obtain ⟨_, h1⟩ := h'
 rcases h1 with h1 | ⟨b, o, e, h1⟩
 ·subst h1; simp at hk
 ·obtain ⟨_, h2, a', c', h3, h4⟩ := lies_get _ _ _ h1 k hk
  exact ⟨b, o, a', c', e, h2, h3, a', c', rfl, h4⟩
set_option linter.unusedSimpArgs false
set_option linter.unusedVariables false
structure Bd where
 nm : ByteArray
 t : Tm
def BV (w : World) (X : Nat → Prop) (v : Value) (l : List Bd) : Prop :=
 ∃ a c, v = .slice a l.length c ∧ (l.length ≤ 9223372036854775807 ∧ l.length ≤ c) ∧ (l = [] ∨ ∃ b o, a = some ⟨b, o, none⟩ ∧ X b ∧ ∀ i (h : i < l.length), w.cell? ⟨b, o + i * 3, none⟩ = some (.string l[i].nm) ∧ w.cell? ⟨b, o + i * 3 + 1, none⟩ = some (.string l[i].t.name) ∧ ∃ a' c', w.cell? ⟨b, o + i * 3 + 2, none⟩ = some (.slice a' l[i].t.args.length c') ∧ Sl w X a' l[i].t.args)
theorem BV.kept {w w' : World} {X : Nat → Prop} {v : Value} {l : List Bd} (h : BV w X v l) (hk : ∀ b, X b → w'.heap[b]? = w.heap[b]?) : BV w' X v l := by
 obtain ⟨a, c, e, hl, h⟩ := h
 refine ⟨a, c, e, hl, ?_⟩
 rcases h with h | ⟨b, o, ea, hX, h⟩
 ·exact Or.inl h
 ·refine Or.inr ⟨b, o, ea, hX, fun i hi => ?_⟩
  obtain ⟨h1, h2, a', c', h3, h4⟩ := h i hi
  have hb := hk b hX
  exact ⟨by simpa [World.cell?, hb] using h1, by simpa [World.cell?, hb] using h2, a', c', by simpa [World.cell?, hb] using h3, h4.kept hk⟩
theorem cell_lt {w : World} {b o : Nat} {v : Value} (h : w.cell? ⟨b, o, none⟩ = some v) : b < w.heap.size := by
 rcases Nat.lt_or_ge b w.heap.size with h' | h'
 ·exact h'
 ·simp [World.cell?, Array.getElem?_eq_none h'] at h
theorem BV.mono {w : World} {X Y : Nat → Prop} {v : Value} {l : List Bd} (h : BV w X v l) (hk : ∀ b, X b → b < w.heap.size → Y b) : BV w Y v l := by
 obtain ⟨a, c, e, hl, h⟩ := h
 refine ⟨a, c, e, hl, ?_⟩
 rcases h with h | ⟨b, o, ea, hX, h⟩
 ·exact Or.inl h
 ·by_cases h0 : l = []
  ·exact Or.inl h0
  ·have hp : 0 < l.length := List.length_pos_iff.2 h0
   refine Or.inr ⟨b, o, ea, hk b hX (cell_lt (h 0 hp).1), fun i hi => ?_⟩
   obtain ⟨h1, h2, a', c', h3, h4⟩ := h i hi
   exact ⟨h1, h2, a', c', h3, h4.mono hk⟩
theorem BV.later {w w' : World} {X : Nat → Prop} {v : Value} {l : List Bd} (h : BV w X v l) (hb : Below w.heap.size w w') : BV w' X v l :=
 ((h.mono (Y := fun b => X b ∧ b < w.heap.size) fun b h1 h2 => ⟨h1, h2⟩).kept fun b hx => hb.block b hx.2).mono fun b hx _ => hx.1
theorem BV.alloc {w : World} {X : Nat → Prop} {v : Value} {l : List Bd} (h : BV w X v l) (o : Obj) : BV (w.alloc o) X v l := h.later ((Below.refl _ _).alloc (Nat.le_refl _) o)
theorem BV.get {w : World} {X : Nat → Prop} {a : Option Addr} {n c : Nat} {l : List Bd} (h : BV w X (.slice a n c) l) (i : Nat) (hi : i < l.length) :
  ∃ b o a' c', a = some ⟨b, o, none⟩ ∧ w.cell? ⟨b, o + i * 3, none⟩ = some (.string l[i].nm) ∧ w.cell? ⟨b, o + i * 3 + 1, none⟩ = some (.string l[i].t.name) ∧ w.cell? ⟨b, o + i * 3 + 2, none⟩ = some (.slice a' l[i].t.args.length c') ∧ Sl w X a' l[i].t.args := by
 obtain ⟨a2, c2, e, hl, h⟩ := h
 simp at e
 obtain ⟨rfl, rfl, rfl⟩ := e
 rcases h with h | ⟨b, o, ea, hX, h⟩
 ·subst h; simp at hi
 ·obtain ⟨h1, h2, a', c', h3, h4⟩ := h i hi
  exact ⟨b, o, a', c', ea, h1, h2, h3, h4⟩
theorem bytes_inj {a b : ByteArray} (h : a.toList = b.toList) : a = b := by
 rw [ByteArray.toList_eq, ByteArray.toList_eq] at h
 cases a with
 | mk x =>
  cases b with
  | mk y => congr 1; exact Array.toList_inj.1 h
theorem bytes_yes {a b : ByteArray} (h : a = b) : (a.toList == b.toList) = true := by rw [h]; simp
theorem bytes_no {a b : ByteArray} (h : a ≠ b) : (a.toList == b.toList) = false := beq_eq_false_iff_ne.2 fun e => h (bytes_inj e)
def forT : List Bd → ByteArray → Option Tm
 | [], _ => none
 | d :: r, n => if d.nm = n then some d.t else forT r n
theorem forT_take {l : List Bd} {n : ByteArray} {k : Nat} (hk : k < l.length) (h : forT (l.take k) n = none) : (l[k].nm = n → forT l n = some l[k].t) ∧ (l[k].nm ≠ n → forT (l.take (k + 1)) n = none) := by
 induction l generalizing k with
 | nil => simp at hk
 | cons d r ih =>
  cases k with
  | zero =>
   refine ⟨fun e => ?_, fun e => ?_⟩
   ·simp only [List.getElem_cons_zero] at e; simp [forT, e]
   ·simp only [List.getElem_cons_zero] at e; simp [forT, e]
  | succ k =>
   simp only [List.take_succ_cons, forT] at h
   by_cases hd : d.nm = n
   ·rw [if_pos hd] at h; cases h
   ·rw [if_neg hd] at h
    obtain ⟨h1, h2⟩ := ih (by simpa using hk) h
    refine ⟨fun e => ?_, fun e => ?_⟩
    ·rw [forT, if_neg hd]; exact h1 (by simpa using e)
    ·rw [List.take_succ_cons, forT, if_neg hd]; exact h2 (by simpa using e)
theorem bcell {W w1 : World} {B : Nat} (hb : Below B W w1) : (∀ b o, b < B → w1.cell? ⟨b, o, none⟩ = W.cell? ⟨b, o, none⟩) ∧ (∀ b o, b < B → w1.frozen? ⟨b, o, none⟩ = W.frozen? ⟨b, o, none⟩) :=
 ⟨fun b o h => hb.cell (p := ⟨b, o, none⟩) h, fun b o h => hb.frozen (p := ⟨b, o, none⟩) h⟩
theorem sizeL_take (l : List Tm) (k : Nat) (h : k < l.length) : sizeL (l.take (k + 1)) = sizeL (l.take k) + sizeL [l[k]] := by
 rw [List.take_succ_eq_append_getElem h, sizeL_append]
theorem sizeL_take_le (l : List Tm) (k : Nat) : sizeL (l.take k) ≤ sizeL l := by
 have := sizeL_append (l.take k) (l.drop k)
 rw [List.take_append_drop] at this
 omega
theorem ret_int {k : IntKind} {a b : Int} (h : a = b) : Ending.returned (.int k a) = .returned (.int k b) := by rw [h]
theorem below_box {w wr : World} {o : Obj} (hb : Below (w.heap.size + 1) (w.alloc o) wr) : Below w.heap.size w wr :=
 ((Below.refl _ _).alloc (Nat.le_refl _) _).trans (hb.mono (Nat.le_succ _))
set_option maxHeartbeats 400000 in
theorem size_any (t : Tm) : ∀ (v : Value) (most : Int) (w : World) (X : Nat → Prop), TV w X v t → 0 ≤ most → most ≤ 1000000 →
  Calls Tryz.prog 9 #[v, .int .i64 most] w fun e w' => e = .returned (.int .i64 (min (sizeL [t]) (most + 1))) ∧ Below w.heap.size w w' := by
 induction t using Tm.ind with
 | h s l ih =>
  intro v most w X hv hm0 hm1
  obtain ⟨a, c, rfl, hs⟩ := hv
  have IH := hide ih
  clear ih
  go_enter Tryz.func9, Tryz.ntmps9
  go_wp2_with fail
  go_loopw [5, 6] (fun n i wr => ∃ k : Nat, k ≤ l.length ∧ i = .int .i64 k ∧ n = .int .i64 (min (1 + sizeL (l.take k)) (most + 1)) ∧ Below (w.heap.size + 1) (w.alloc (Obj.cells #[Value.string s, Value.slice a l.length c] 27)) wr) (fun n i wr => l.length - (intOf i).toNat)
  case atStart => exact ⟨0, Nat.zero_le _, rfl, by simp [sizeL]; omega, Below.refl _ _⟩
  case round =>
   obtain ⟨k, hk, rfl, rfl, hb⟩ := hrel
   have hc := bcell hb
   have c0 : wr.cell? ⟨w.heap.size, 0, none⟩ = some (.string s) := by rw [hc.1 _ _ (by omega)]; simp
   have c1 : wr.cell? ⟨w.heap.size, 1, none⟩ = some (.slice a l.length c) := by rw [hc.1 _ _ (by omega)]; simp
   have hl := hs.1
   have hn : 0 ≤ ((1 : Int) + sizeL (l.take k)) := by omega
   by_cases hlt : k < l.length
   ·obtain ⟨b, o, a', c', rfl, d0, d1, hx⟩ := hs.get (((Below.refl _ _).alloc (Nat.le_refl _) _).trans (hb.mono (Nat.le_succ _))) (fun _ _ h => h) k hlt
    by_cases hle : 1 + (sizeL (l.take k) : Int) ≤ most
    ·have hmin : min (1 + (sizeL (l.take k) : Int)) (most + 1) = 1 + (sizeL (l.take k) : Int) := by omega
     rw [hmin]
     go_wp2_with fail
     refine (IH.out _ (List.getElem_mem hlt) _ _ _ X hx (by omega) (by omega)).mono ?_
     rintro e w1 ⟨rfl, hb1⟩
     have hsz : w.heap.size + 1 ≤ wr.heap.size := by have := hb.size; simpa using this
     have Hst := hide (sizeL_take l k hlt)
     have hm2 : 0 ≤ min ((sizeL [l[k]] : Int)) (most - (1 + (sizeL (l.take k) : Int)) + 1) := by omega
     have hm3 : min ((sizeL [l[k]] : Int)) (most - (1 + (sizeL (l.take k) : Int)) + 1) ≤ 1000001 := by omega
     go_wp2_with fail
     go_roundw
     case rel => exact ⟨k + 1, by omega, by go_num, by rw [Hst.out]; congr 1; omega, hb.trans (hb1.mono hsz)⟩
     case measure => simp [intOf]; omega
    ·have hmin : min (1 + (sizeL (l.take k) : Int)) (most + 1) = most + 1 := by omega
     rw [hmin]
     have hz : (sizeL [(⟨s, l⟩ : Tm)] : Int) = 1 + sizeL l := by simp [sizeL]
     have hle2 : sizeL (l.take k) ≤ sizeL l := sizeL_take_le l k
     have HF := hide (show (most + 1 : Int) = min (sizeL [(⟨s, l⟩ : Tm)] : Int) (most + 1) by omega)
     clear hz
     go_wp2_with fail
     go_ret
     exact ⟨ret_int HF.out, below_box hb⟩
   ·have htk : l.take k = l := List.take_of_length_le (by omega)
    rw [htk]
    have hz : (sizeL [(⟨s, l⟩ : Tm)] : Int) = 1 + sizeL l := by simp [sizeL]
    have HZ := hide hz
    clear hz
    go_wp2_with fail
    ·go_ret
     exact ⟨ret_int (by have := HZ.out; omega), below_box hb⟩
    ·go_ret
     exact ⟨ret_int (by have := HZ.out; omega), below_box hb⟩
def digB (n : Int) : Bool := decide (48 ≤ n) && decide (n ≤ 57)
def capB (n : Int) : Bool := decide (65 ≤ n) && decide (n ≤ 90)
def lowB (n : Int) : Bool := decide (97 ≤ n) && decide (n ≤ 122)
def letB (n : Int) : Bool := lowB n || capB n
def alnB (n : Int) : Bool := letB n || digB n
theorem ret_bool {a b : Bool} (h : a = b) : Ending.returned (.bool a) = .returned (.bool b) := by rw [h]
set_option maxHeartbeats 400000 in
theorem isDigit_any (n : Int) (w : World) : Calls Tryz.prog 138 #[.int .u8 n] w fun e w' => e = .returned (.bool (digB n)) ∧ w' = w := by
 go_enter Tryz.func138, Tryz.ntmps138
 go_wp2_with fail
 all_goals (go_ret; refine ⟨ret_bool ?_, rfl⟩; rw [Bool.eq_iff_iff]; simp [alnB, letB, lowB, capB, digB] <;> omega)
set_option maxHeartbeats 400000 in
theorem isCapital_any (n : Int) (w : World) : Calls Tryz.prog 91 #[.int .u8 n] w fun e w' => e = .returned (.bool (capB n)) ∧ w' = w := by
 go_enter Tryz.func91, Tryz.ntmps91
 go_wp2_with fail
 all_goals (go_ret; refine ⟨ret_bool ?_, rfl⟩; rw [Bool.eq_iff_iff]; simp [alnB, letB, lowB, capB, digB] <;> omega)
set_option maxHeartbeats 400000 in
theorem isLetter_any (n : Int) (w : World) : Calls Tryz.prog 139 #[.int .u8 n] w fun e w' => e = .returned (.bool (letB n)) ∧ w' = w := by
 go_enter Tryz.func139, Tryz.ntmps139
 go_wp2_with (go_at_call 91; refine (isCapital_any _ _).mono ?_; rintro e w' ⟨rfl, rfl⟩)
 all_goals (go_ret; refine ⟨ret_bool ?_, rfl⟩; rw [Bool.eq_iff_iff]; simp [alnB, letB, lowB, capB, digB] <;> omega)
set_option maxHeartbeats 400000 in
theorem isLetterR_any (n : Int) (w : World) : Calls Tryz.prog 58 #[.int .u8 n] w fun e w' => e = .returned (.bool (alnB n)) ∧ w' = w := by
 go_enter Tryz.func58, Tryz.ntmps58
 go_wp2_with fail
 all_goals (go_ret; refine ⟨ret_bool ?_, rfl⟩; rw [Bool.eq_iff_iff]; simp [alnB, letB, lowB, capB, digB] <;> omega)
def byteAt (s : ByteArray) (i : Nat) : Int := if h : i < s.size then (s[i].toNat : Int) else 0
theorem byteAt_of {s : ByteArray} {i : Nat} (h : i < s.size) : (s[i].toNat : Int) = byteAt s i := by simp [byteAt, h]
def varB (s : ByteArray) : Bool := capB (byteAt s 0)
def alnTo (s : ByteArray) (k : Nat) : Bool := (List.range k).all fun i => alnB (byteAt s i)
def nameB (s : ByteArray) : Bool := decide (1 ≤ s.size) && decide (s.size ≤ 8) && !digB (byteAt s 0) && alnTo s s.size
theorem isEmpty_pos {s : ByteArray} (h : 0 < s.size) : s.toList.isEmpty = false := by
 rw [ByteArray.toList_eq, List.isEmpty_eq_false_iff, ← List.length_pos_iff]
 simpa using h
theorem isEmpty_zero {s : ByteArray} (h : ¬ 0 < s.size) : s.toList.isEmpty = true := by
 rw [ByteArray.toList_eq, List.isEmpty_iff, ← List.length_eq_zero_iff]
 have : s.size = 0 := by omega
 simpa using this
theorem alnTo_succ (s : ByteArray) (k : Nat) : alnTo s (k + 1) = (alnTo s k && alnB (byteAt s k)) := by
 simp [alnTo, List.range_succ, List.all_append]
theorem alnTo_false {s : ByteArray} {k n : Nat} (h : k ≤ n) (hf : alnTo s k = false) : alnTo s n = false := by
 cases hn : alnTo s n with
 | false => rfl
 | true =>
  rw [← hf]; symm
  unfold alnTo at hn ⊢
  rw [List.all_eq_true] at hn ⊢
  intro x hx; exact hn x (by rw [List.mem_range] at hx ⊢; omega)
set_option maxHeartbeats 400000 in
theorem isVarR_any (s : ByteArray) (w : World) : Calls Tryz.prog 34 #[.string s] w fun e w' => e = .returned (.bool (varB s)) ∧ w' = w := by
 by_cases h : 0 < s.size
 ·have hb := hide (byteAt_of h)
  have he := isEmpty_pos h
  go_enter Tryz.func34, Tryz.ntmps34
  go_wp2_with fail
  all_goals (go_ret; refine ⟨ret_bool ?_, rfl⟩; have hb' := hb.out; rw [Bool.eq_iff_iff]; simp [varB, capB] <;> omega)
 ·have he := isEmpty_zero h
  have hv : Hid (false = varB s) := by simp [Hid, varB, byteAt, h, capB]
  go_enter Tryz.func34, Tryz.ntmps34
  go_wp2_with fail
  go_ret
  exact ⟨ret_bool hv.out, rfl⟩
set_option maxHeartbeats 400000 in
theorem isVariable_all (s : ByteArray) (w : World) : Calls Tryz.prog 65 #[.string s] w fun e w' => e = .returned (.bool (varB s)) ∧ w' = w := by
 by_cases h : 0 < s.size
 ·have hb := hide (byteAt_of h)
  have he := isEmpty_pos h
  go_enter Tryz.func65, Tryz.ntmps65
  go_wp2_with (go_at_call 91; refine (isCapital_any _ _).mono ?_; rintro e w' ⟨rfl, rfl⟩)
  go_ret
  refine ⟨ret_bool ?_, rfl⟩
  rw [hb.out]; rfl
 ·have he := isEmpty_zero h
  have hv : Hid (false = varB s) := by simp [Hid, varB, byteAt, h, capB]
  go_enter Tryz.func65, Tryz.ntmps65
  go_wp2_with fail
  go_ret
  exact ⟨ret_bool hv.out, rfl⟩
theorem isVariable_any (s : ByteArray) (w : World) (h : 0 < s.size) : Calls Tryz.prog 65 #[.string s] w fun e w' => e = .returned (.bool (varB s)) ∧ w' = w := isVariable_all s w
theorem nameB_no {s : ByteArray} {k : Nat} (hk : k < s.size) (h : alnB (byteAt s k) = false) : nameB s = false := by
 have h1 : alnTo s (k + 1) = false := by rw [alnTo_succ, h]; simp
 have h2 := alnTo_false (n := s.size) (by omega) h1
 simp [nameB, h2]
set_option maxHeartbeats 400000 in
theorem isName_any (s : ByteArray) (w : World) : Calls Tryz.prog 125 #[.string s] w fun e w' => e = .returned (.bool (nameB s)) ∧ w' = w := by
 by_cases h0 : s.size < 1
 ·have hn : Hid (false = nameB s) := by simp [Hid, nameB]; omega
  go_enter Tryz.func125, Tryz.ntmps125
  go_wp2_with fail
  go_ret
  exact ⟨ret_bool hn.out, rfl⟩
 ·by_cases h8 : 8 < s.size
  ·have hn : Hid (false = nameB s) := by simp [Hid, nameB]; omega
   go_enter Tryz.func125, Tryz.ntmps125
   go_wp2_with fail
   all_goals (go_ret; exact ⟨ret_bool hn.out, rfl⟩)
  ·have hb := hide (byteAt_of (s := s) (i := 0) (by omega))
   by_cases hd : digB (byteAt s 0) = true
   ·have hn : Hid (false = nameB s) := by simp [Hid, nameB, hd]
    have hd' := hide hd
    clear hd
    go_enter Tryz.func125, Tryz.ntmps125
    go_wp2_with (go_at_call 138; refine (isDigit_any _ _).mono ?_; rintro e w' ⟨rfl, rfl⟩; rw [hb.out, hd'.out])
    all_goals (go_ret; exact ⟨ret_bool hn.out, rfl⟩)
   ·have hd' : Hid (digB (byteAt s 0) = false) := by simpa [Hid] using hd
    clear hd
    go_enter Tryz.func125, Tryz.ntmps125
    go_wp2_with (go_at_call 138; refine (isDigit_any _ _).mono ?_; rintro e w' ⟨rfl, rfl⟩; rw [hb.out, hd'.out])
    go_loop [19] (fun i => ∃ k : Nat, k ≤ s.size ∧ i = .int .i64 k ∧ alnTo s k = true) (fun i => s.size - (intOf i).toNat)
    case atStart => exact ⟨0, Nat.zero_le _, rfl, rfl⟩
    case round =>
     obtain ⟨k, hk, rfl, ha⟩ := hrel
     have HA := hide ha
     clear ha
     by_cases hlt : k < s.size
     ·have hbk := hide (byteAt_of hlt)
      have hsuc := hide (alnTo_succ s k)
      cases hl : letB (byteAt s k) with
      | true =>
       have HL := hide hl
       clear hl
       go_wp2_with (go_at_call 139; refine (isLetter_any _ _).mono ?_; rintro e w' ⟨rfl, rfl⟩; rw [hbk.out, HL.out])
       go_round
       case rel => exact ⟨k + 1, by omega, by go_num, by rw [hsuc.out, HA.out, alnB, HL.out]; rfl⟩
       case measure => simp [intOf]; omega
      | false =>
       have HL := hide hl
       clear hl
       cases hg : digB (byteAt s k) with
       | true =>
        have HG := hide hg
        clear hg
        go_wp2_with (first | (go_at_call 139; refine (isLetter_any _ _).mono ?_; rintro e w' ⟨rfl, rfl⟩; rw [hbk.out, HL.out]) | (go_at_call 138; refine (isDigit_any _ _).mono ?_; rintro e w' ⟨rfl, rfl⟩; rw [hbk.out, HG.out]))
        go_round
        case rel => exact ⟨k + 1, by omega, by go_num, by rw [hsuc.out, HA.out, alnB, HL.out, HG.out]; rfl⟩
        case measure => simp [intOf]; omega
       | false =>
        have HG := hide hg
        clear hg
        go_wp2_with (first | (go_at_call 139; refine (isLetter_any _ _).mono ?_; rintro e w' ⟨rfl, rfl⟩; rw [hbk.out, HL.out]) | (go_at_call 138; refine (isDigit_any _ _).mono ?_; rintro e w' ⟨rfl, rfl⟩; rw [hbk.out, HG.out]))
        go_ret
        exact ⟨ret_bool (nameB_no hlt (by rw [alnB, HL.out, HG.out]; rfl)).symm, rfl⟩
     ·have hn : Hid (true = nameB s) := by
       have e : k = s.size := by omega
       have := HA.out
       rw [e] at this
       simp [Hid, nameB, this, hd'.out]; omega
      go_wp2_with fail
      go_ret
      exact ⟨ret_bool hn.out, rfl⟩
set_option maxHeartbeats 400000 in
theorem isNameR_any (s : ByteArray) (w : World) : Calls Tryz.prog 38 #[.string s] w fun e w' => e = .returned (.bool (nameB s)) ∧ w' = w := by
 by_cases h0 : 0 < s.size
 ·have he := isEmpty_pos h0
  have hb := hide (byteAt_of h0)
  by_cases h8 : 8 < s.size
  ·have hn : Hid (false = nameB s) := by simp [Hid, nameB]; omega
   go_enter Tryz.func38, Tryz.ntmps38
   go_wp2_with fail
   all_goals (go_ret; exact ⟨ret_bool hn.out, rfl⟩)
  ·cases hd : digB (byteAt s 0) with
   | true =>
    have hn : Hid (false = nameB s) := by simp [Hid, nameB, hd]
    have hd1 : 48 ≤ (s[0].toNat : Int) := by rw [hb.out]; simp [digB] at hd; exact hd.1
    have hd2 : (s[0].toNat : Int) ≤ 57 := by rw [hb.out]; simp [digB] at hd; exact hd.2
    clear hd
    go_enter Tryz.func38, Tryz.ntmps38
    go_wp2_with fail
    all_goals (go_ret; exact ⟨ret_bool hn.out, rfl⟩)
   | false =>
    have HD := hide hd
    clear hd
    have hor : (s[0].toNat : Int) < 48 ∨ (48 ≤ (s[0].toNat : Int) ∧ 57 < (s[0].toNat : Int)) := by
     have := HD.out; rw [hb.out]; simp [digB] at this; omega
    rcases hor with h1 | ⟨h1, h2⟩
    all_goals
     go_enter Tryz.func38, Tryz.ntmps38
     go_wp2_with fail
     go_loop [3] (fun i => ∃ k : Nat, k ≤ s.size ∧ i = .int .i64 k ∧ alnTo s k = true) (fun i => s.size - (intOf i).toNat)
     case atStart => exact ⟨0, Nat.zero_le _, rfl, rfl⟩
     case round =>
      obtain ⟨k, hk, rfl, ha⟩ := hrel
      have HA := hide ha
      clear ha
      by_cases hlt : k < s.size
      ·have hbk := hide (byteAt_of hlt)
       have hsuc := hide (alnTo_succ s k)
       cases hl : alnB (byteAt s k) with
       | true =>
        have HL := hide hl
        clear hl
        go_wp2_with (go_at_call 58; refine (isLetterR_any _ _).mono ?_; rintro e w' ⟨rfl, rfl⟩; rw [hbk.out, HL.out])
        go_round
        case rel => exact ⟨k + 1, by omega, by go_num, by rw [hsuc.out, HA.out, HL.out]; rfl⟩
        case measure => simp [intOf]; omega
       | false =>
        have HL := hide hl
        clear hl
        go_wp2_with (go_at_call 58; refine (isLetterR_any _ _).mono ?_; rintro e w' ⟨rfl, rfl⟩; rw [hbk.out, HL.out])
        go_ret
        exact ⟨ret_bool (nameB_no hlt HL.out).symm, rfl⟩
      ·have hn : Hid (true = nameB s) := by
        have e : k = s.size := by omega
        have := HA.out
        rw [e] at this
        simp [Hid, nameB, this, HD.out]; omega
       go_wp2_with fail
       go_ret
       exact ⟨ret_bool hn.out, rfl⟩
 ·have he := isEmpty_zero h0
  have hn : Hid (false = nameB s) := by simp [Hid, nameB]; omega
  go_enter Tryz.func38, Tryz.ntmps38
  go_wp2_with fail
  all_goals (go_ret; exact ⟨ret_bool hn.out, rfl⟩)
theorem argsOf_any (s : ByteArray) (a : Option Addr) (n c : Nat) (w : World) :
  Calls Tryz.prog 97 #[.agg #[.string s, .slice a n c]] w fun e w' => e = .returned (.slice a n c) ∧ w' = w.alloc (.cells #[.string s, .slice a n c] 27) := by
 go_enter Tryz.func97, Tryz.ntmps97
 go_wp2_with fail
 go_ret
 exact ⟨rfl, rfl⟩
set_option maxHeartbeats 400000 in
theorem countOn_any (M : Int) (hM0 : 0 ≤ M) (hM1 : M ≤ 1000000) (t : Tm) : ∀ (v : Value) (n : Int) (w : World) (X : Nat → Prop), TV w X v t → 0 ≤ n → n ≤ M →
  Calls Tryz.prog 121 #[v, .func (.func 97) #[] #[], .int .i64 M, .int .i64 n] w fun e w' => e = .returned (.int .i64 (min (n + sizeL [t]) (M + 1))) ∧ Below w.heap.size w w' := by
 induction t using Tm.ind with
 | h s l ih =>
  intro v n w X hv hn0 hn1
  obtain ⟨a, c, rfl, hs⟩ := hv
  have IH := hide ih
  clear ih
  have hz : Hid ((sizeL [(⟨s, l⟩ : Tm)] : Int) = 1 + sizeL l) := by simp [Hid, sizeL]
  go_enter Tryz.func121, Tryz.ntmps121
  go_wp2_with (go_at_call 97; refine (argsOf_any _ _ _ _ _).mono ?_; rintro e w' ⟨rfl, rfl⟩)
  have hB0 : Hid (Below w.heap.size w ((w.alloc (Obj.cells #[Value.string s, Value.slice a l.length c] 27)).alloc (Obj.cells #[Value.string s, Value.slice a l.length c] 27))) := ((Below.refl _ _).alloc (Nat.le_refl _) _).alloc (by simp) _
  have hZ0 : Hid (w.heap.size + 2 ≤ ((w.alloc (Obj.cells #[Value.string s, Value.slice a l.length c] 27)).alloc (Obj.cells #[Value.string s, Value.slice a l.length c] 27)).heap.size) := by simp [Hid]
  generalize ((w.alloc (Obj.cells #[Value.string s, Value.slice a l.length c] 27)).alloc (Obj.cells #[Value.string s, Value.slice a l.length c] 27)) = w0 at *
  go_loopw [9, 18] (fun m i wr => ∃ k : Nat, k ≤ l.length ∧ i = .int .i64 k ∧ m = .int .i64 (min (n + 1 + sizeL (l.take k)) (M + 1)) ∧ Below w.heap.size w wr) (fun m i wr => l.length - (intOf i).toNat)
  case atStart => exact ⟨0, Nat.zero_le _, rfl, by rw [show sizeL (l.take 0) = 0 by simp [sizeL]]; congr 1; omega, hB0.out⟩
  case round =>
   obtain ⟨k, hk, rfl, rfl, hb⟩ := hrel
   have hl := hs.1
   have hsz : w.heap.size ≤ wr.heap.size := hb.size
   by_cases hlt : k < l.length
   ·obtain ⟨b, o, a', c', rfl, d0, d1, hx⟩ := hs.get hb (fun _ _ h => h) k hlt
    by_cases hle : n + 1 + (sizeL (l.take k) : Int) ≤ M
    ·have hmin : min (n + 1 + (sizeL (l.take k) : Int)) (M + 1) = n + 1 + (sizeL (l.take k) : Int) := by omega
     rw [hmin]
     go_wp2_with fail
     refine (IH.out _ (List.getElem_mem hlt) _ _ _ X (hx.alloc _) (by omega) (by omega)).mono ?_
     rintro e w1 ⟨rfl, hb1⟩
     have Hst := hide (sizeL_take l k hlt)
     go_wp2_with fail
     go_roundw
     case rel => exact ⟨k + 1, by omega, by go_num, by rw [Hst.out]; congr 1; omega, (hb.alloc hsz _).trans (hb1.mono (by simp; omega))⟩
     case measure => simp [intOf]; omega
    ·have hmin : min (n + 1 + (sizeL (l.take k) : Int)) (M + 1) = M + 1 := by omega
     rw [hmin]
     have hle2 : sizeL (l.take k) ≤ sizeL l := sizeL_take_le l k
     go_wp2_with fail
     go_ret
     refine ⟨ret_int (by have := hz.out; omega), ?_⟩
     exact hb.alloc (by omega) _
   ·have htk : l.take k = l := List.take_of_length_le (by omega)
    rw [htk]
    go_wp2_with fail
    go_ret
    exact ⟨ret_int (by have := hz.out; omega), hb⟩
theorem countT_any (M : Int) (hM0 : 0 ≤ M) (hM1 : M ≤ 1000000) (t : Tm) (v : Value) (w : World) (X : Nat → Prop) (hv : TV w X v t) :
  Calls Tryz.prog 96 #[v, .func (.func 97) #[] #[], .int .i64 M] w fun e w' => e = .returned (.int .i64 (min (sizeL [t] : Int) (M + 1))) ∧ Below w.heap.size w w' := by
 obtain ⟨a, c, rfl, hs⟩ := hv
 have hv : TV w X (.agg #[.string t.name, .slice a t.args.length c]) t := ⟨a, c, rfl, hs⟩
 go_enter Tryz.func96, Tryz.ntmps96
 go_wp2_with fail
 refine (countOn_any M hM0 hM1 t _ _ _ X (hv.alloc _) (by omega) (by omega)).mono ?_
 rintro e w1 ⟨rfl, hb1⟩
 go_wp2_with fail
 go_ret
 exact ⟨ret_int (by omega), ((Below.refl _ _).alloc (Nat.le_refl _) _).trans (hb1.mono (by simp))⟩
theorem count_any (M : Int) (hM0 : 0 ≤ M) (hM1 : M ≤ 1000000) (t : Tm) (v : Value) (w : World) (X : Nat → Prop) (hv : TV w X v t) :
  Calls Tryz.prog 71 #[v, .int .i64 M] w fun e w' => e = .returned (.int .i64 (min (sizeL [t] : Int) (M + 1))) ∧ Below w.heap.size w w' := by
 obtain ⟨a, c, rfl, hs⟩ := hv
 have hv : TV w X (.agg #[.string t.name, .slice a t.args.length c]) t := ⟨a, c, rfl, hs⟩
 go_enter Tryz.func71, Tryz.ntmps71
 go_wp2_with fail
 refine (countT_any M hM0 hM1 t _ _ X (hv.alloc _)).mono ?_
 rintro e w1 ⟨rfl, hb1⟩
 go_wp2_with fail
 go_ret
 exact ⟨ret_int (by omega), ((Below.refl _ _).alloc (Nat.le_refl _) _).trans (hb1.mono (by simp))⟩
def errL : List Tm → Int
 | [] => 0
 | ⟨s, l⟩ :: r => if nameB s = true then (if (varB s && decide (0 < l.length)) = true then 2 else if errL l = 0 then errL r else errL l) else 1
theorem errL_cons (t : Tm) (r : List Tm) : errL (t :: r) = if errL [t] = 0 then errL r else errL [t] := by
 obtain ⟨s, l⟩ := t
 simp only [errL]
 split
 ·split
  ·simp
  ·split <;> simp_all
 ·simp
theorem errL_append (a b : List Tm) : errL (a ++ b) = if errL a = 0 then errL b else errL a := by
 induction a with
 | nil => simp [errL]
 | cons t r ih =>
  rw [List.cons_append, errL_cons, errL_cons t r, ih]
  by_cases h : errL [t] = 0 <;> simp [h]
theorem errL_take (l : List Tm) (k : Nat) (h : k < l.length) : errL (l.take (k + 1)) = if errL (l.take k) = 0 then errL [l[k]] else errL (l.take k) := by
 rw [List.take_succ_eq_append_getElem h, errL_append]
theorem errL_of_take {l : List Tm} {k : Nat} (h : errL (l.take k) ≠ 0) : errL l = errL (l.take k) := by
 have := errL_append (l.take k) (l.drop k)
 rw [List.take_append_drop, if_neg h] at this
 exact this
theorem name_pos {s : ByteArray} (h : nameB s = true) : 0 < s.size := by
 simp [nameB] at h; omega
set_option maxHeartbeats 400000 in
theorem checkKnots_any (t : Tm) : ∀ (v : Value) (w : World) (X : Nat → Prop), TV w X v t →
  Calls Tryz.prog 101 #[v] w fun e w' => e = .returned (.int .i64 (errL [t])) ∧ Below w.heap.size w w' := by
 induction t using Tm.ind with
 | h s l ih =>
  intro v w X hv
  obtain ⟨a, c, rfl, hs⟩ := hv
  have IH := hide ih
  clear ih
  have hl := hs.1
  cases hn : nameB s with
  | false =>
   have hz : Hid (1 = errL [(⟨s, l⟩ : Tm)]) := by simp [Hid, errL, hn]
   have HN := hide hn
   clear hn
   go_enter Tryz.func101, Tryz.ntmps101
   go_wp2_with (go_at_call 125; refine (isName_any _ _).mono ?_; rintro e w' ⟨rfl, rfl⟩; rw [HN.out])
   go_ret
   exact ⟨ret_int hz.out, (Below.refl _ _).alloc (Nat.le_refl _) _⟩
  | true =>
   have HN := hide hn
   have hpos := name_pos hn
   by_cases hvl : varB s = true ∧ 0 < l.length
   ·obtain ⟨hv, hlp⟩ := hvl
    have hz : Hid (2 = errL [(⟨s, l⟩ : Tm)]) := by simp [Hid, errL, hn, hv, hlp]
    have HV := hide hv
    clear hn hv
    go_enter Tryz.func101, Tryz.ntmps101
    go_wp2_with (first | (go_at_call 125; refine (isName_any _ _).mono ?_; rintro e w' ⟨rfl, rfl⟩; rw [HN.out]) | (go_at_call 65; refine (isVariable_any _ _ hpos).mono ?_; rintro e w' ⟨rfl, rfl⟩; rw [HV.out]))
    go_ret
    exact ⟨ret_int hz.out, (Below.refl _ _).alloc (Nat.le_refl _) _⟩
   ·have hz : Hid (errL [(⟨s, l⟩ : Tm)] = errL l) := by
     have : (varB s && decide (0 < l.length)) = false := by
      rw [Bool.eq_false_iff]; intro h; simp at h; exact hvl ⟨h.1, by omega⟩
     simp only [Hid, errL, hn, this]
     by_cases h0 : errL l = 0 <;> simp [h0]
    have hcase : (varB s = true ∧ l.length < 1) ∨ varB s = false := by
     cases hv : varB s with
     | true => exact Or.inl ⟨rfl, by apply Classical.byContradiction; intro h; exact hvl ⟨hv, by omega⟩⟩
     | false => exact Or.inr rfl
    clear hn hvl
    rcases hcase with ⟨hv, hl0⟩ | hv
    ·have e0 : l = [] := List.length_eq_zero_iff.1 (by omega)
     subst e0
     have HV := hide hv
     clear hv
     go_enter Tryz.func101, Tryz.ntmps101
     go_wp2_with (first | (go_at_call 125; refine (isName_any _ _).mono ?_; rintro e w' ⟨rfl, rfl⟩; rw [HN.out]) | (go_at_call 65; refine (isVariable_any _ _ hpos).mono ?_; rintro e w' ⟨rfl, rfl⟩; rw [HV.out]))
     go_loop [22] (fun i => i = .int .i64 0) (fun i => 0)
     case atStart => rfl
     case round =>
      subst hrel
      have HZ : Hid (0 = errL [(⟨s, []⟩ : Tm)]) := by unfold Hid; rw [hz.out]; simp [errL]
      go_wp2_with fail
      go_ret
      exact ⟨ret_int HZ.out, (Below.refl _ _).alloc (Nat.le_refl _) _⟩
    ·have HV := hide hv
     clear hv
     go_enter Tryz.func101, Tryz.ntmps101
     go_wp2_with (first | (go_at_call 125; refine (isName_any _ _).mono ?_; rintro e w' ⟨rfl, rfl⟩; rw [HN.out]) | (go_at_call 65; refine (isVariable_any _ _ hpos).mono ?_; rintro e w' ⟨rfl, rfl⟩; rw [HV.out]))
     go_loopw [22] (fun i wr => ∃ k : Nat, k ≤ l.length ∧ i = .int .i64 k ∧ errL (l.take k) = 0 ∧ Below (w.heap.size + 1) (w.alloc (Obj.cells #[Value.string s, Value.slice a l.length c] 27)) wr) (fun i wr => l.length - (intOf i).toNat)
     case atStart => exact ⟨0, Nat.zero_le _, rfl, by simp [errL], Below.refl _ _⟩
     case round =>
      obtain ⟨k, hk, rfl, he, hb⟩ := hrel
      have HE := hide he
      clear he
      have hsz : w.heap.size + 1 ≤ wr.heap.size := by have := hb.size; simpa using this
      by_cases hlt : k < l.length
      ·obtain ⟨b, o, a', c', rfl, d0, d1, hx⟩ := hs.get (below_box hb) (fun _ _ h => h) k hlt
       have HT := hide (errL_take l k hlt)
       go_wp2_with fail
       refine (IH.out _ (List.getElem_mem hlt) _ _ X (hx.alloc _)).mono ?_
       rintro e w1 ⟨rfl, hb1⟩
       by_cases hez : errL [l[k]] = 0
       ·have HZ := hide hez
        rw [hez]
        clear hez
        go_wp2_with fail
        go_roundw
        case rel => exact ⟨k + 1, by omega, by go_num, by rw [HT.out, HE.out, HZ.out]; rfl, (hb.alloc hsz _).trans (hb1.mono (by simp; omega))⟩
        case measure => simp [intOf]; omega
       ·have hez' : (errL [l[k]] == 0) = false := by simpa using hez
        have HZ : Hid (errL [l[k]] = errL [(⟨s, l⟩ : Tm)]) := by
         have h1 : errL (l.take (k + 1)) = errL [l[k]] := by rw [HT.out, HE.out]; rfl
         unfold Hid
         rw [hz.out, errL_of_take (l := l) (k := k + 1) (by rw [h1]; exact hez), h1]
        go_wp2_with fail
        go_ret
        exact ⟨ret_int HZ.out, ((below_box hb).alloc (by omega) _).trans (hb1.mono (by simp; omega))⟩
      ·have htk : l.take k = l := List.take_of_length_le (by omega)
       have HZ : Hid (0 = errL [(⟨s, l⟩ : Tm)]) := by unfold Hid; rw [hz.out, ← htk, HE.out]
       go_wp2_with fail
       go_ret
       exact ⟨ret_int HZ.out, below_box hb⟩
def mayE (t : Tm) : Int := if 200 < sizeL [t] then 3 else errL [t]
set_option maxHeartbeats 400000 in
theorem check_any (t : Tm) (v : Value) (w : World) (X : Nat → Prop) (hv : TV w X v t) :
  Calls Tryz.prog 77 #[v] w fun e w' => e = .returned (.int .i64 (mayE t)) ∧ Below w.heap.size w w' := by
 obtain ⟨a, c, rfl, hs⟩ := hv
 have hv : TV w X (.agg #[.string t.name, .slice a t.args.length c]) t := ⟨a, c, rfl, hs⟩
 go_enter Tryz.func77, Tryz.ntmps77
 go_wp2_with fail
 refine (count_any 200 (by omega) (by omega) t _ _ X (hv.alloc _)).mono ?_
 rintro e w1 ⟨rfl, hb1⟩
 have c0 : w1.cell? ⟨w.heap.size, 0, none⟩ = some (.string t.name) := by rw [hb1.cell (p := ⟨_, _, none⟩) (by simp)]; simp
 have c1 : w1.cell? ⟨w.heap.size, 1, none⟩ = some (.slice a t.args.length c) := by rw [hb1.cell (p := ⟨_, _, none⟩) (by simp)]; simp
 have hb2 : Below w.heap.size w w1 := ((Below.refl _ _).alloc (Nat.le_refl _) _).trans (hb1.mono (by simp))
 by_cases h : 200 < sizeL [t]
 ·have hm : Hid (3 = mayE t) := by simp [Hid, mayE, h]
  have e : min (sizeL [t] : Int) (200 + 1) = 201 := by omega
  rw [e]
  go_wp2_with fail
  go_ret
  exact ⟨ret_int hm.out, hb2⟩
 ·have hm : Hid (errL [t] = mayE t) := by simp [Hid, mayE, h]
  have e : min (sizeL [t] : Int) (200 + 1) = sizeL [t] := by omega
  rw [e]
  go_wp2_with fail
  refine (checkKnots_any t _ _ X (hv.later hb2)).mono ?_
  rintro e w2 ⟨rfl, hb3⟩
  go_wp2_with fail
  go_ret
  exact ⟨ret_int hm.out, hb2.trans (hb3.mono hb2.size)⟩
def RowT (w : World) (X : Nat → Prop) : List Tm → List Value → Prop
 | [], xs => xs = []
 | t :: l, xs => ∃ a c r, xs = .string t.name :: .slice a t.args.length c :: r ∧ Sl w X a t.args ∧ RowT w X l r
theorem RowT.len {w : World} {X : Nat → Prop} : ∀ {l : List Tm} {xs : List Value}, RowT w X l xs → xs.length = l.length * 2
 | [], xs, h => by simp [RowT] at h; simp [h]
 | t :: l, xs, h => by
  obtain ⟨a, c, r, rfl, _, h⟩ := h
  simp only [List.length_cons]
  rw [RowT.len h]; omega
theorem RowT.append {w : World} {X : Nat → Prop} : ∀ {l k : List Tm} {xs ys : List Value}, RowT w X l xs → RowT w X k ys → RowT w X (l ++ k) (xs ++ ys)
 | [], k, xs, ys, h, h' => by simp [RowT] at h; subst h; simpa using h'
 | t :: l, k, xs, ys, h, h' => by
  obtain ⟨a, c, r, rfl, hs, h⟩ := h
  exact ⟨a, c, r ++ ys, rfl, hs, RowT.append h h'⟩
theorem RowT.one {w : World} {X : Nat → Prop} : ∀ {l : List Tm} {xs : List Value}, RowT w X l xs → ∀ u ∈ xs, u.oneCell' = true
 | [], xs, h, u, hu => by simp [RowT] at h; subst h; cases hu
 | t :: l, xs, h, u, hu => by
  obtain ⟨a, c, r, rfl, _, h⟩ := h
  rcases List.mem_cons.1 hu with e | hu
  ·subst e; rfl
  ·rcases List.mem_cons.1 hu with e | hu
   ·subst e; rfl
   ·exact RowT.one h u hu
theorem RowT.imp {w w' : World} {X Y : Nat → Prop} (hs : ∀ a l, Sl w X a l → Sl w' Y a l) : ∀ {l : List Tm} {xs : List Value}, RowT w X l xs → RowT w' Y l xs
 | [], xs, h => h
 | t :: l, xs, h => by
  obtain ⟨a, c, r, e, h1, h⟩ := h
  exact ⟨a, c, r, e, hs _ _ h1, RowT.imp hs h⟩
theorem RowT.get {w : World} {X : Nat → Prop} : ∀ {l : List Tm} {xs : List Value}, RowT w X l xs → ∀ i (h : i < l.length),
  xs[i * 2]? = some (.string l[i].name) ∧ ∃ a c, xs[i * 2 + 1]? = some (.slice a l[i].args.length c) ∧ Sl w X a l[i].args
 | [], xs, h, i, hi => by simp at hi
 | t :: l, xs, h, i, hi => by
  obtain ⟨a, c, r, rfl, h1, h⟩ := h
  cases i with
  | zero => exact ⟨rfl, a, c, rfl, h1⟩
  | succ i =>
   have := RowT.get h i (by simpa using hi)
   rw [show (i + 1) * 2 = i * 2 + 2 by omega, show i * 2 + 2 + 1 = (i * 2 + 1) + 2 by omega]
   simpa using this
theorem sizeL_len (l : List Tm) : l.length ≤ sizeL l := by
 induction l with
 | nil => simp
 | cons t r ih => obtain ⟨s, k⟩ := t; simp only [List.length_cons, sizeL]; omega
theorem rowT_of_lies {w : World} {X : Nat → Prop} : ∀ (l : List Tm) (b o : Nat), Lies w X b o l → ∃ xs, RowT w X l xs ∧ ∀ j u, xs[j]? = some u → w.cell? ⟨b, o + j, none⟩ = some u := by
 intro l
 induction l with
 | nil => intro b o _; exact ⟨[], rfl, by simp⟩
 | cons t r ih =>
  intro b o h
  obtain ⟨s, k⟩ := t
  simp only [Lies] at h
  obtain ⟨hx, h1, ⟨a, c, h2, h3, h4⟩, h5⟩ := h
  obtain ⟨xs, hr, hc⟩ := ih b (o + 2) h5
  refine ⟨.string s :: .slice a k.length c :: xs, ⟨a, c, xs, rfl, ⟨h3, h4⟩, hr⟩, fun j u hj => ?_⟩
  match j, hj with
  | 0, hj => simp at hj; subst hj; exact h1
  | 1, hj => simp at hj; subst hj; exact h2
  | j + 2, hj => rw [show o + (j + 2) = o + 2 + j by omega]; exact hc j u (by simpa using hj)
theorem lies_of_rowT {w w' : World} {X Y : Nat → Prop} (b : Nat) (hb : Y b) : ∀ (l : List Tm) (xs : List Value) (o : Nat), RowT w X l xs → (∀ a k, Sl w X a k → Sl w' Y a k) → (∀ j u, xs[j]? = some u → w'.cell? ⟨b, o + j, none⟩ = some u) → Lies w' Y b o l := by
 intro l
 induction l with
 | nil => intro xs o _ _ _; simp [Lies]
 | cons t r ih =>
  intro xs o h hs hc
  obtain ⟨s, k⟩ := t
  obtain ⟨a, c, r', rfl, h1, h2⟩ := h
  simp only [Lies]
  obtain ⟨h3, h4⟩ := hs _ _ h1
  refine ⟨hb, hc 0 _ rfl, ⟨a, c, hc 1 _ rfl, h3, h4⟩, ih r' (o + 2) h2 hs fun j u hj => ?_⟩
  have := hc (j + 2) u (by simpa using hj)
  rwa [show o + (j + 2) = o + 2 + j by omega] at this
def preL : List Tm → List Tm
 | [] => []
 | ⟨s, l⟩ :: r => ⟨s, l⟩ :: (preL l ++ preL r)
theorem preL_append (a b : List Tm) : preL (a ++ b) = preL a ++ preL b := by
 induction a with
 | nil => simp [preL]
 | cons t r ih => obtain ⟨s, l⟩ := t; simp [preL, ih]
theorem preL_take (l : List Tm) (k : Nat) (h : k < l.length) : preL (l.take (k + 1)) = preL (l.take k) ++ preL [l[k]] := by
 rw [List.take_succ_eq_append_getElem h, preL_append]
theorem preL_length (l : List Tm) : (preL l).length = sizeL l := by
 induction l using Tm.indL with
 | h0 => simp [preL, sizeL]
 | h s l r ihl ihr => simp [preL, sizeL, ihl, ihr]; omega
theorem Sl.back {w w' : World} {X : Nat → Prop} {a : Option Addr} {l : List Tm} {B : Nat} (h : Sl w' X a l) (hb : Below B w w') (hX : ∀ b, X b → b < B) : Sl w X a l :=
 h.kept fun b hx => (hb.block b (hX b hx)).symm
theorem owned_val {w : World} {base e size : Nat} {v : Value} {n : Nat} {xs : List Value} (h : w.ownsRow base e size v n xs) (hn : 0 < n) :
  ∃ g cap, v = .slice (some ⟨g, 0, none⟩) n cap ∧ base ≤ g ∧ g < w.heap.size ∧ ∀ j u, xs[j]? = some u → w.cell? ⟨g, j, none⟩ = some u := by
 have h' := h
 obtain ⟨hl, h1⟩ := h
 rcases h1 with ⟨_, h0⟩ | ⟨g, cap, cur, hv, hg, hh, _⟩
 ·omega
 ·subst hv
  have hlt := (h'.lt g rfl).2
  refine ⟨g, cap, rfl, hg, hlt, fun j u hj => ?_⟩
  have := h'.cells (g := g) rfl j u hj
  by_cases h0 : j = 0
  ·subst h0; simpa [Addr.add] using this
  ·simpa [Addr.add, h0] using this
theorem wpList_append_eq {P : Program} {ops : Array Oper} {rest : List Oper} {o : Oper} {a : Act} {Q : Exit → Act → World → Prop} {w w' : World} {v u v' : Value} (hgd : o.guard = none) (s x : Operand) (t t' : TypeId)
  (ho : o.op = .call { callee := .builtin .append, args := #[s, x], argTypes := #[t, t'] }) (hs : a.eval s = v) (hx : a.eval x = u)
  (hr : (Builtin.append_ #[t, t'] o.type #[v, u]).run P w = .ok v' w') (h : wpList P ops Q rest (a.put o.dst v') w') : wpList P ops Q (o :: rest) a w :=
 wpList_plain hgd fun K hK => by
  unfold Oper.wp execOp
  simp only [ho, resolve, invoke, builtin, Sem.run_bind, Sem.run_pure, Result.andThen_ok, List.map_toArray, List.map_cons, List.map_nil, hs, hx, hr]
  exact hK _ _ h
theorem Tryz.infoTerm : (Tryz.prog.info? 27).map (fun i => (i.zero, i.size, i.bytes)) = some (some (.agg #[.string ByteArray.empty, .slice none 0 0]), 2, 40) := by kernel_rfl
theorem ownsRow_base {w : World} {base base' e size : Nat} {v : Value} {n : Nat} {xs : List Value} (h : w.ownsRow base e size v n xs) (hb : base' ≤ base) : w.ownsRow base' e size v n xs := by
 obtain ⟨h0, h1⟩ := h
 refine ⟨h0, ?_⟩
 rcases h1 with h1 | ⟨g, cap, cur, hv, hg, r⟩
 ·exact Or.inl h1
 ·exact Or.inr ⟨g, cap, cur, hv, Nat.le_trans hb hg, r⟩
set_option maxHeartbeats 400000 in
theorem knots_any (t : Tm) : ∀ (v : Value) (w : World) (X : Nat → Prop), TV w X v t → sizeL [t] ≤ 1000000 →
  Calls Tryz.prog 37 #[v] w fun e w' => ∃ v' xs, e = .returned v' ∧ w'.ownsRow w.heap.size 27 2 v' (sizeL [t]) xs ∧ RowT w X (preL [t]) xs ∧ Below w.heap.size w w' := by
 induction t using Tm.ind with
 | h s l ih =>
  intro v w X0 hv0 hsm
  obtain ⟨X, hX, hXX, hv⟩ : ∃ X : Nat → Prop, (∀ b, X b → b < w.heap.size) ∧ (∀ b, X b → X0 b) ∧ TV w X v ⟨s, l⟩ := ⟨fun b => X0 b ∧ b < w.heap.size, fun _ h => h.2, fun _ h => h.1, hv0.mono fun b h1 h2 => ⟨h1, h2⟩⟩
  clear hv0
  obtain ⟨a, c, rfl, hs⟩ := hv
  have IH := hide ih
  clear ih
  have hl := hs.1
  have hz : sizeL [(⟨s, l⟩ : Tm)] = 1 + sizeL l := by simp [sizeL]
  rw [hz] at hsm ⊢
  clear hz
  obtain ⟨i0, hi, hz0, hz1, hz2⟩ := info_parts Tryz.infoTerm
  go_enter Tryz.func37, Tryz.ntmps37
  go_wp2_with fail
  go_loopw [3, 4] (fun v i wr => ∃ (k : Nat) (xs : List Value), k ≤ l.length ∧ i = .int .i64 k ∧ wr.ownsRow (w.heap.size + 1) 27 2 v (1 + sizeL (l.take k)) xs ∧ RowT w X (⟨s, l⟩ :: preL (l.take k)) xs ∧ Below (w.heap.size + 1) (w.alloc (Obj.cells #[Value.string s, Value.slice a l.length c] 27)) wr) (fun v i wr => l.length - (intOf i).toNat)
  case atStart =>
   refine ⟨0, [.string s, .slice a l.length c], Nat.zero_le _, rfl, ⟨by simp [sizeL], Or.inr ⟨w.heap.size + 1, 1, #[.string s, .slice a l.length c], by simp [sizeL], Nat.le_refl _, ?_, by simp [sizeL], by decide, by simp, by simp [sizeL]⟩⟩, ⟨a, c, [], rfl, hs, by simp [preL, RowT]⟩, (Below.refl _ _).alloc (by simp) _⟩
   have := heap_alloc_new (w.alloc (Obj.cells #[Value.string s, Value.slice a l.length c] 27)) (Obj.cells #[Value.string s, Value.slice a l.length c] 27)
   simpa using this
  case round =>
   obtain ⟨k, xs, hk, rfl, hown, hrow, hb⟩ := hrel
   have HROW := hide hrow
   clear hrow
   have hc := bcell hb
   have c0 : wr.cell? ⟨w.heap.size, 0, none⟩ = some (.string s) := by rw [hc.1 _ _ (by omega)]; simp
   have c1 : wr.cell? ⟨w.heap.size, 1, none⟩ = some (.slice a l.length c) := by rw [hc.1 _ _ (by omega)]; simp
   clear hc
   have hsz : w.heap.size + 1 ≤ wr.heap.size := by have := hb.size; simpa using this
   by_cases hlt : k < l.length
   ·obtain ⟨b, o, a', c', rfl, d0, d1, hx⟩ := hs.get (below_box hb) (fun _ _ h => h) k hlt
    have Hst := hide (sizeL_take l k hlt)
    have hle := sizeL_take_le l (k + 1)
    have hle1 : sizeL (l.take k) + sizeL [l[k]] ≤ sizeL l := by rw [← Hst.out]; exact hle
    have hpos : 0 < sizeL [l[k]] := by generalize l[k] = t; obtain ⟨s', l'⟩ := t; simp [sizeL]; omega
    clear hle
    go_wp2_with fail
    refine (IH.out _ (List.getElem_mem hlt) _ _ X hx (by omega)).mono ?_
    rintro e w1 ⟨v1, ys, rfl, hown1, hrow1, hb1⟩
    have HROW1 : Hid (RowT w X (preL [l[k]]) ys) := hrow1.imp fun a l h => h.back (below_box hb) hX
    have hlen1 := hide hown1.1
    have hcells := hide (owned_val hown1 hpos)
    obtain ⟨g1, cap1, rfl, hg1, hg1', hcel⟩ := hcells.out
    have hownw1 : w1.ownsRow (w.heap.size + 1) 27 2 _ (1 + sizeL (l.take k)) xs := hown.kept (w' := w1) (row := none) ⟨hb1.os, hb1.tape, hb1.output, hb1.size, fun j hj _ => hb1.block j hj⟩ (by rcases Option.eq_none_or_eq_some (Value.ownBlock _) with h | ⟨x, h⟩; exact Or.inl h; exact Or.inr (by rw [h]; simp))
    have hyl : ys.length = sizeL [l[k]] * 2 := hlen1.out
    obtain ⟨v2, w2, hr2, hown2, hgr2, hnil2⟩ := run_append_own (P := Tryz.prog) w1 (w.heap.size + 1) 25 25 27 i0 _ 2 40 Tryz.underlying25 hi hz0 hz1 hz2 rfl (by decide) _ _ xs hownw1
     ⟨g1, 0, none⟩ (sizeL [l[k]]) cap1 ys hyl (fun j u hj => by
      have := hcel j u hj
      by_cases h0 : j = 0
      ·subst h0; simpa [Addr.add] using this
      ·simpa [Addr.add, h0] using this) HROW1.out.one (by unfold maxLen; omega) (by omega) (by have := hb1.size; omega)
    clear hnil2
    have hb2 : Hid (Below (w.heap.size + 1) (w.alloc (Obj.cells #[Value.string s, Value.slice (some ⟨b, o, none⟩) l.length c] 27)) w2) :=
     (hb.trans (hb1.mono hsz)).grown hgr2 (by have := hb1.size; omega) (fun j hj => (hownw1.lt j hj).1)
    have HR2 : Hid (RowT w X (⟨s, l⟩ :: preL (l.take (k + 1))) (xs ++ ys)) := by
     have := HROW.out.append HROW1.out
     unfold Hid
     rw [preL_take l k hlt]
     simpa using this
    have hown3 := hide hown2
    clear hown1 hownw1 hown2 hgr2 hcel hyl
    have HA := hide hr2
    clear hr2
    go_wp2_with (at_builtin; refine wpList_append_eq rfl _ _ _ _ rfl rfl rfl HA.out ?_)
    go_roundw
    case rel => exact ⟨k + 1, xs ++ ys, by omega, by go_num, by have := hown3.out; rw [Hst.out, ← Nat.add_assoc]; exact this, HR2.out, hb2.out⟩
    case measure => simp [intOf]; omega
   ·have htk : l.take k = l := List.take_of_length_le (by omega)
    rw [htk] at hown
    have hown3 := hide hown
    have hr3 : Hid (RowT w X0 (preL [(⟨s, l⟩ : Tm)]) xs) := by
     have := HROW.out
     rw [htk] at this
     have h2 : RowT w X0 (⟨s, l⟩ :: preL l) xs := this.imp fun a l h => h.mono fun b hb _ => hXX b hb
     unfold Hid
     simpa [preL] using h2
    clear hown
    go_wp2_with fail
    go_ret
    exact ⟨_, xs, rfl, ownsRow_base hown3.out (by omega), hr3.out, below_box hb⟩
def kErr (t : Tm) : Int := if nameB t.name = true then (if (varB t.name && decide (0 < t.args.length)) = true then 2 else 0) else 1
def errP : List Tm → Int
 | [] => 0
 | t :: r => if kErr t = 0 then errP r else kErr t
theorem errP_append (a b : List Tm) : errP (a ++ b) = if errP a = 0 then errP b else errP a := by
 induction a with
 | nil => simp [errP]
 | cons t r ih => simp only [List.cons_append, errP, ih]; by_cases h : kErr t = 0 <;> simp [h]
theorem errL_preL (l : List Tm) : errL l = errP (preL l) := by
 induction l using Tm.indL with
 | h0 => simp [errL, preL, errP]
 | h s l r ihl ihr =>
  simp only [errL, preL, errP, errP_append, ← ihl, ← ihr, kErr]
  by_cases h1 : nameB s = true
  ·by_cases h2 : (varB s && decide (0 < l.length)) = true
   ·simp only [h1, h2, if_true]; simp
   ·simp only [h1, if_true]; rw [if_neg h2, if_neg h2]; simp
  ·rw [if_neg h1, if_neg h1]; simp
theorem errP_take (l : List Tm) (k : Nat) (h : k < l.length) : errP (l.take (k + 1)) = if errP (l.take k) = 0 then kErr l[k] else errP (l.take k) := by
 rw [List.take_succ_eq_append_getElem h, errP_append]
 congr 1
 simp only [errP]
 by_cases h : kErr l[k] = 0 <;> simp [h]
theorem errP_of_take {l : List Tm} {k : Nat} (h : errP (l.take k) ≠ 0) : errP l = errP (l.take k) := by
 have := errP_append (l.take k) (l.drop k)
 rw [List.take_append_drop, if_neg h] at this
 exact this
theorem errP_at {l : List Tm} {k : Nat} (h : k < l.length) (h0 : errP (l.take k) = 0) (h1 : kErr l[k] ≠ 0) : errP l = kErr l[k] := by
 have e := errP_take l k h
 rw [if_pos h0] at e
 rw [← e]
 exact errP_of_take (by rw [e]; exact h1)
set_option maxHeartbeats 400000 in
theorem termMay_any (t : Tm) (v : Value) (w : World) (X : Nat → Prop) (hv : TV w X v t) :
  Calls Tryz.prog 16 #[v] w fun e w' => e = .returned (.int .i64 (mayE t)) ∧ Below w.heap.size w w' := by
 obtain ⟨a, c, rfl, hs⟩ := hv
 have hv : TV w X (.agg #[.string t.name, .slice a t.args.length c]) t := ⟨a, c, rfl, hs⟩
 go_enter Tryz.func16, Tryz.ntmps16
 go_wp2_with fail
 refine (size_any t _ _ _ X (hv.alloc _) (by omega) (by omega)).mono ?_
 rintro e w1 ⟨rfl, hb1⟩
 have c0 : w1.cell? ⟨w.heap.size, 0, none⟩ = some (.string t.name) := by rw [hb1.cell (p := ⟨_, _, none⟩) (by simp)]; simp
 have c1 : w1.cell? ⟨w.heap.size, 1, none⟩ = some (.slice a t.args.length c) := by rw [hb1.cell (p := ⟨_, _, none⟩) (by simp)]; simp
 have hb2 : Below w.heap.size w w1 := ((Below.refl _ _).alloc (Nat.le_refl _) _).trans (hb1.mono (by simp))
 by_cases h : 200 < sizeL [t]
 ·have hm : Hid (3 = mayE t) := by simp [Hid, mayE, h]
  have e : min ((sizeL [t] : Int)) (200 + 1) = 201 := by omega
  rw [e]
  go_wp2_with fail
  go_ret
  exact ⟨ret_int hm.out, hb2⟩
 ·have hm : Hid (errP (preL [t]) = mayE t) := by simp [Hid, mayE, h, errL_preL]
  have e : min ((sizeL [t] : Int)) (200 + 1) = sizeL [t] := by omega
  rw [e]
  go_wp2_with fail
  refine (knots_any t _ _ X (hv.later hb2) (by omega)).mono ?_
  rintro e w2 ⟨v2, xs, rfl, hown, hrow, hb3⟩
  have hpos : 0 < sizeL [t] := by obtain ⟨s', l'⟩ := t; simp [sizeL]; omega
  obtain ⟨g, cap, rfl, hg, hg', hcel⟩ := owned_val hown hpos
  have hb4 := hide (hb2.trans (hb3.mono hb2.size))
  have HROW := hide hrow
  have HCEL := hide hcel
  have hpl := preL_length [t]
  generalize preL [t] = ks at *
  have hks : ks.length ≤ 1000 := by omega
  rw [← hpl]
  clear hown hrow hcel hb3 hb1 c0 c1 hpl hpos e
  go_wp2_with fail
  go_loop [4] (fun i => ∃ k : Nat, k ≤ ks.length ∧ i = .int .i64 k ∧ errP (ks.take k) = 0) (fun i => ks.length - (intOf i).toNat)
  case atStart => exact ⟨0, Nat.zero_le _, rfl, by simp [errP]⟩
  case round =>
   obtain ⟨k, hk, rfl, he⟩ := hrel
   have HE := hide he
   clear he
   by_cases hlt : k < ks.length
   ·obtain ⟨x0, a', c', x1, hsl⟩ := HROW.out.get k hlt
    have d0 := HCEL.out _ _ x0
    have d1 := HCEL.out _ _ x1
    have hl1 := hsl.1
    clear x0 x1
    cases hn : nameB ks[k].name with
    | false =>
     have HN := hide hn
     have hz : Hid (1 = mayE t) := by
      have : kErr ks[k] = 1 := by simp [kErr, hn]
      unfold Hid; rw [← hm.out, errP_at hlt HE.out (by rw [this]; decide), this]
     clear hn
     go_wp2_with (go_at_call 38; refine (isNameR_any _ _).mono ?_; rintro e w' ⟨rfl, rfl⟩; rw [HN.out])
     go_ret
     exact ⟨ret_int hz.out, hb4.out⟩
    | true =>
     have HN := hide hn
     cases hv : varB ks[k].name with
     | true =>
      have HV := hide hv
      by_cases hp : 0 < ks[k].args.length
      ·have hz : Hid (2 = mayE t) := by
        have : kErr ks[k] = 2 := by simp [kErr, hn, hv, hp]
        unfold Hid; rw [← hm.out, errP_at hlt HE.out (by rw [this]; decide), this]
       clear hn hv
       go_wp2_with (first | (go_at_call 38; refine (isNameR_any _ _).mono ?_; rintro e w' ⟨rfl, rfl⟩; rw [HN.out]) | (go_at_call 34; refine (isVarR_any _ _).mono ?_; rintro e w' ⟨rfl, rfl⟩; rw [HV.out]))
       go_ret
       exact ⟨ret_int hz.out, hb4.out⟩
      ·have hz : Hid (errP (ks.take (k + 1)) = 0) := by
        have : kErr ks[k] = 0 := by simp [kErr, hn, hv, hp]
        unfold Hid; rw [errP_take _ _ hlt, HE.out, this]; rfl
       clear hn hv
       go_wp2_with (first | (go_at_call 38; refine (isNameR_any _ _).mono ?_; rintro e w' ⟨rfl, rfl⟩; rw [HN.out]) | (go_at_call 34; refine (isVarR_any _ _).mono ?_; rintro e w' ⟨rfl, rfl⟩; rw [HV.out]))
       go_round
       case rel => exact ⟨k + 1, by omega, by go_num, hz.out⟩
       case measure => simp [intOf]; omega
     | false =>
      have HV := hide hv
      have hz : Hid (errP (ks.take (k + 1)) = 0) := by
       have : kErr ks[k] = 0 := by simp [kErr, hn, hv]
       unfold Hid; rw [errP_take _ _ hlt, HE.out, this]; rfl
      clear hn hv
      go_wp2_with (first | (go_at_call 38; refine (isNameR_any _ _).mono ?_; rintro e w' ⟨rfl, rfl⟩; rw [HN.out]) | (go_at_call 34; refine (isVarR_any _ _).mono ?_; rintro e w' ⟨rfl, rfl⟩; rw [HV.out]))
      go_round
      case rel => exact ⟨k + 1, by omega, by go_num, hz.out⟩
      case measure => simp [intOf]; omega
   ·have htk : ks.take k = ks := List.take_of_length_le (by omega)
    have hz : Hid (0 = mayE t) := by unfold Hid; rw [← hm.out, ← htk, HE.out]
    go_wp2_with fail
    go_ret
    exact ⟨ret_int hz.out, hb4.out⟩
def twoE (t x : Tm) : Int := if mayE t = 0 then mayE x else mayE t
set_option maxHeartbeats 400000 in
theorem twoMay_any (t x : Tm) (v u : Value) (w : World) (X : Nat → Prop) (hv : TV w X v t) (hu : TV w X u x) :
  Calls Tryz.prog 21 #[v, u] w fun e w' => e = .returned (.int .i64 (twoE t x)) ∧ Below w.heap.size w w' := by
 obtain ⟨a, c, rfl, hs⟩ := hv
 obtain ⟨a2, c2, rfl, hs2⟩ := hu
 have hv : TV w X (.agg #[.string t.name, .slice a t.args.length c]) t := ⟨a, c, rfl, hs⟩
 have hu : TV w X (.agg #[.string x.name, .slice a2 x.args.length c2]) x := ⟨a2, c2, rfl, hs2⟩
 go_enter Tryz.func21, Tryz.ntmps21
 go_wp2_with fail
 refine (termMay_any t _ _ X ((hv.alloc _).alloc _)).mono ?_
 rintro e w1 ⟨rfl, hb1⟩
 have c0 : w1.cell? ⟨w.heap.size + 1, 0, none⟩ = some (.string x.name) := by rw [hb1.cell (p := ⟨_, _, none⟩) (by simp)]; simp
 have c1 : w1.cell? ⟨w.heap.size + 1, 1, none⟩ = some (.slice a2 x.args.length c2) := by rw [hb1.cell (p := ⟨_, _, none⟩) (by simp)]; simp
 have hb2 : Below w.heap.size w w1 := (((Below.refl _ _).alloc (Nat.le_refl _) _).alloc (by simp) _).trans (hb1.mono (by simp; omega))
 by_cases h : mayE t = 0
 ·have hz : Hid (mayE x = twoE t x) := by simp [Hid, twoE, h]
  rw [h]
  clear h
  go_wp2_with fail
  refine (termMay_any x _ _ X (hu.later hb2)).mono ?_
  rintro e w2 ⟨rfl, hb3⟩
  go_wp2_with fail
  go_ret
  exact ⟨ret_int hz.out, hb2.trans (hb3.mono hb2.size)⟩
 ·have hz : Hid (mayE t = twoE t x) := by simp [Hid, twoE, h]
  have h' : (mayE t == 0) = false := by simpa using h
  clear h
  go_wp2_with fail
  go_ret
  exact ⟨ret_int hz.out, hb2⟩
set_option maxHeartbeats 400000 in
theorem huge_any (t : Tm) (v : Value) (w : World) (X : Nat → Prop) (hv : TV w X v t) :
  Calls Tryz.prog 14 #[v] w fun e w' => e = .returned (.bool (decide (3000 < sizeL [t]))) ∧ Below w.heap.size w w' := by
 obtain ⟨a, c, rfl, hs⟩ := hv
 have hv : TV w X (.agg #[.string t.name, .slice a t.args.length c]) t := ⟨a, c, rfl, hs⟩
 go_enter Tryz.func14, Tryz.ntmps14
 go_wp2_with fail
 refine (size_any t _ _ _ X (hv.alloc _) (by omega) (by omega)).mono ?_
 rintro e w1 ⟨rfl, hb1⟩
 have hb2 : Below w.heap.size w w1 := ((Below.refl _ _).alloc (Nat.le_refl _) _).trans (hb1.mono (by simp))
 go_wp2_with fail
 go_ret
 exact ⟨ret_bool (by rw [Bool.eq_iff_iff]; simp; omega), hb2⟩
structure Pr where
 l : Tm
 r : Tm
def QV (w : World) (X : Nat → Prop) (v : Value) (l : List Pr) : Prop :=
 ∃ a c, v = .slice a l.length c ∧ (l.length ≤ 9223372036854775807 ∧ l.length ≤ c) ∧ (l = [] ∨ ∃ b o, a = some ⟨b, o, none⟩ ∧ X b ∧ ∀ i (h : i < l.length), ∃ a1 c1 a2 c2, w.cell? ⟨b, o + i * 4, none⟩ = some (.string l[i].l.name) ∧ w.cell? ⟨b, o + i * 4 + 1, none⟩ = some (.slice a1 l[i].l.args.length c1) ∧ w.cell? ⟨b, o + i * 4 + 2, none⟩ = some (.string l[i].r.name) ∧ w.cell? ⟨b, o + i * 4 + 3, none⟩ = some (.slice a2 l[i].r.args.length c2) ∧ Sl w X a1 l[i].l.args ∧ Sl w X a2 l[i].r.args)
theorem QV.kept {w w' : World} {X : Nat → Prop} {v : Value} {l : List Pr} (h : QV w X v l) (hk : ∀ b, X b → w'.heap[b]? = w.heap[b]?) : QV w' X v l := by
 obtain ⟨a, c, e, hl, h⟩ := h
 refine ⟨a, c, e, hl, ?_⟩
 rcases h with h | ⟨b, o, ea, hX, h⟩
 ·exact Or.inl h
 ·refine Or.inr ⟨b, o, ea, hX, fun i hi => ?_⟩
  obtain ⟨a1, c1, a2, c2, h1, h2, h3, h4, h5, h6⟩ := h i hi
  have hb := hk b hX
  exact ⟨a1, c1, a2, c2, by simpa [World.cell?, hb] using h1, by simpa [World.cell?, hb] using h2, by simpa [World.cell?, hb] using h3, by simpa [World.cell?, hb] using h4, h5.kept hk, h6.kept hk⟩
theorem QV.mono {w : World} {X Y : Nat → Prop} {v : Value} {l : List Pr} (h : QV w X v l) (hk : ∀ b, X b → b < w.heap.size → Y b) : QV w Y v l := by
 obtain ⟨a, c, e, hl, h⟩ := h
 refine ⟨a, c, e, hl, ?_⟩
 rcases h with h | ⟨b, o, ea, hX, h⟩
 ·exact Or.inl h
 ·by_cases h0 : l = []
  ·exact Or.inl h0
  ·have hp : 0 < l.length := List.length_pos_iff.2 h0
   obtain ⟨_, _, _, _, g, _⟩ := h 0 hp
   refine Or.inr ⟨b, o, ea, hk b hX (cell_lt g), fun i hi => ?_⟩
   obtain ⟨a1, c1, a2, c2, h1, h2, h3, h4, h5, h6⟩ := h i hi
   exact ⟨a1, c1, a2, c2, h1, h2, h3, h4, h5.mono hk, h6.mono hk⟩
theorem QV.later {w w' : World} {X : Nat → Prop} {v : Value} {l : List Pr} (h : QV w X v l) (hb : Below w.heap.size w w') : QV w' X v l :=
 ((h.mono (Y := fun b => X b ∧ b < w.heap.size) fun b h1 h2 => ⟨h1, h2⟩).kept fun b hx => hb.block b hx.2).mono fun b hx _ => hx.1
theorem QV.alloc {w : World} {X : Nat → Prop} {v : Value} {l : List Pr} (h : QV w X v l) (o : Obj) : QV (w.alloc o) X v l := h.later ((Below.refl _ _).alloc (Nat.le_refl _) o)
theorem QV.get {w : World} {X : Nat → Prop} {a : Option Addr} {n c : Nat} {l : List Pr} (h : QV w X (.slice a n c) l) (i : Nat) (hi : i < l.length) :
  ∃ b o a1 c1 a2 c2, a = some ⟨b, o, none⟩ ∧ w.cell? ⟨b, o + i * 4, none⟩ = some (.string l[i].l.name) ∧ w.cell? ⟨b, o + i * 4 + 1, none⟩ = some (.slice a1 l[i].l.args.length c1) ∧ w.cell? ⟨b, o + i * 4 + 2, none⟩ = some (.string l[i].r.name) ∧ w.cell? ⟨b, o + i * 4 + 3, none⟩ = some (.slice a2 l[i].r.args.length c2) ∧ Sl w X a1 l[i].l.args ∧ Sl w X a2 l[i].r.args := by
 obtain ⟨a2, c2, e, hl, h⟩ := h
 simp at e
 obtain ⟨rfl, rfl, rfl⟩ := e
 rcases h with h | ⟨b, o, ea, hX, h⟩
 ·subst h; simp at hi
 ·obtain ⟨a1, c1, a2, c2, h1, h2, h3, h4, h5, h6⟩ := h i hi
  exact ⟨b, o, a1, c1, a2, c2, ea, h1, h2, h3, h4, h5, h6⟩
def atT : Tm → List Int → Option Tm
 | t, [] => some t
 | t, i :: r => if h : 0 ≤ i ∧ i.toNat < t.args.length then atT (t.args[i.toNat]'h.2) r else none
def PV (w : World) (X : Nat → Prop) (v : Value) (zs : List Int) : Prop :=
 ∃ a c, v = .slice a zs.length c ∧ (zs.length ≤ 9223372036854775807 ∧ zs.length ≤ c) ∧ (zs = [] ∨ ∃ b o, a = some ⟨b, o, none⟩ ∧ X b ∧ ∀ i (h : i < zs.length), w.cell? ⟨b, o + i, none⟩ = some (.int .i64 zs[i]))
theorem PV.kept {w w' : World} {X : Nat → Prop} {v : Value} {zs : List Int} (h : PV w X v zs) (hk : ∀ b, X b → w'.heap[b]? = w.heap[b]?) : PV w' X v zs := by
 obtain ⟨a, c, e, hl, h⟩ := h
 refine ⟨a, c, e, hl, ?_⟩
 rcases h with h | ⟨b, o, e, hx, h⟩
 ·exact Or.inl h
 ·exact Or.inr ⟨b, o, e, hx, fun i hi => by rw [World.cell?_of_block (hk b hx)]; exact h i hi⟩
theorem PV.mono {w : World} {X Y : Nat → Prop} {v : Value} {zs : List Int} (h : PV w X v zs) (hk : ∀ b, X b → b < w.heap.size → Y b) : PV w Y v zs := by
 obtain ⟨a, c, e, hl, h⟩ := h
 refine ⟨a, c, e, hl, ?_⟩
 rcases h with h | ⟨b, o, e, hx, h⟩
 ·exact Or.inl h
 ·by_cases h0 : zs = []
  ·exact Or.inl h0
  ·have hp : 0 < zs.length := List.length_pos_iff.2 h0
   exact Or.inr ⟨b, o, e, hk b hx (World.block_lt_of_cell? w _ (h 0 hp)), h⟩
theorem PV.below {w w' : World} {X : Nat → Prop} {v : Value} {zs : List Int} {B : Nat} (h : PV w X v zs) (hb : Below B w w') (hX : ∀ b, X b → b < w.heap.size → b < B) : PV w' X v zs := by
 have h1 : PV w (fun b => X b ∧ b < B) v zs := h.mono fun b hx hs => ⟨hx, hX b hx hs⟩
 have h2 : PV w' (fun b => X b ∧ b < B) v zs := h1.kept fun b hx => hb.block b hx.2
 exact h2.mono fun b hx _ => hx.1
theorem PV.later {w w' : World} {X : Nat → Prop} {v : Value} {zs : List Int} (h : PV w X v zs) (hb : Below w.heap.size w w') : PV w' X v zs := h.below hb (fun _ _ h => h)
theorem PV.alloc {w : World} {X : Nat → Prop} {v : Value} {zs : List Int} (h : PV w X v zs) (o : Obj) : PV (w.alloc o) X v zs := h.later ((Below.refl _ _).alloc (Nat.le_refl _) o)
def zeroT : Value := .agg #[.string ⟨#[]⟩, .slice none 0 0]
theorem below2 {w : World} (o1 o2 : Obj) : Below w.heap.size w ((w.alloc o1).alloc o2) := ((Below.refl _ _).alloc (Nat.le_refl _) _).alloc (by simp) _
theorem PV.tail {w : World} {X : Nat → Prop} {b o c : Nat} {z : Int} {zs : List Int} (hl : zs.length + 1 ≤ 9223372036854775807 ∧ zs.length + 1 ≤ c) (hx : X b) (h : ∀ i (h : i < (z :: zs).length), w.cell? ⟨b, o + i, none⟩ = some (.int .i64 (z :: zs)[i])) :
  PV w X (.slice (some ⟨b, o + 1, none⟩) zs.length (c - 1)) zs := by
 refine ⟨_, _, rfl, by omega, Or.inr ⟨b, o + 1, rfl, hx, fun i hi => ?_⟩⟩
 have := h (i + 1) (by simpa using hi)
 rw [show o + 1 + i = o + (i + 1) by omega]
 simpa using this
theorem TV.back {w w' : World} {X : Nat → Prop} {v : Value} {t : Tm} {B : Nat} (h : TV w' X v t) (hb : Below B w w') (hX : ∀ b, X b → b < B) : TV w X v t := by
 obtain ⟨a, c, e, h⟩ := h
 exact ⟨a, c, e, h.back hb hX⟩
theorem tvform {w : World} {X : Nat → Prop} {v' : Value} {o : Option Tm} (h1 : ∀ x, o = some x → TV w X v' x) (h2 : o = none → v' = zeroT) : ∃ s a n c, v' = .agg #[.string s, .slice a n c] := by
 cases o with
 | none => exact ⟨_, _, _, _, h2 rfl⟩
 | some x => obtain ⟨a, c, e, _⟩ := h1 x rfl; exact ⟨_, _, _, _, e⟩
theorem below_tv {w w' : World} {X : Nat → Prop} {v : Value} {t : Tm} (hb : Below w.heap.size w w') (h : TV w X v t) : TV w' X v t := h.later hb
theorem res_cell0 {w w1 : World} {o1 : Obj} {x0 x1 : Value} {T n : Nat} (hb : Below (((w.alloc o1).alloc (.cells #[x0, x1] T)).drewN n).heap.size (((w.alloc o1).alloc (.cells #[x0, x1] T)).drewN n) w1) : w1.cell? ⟨w.heap.size + 1, 0, none⟩ = some x0 := by rw [hb.cell (p := ⟨_, _, none⟩) (by simp)]; simp
theorem res_cell1 {w w1 : World} {o1 : Obj} {x0 x1 : Value} {T n : Nat} (hb : Below (((w.alloc o1).alloc (.cells #[x0, x1] T)).drewN n).heap.size (((w.alloc o1).alloc (.cells #[x0, x1] T)).drewN n) w1) : w1.cell? ⟨w.heap.size + 1, 1, none⟩ = some x1 := by rw [hb.cell (p := ⟨_, _, none⟩) (by simp)]; simp
theorem res_frozen {w w1 : World} {o1 : Obj} {x0 x1 : Value} {T n : Nat} (hb : Below (((w.alloc o1).alloc (.cells #[x0, x1] T)).drewN n).heap.size (((w.alloc o1).alloc (.cells #[x0, x1] T)).drewN n) w1) : ∀ i, w1.frozen? ⟨w.heap.size + 1, i, none⟩ = false := by intro i; rw [hb.frozen (p := ⟨_, _, none⟩) (by simp)]; simp
theorem res_box1 {w w1 : World} {y0 y1 : Value} {o2 : Obj} {T n : Nat} (hb : Below (((w.alloc (.cells #[y0, y1] T)).alloc o2).drewN n).heap.size (((w.alloc (.cells #[y0, y1] T)).alloc o2).drewN n) w1) : w1.cell? ⟨w.heap.size, 1, none⟩ = some y1 := by rw [hb.cell (p := ⟨_, _, none⟩) (by simp; omega)]; simp
theorem res_old {w w1 : World} {o1 o2 : Obj} {n : Nat} {p : Addr} {v : Value} (hb : Below (((w.alloc o1).alloc o2).drewN n).heap.size (((w.alloc o1).alloc o2).drewN n) w1) (h : w.cell? p = some v) : w1.cell? p = some v :=
 cell_later ((below_drewN (below2 o1 o2) n).trans (hb.mono (by simp; omega))) h
theorem set2_keep {w : World} {K i j : Nat} {u u' v : Value} {p : Addr} (h : w.cell? p = some v) (hp : p.block ≠ K) : ((w.setCell ⟨K, i, none⟩ u).setCell ⟨K, j, none⟩ u').cell? p = some v := by
 rw [World.cell?_of_block (Below.heap_setCell _ _ _ _ (by simpa using hp)), World.cell?_of_block (Below.heap_setCell _ _ _ _ (by simpa using hp)), h]
theorem held4 {w : World} {K i j : Nat} {u u' v1 v2 v3 v4 : Value} {p1 p2 p3 p4 : Addr} (h : w.cell? p1 = some v1 ∧ w.cell? p2 = some v2 ∧ w.cell? p3 = some v3 ∧ w.cell? p4 = some v4) (h1 : p1.block ≠ K) (h2 : p2.block ≠ K) (h3 : p3.block ≠ K) (h4 : p4.block ≠ K) :
  ((w.setCell ⟨K, i, none⟩ u).setCell ⟨K, j, none⟩ u').cell? p1 = some v1 ∧ ((w.setCell ⟨K, i, none⟩ u).setCell ⟨K, j, none⟩ u').cell? p2 = some v2 ∧ ((w.setCell ⟨K, i, none⟩ u).setCell ⟨K, j, none⟩ u').cell? p3 = some v3 ∧ ((w.setCell ⟨K, i, none⟩ u).setCell ⟨K, j, none⟩ u').cell? p4 = some v4 :=
 ⟨set2_keep h.1 h1, set2_keep h.2.1 h2, set2_keep h.2.2.1 h3, set2_keep h.2.2.2 h4⟩
set_option maxHeartbeats 1000000 in
theorem atOf_any (zs : List Int) : ∀ (t : Tm) (v p : Value) (w : World) (X : Nat → Prop), TV w X v t → PV w X p zs →
  Calls Tryz.prog 40 #[v, p] w fun e w' => ∃ v', e = .returned (.tuple #[v', .bool (atT t zs).isSome]) ∧ (∀ x, atT t zs = some x → TV w X v' x) ∧ (atT t zs = none → v' = zeroT) ∧ Below w.heap.size w w' := by
 induction zs with
 | nil =>
  intro t v p w X hv hp
  obtain ⟨a, c, rfl, hs⟩ := hv
  obtain ⟨pa, pc, rfl, hzl, hz⟩ := hp
  have HS : Hid (atT t [] = some t) := by simp [Hid, atT]
  go_enter Tryz.func40, Tryz.ntmps40
  go_wp2_with fail
  refine bodyPost_ret (v := .tuple #[.agg #[.string t.name, .slice a t.args.length c], .bool true]) (by simp [results, Tryz.results40, go_sem]) rfl ⟨_, by rw [HS.out]; rfl, ?_, ?_, below2 _ _⟩
  ·intro x hx
   rw [HS.out] at hx
   obtain rfl := Option.some.inj hx
   exact ⟨a, c, rfl, hs⟩
  ·intro h; rw [HS.out] at h; cases h
 | cons z zs ih =>
  intro t v p w X0 hv0 hp0
  have IH := hide ih
  clear ih
  obtain ⟨X, hX, hXX, hv, hp⟩ : ∃ X : Nat → Prop, (∀ b, X b → b < w.heap.size) ∧ (∀ b, X b → X0 b) ∧ TV w X v t ∧ PV w X p (z :: zs) := ⟨fun b => X0 b ∧ b < w.heap.size, fun _ h => h.2, fun _ h => h.1, hv0.mono fun b h1 h2 => ⟨h1, h2⟩, hp0.mono fun b h1 h2 => ⟨h1, h2⟩⟩
  clear hv0 hp0
  obtain ⟨a, c, rfl, hs⟩ := hv
  obtain ⟨pa, pc, rfl, hzl, hz⟩ := hp
  obtain ⟨b, o, rfl, hx, hcell⟩ := hz.resolve_left (fun h => by cases h)
  have h0 := hcell 0 (by simp)
  simp only [Nat.add_zero, List.getElem_cons_zero] at h0
  have hcx := fun o1 o2 => cell_later (below2 (w := w) o1 o2) h0
  have hne : (((z :: zs).length : Nat) : Int) = (zs.length : Int) + 1 := by simp
  have htl := hs.1
  have hzl' : zs.length + 1 ≤ 9223372036854775807 ∧ zs.length + 1 ≤ pc := by simpa using hzl
  obtain ⟨hzl1, hzl2⟩ := hzl'
  simp only [List.length_cons] at *
  by_cases hin : 0 ≤ z ∧ z.toNat < t.args.length
  ·obtain ⟨hi0, hi1⟩ := hin
   obtain ⟨b1, o1, a2, c2, rfl, e0, e1, hx2⟩ := hs.get (Below.refl w.heap.size w) (fun _ _ h => h) _ hi1
   have d0 := fun o1 o2 => cell_later (below2 (w := w) o1 o2) e0
   have d1 := fun o1 o2 => cell_later (below2 (w := w) o1 o2) e1
   have e0' := e0
   have e1' := e1
   have HAT : Hid (atT t (z :: zs) = atT (t.args[z.toNat]) zs) := by
    unfold Hid; simp only [atT]; rw [dif_pos ⟨hi0, hi1⟩]
   have hz0 : ¬ z < 0 := by omega
   have hz1 : z < (t.args.length : Int) := by omega
   obtain ⟨sa, HSA, HT⟩ : ∃ sa : Option Addr, Hid ((if pc = 1 then some (⟨b, o, none⟩ : Addr) else some ⟨b, o + 1, none⟩) = sa) ∧ Hid (PV w X (.slice sa zs.length (pc - 1)) zs) := by
    by_cases h1 : pc = 1
    ·refine ⟨_, rfl, ?_⟩
     have : zs = [] := List.length_eq_zero_iff.1 (by omega)
     subst this
     exact ⟨_, _, rfl, by simp, Or.inl rfl⟩
    ·refine ⟨_, rfl, ?_⟩
     rw [if_neg h1]
     exact PV.tail ⟨hzl1, hzl2⟩ hx hcell
   have HX := hide hx2
   clear hcell
   have HT' : ∀ o1 o2 n, PV (((w.alloc o1).alloc o2).drewN n) X (.slice sa zs.length (pc - 1)) zs := fun o1 o2 n => HT.out.later (below_drewN (below2 _ _) _)
   have hblt : b < w.heap.size := World.block_lt_of_cell? w _ h0
   have hb1lt : b1 < w.heap.size := World.block_lt_of_cell? w _ e0
   clear e0 e1
   have HT' := hide HT'
   by_cases hpc : pc = 1
   all_goals
    have hsa := HSA.out
    first | rw [if_pos hpc] at hsa | rw [if_neg hpc] at hsa
    subst hsa
    try (have hnil : zs = [] := List.length_eq_zero_iff.1 (by omega); subst hnil; subst hpc)
    go_enter Tryz.func40, Tryz.ntmps40
    go_wp2_with fail
    go_quiet (fail)
    go_wp2_with fail
    go_region_held (fun w' => w'.cell? ⟨w.heap.size, 1, none⟩ = some (.slice (some ⟨b1, o1, none⟩) t.args.length c) ∧ w'.cell? ⟨b, o, none⟩ = some (.int .i64 z) ∧ w'.cell? ⟨b1, o1 + z.toNat * 2, none⟩ = some (.string t.args[z.toNat].name) ∧ w'.cell? ⟨b1, o1 + z.toNat * 2 + 1, none⟩ = some (.slice a2 t.args[z.toNat].args.length c2)) (first | assumption | (simp [*]; done) | exact held4 hS1 (by simp) (by simp; omega) (by simp; omega) (by simp; omega))
     ((go_at_call 40; refine (IH.out _ _ _ _ X (by exact below_tv (below_drewN (below2 _ _) _) HX.out) (by exact HT'.out _ _ _)).mono ?_; rintro e w1 ⟨v', rfl, hyes, hno, hb1⟩; obtain ⟨s1, a3, n3, c3, rfl⟩ := tvform hyes hno; have f0 := res_cell0 hb1; have f1 := res_cell1 hb1; have f2 := res_frozen hb1; have hS1 := And.intro (res_box1 hb1) (And.intro (res_old hb1 h0) (And.intro (res_old hb1 e0') (res_old hb1 e1')))))
    go_wp2_with fail
    refine bodyPost_ret (v := .tuple #[.agg #[.string s1, .slice a3 n3 c3], .bool _]) (by simp [results, Tryz.results40, go_sem, f0, f1, World.cell?_setCell_same, World.cell?_setCell_other]; rfl) rfl ⟨_, by rw [HAT.out], ?_, ?_, ?_⟩
    ·rw [HAT.out]; intro x hx; exact ((hyes x hx).back (below_drewN (below2 _ _) _) hX).mono fun b hb _ => hXX b hb
    ·rw [HAT.out]; exact hno
    ·exact (((below_drewN (below2 _ _) _).trans (hb1.mono (by simp; omega))).setCell (by simp) _).setCell (by simp) _
  ·have HN : Hid (atT t (z :: zs) = none) := by
     unfold Hid; simp only [atT]; rw [dif_neg hin]
   have hcase : z < 0 ∨ (¬ z < 0 ∧ (t.args.length : Int) ≤ z) := by omega
   rcases hcase with h0 | ⟨h0, h1⟩
   all_goals
    go_enter Tryz.func40, Tryz.ntmps40
    go_wp2_with fail
    go_quiet (fail)
    go_wp2_with fail
    refine bodyPost_ret (v := .tuple #[zeroT, .bool false]) (by simp [results, Tryz.results40, go_sem, zeroT]) rfl ⟨_, by rw [HN.out]; rfl, ?_, fun _ => rfl, ((below_drewN (below2 _ _) _).setCell (by simp) _).setCell (by simp) _⟩
    intro x hx
    rw [HN.out] at hx
    cases hx
theorem same_cells {w w1 : World} {n : Nat} {p1 p2 p3 p4 p5 p6 : Addr} {v1 v2 v3 v4 v5 v6 : Value} (hb : Below (w.drewN n).heap.size (w.drewN n) w1)
  (h : w.cell? p1 = some v1 ∧ w.cell? p2 = some v2 ∧ w.cell? p3 = some v3 ∧ w.cell? p4 = some v4 ∧ w.cell? p5 = some v5 ∧ w.cell? p6 = some v6) :
  w1.cell? p1 = some v1 ∧ w1.cell? p2 = some v2 ∧ w1.cell? p3 = some v3 ∧ w1.cell? p4 = some v4 ∧ w1.cell? p5 = some v5 ∧ w1.cell? p6 = some v6 := by
 have hb' : Below w.heap.size w w1 := (below_drewN (Below.refl _ _) n).trans (hb.mono (by simp))
 exact ⟨cell_later hb' h.1, cell_later hb' h.2.1, cell_later hb' h.2.2.1, cell_later hb' h.2.2.2.1, cell_later hb' h.2.2.2.2.1, cell_later hb' h.2.2.2.2.2⟩
set_option maxHeartbeats 1000000 in
theorem same_any (t : Tm) : ∀ (v u : Value) (w : World) (X Y : Nat → Prop), TV w X v t → TV w Y u t →
  Calls Tryz.prog 20 #[v, u] w fun e w' => e = .returned (.bool true) ∧ Below w.heap.size w w' := by
 induction t using Tm.ind with
 | h s l ih =>
  intro v u w X Y hv hu
  have IH := hide ih
  clear ih
  obtain ⟨a, c, rfl, hs⟩ := hv
  obtain ⟨a2, c2, rfl, hs2⟩ := hu
  have hl := hs.1
  go_enter Tryz.func20, Tryz.ntmps20
  go_wp2_with fail
  go_loopw [5] (fun i wr => ∃ (k : Nat), k ≤ l.length ∧ i = .int .i64 k ∧ Below w.heap.size w wr ∧ wr.cell? ⟨w.heap.size, 1, none⟩ = some (.slice a l.length c) ∧ wr.cell? ⟨w.heap.size + 1, 1, none⟩ = some (.slice a2 l.length c2) ∧ w.heap.size + 2 ≤ wr.heap.size) (fun i wr => l.length - (intOf i).toNat)
  case atStart => exact ⟨0, Nat.zero_le _, rfl, below2 _ _, by simp, by simp, by simp⟩
  case round =>
   obtain ⟨k, hk, rfl, hb, hc1, hc2, hsz⟩ := hrel
   by_cases hlt : k < l.length
   ·obtain ⟨b, o, a', c', rfl, d0, d1, hx⟩ := hs.get hb (fun _ _ h => h) k hlt
    obtain ⟨b2, o2, a2', c2', rfl, e0, e1, hx2⟩ := hs2.get hb (fun _ _ h => h) k hlt
    have HX := hide hx
    have HX2 := hide hx2
    have HB := hide hb
    have HS0 := hide (And.intro hc1 (And.intro hc2 (And.intro d0 (And.intro d1 (And.intro e0 e1)))))
    clear hx hx2 hb
    go_wp2_with fail
    go_region_held3 (fun w' => w'.cell? ⟨w.heap.size, 1, none⟩ = some (.slice (some ⟨b, o, none⟩) l.length c) ∧ w'.cell? ⟨w.heap.size + 1, 1, none⟩ = some (.slice (some ⟨b2, o2, none⟩) l.length c2) ∧ w'.cell? ⟨b, o + k * 2, none⟩ = some (.string l[k].name) ∧ w'.cell? ⟨b, o + k * 2 + 1, none⟩ = some (.slice a' l[k].args.length c') ∧ w'.cell? ⟨b2, o2 + k * 2, none⟩ = some (.string l[k].name) ∧ w'.cell? ⟨b2, o2 + k * 2 + 1, none⟩ = some (.slice a2' l[k].args.length c2')) (first | exact HS0.out | exact hS1)
     ((go_at_call 20; refine (IH.out _ (List.getElem_mem hlt) _ _ _ X Y (by exact HX.out.later (below_drewN (Below.refl _ _) 1)) (by exact HX2.out.later (below_drewN (Below.refl _ _) 1))).mono ?_; rintro e w1 ⟨rfl, hb1⟩; have hS1 := same_cells (n := 1) hb1 HS0.out))
    go_wp2_with fail
    go_roundw
    case rel => exact ⟨k + 1, by omega, by go_num, (HB.out.trans (below_drewN (Below.refl _ _) 1)).trans (hb1.mono (by simp; omega)), hS1.1, hS1.2.1, by have := hb1.size; simp at this; omega⟩
    case measure => simp [intOf]; omega
   ·go_wp2_with fail
    go_ret
    exact ⟨rfl, hb⟩
set_option maxRecDepth 8000
def eqL : List Tm → List Tm → Bool
 | [], [] => true
 | ⟨s, a⟩ :: r, t :: ts => ((s.toList == t.name.toList) && ((a.length == t.args.length) && eqL a t.args)) && eqL r ts
 | _, _ => false
def sameB (a b : Tm) : Bool := (a.name.toList == b.name.toList) && ((a.args.length == b.args.length) && eqL a.args b.args)
theorem eqL_cons (x t : Tm) (r ts : List Tm) : eqL (x :: r) (t :: ts) = (sameB x t && eqL r ts) := by obtain ⟨s, a⟩ := x; simp only [eqL, sameB]
theorem eqL_append : ∀ (a b c d : List Tm), a.length = b.length → eqL (a ++ c) (b ++ d) = (eqL a b && eqL c d)
 | [], [], c, d, _ => by simp [eqL]
 | [], _ :: _, _, _, h => by simp at h
 | _ :: _, [], _, _, h => by simp at h
 | x :: r, t :: ts, c, d, h => by rw [List.cons_append, List.cons_append, eqL_cons, eqL_cons, eqL_append r ts c d (by simpa using h), Bool.and_assoc]
theorem eqL_take {l m : List Tm} {k : Nat} (h : k < l.length) (h2 : k < m.length) : eqL (l.take (k + 1)) (m.take (k + 1)) = (eqL (l.take k) (m.take k) && sameB l[k] m[k]) := by
 rw [List.take_succ_eq_append_getElem h, List.take_succ_eq_append_getElem h2, eqL_append _ _ _ _ (by simp; omega), eqL_cons]
 simp [eqL]
theorem eqL_no {l m : List Tm} {k : Nat} (h : k < l.length) (hlm : l.length = m.length) (h0 : sameB l[k] (m[k]'(by omega)) = false) : eqL l m = false := by
 have e1 : l = l.take (k + 1) ++ l.drop (k + 1) := (List.take_append_drop _ _).symm
 have e2 : m = m.take (k + 1) ++ m.drop (k + 1) := (List.take_append_drop _ _).symm
 rw [e1, e2, eqL_append _ _ _ _ (by simp; omega), eqL_take h (by omega), h0]
 simp
def SaInv (w : World) (l m : List Tm) (a a2 : Option Addr) (c c2 : Nat) (i : Value) (wr : World) : Prop :=
 ∃ (k : Nat), k ≤ l.length ∧ i = .int .i64 k ∧ eqL (l.take k) (m.take k) = true ∧ Below w.heap.size w wr ∧ wr.cell? ⟨w.heap.size, 1, none⟩ = some (.slice a l.length c) ∧ wr.cell? ⟨w.heap.size + 1, 1, none⟩ = some (.slice a2 l.length c2) ∧ w.heap.size + 2 ≤ wr.heap.size
set_option maxHeartbeats 2000000 in
theorem sameR_all (t : Tm) : ∀ (x : Tm) (v u : Value) (w : World) (X Y : Nat → Prop), TV w X v t → TV w Y u x →
  Calls Tryz.prog 20 #[v, u] w fun e w' => e = .returned (.bool (sameB t x)) ∧ Below w.heap.size w w' := by
 induction t using Tm.ind with
 | h s l ih =>
  intro x v u w X Y hv hu
  obtain ⟨s2, m⟩ := x
  have IH := hide ih
  clear ih
  obtain ⟨a, c, rfl, hs⟩ := hv
  obtain ⟨a2, c2, rfl, hs2⟩ := hu
  have hl := hs.1
  have hl2 := hs2.1
  dsimp only
  cases hn : (s.toList == s2.toList) with
  | false =>
   have HR : Hid (false = sameB ⟨s, l⟩ ⟨s2, m⟩) := by unfold Hid sameB; rw [hn]; rfl
   go_enter Tryz.func20, Tryz.ntmps20
   go_wp2_with fail
   go_ret
   exact ⟨ret_bool HR.out, below2 _ _⟩
  | true =>
   by_cases hm : l.length = m.length
   ·have HR : Hid (eqL l m = sameB ⟨s, l⟩ ⟨s2, m⟩) := by unfold Hid sameB; simp [hn, hm]
    have HM := hide hm
    rw [← hm]
    clear hm
    go_enter Tryz.func20, Tryz.ntmps20
    go_wp2_with fail
    go_loopw [5] (fun i wr => SaInv w l m a a2 c c2 i wr) (fun i wr => l.length - (intOf i).toNat)
    case atStart => exact ⟨0, Nat.zero_le _, rfl, by simp [eqL], below2 _ _, by simp, by simp, by simp⟩
    case round =>
     obtain ⟨k, hk, rfl, hq, hb, hc1, hc2, hsz⟩ := hrel
     have HQ := hide hq
     clear hq
     by_cases hlt : k < l.length
     ·obtain ⟨b, o, a', c', rfl, d0, d1, hx⟩ := hs.get hb (fun _ _ h => h) k hlt
      obtain ⟨b2, o2, a2', c2', rfl, e0, e1, hx2⟩ := hs2.get hb (fun _ _ h => h) k (by have := HM.out; omega)
      have hltm : k < m.length := by have := HM.out; omega
      have HX := hide hx
      have HX2 := hide hx2
      have HB := hide hb
      have HS0 := hide (And.intro hc1 (And.intro hc2 (And.intro d0 (And.intro d1 (And.intro e0 e1)))))
      have IHK := hide (fun (w' : World) => IH.out l[k] (List.getElem_mem hlt) m[k] (.agg #[.string l[k].name, .slice a' l[k].args.length c']) (.agg #[.string m[k].name, .slice a2' m[k].args.length c2']) w' X Y)
      have HT := hide (eqL_take hlt hltm)
      have HNO := hide (eqL_no hlt HM.out)
      clear hx hx2 hb
      generalize l[k] = y at *
      generalize m[k] = z at *
      go_wp2_with fail
      cases hsm : sameB y z with
      | true =>
       rw [hsm] at IHK HT
       go_region_held3 (fun w' => w'.cell? ⟨w.heap.size, 1, none⟩ = some (.slice (some ⟨b, o, none⟩) l.length c) ∧ w'.cell? ⟨w.heap.size + 1, 1, none⟩ = some (.slice (some ⟨b2, o2, none⟩) l.length c2) ∧ w'.cell? ⟨b, o + k * 2, none⟩ = some (.string y.name) ∧ w'.cell? ⟨b, o + k * 2 + 1, none⟩ = some (.slice a' y.args.length c') ∧ w'.cell? ⟨b2, o2 + k * 2, none⟩ = some (.string z.name) ∧ w'.cell? ⟨b2, o2 + k * 2 + 1, none⟩ = some (.slice a2' z.args.length c2')) (first | exact HS0.out | exact hS1 | go_keep)
        ((go_at_call 20; refine (IHK.out _ (by exact HX.out.later (below_drewN (Below.refl _ _) 1)) (by exact HX2.out.later (below_drewN (Below.refl _ _) 1))).mono ?_; rintro e w1 ⟨rfl, hb1⟩; have hS1 := same_cells (n := 1) hb1 HS0.out))
       go_wp2_with fail
       go_roundw
       case rel => exact ⟨k + 1, by omega, by go_num, by rw [HT.out, HQ.out]; rfl, (HB.out.trans (below_drewN (Below.refl _ _) 1)).trans (hb1.mono (by simp; omega)), hS1.1, hS1.2.1, by have := hb1.size; simp at this; omega⟩
       case measure => simp [intOf]; omega
      | false =>
       have HF : Hid (false = sameB ⟨s, l⟩ ⟨s2, m⟩) := by unfold Hid; rw [← HR.out, HNO.out hsm]
       rw [hsm] at IHK
       go_region_held3 (fun w' => w'.cell? ⟨w.heap.size, 1, none⟩ = some (.slice (some ⟨b, o, none⟩) l.length c) ∧ w'.cell? ⟨w.heap.size + 1, 1, none⟩ = some (.slice (some ⟨b2, o2, none⟩) l.length c2) ∧ w'.cell? ⟨b, o + k * 2, none⟩ = some (.string y.name) ∧ w'.cell? ⟨b, o + k * 2 + 1, none⟩ = some (.slice a' y.args.length c') ∧ w'.cell? ⟨b2, o2 + k * 2, none⟩ = some (.string z.name) ∧ w'.cell? ⟨b2, o2 + k * 2 + 1, none⟩ = some (.slice a2' z.args.length c2')) (first | exact HS0.out | exact hS1 | go_keep)
        ((go_at_call 20; refine (IHK.out _ (by exact HX.out.later (below_drewN (Below.refl _ _) 1)) (by exact HX2.out.later (below_drewN (Below.refl _ _) 1))).mono ?_; rintro e w1 ⟨rfl, hb1⟩; have hS1 := same_cells (n := 1) hb1 HS0.out))
       go_wp2_with fail
       go_ret
       exact ⟨ret_bool HF.out, (HB.out.trans (below_drewN (Below.refl _ _) 1)).trans (hb1.mono (by simp; omega))⟩
     ·have HF : Hid (true = sameB ⟨s, l⟩ ⟨s2, m⟩) := by
       unfold Hid
       rw [← HR.out, ← HQ.out, List.take_of_length_le (by omega), List.take_of_length_le (by have := HM.out; omega)]
      go_wp2_with fail
      go_ret
      exact ⟨ret_bool HF.out, hb⟩
   ·have HR : Hid (false = sameB ⟨s, l⟩ ⟨s2, m⟩) := by unfold Hid sameB; simp [hn, hm]
    have hm2 : ((l.length : Int) == (m.length : Int)) = false := beq_eq_false_iff_ne.2 (by omega)
    clear hm
    go_enter Tryz.func20, Tryz.ntmps20
    go_wp2_with fail
    go_ret
    exact ⟨ret_bool HR.out, below2 _ _⟩
def Blk (w : World) (b : Nat) (cs : Array Value) (T : Nat) : Prop := w.heap[b]? = some (.cells cs T (0, 0))
theorem Blk.lt {w : World} {b : Nat} {cs : Array Value} {T : Nat} (h : Blk w b cs T) : b < w.heap.size := by
 apply Classical.byContradiction
 intro hn
 have e : w.heap[b]? = none := Array.getElem?_eq_none (by omega)
 rw [Blk, e] at h; cases h
theorem Blk.cell {w : World} {b : Nat} {cs : Array Value} {T : Nat} (h : Blk w b cs T) (i : Nat) : w.cell? ⟨b, i, none⟩ = cs[i]? := by
 unfold Blk at h; simp [World.cell?, h]
theorem Blk.c0 {w : World} {b : Nat} {v : Value} {l : List Value} {T : Nat} (h : Blk w b (List.toArray (v :: l)) T) : w.cell? ⟨b, 0, none⟩ = some v := h.cell 0
theorem Blk.c1 {w : World} {b : Nat} {v0 v : Value} {l : List Value} {T : Nat} (h : Blk w b (List.toArray (v0 :: v :: l)) T) : w.cell? ⟨b, 1, none⟩ = some v := h.cell 1
theorem Blk.c2 {w : World} {b : Nat} {v0 v1 v : Value} {l : List Value} {T : Nat} (h : Blk w b (List.toArray (v0 :: v1 :: v :: l)) T) : w.cell? ⟨b, 2, none⟩ = some v := h.cell 2
theorem Blk.c3 {w : World} {b : Nat} {v0 v1 v2 v : Value} {l : List Value} {T : Nat} (h : Blk w b (List.toArray (v0 :: v1 :: v2 :: v :: l)) T) : w.cell? ⟨b, 3, none⟩ = some v := h.cell 3
theorem Blk.frozen {w : World} {b : Nat} {cs : Array Value} {T : Nat} (h : Blk w b cs T) (i : Nat) : w.frozen? ⟨b, i, none⟩ = false := by
 unfold Blk at h; simp [World.frozen?, h]
theorem Blk.new (w : World) (cs : Array Value) (T : Nat) : Blk (w.alloc (.cells cs T)) w.heap.size cs T := heap_alloc_new w _
theorem Blk.alloc {w : World} {b : Nat} {cs : Array Value} {T : Nat} (h : Blk w b cs T) (o : Obj) : Blk (w.alloc o) b cs T := by
 unfold Blk at *; rw [Below.heap_alloc w o b (Blk.lt h)]; exact h
theorem Blk.below {w w' : World} {b B : Nat} {cs : Array Value} {T : Nat} (h : Blk w b cs T) (hb : Below B w w') (hB : b < B) : Blk w' b cs T := by
 unfold Blk at *; rw [hb.block b hB]; exact h
theorem Blk.drewN {w : World} {b : Nat} {cs : Array Value} {T : Nat} (h : Blk w b cs T) (n : Nat) : Blk (w.drewN n) b cs T := h
theorem Blk.grown {w w' : World} {b : Nat} {cs : Array Value} {T : Nat} {row : Option Nat} (h : Blk w b cs T) (hg : w.grownBy w' row) (hr : some b ≠ row) : Blk w' b cs T := by
 unfold Blk at *; rw [hg.block b (Blk.lt h) hr]; exact h
theorem Blk.set {w : World} {b : Nat} {cs : Array Value} {T : Nat} (h : Blk w b cs T) (i : Nat) (v : Value) : Blk (w.setCell ⟨b, i, none⟩ v) b (cs.setIfInBounds i v) T := by
 unfold Blk at *
 simp [World.setCell, Array.getElem?_modify, h]
theorem Blk.setOther {w : World} {b b' : Nat} {cs : Array Value} {T : Nat} (h : Blk w b cs T) (i : Nat) (v : Value) (hne : b ≠ b') : Blk (w.setCell ⟨b', i, none⟩ v) b cs T := by
 unfold Blk at *; rw [Below.heap_setCell _ _ _ _ (by simpa using hne)]; exact h
structure Row (w : World) (N : Nat) (T : Nat) (Y : Nat → Prop) (v : Value) (l : List Tm) (xs : List Value) : Prop where
 own : w.ownsRow N T 2 v l.length xs
 row : RowT w (fun b => Y b ∨ (N ≤ b ∧ some b ≠ v.ownBlock)) l xs
theorem Row.start (w : World) (N T : Nat) (Y : Nat → Prop) : Row w N T Y (.slice none 0 0) [] [] := ⟨World.ownsRow_nil w N T 2, rfl⟩
theorem Row.below {w w' : World} {N T : Nat} {Y : Nat → Prop} {v : Value} {l : List Tm} {xs : List Value} (h : Row w N T Y v l xs) (hb : Below w.heap.size w w') : Row w' N T Y v l xs :=
 ⟨h.own.kept (w' := w') (row := none) ⟨hb.os, hb.tape, hb.output, hb.size, fun j hj _ => hb.block j hj⟩ (by rcases Option.eq_none_or_eq_some (Value.ownBlock v) with h | ⟨x, h⟩; exact Or.inl h; exact Or.inr (by rw [h]; simp)),
  h.row.imp fun a l h => h.later hb⟩
theorem Row.ne {w : World} {N T : Nat} {Y : Nat → Prop} {v : Value} {l : List Tm} {xs : List Value} (h : Row w N T Y v l xs) {b : Nat} (hb : b < N) : some b ≠ v.ownBlock := fun e => by
 have := (h.own.lt b e.symm).1; omega
theorem Row.push {w w1 w2 w3 : World} {N T : Nat} {Y : Nat → Prop} {v : Value} {l : List Tm} {xs : List Value} (h : Row w N T Y v l xs) (hN : N ≤ w.heap.size) (hY : ∀ b, Y b → b < N) (hb : Below w.heap.size w w1) {s : ByteArray} {a : Option Addr} {n c : Nat} {t : Tm}
  (ht : TV w1 (fun b => Y b ∨ w.heap.size ≤ b) (.agg #[.string s, .slice a n c]) t) (o : Obj) (hw2 : w2 = w1.alloc o) {g cap : Nat}
  (hown : w3.ownsRow N T 2 (.slice (some ⟨g, 0, none⟩) (l.length + 1) cap) (l.length + 1) (xs ++ [.string s, .slice a n c])) (hg : w2.grownBy w3 v.ownBlock) (hg1 : v.ownBlock = some g ∨ g = w2.heap.size) :
  Row w3 N T Y (.slice (some ⟨g, 0, none⟩) (l.length + 1) cap) (l ++ [t]) (xs ++ [.string s, .slice a n c]) := by
 subst hw2
 have hlt := h.own.lt
 refine ⟨by simpa using hown, ?_⟩
 have hsz : w1.heap.size ≤ (w1.alloc o).heap.size := by simp
 have hbs := hb.size
 have hgN : N ≤ g := by
  rcases hg1 with e | e
  ·exact (hlt g e).1
  ·simp at e; omega
 refine RowT.append (h.row.imp fun a' k' hs => ?_) ?_
 ·have h1 : Sl w (fun b => (Y b ∨ (N ≤ b ∧ some b ≠ v.ownBlock)) ∧ b < w.heap.size) a' k' := hs.mono fun b h1 h2 => ⟨h1, h2⟩
  have h2 : Sl w3 (fun b => (Y b ∨ (N ≤ b ∧ some b ≠ v.ownBlock)) ∧ b < w.heap.size) a' k' := h1.kept fun b hx => by
   have hne : some b ≠ v.ownBlock := by
    rcases hx.1 with hy | hy
    ·exact h.ne (hY b hy)
    ·exact hy.2
   rw [hg.block b (by simp; omega) hne, Below.heap_alloc _ _ _ (by omega), hb.block b hx.2]
  refine h2.mono fun b hx _ => ?_
  rcases hx.1 with hy | hy
  ·exact Or.inl hy
  ·refine Or.inr ⟨hy.1, fun e => ?_⟩
   simp [Value.ownBlock] at e
   rcases hg1 with e' | e'
   ·exact hy.2 (by rw [e', e])
   ·simp at e'; omega
 ·obtain ⟨a2, c2, e, hs⟩ := ht
  simp at e
  obtain ⟨rfl, rfl, rfl, rfl⟩ := e
  refine ⟨a, c, [], rfl, ?_, rfl⟩
  have h1 : Sl w1 (fun b => (Y b ∨ w.heap.size ≤ b) ∧ b < w1.heap.size) a t.args := hs.mono fun b h1 h2 => ⟨h1, h2⟩
  have h2 : Sl w3 (fun b => (Y b ∨ w.heap.size ≤ b) ∧ b < w1.heap.size) a t.args := h1.kept fun b hx => by
   have hne : some b ≠ v.ownBlock := by
    rcases hx.1 with hy | hy
    ·exact h.ne (hY b hy)
    ·intro e; have := (hlt b e.symm).2; omega
   rw [hg.block b (by simp; omega) hne, Below.heap_alloc _ _ _ hx.2]
  refine h2.mono fun b hx _ => ?_
  rcases hx.1 with hy | hy
  ·exact Or.inl hy
  ·refine Or.inr ⟨by omega, fun e => ?_⟩
   simp [Value.ownBlock] at e
   rcases hg1 with e' | e'
   ·have := (hlt g e').2; omega
   ·simp at e'; omega
theorem Row.setCell {w : World} {N T : Nat} {Y : Nat → Prop} {v : Value} {l : List Tm} {xs : List Value} (h : Row w N T Y v l xs) {b i : Nat} (hb : b < N) (hY : ¬ Y b) (u : Value) : Row (w.setCell ⟨b, i, none⟩ u) N T Y v l xs :=
 ⟨ownsRow_setCell_below h.own (by simpa using hb) u, h.row.imp fun a k hs => hs.kept fun c hc => Below.heap_setCell _ _ _ _ (by
  simp
  rcases hc with hc | hc
  ·intro e; subst e; exact hY hc
  ·omega)⟩
theorem Row.sl {w : World} {N T : Nat} {Y : Nat → Prop} {v : Value} {l : List Tm} {xs : List Value} (h : Row w N T Y v l xs) : ∃ a c, v = .slice a l.length c ∧ Sl w (fun b => Y b ∨ N ≤ b) a l := by
 have hml : l.length ≤ 9223372036854775807 := by
  rcases h.own.2 with ⟨_, h0⟩ | ⟨g, cap, cur, _, _, _, h1, h2, _⟩
  ·omega
  ·unfold maxLen at h2; omega
 by_cases h0 : 0 < l.length
 ·obtain ⟨g, cap, rfl, hg, hlt, hc⟩ := owned_val h.own h0
  exact ⟨_, _, rfl, hml, Or.inr ⟨g, 0, rfl, lies_of_rowT g (Or.inr hg) l xs 0 h.row (fun a k hs => hs.mono fun b hb _ => hb.imp id (fun h => h.1)) (fun j u hj => by simpa using hc j u hj)⟩⟩
 ·have e : l = [] := List.length_eq_zero_iff.1 (by omega)
  subst e
  rcases h.own.2 with ⟨hv, _⟩ | ⟨g, cap, cur, hv, _⟩
  ·exact ⟨none, 0, hv, hml, Or.inl rfl⟩
  ·exact ⟨_, _, hv, hml, Or.inl rfl⟩
theorem copy_blk {wr w1 w3 : World} {o1 o2 : Obj} {b T : Nat} {cs : Array Value} {row : Option Nat} (h : Blk wr b cs T) (hb1 : Below (wr.alloc o1).drew.heap.size (wr.alloc o1).drew w1) (hg : (w1.alloc o2).grownBy w3 row) (hr : some b ≠ row) : Blk w3 b cs T :=
 (((((h.alloc o1).drewN 1).below hb1 (by have := h.lt; simp; omega)).alloc o2).grown hg hr)
abbrev Bc := Bd × Option Addr × Nat
instance : Inhabited Bc := ⟨(⟨⟨#[]⟩, ⟨⟨#[]⟩, []⟩⟩, none, 0)⟩
def enc3 (x : Bc) : List Value := [.string x.1.nm, .string x.1.t.name, .slice x.2.1 x.1.t.args.length x.2.2]
def flat3 : List Bc → List Value
 | [] => []
 | x :: r => enc3 x ++ flat3 r
theorem flat3_append (b : List Bc) : ∀ a, flat3 (a ++ b) = flat3 a ++ flat3 b
 | [] => rfl
 | x :: r => by rw [List.cons_append, flat3, flat3, flat3_append b r, List.append_assoc]
theorem flat3_length : ∀ a : List Bc, (flat3 a).length = a.length * 3
 | [] => rfl
 | x :: r => by rw [flat3, List.length_append, flat3_length r]; simp [enc3]; omega
theorem flat3_get : ∀ (a : List Bc) (i : Nat) (h : i < a.length) (j : Nat), j < 3 → (flat3 a)[i * 3 + j]? = (enc3 a[i])[j]?
 | [], i, h, j, hj => by simp at h
 | x :: r, 0, h, j, hj => by
  rw [flat3, List.getElem?_append_left (by simp [enc3]; omega)]; simp
 | x :: r, i + 1, h, j, hj => by
  rw [flat3, List.getElem?_append_right (by simp [enc3]; omega)]
  have e : (i + 1) * 3 + j - (enc3 x).length = i * 3 + j := by simp [enc3]; omega
  rw [e, flat3_get r i (by simpa using h) j hj]
  simp
structure BRow (w : World) (N : Nat) (Y : Nat → Prop) (v : Value) (cs : List Bc) : Prop where
 own : w.ownsRow N 160 3 v cs.length (flat3 cs)
 row : ∀ x ∈ cs, Sl w (fun b => Y b ∨ (N ≤ b ∧ some b ≠ v.ownBlock)) x.2.1 x.1.t.args
theorem BRow.start (w : World) (N : Nat) (Y : Nat → Prop) : BRow w N Y (.slice none 0 0) [] := ⟨World.ownsRow_nil w N _ 3, by simp⟩
theorem BRow.below {w w' : World} {N : Nat} {Y : Nat → Prop} {v : Value} {cs : List Bc} (h : BRow w N Y v cs) (hb : Below w.heap.size w w') : BRow w' N Y v cs :=
 ⟨h.own.kept (w' := w') (row := none) ⟨hb.os, hb.tape, hb.output, hb.size, fun j hj _ => hb.block j hj⟩ (by rcases Option.eq_none_or_eq_some (Value.ownBlock v) with h | ⟨x, h⟩; exact Or.inl h; exact Or.inr (by rw [h]; simp)),
  fun x hx => (h.row x hx).later hb⟩
theorem BRow.ne {w : World} {N : Nat} {Y : Nat → Prop} {v : Value} {cs : List Bc} (h : BRow w N Y v cs) {b : Nat} (hb : b < N) : some b ≠ v.ownBlock := fun e => by
 have := (h.own.lt b e.symm).1; omega
theorem BRow.kept {w w' : World} {N : Nat} {Y : Nat → Prop} {v : Value} {cs : List Bc} {r : Nat} (h : BRow w N Y v cs) (hr : r < N) (hY : ¬ Y r) (ho : w'.os = w.os) (ht : w'.tape = w.tape) (hu : w'.output = w.output) (hz : w.heap.size ≤ w'.heap.size) (hk : ∀ j, j ≠ r → j < w.heap.size → w'.heap[j]? = w.heap[j]?) : BRow w' N Y v cs :=
 ⟨h.own.kept (w' := w') (row := some r) ⟨ho, ht, hu, hz, fun j hj hne => hk j (fun e => hne (by rw [e])) hj⟩ (Or.inr (fun e => h.ne hr e.symm)),
  fun x hx => by
  have h1 := (h.row x hx).mono (Y := fun b => (Y b ∨ (N ≤ b ∧ some b ≠ v.ownBlock)) ∧ b < w.heap.size) fun b h1 h2 => ⟨h1, h2⟩
  refine (h1.kept fun b hb => hk b (fun e => ?_) hb.2).mono fun b hb _ => hb.1
  rcases hb.1 with h2 | h2
  ·exact hY (e ▸ h2)
  ·omega⟩
theorem BRow.push {w w1 w2 w3 : World} {N : Nat} {Y : Nat → Prop} {v : Value} {cs : List Bc} (h : BRow w N Y v cs) (hN : N ≤ w.heap.size) (hY : ∀ b, Y b → b < N) (hb : Below w.heap.size w w1) {x : Bc}
  (ht : Sl w1 (fun b => Y b ∨ w.heap.size ≤ b) x.2.1 x.1.t.args) (o : Obj) (hw2 : w2 = w1.alloc o) {g cap : Nat}
  (hown : w3.ownsRow N 160 3 (.slice (some ⟨g, 0, none⟩) (cs.length + 1) cap) (cs.length + 1) (flat3 cs ++ enc3 x)) (hg : w2.grownBy w3 v.ownBlock) (hg1 : v.ownBlock = some g ∨ g = w2.heap.size) :
  BRow w3 N Y (.slice (some ⟨g, 0, none⟩) (cs.length + 1) cap) (cs ++ [x]) := by
 subst hw2
 have hlt := h.own.lt
 refine ⟨by rw [flat3_append]; simpa [flat3] using hown, fun y hy => ?_⟩
 have hsz : w1.heap.size ≤ (w1.alloc o).heap.size := by simp
 have hbs := hb.size
 have hgN : N ≤ g := by
  rcases hg1 with e | e
  ·exact (hlt g e).1
  ·simp at e; omega
 rcases List.mem_append.1 hy with hy | hy
 ·have h1 : Sl w (fun b => (Y b ∨ (N ≤ b ∧ some b ≠ v.ownBlock)) ∧ b < w.heap.size) y.2.1 y.1.t.args := (h.row y hy).mono fun b h1 h2 => ⟨h1, h2⟩
  have h2 : Sl w3 (fun b => (Y b ∨ (N ≤ b ∧ some b ≠ v.ownBlock)) ∧ b < w.heap.size) y.2.1 y.1.t.args := h1.kept fun b hx => by
   have hne : some b ≠ v.ownBlock := by
    rcases hx.1 with hy | hy
    ·exact h.ne (hY b hy)
    ·exact hy.2
   rw [hg.block b (by simp; omega) hne, Below.heap_alloc _ _ _ (by omega), hb.block b hx.2]
  refine h2.mono fun b hx _ => ?_
  rcases hx.1 with hy | hy
  ·exact Or.inl hy
  ·refine Or.inr ⟨hy.1, fun e => ?_⟩
   simp [Value.ownBlock] at e
   rcases hg1 with e' | e'
   ·exact hy.2 (by rw [e', e])
   ·simp at e'; omega
 ·have e : y = x := by simpa using hy
  subst e
  have h1 : Sl w1 (fun b => (Y b ∨ w.heap.size ≤ b) ∧ b < w1.heap.size) y.2.1 y.1.t.args := ht.mono fun b h1 h2 => ⟨h1, h2⟩
  have h2 : Sl w3 (fun b => (Y b ∨ w.heap.size ≤ b) ∧ b < w1.heap.size) y.2.1 y.1.t.args := h1.kept fun b hx => by
   have hne : some b ≠ v.ownBlock := by
    rcases hx.1 with hy | hy
    ·exact h.ne (hY b hy)
    ·intro e; have := (hlt b e.symm).2; omega
   rw [hg.block b (by simp; omega) hne, Below.heap_alloc _ _ _ hx.2]
  refine h2.mono fun b hx _ => ?_
  rcases hx.1 with hy | hy
  ·exact Or.inl hy
  ·refine Or.inr ⟨by omega, fun e => ?_⟩
   simp [Value.ownBlock] at e
   rcases hg1 with e' | e'
   ·have := (hlt g e').2; omega
   ·simp at e'; omega
theorem BRow.bv {w : World} {N : Nat} {Y : Nat → Prop} {v : Value} {cs : List Bc} (h : BRow w N Y v cs) : BV w (fun b => Y b ∨ N ≤ b) v (cs.map (·.1)) := by
 have hml : cs.length ≤ 9223372036854775807 := by
  rcases h.own.2 with ⟨_, h0⟩ | ⟨g, cap, cur, _, _, _, h1, h2, _⟩
  ·omega
  ·unfold maxLen at h2; omega
 by_cases h0 : 0 < cs.length
 ·obtain ⟨g, cap, rfl, hg, hlt, hc⟩ := owned_val h.own h0
  have hcap : cs.length ≤ cap := by
   rcases h.own.2 with ⟨e, _⟩ | ⟨g', cap', cur, e, _, _, h1, _⟩
   ·cases e
   ·simp at e; omega
  refine ⟨_, cap, by simp, ⟨by simpa using hml, by simpa using hcap⟩, Or.inr ⟨g, 0, rfl, Or.inr hg, fun i hi => ?_⟩⟩
  have hi' : i < cs.length := by simpa using hi
  have g0 := hc (i * 3 + 0) (.string cs[i].1.nm) (by rw [flat3_get cs i hi' 0 (by decide)]; rfl)
  have g1 := hc (i * 3 + 1) (.string cs[i].1.t.name) (by rw [flat3_get cs i hi' 1 (by decide)]; rfl)
  have g2 := hc (i * 3 + 2) (.slice cs[i].2.1 cs[i].1.t.args.length cs[i].2.2) (by rw [flat3_get cs i hi' 2 (by decide)]; rfl)
  simp only [List.getElem_map, Nat.zero_add]
  exact ⟨g0, g1, _, _, g2, (h.row cs[i] (List.getElem_mem hi')).mono fun b hb _ => hb.imp id (fun h => h.1)⟩
 ·have e : cs = [] := List.length_eq_zero_iff.1 (by omega)
  subst e
  rcases h.own.2 with ⟨hv, _⟩ | ⟨g, cap, cur, hv, _⟩
  ·exact ⟨none, 0, hv, by simp, Or.inl rfl⟩
  ·exact ⟨_, _, hv, by simp, Or.inl rfl⟩
def ltB (a b : ByteArray) : Bool := Op.bytesLess a.toList b.toList
theorem bl_irrefl : ∀ a : List UInt8, Op.bytesLess a a = false
 | [] => rfl
 | x :: r => by simp [Op.bytesLess, bl_irrefl r]
theorem bl_trans : ∀ a b c : List UInt8, Op.bytesLess a b = true → Op.bytesLess b c = true → Op.bytesLess a c = true
 | _, [], _, h, _ => by simp [Op.bytesLess] at h
 | _, _ :: _, [], _, h => by simp [Op.bytesLess] at h
 | [], _ :: _, _ :: _, _, _ => by simp [Op.bytesLess]
 | x :: a, y :: b, z :: c, h1, h2 => by
  simp only [Op.bytesLess, Bool.or_eq_true, Bool.and_eq_true, decide_eq_true_eq, beq_iff_eq] at h1 h2 ⊢
  rw [UInt8.lt_iff_toNat_lt] at h1 h2 ⊢
  rcases h1 with h1 | ⟨rfl, h1⟩ <;> rcases h2 with h2 | ⟨rfl, h2⟩
  ·left; omega
  ·left; exact h1
  ·left; exact h2
  ·right; exact ⟨rfl, bl_trans a b c h1 h2⟩
theorem bl_conn : ∀ a b : List UInt8, Op.bytesLess a b = false → Op.bytesLess b a = false → a = b
 | [], [], _, _ => rfl
 | [], _ :: _, h, _ => by simp [Op.bytesLess] at h
 | _ :: _, [], _, h => by simp [Op.bytesLess] at h
 | x :: a, y :: b, h1, h2 => by
  simp only [Op.bytesLess, Bool.or_eq_false_iff, decide_eq_false_iff_not] at h1 h2
  obtain ⟨h1, h3⟩ := h1
  obtain ⟨h2, h4⟩ := h2
  rw [UInt8.lt_iff_toNat_lt] at h1 h2
  have e : x = y := UInt8.toNat_inj.mp (by omega)
  subst e
  simp only [BEq.rfl, Bool.true_and] at h3 h4
  rw [bl_conn a b h3 h4]
theorem ltB_irrefl (a : ByteArray) : ltB a a = false := bl_irrefl _
theorem ltB_trans {a b c : ByteArray} (h1 : ltB a b = true) (h2 : ltB b c = true) : ltB a c = true := bl_trans _ _ _ h1 h2
theorem ltB_conn {a b : ByteArray} (h1 : ltB a b = false) (h2 : ltB b a = false) : a = b := bytes_inj (bl_conn _ _ h1 h2)
theorem ltB_asymm {a b : ByteArray} (h : ltB a b = true) : ltB b a = false := by
 cases hb : ltB b a with
 | false => rfl
 | true => have := ltB_trans h hb; rw [ltB_irrefl] at this; cases this
theorem ltB_ntrans {a b c : ByteArray} (h1 : ltB a b = false) (h2 : ltB b c = false) : ltB a c = false := by
 cases h : ltB a c with
 | false => rfl
 | true =>
  cases h3 : ltB b a with
  | true => rw [ltB_trans h3 h] at h2; cases h2
  | false =>
   have e := ltB_conn h1 h3
   subst e
   rw [h] at h2; cases h2
def SortedB (l : List Bd) : Prop := l.Pairwise fun a b => ltB a.nm b.nm = true
def ApartB (l : List Bd) : Prop := l.Pairwise fun a b => a.nm ≠ b.nm
theorem SortedB.apart {l : List Bd} (h : SortedB l) : ApartB l := h.imp fun {a b} h e => by rw [e, ltB_irrefl] at h; cases h
theorem ApartB.perm {l k : List Bd} (h : ApartB l) (hp : k.Perm l) : ApartB k := (hp.pairwise_iff (fun {_ _} hne => Ne.symm hne)).2 h
def toP (x : Bc) : ByteArray × Value := (x.1.nm, .agg #[.string x.1.t.name, .slice x.2.1 x.1.t.args.length x.2.2])
def mtL : List Tm → List Tm → List Bd → Option (List Bd)
 | [], _, h => some h
 | ⟨s, a⟩ :: r, ts, h => match ts with
  | [] => none
  | t :: ts' =>
   match (if varB s = true then (match forT h s with
     | some x => if sameB x t = true then some h else none
     | none => some (h ++ [⟨s, t⟩]))
    else if ((s.toList == t.name.toList) && (a.length == t.args.length)) = true then mtL a t.args h else none) with
   | some h' => mtL r ts' h'
   | none => none
def mtT (p t : Tm) (h : List Bd) : Option (List Bd) :=
 if varB p.name = true then (match forT h p.name with
   | some x => if sameB x t = true then some h else none
   | none => some (h ++ [⟨p.name, t⟩]))
  else if ((p.name.toList == t.name.toList) && (p.args.length == t.args.length)) = true then mtL p.args t.args h else none
theorem mtL_cons (p t : Tm) (r ts : List Tm) (h : List Bd) : mtL (p :: r) (t :: ts) h = (match mtT p t h with
   | some h' => mtL r ts h'
   | none => none) := by obtain ⟨s, a⟩ := p; simp only [mtL, mtT]
theorem mtL_append : ∀ (a b c d : List Tm) (h : List Bd), a.length = b.length → mtL (a ++ c) (b ++ d) h = (match mtL a b h with
   | some h' => mtL c d h'
   | none => none)
 | [], [], c, d, h, _ => by simp [mtL]
 | [], _ :: _, _, _, _, e => by simp at e
 | _ :: _, [], _, _, _, e => by simp at e
 | x :: r, t :: ts, c, d, h, e => by
  rw [List.cons_append, List.cons_append, mtL_cons, mtL_cons]
  cases mtT x t h with
  | none => rfl
  | some h' => exact mtL_append r ts c d h' (by simpa using e)
theorem mtL_take {l m : List Tm} {k : Nat} (h : k < l.length) (h2 : k < m.length) (hv : List Bd) : mtL (l.take (k + 1)) (m.take (k + 1)) hv = (match mtL (l.take k) (m.take k) hv with
   | some h' => mtT l[k] m[k] h'
   | none => none) := by
 rw [List.take_succ_eq_append_getElem h, List.take_succ_eq_append_getElem h2, mtL_append _ _ _ _ _ (by simp; omega)]
 cases mtL (l.take k) (m.take k) hv with
 | none => rfl
 | some h' =>
  show mtL [l[k]] [m[k]] h' = mtT l[k] m[k] h'
  rw [mtL_cons]
  cases mtT l[k] m[k] h' with
  | none => rfl
  | some h'' => simp [mtL]
theorem mtL_no {l m : List Tm} {k : Nat} {hv h' : List Bd} (h : k < l.length) (hlm : l.length = m.length) (h1 : mtL (l.take k) (m.take k) hv = some h') (h0 : mtT l[k] (m[k]'(by omega)) h' = none) : mtL l m hv = none := by
 have e1 : l = l.take (k + 1) ++ l.drop (k + 1) := (List.take_append_drop _ _).symm
 have e2 : m = m.take (k + 1) ++ m.drop (k + 1) := (List.take_append_drop _ _).symm
 rw [e1, e2, mtL_append _ _ _ _ _ (by simp; omega), mtL_take h (by omega), h1]
 simp only [h0]
theorem mtL_next {l m : List Tm} {k : Nat} {hv h' h'' : List Bd} (h : k < l.length) (h2 : k < m.length) (h1 : mtL (l.take k) (m.take k) hv = some h') (h0 : mtT l[k] m[k] h' = some h'') : mtL (l.take (k + 1)) (m.take (k + 1)) hv = some h'' := by
 rw [mtL_take h h2, h1]
 exact h0
theorem mtT_deep {s s2 : ByteArray} {l m : List Tm} {h : List Bd} (hv : varB s = false) (hn : (s.toList == s2.toList) = true) (hl : l.length = m.length) : mtT ⟨s, l⟩ ⟨s2, m⟩ h = mtL l m h := by
 simp [mtT, hv, hn, hl]
theorem mtT_off {s s2 : ByteArray} {l m : List Tm} {h : List Bd} (hv : varB s = false) (hn : ((s.toList == s2.toList) && (l.length == m.length)) = false) : mtT ⟨s, l⟩ ⟨s2, m⟩ h = none := by
 unfold mtT
 rw [if_neg (by rw [hv]; simp), if_neg (by simp only [hn]; simp)]
theorem mtT_new {s : ByteArray} {l : List Tm} {t : Tm} {h : List Bd} (hv : varB s = true) (hf : forT h s = none) : mtT ⟨s, l⟩ t h = some (h ++ [⟨s, t⟩]) := by simp [mtT, hv, hf]
theorem mtT_old {s : ByteArray} {l : List Tm} {t x : Tm} {h : List Bd} (hv : varB s = true) (hf : forT h s = some x) : mtT ⟨s, l⟩ t h = if sameB x t = true then some h else none := by simp [mtT, hv, hf]
theorem forT_none {h : List Bd} {s : ByteArray} (hf : forT h s = none) : ∀ d ∈ h, d.nm ≠ s := by
 induction h with
 | nil => intro d hd; cases hd
 | cons a r ih =>
  intro d hd
  rw [forT] at hf
  split at hf
  ·cases hf
  ·rename_i hne
   rcases List.mem_cons.1 hd with rfl | hd
   ·exact hne
   ·exact ih hf d hd
theorem mtT_apart_one {p t : Tm} {h h' : List Bd} (ih : ∀ ts g g', mtL p.args ts g = some g' → ApartB g → ApartB g' ∧ g'.length ≤ g.length + sizeL p.args) (he : mtT p t h = some h') (ha : ApartB h) : ApartB h' ∧ h'.length ≤ h.length + (1 + sizeL p.args) := by
 unfold mtT at he
 split at he
 ·split at he
  ·split at he
   ·cases he; exact ⟨ha, by omega⟩
   ·cases he
  ·rename_i hf
   cases he
   refine ⟨List.pairwise_append.2 ⟨ha, by simp, fun a h1 b h2 => ?_⟩, by simp⟩
   have e : b = ⟨p.name, t⟩ := by simpa using h2
   rw [e]
   exact forT_none hf a h1
 ·split at he
  ·obtain ⟨h1, h2⟩ := ih _ _ _ he ha
   exact ⟨h1, by omega⟩
  ·cases he
theorem mtL_apart : ∀ (l ts : List Tm) (h h' : List Bd), mtL l ts h = some h' → ApartB h → ApartB h' ∧ h'.length ≤ h.length + sizeL l := by
 intro l
 induction l using Tm.indL with
 | h0 => intro ts h h' he ha; simp [mtL] at he; subst he; exact ⟨ha, by simp⟩
 | h s l r ihl ihr =>
  intro ts h h' he ha
  cases ts with
  | nil => simp [mtL] at he
  | cons t ts =>
   rw [mtL_cons] at he
   cases hm : mtT ⟨s, l⟩ t h with
   | none => rw [hm] at he; cases he
   | some g =>
    rw [hm] at he
    obtain ⟨h1, h2⟩ := mtT_apart_one (p := ⟨s, l⟩) (fun ts g g' h3 h4 => ihl ts g g' h3 h4) hm ha
    obtain ⟨h3, h4⟩ := ihr ts g h' he h1
    refine ⟨h3, ?_⟩
    simp only [sizeL]
    simp only at h2
    omega
theorem mtT_apart {p t : Tm} {h h' : List Bd} (he : mtT p t h = some h') (ha : ApartB h) : ApartB h' ∧ h'.length ≤ h.length + sizeL [p] := by
 obtain ⟨h1, h2⟩ := mtT_apart_one (fun ts g g' h3 h4 => mtL_apart p.args ts g g' h3 h4) he ha
 refine ⟨h1, ?_⟩
 obtain ⟨s, a⟩ := p
 simp [sizeL] at h2 ⊢
 omega
def LV {α : Type} (f : α → Value) (w : World) (X : Nat → Prop) (v : Value) (l : List α) : Prop :=
 ∃ a c, v = .slice a l.length c ∧ (l.length ≤ 9223372036854775807 ∧ l.length ≤ c) ∧ (l = [] ∨ ∃ b o, a = some ⟨b, o, none⟩ ∧ X b ∧ ∀ i (h : i < l.length), w.cell? ⟨b, o + i, none⟩ = some (f l[i]))
theorem LV.kept {α : Type} {f : α → Value} {w w' : World} {X : Nat → Prop} {v : Value} {l : List α} (h : LV f w X v l) (hk : ∀ b, X b → w'.heap[b]? = w.heap[b]?) : LV f w' X v l := by
 obtain ⟨a, c, e, hl, h⟩ := h
 refine ⟨a, c, e, hl, ?_⟩
 rcases h with h | ⟨b, o, e, hx, h⟩
 ·exact Or.inl h
 ·exact Or.inr ⟨b, o, e, hx, fun i hi => by rw [World.cell?_of_block (hk b hx)]; exact h i hi⟩
theorem LV.mono {α : Type} {f : α → Value} {w : World} {X Y : Nat → Prop} {v : Value} {l : List α} (h : LV f w X v l) (hk : ∀ b, X b → b < w.heap.size → Y b) : LV f w Y v l := by
 obtain ⟨a, c, e, hl, h⟩ := h
 refine ⟨a, c, e, hl, ?_⟩
 rcases h with h | ⟨b, o, e, hx, h⟩
 ·exact Or.inl h
 ·by_cases h0 : l = []
  ·exact Or.inl h0
  ·have hp : 0 < l.length := List.length_pos_iff.2 h0
   exact Or.inr ⟨b, o, e, hk b hx (World.block_lt_of_cell? w _ (h 0 hp)), h⟩
theorem LV.below {α : Type} {f : α → Value} {w w' : World} {X : Nat → Prop} {v : Value} {l : List α} {B : Nat} (h : LV f w X v l) (hb : Below B w w') (hX : ∀ b, X b → b < w.heap.size → b < B) : LV f w' X v l := by
 have h1 : LV f w (fun b => X b ∧ b < B) v l := h.mono fun b hx hs => ⟨hx, hX b hx hs⟩
 have h2 : LV f w' (fun b => X b ∧ b < B) v l := h1.kept fun b hx => hb.block b hx.2
 exact h2.mono fun b hx _ => hx.1
theorem LV.later {α : Type} {f : α → Value} {w w' : World} {X : Nat → Prop} {v : Value} {l : List α} (h : LV f w X v l) (hb : Below w.heap.size w w') : LV f w' X v l := h.below hb (fun _ _ h => h)
theorem LV.alloc {α : Type} {f : α → Value} {w : World} {X : Nat → Prop} {v : Value} {l : List α} (h : LV f w X v l) (o : Obj) : LV f (w.alloc o) X v l := h.later ((Below.refl _ _).alloc (Nat.le_refl _) o)
theorem LV.of_own {α : Type} {f : α → Value} {w : World} {N T : Nat} {v : Value} {l : List α} (h : w.ownsRow N T 1 v l.length (l.map f)) : LV f w (fun b => N ≤ b) v l := by
 have h' := h
 obtain ⟨_, h1⟩ := h
 rcases h1 with ⟨rfl, h0⟩ | ⟨g, cap, cur, hv, hg, hh, hnc, hcm, _⟩
 ·have e : l = [] := List.length_eq_zero_iff.1 h0
  subst e
  exact ⟨none, 0, rfl, by simp, Or.inl rfl⟩
 ·unfold maxLen at hcm
  refine ⟨some ⟨g, 0, none⟩, cap, hv, ⟨by omega, hnc⟩, ?_⟩
  by_cases h0 : l = []
  ·exact Or.inl h0
  ·have hp : 0 < l.length := List.length_pos_iff.2 h0
   obtain ⟨g2, cap2, hv2, _, _, hc⟩ := owned_val h' hp
   rw [hv] at hv2
   simp at hv2
   obtain ⟨rfl, rfl⟩ := hv2
   exact Or.inr ⟨g, 0, rfl, hg, fun i hi => by rw [Nat.zero_add]; exact hc i _ (by simp [hi])⟩
set_option maxHeartbeats 400000 in
theorem sameNames_any (l : List ByteArray) (v u : Value) (w : World) (X Y : Nat → Prop) (hv : LV Value.string w X v l) (hu : LV Value.string w Y u l) :
  Calls Tryz.prog 57 #[v, u] w fun e w' => e = .returned (.bool true) ∧ Below w.heap.size w w' := by
 obtain ⟨a, c, rfl, ⟨hl, _⟩, h1⟩ := hv
 obtain ⟨a2, c2, rfl, _, h2⟩ := hu
 go_enter Tryz.func57, Tryz.ntmps57
 go_wp2_with fail
 go_loopw [5] (fun i wr => ∃ k n : Nat, k ≤ l.length ∧ i = .int .i64 k ∧ wr = w.drewN n) (fun i wr => l.length - (intOf i).toNat)
 case atStart => exact ⟨0, 0, Nat.zero_le _, rfl, rfl⟩
 case round =>
  obtain ⟨k, n, hk, rfl, rfl⟩ := hrel
  by_cases hlt : k < l.length
  ·obtain ⟨b, o, rfl, _, hc⟩ := h1.resolve_left (fun h => by rw [h] at hlt; simp at hlt)
   obtain ⟨b2, o2, rfl, _, hc2⟩ := h2.resolve_left (fun h => by rw [h] at hlt; simp at hlt)
   have d1 := hc k hlt
   have d2 := hc2 k hlt
   clear hc hc2 h1 h2
   go_wp2_with fail
   go_quiet (fail)
   go_wp2_with fail
   go_roundw
   case rel => exact ⟨k + 1, _, by omega, by go_num, rfl⟩
   case measure => simp [intOf]; omega
  ·go_wp2_with fail
   go_ret
   exact ⟨rfl, below_drewN (Below.refl _ _) _⟩
set_option maxHeartbeats 400000 in
theorem names2_ok (l : List ByteArray) (v u : Value) (w : World) (X Y : Nat → Prop) (hv : LV Value.string w X v l) (hu : LV Value.string w Y u l) :
  Calls Tryz.prog 30 #[v, .int .i64 0, u, .int .i64 0] w fun e w' => e = .returned (.bool true) ∧ Below w.heap.size w w' := by
 have HV := hide hv
 have HU := hide hu
 clear hv hu
 go_enter Tryz.func30, Tryz.ntmps30
 go_wp2_with fail
 refine (sameNames_any l _ _ _ X Y HV.out HU.out).mono ?_
 rintro e w1 ⟨rfl, hb1⟩
 go_wp2_with fail
 go_ret
 exact ⟨rfl, hb1⟩
set_option maxHeartbeats 400000 in
theorem names2_err (f : Int) (hf : f ≠ 0) (c : Nat) (a : Option Addr) (u : Value) (w : World) :
  Calls Tryz.prog 30 #[.slice a 0 c, .int .i64 f, u, .int .i64 f] w fun e w' => e = .returned (.bool true) ∧ Below w.heap.size w w' := by
 have hf' : (f == 0) = false := by simpa using hf
 go_enter Tryz.func30, Tryz.ntmps30
 go_wp2_with fail
 go_ret
 exact ⟨rfl, Below.refl _ _⟩
def inB (x : ByteArray) (l : List ByteArray) : Bool := l.any fun y => y.toList == x.toList
theorem inB_take {x : ByteArray} {l : List ByteArray} {k : Nat} (h : k < l.length) (h0 : inB x (l.take k) = false) (h1 : (l[k].toList == x.toList) = false) : inB x (l.take (k + 1)) = false := by
 unfold inB at *
 rw [List.take_succ_eq_append_getElem h, List.any_append, h0]
 simpa using h1
theorem inB_yes {x : ByteArray} {l : List ByteArray} {k : Nat} (h : k < l.length) (h1 : (l[k].toList == x.toList) = true) : inB x l = true := by
 unfold inB
 rw [List.any_eq_true]
 exact ⟨l[k], List.getElem_mem h, h1⟩
set_option maxHeartbeats 400000 in
theorem in_any (x : ByteArray) (l : List ByteArray) (v : Value) (w : World) (X : Nat → Prop) (hv : LV Value.string w X v l) :
  Calls Tryz.prog 36 #[.string x, v] w fun e w' => e = .returned (.bool (inB x l)) ∧ w' = w := by
 obtain ⟨a, c, rfl, ⟨hl, _⟩, h1⟩ := hv
 go_enter Tryz.func36, Tryz.ntmps36
 go_wp2_with fail
 go_loop [5] (fun i => ∃ k : Nat, k ≤ l.length ∧ i = .int .i64 k ∧ inB x (l.take k) = false) (fun i => l.length - (intOf i).toNat)
 case atStart => exact ⟨0, Nat.zero_le _, rfl, by simp [inB]⟩
 case round =>
  obtain ⟨k, hk, rfl, ha⟩ := hrel
  have HA := hide ha
  clear ha
  by_cases hlt : k < l.length
  ·obtain ⟨b, o, rfl, _, hc⟩ := h1.resolve_left (fun h => by rw [h] at hlt; simp at hlt)
   have d1 := hc k hlt
   clear hc h1
   cases hq : (l[k].toList == x.toList) with
   | true =>
    have HQ := hide (inB_yes hlt hq)
    go_wp2_with fail
    go_ret
    exact ⟨ret_bool HQ.out.symm, rfl⟩
   | false =>
    have HQ := hide (inB_take hlt HA.out hq)
    go_wp2_with fail
    go_round
    case rel => exact ⟨k + 1, by omega, by go_num, HQ.out⟩
    case measure => simp [intOf]; omega
  ·have htk : l.take k = l := List.take_of_length_le (by omega)
   have HF : Hid (false = inB x l) := by unfold Hid; rw [← HA.out, htk]
   go_wp2_with fail
   go_ret
   exact ⟨ret_bool HF.out, rfl⟩
theorem Tryz.infoStr : (Tryz.prog.info? 9).map (fun i => (i.zero, i.size, i.bytes)) = some (some (.string ByteArray.empty), 1, 16) := by kernel_rfl
theorem beq_comm' (a b : ByteArray) : (a.toList == b.toList) = (b.toList == a.toList) := by
 rw [Bool.eq_iff_iff]; simp; exact eq_comm
set_option maxHeartbeats 400000 in
theorem index_any (x : ByteArray) (l : List ByteArray) (v : Value) (w : World) (X : Nat → Prop) (hv : LV Value.string w X v l) :
  Calls Tryz.prog 136 #[v, .string x] w fun e w' => (∃ n : Int, e = .returned (.int .i64 n) ∧ decide (0 ≤ n) = inB x l) ∧ w' = w := by
 obtain ⟨a, c, rfl, ⟨hl, _⟩, h1⟩ := hv
 go_enter Tryz.func136, Tryz.ntmps136
 go_wp2_with fail
 go_loop [8] (fun i => ∃ k : Nat, k ≤ l.length ∧ i = .int .i64 k ∧ inB x (l.take k) = false) (fun i => l.length - (intOf i).toNat)
 case atStart => exact ⟨0, Nat.zero_le _, rfl, by simp [inB]⟩
 case round =>
  obtain ⟨k, hk, rfl, ha⟩ := hrel
  have HA := hide ha
  clear ha
  by_cases hlt : k < l.length
  ·obtain ⟨b, o, rfl, _, hc⟩ := h1.resolve_left (fun h => by rw [h] at hlt; simp at hlt)
   have d1 := hc k hlt
   clear hc h1
   cases hq : (x.toList == l[k].toList) with
   | true =>
    have HQ := hide (inB_yes hlt (by rw [beq_comm']; exact hq))
    go_wp2_with fail
    go_ret
    exact ⟨⟨k, rfl, by rw [HQ.out]; simp⟩, rfl⟩
   | false =>
    have HQ := hide (inB_take hlt HA.out (by rw [beq_comm']; exact hq))
    go_wp2_with fail
    go_round
    case rel => exact ⟨k + 1, by omega, by go_num, HQ.out⟩
    case measure => simp [intOf]; omega
  ·have htk : l.take k = l := List.take_of_length_le (by omega)
   have HF : Hid (false = inB x l) := by unfold Hid; rw [← HA.out, htk]
   go_wp2_with fail
   go_ret
   exact ⟨⟨-1, rfl, by rw [← HF.out]; decide⟩, rfl⟩
set_option maxHeartbeats 400000 in
theorem contains_any (x : ByteArray) (l : List ByteArray) (v : Value) (w : World) (X : Nat → Prop) (hv : LV Value.string w X v l) :
  Calls Tryz.prog 119 #[v, .string x] w fun e w' => e = .returned (.bool (inB x l)) ∧ w' = w := by
 have HV := hide hv
 clear hv
 go_enter Tryz.func119, Tryz.ntmps119
 go_wp2_with fail
 refine (index_any x l _ _ X HV.out).mono ?_
 rintro e w1 ⟨⟨n, rfl, hn⟩, rfl⟩
 have HN := hide hn
 clear hn
 go_wp2_with fail
 go_ret
 exact ⟨ret_bool HN.out, rfl⟩
def addV (acc : List ByteArray) (s : ByteArray) : List ByteArray := if (varB s && !inB s acc) = true then acc ++ [s] else acc
def varsP (acc : List ByteArray) (ks : List Tm) : List ByteArray := ks.foldl (fun acc k => addV acc k.name) acc
theorem addV_yes {acc : List ByteArray} {s : ByteArray} (h : varB s = true) (h2 : inB s acc = false) : addV acc s = acc ++ [s] := by simp [addV, h, h2]
theorem addV_in {acc : List ByteArray} {s : ByteArray} (h : varB s = true) (h2 : inB s acc = true) : addV acc s = acc := by simp [addV, h, h2]
theorem addV_no {acc : List ByteArray} {s : ByteArray} (h : varB s = false) : addV acc s = acc := by simp [addV, h]
theorem addV_len (acc : List ByteArray) (s : ByteArray) : (addV acc s).length ≤ acc.length + 1 := by
 unfold addV; split <;> simp
theorem varsP_append (acc : List ByteArray) (a b : List Tm) : varsP acc (a ++ b) = varsP (varsP acc a) b := by simp [varsP, List.foldl_append]
theorem varsP_len (ks : List Tm) : ∀ acc, (varsP acc ks).length ≤ acc.length + ks.length := by
 induction ks with
 | nil => intro acc; simp [varsP]
 | cons k r ih => intro acc; have := ih (addV acc k.name); have h2 := addV_len acc k.name; simp only [varsP, List.foldl_cons, List.length_cons] at *; omega
theorem varsP_take (acc : List ByteArray) (ks : List Tm) (k : Nat) (h : k < ks.length) : varsP acc (ks.take (k + 1)) = addV (varsP acc (ks.take k)) ks[k].name := by
 rw [List.take_succ_eq_append_getElem h, varsP_append]; rfl
set_option maxHeartbeats 1000000 in
theorem varsOf_any (t : Tm) (v : Value) (w : World) (X : Nat → Prop) (hv : TV w X v t) (hsm : sizeL [t] ≤ 1000000) :
  Calls Tryz.prog 35 #[v] w fun e w' => ∃ v', e = .returned v' ∧ LV Value.string w' (fun b => w.heap.size ≤ b) v' (varsP [] (preL [t])) ∧ Below w.heap.size w w' := by
 obtain ⟨a, c, rfl, hs⟩ := hv
 have HV := hide (show TV w X (.agg #[.string t.name, .slice a t.args.length c]) t from ⟨a, c, rfl, hs⟩)
 clear hs
 obtain ⟨i0, hi, hz0, hz1, hz2⟩ := info_parts Tryz.infoStr
 go_enter Tryz.func35, Tryz.ntmps35
 go_wp2_with fail
 refine (knots_any t _ _ X (by exact HV.out.alloc _) hsm).mono ?_
 rintro e w2 ⟨v2, xs, rfl, hown, hrow, hb3⟩
 have hpos : 0 < sizeL [t] := by obtain ⟨s', l'⟩ := t; simp [sizeL]; omega
 obtain ⟨g, cap, rfl, hg, hg', hcel⟩ := owned_val hown hpos
 have hb4 := hide (((Below.refl w.heap.size w).alloc (Nat.le_refl _) (.cells #[.string t.name, .slice a t.args.length c] 27)).trans (hb3.mono (by simp)))
 have HROW := hide hrow
 have HCEL := hide hcel
 have hpl := preL_length [t]
 generalize hkse : preL [t] = ks at *
 have HKSE := hide hkse
 clear hkse
 have hks : ks.length ≤ 1000000 := by omega
 rw [← hpl]
 clear hown hrow hcel hb3 hpl hpos hsm
 go_wp2_with fail
 go_loopw [4, 5] (fun q i wr => ∃ k : Nat, k ≤ ks.length ∧ i = .int .i64 k ∧ wr.ownsRow w2.heap.size 9 1 q (varsP [] (ks.take k)).length ((varsP [] (ks.take k)).map Value.string) ∧ Below w2.heap.size w2 wr) (fun q i wr => ks.length - (intOf i).toNat)
 case atStart => exact ⟨0, Nat.zero_le _, rfl, by simpa [varsP] using World.ownsRow_nil w2 w2.heap.size 9 1, Below.refl _ _⟩
 case round =>
  obtain ⟨k, hk, rfl, hown, hb⟩ := hrel
  have HOWN := hide hown
  have HB := hide hb
  by_cases hlt : k < ks.length
  ·obtain ⟨x0, a', c', x1, hsl⟩ := HROW.out.get k hlt
   have d0 := cell_later hb (HCEL.out _ _ x0)
   have HT := hide (varsP_take [] ks k hlt)
   have hlen0 := varsP_len (ks.take k) []
   have hlen : (varsP [] (ks.take k)).length ≤ 1000000 := by
    have : (ks.take k).length ≤ k := List.length_take_le _ _
    simp at hlen0; omega
   clear x0 x1 hsl hown hb hlen0
   generalize hacc : varsP [] (ks.take k) = acc at *
   have HACC := hide hacc
   clear hacc
   cases hvb : varB ks[k].name with
   | false =>
    have HN := hide (addV_no (acc := acc) hvb)
    have HVB := hide hvb
    clear hvb
    go_wp2_with (go_at_call 34; refine (isVarR_any _ _).mono ?_; rintro e w' ⟨rfl, rfl⟩; rw [HVB.out])
    go_roundw
    case rel => exact ⟨k + 1, by omega, by go_num, by rw [HT.out, HN.out]; exact HOWN.out, HB.out⟩
    case measure => simp [intOf]; omega
   | true =>
    have HVB := hide hvb
    cases hin : inB ks[k].name acc with
    | true =>
     have HN := hide (addV_in hvb hin)
     have HIN := hide hin
     clear hvb hin
     go_wp2_with (first | (go_at_call 34; refine (isVarR_any _ _).mono ?_; rintro e w' ⟨rfl, rfl⟩; rw [HVB.out]) | (go_at_call 36; refine (in_any _ _ _ _ _ (LV.of_own HOWN.out)).mono ?_; rintro e w' ⟨rfl, rfl⟩; rw [HIN.out]))
     go_roundw
     case rel => exact ⟨k + 1, by omega, by go_num, by rw [HT.out, HN.out]; exact HOWN.out, HB.out⟩
     case measure => simp [intOf]; omega
    | false =>
     have HN := hide (addV_yes hvb hin)
     have HIN := hide hin
     clear hvb hin
     obtain ⟨q2, w3, hr2, hown2, hgr2, _⟩ := run_append_own (P := Tryz.prog) (wr.alloc (.cells #[.string ks[k].name] 9)) w2.heap.size 34 34 9 i0 _ 1 16 Tryz.underlying34 hi hz0 hz1 hz2 rfl (by decide) _ acc.length (acc.map Value.string) (HOWN.out.alloc _)
      ⟨wr.heap.size, 0, none⟩ 1 1 [.string ks[k].name] rfl (cell_one_new _ _ _) (fun x hx => by simp at hx; subst hx; rfl) (by unfold maxLen; omega) (by omega) (by have := HB.out.size; simp; omega)
     have HR := hide hr2
     have HO2 := hide hown2
     have HB2 := hide ((HB.out.alloc HB.out.size _).grown hgr2 (by have := HB.out.size; simp; omega) (fun j hj => (HOWN.out.lt j hj).1))
     clear hr2 hown2 hgr2
     go_wp2_with (first | (go_at_call 34; refine (isVarR_any _ _).mono ?_; rintro e w' ⟨rfl, rfl⟩; rw [HVB.out]) | (go_at_call 36; refine (in_any _ _ _ _ _ (LV.of_own HOWN.out)).mono ?_; rintro e w' ⟨rfl, rfl⟩; rw [HIN.out]) | (at_builtin; refine wpList_append_eq rfl _ _ _ _ rfl rfl rfl HR.out ?_))
     go_roundw
     case rel => exact ⟨k + 1, by omega, by go_num, by rw [HT.out, HN.out]; simpa using HO2.out, HB2.out⟩
     case measure => simp [intOf]; omega
  ·have htk : ks.take k = ks := List.take_of_length_le (by omega)
   rw [htk] at hown
   have HO := hide hown
   clear hown hb
   go_wp2_with fail
   go_ret
   exact ⟨_, rfl, by rw [HKSE.out]; exact (LV.of_own HO.out).mono fun b hb _ => Nat.le_trans hb4.out.size hb, hb4.out.trans (HB.out.mono hb4.out.size)⟩
theorem grown_trans {w w1 w2 : World} {r r1 : Option Nat} (h : w.grownBy w1 r) (h1 : w1.grownBy w2 r1) (hr : ∀ k, r1 = some k → r = some k ∨ w.heap.size ≤ k) : w.grownBy w2 r :=
 ⟨h1.os.trans h.os, h1.tape.trans h.tape, h1.output.trans h.output, Nat.le_trans h.size h1.size, fun k hk hne => (h1.block k (Nat.lt_of_lt_of_le hk h.size) (fun e => by
  rcases hr k e.symm with h2 | h2
  ·exact hne h2.symm
  ·omega)).trans (h.block k hk hne)⟩
theorem grown_of_below {w w' : World} (hb : Below w.heap.size w w') (r : Option Nat) : w.grownBy w' r := ⟨hb.os, hb.tape, hb.output, hb.size, fun k hk _ => hb.block k hk⟩
theorem TV.grown {w w' : World} {X : Nat → Prop} {v : Value} {t : Tm} {r : Option Nat} (h : TV w X v t) (hg : w.grownBy w' r) (hX : ∀ b, X b → some b ≠ r) : TV w' X v t := by
 have h1 : TV w (fun b => X b ∧ b < w.heap.size) v t := h.mono fun b h1 h2 => ⟨h1, h2⟩
 have h2 : TV w' (fun b => X b ∧ b < w.heap.size) v t := h1.kept fun b hx => hg.block b hx.2 (hX b hx.1)
 exact h2.mono fun b hx _ => hx.1
def NamesAt (w0 : World) (B : Nat) (q0 : Value) (acc : List ByteArray) (q : Value) (wr : World) : Prop :=
 wr.ownsRow B 9 1 q acc.length (acc.map Value.string) ∧ w0.grownBy wr q0.ownBlock ∧ (∀ k, q.ownBlock = some k → q0.ownBlock = some k ∨ w0.heap.size ≤ k)
theorem NamesAt.step {w0 w1 w2 : World} {B : Nat} {q0 q1 q2 : Value} {acc1 acc2 : List ByteArray} (h1 : NamesAt w0 B q0 acc1 q1 w1) (h2 : NamesAt w1 B q1 acc2 q2 w2) : NamesAt w0 B q0 acc2 q2 w2 := by
 refine ⟨h2.1, grown_trans h1.2.1 h2.2.1 h1.2.2, fun k hk => ?_⟩
 rcases h2.2.2 k hk with h | h
 ·exact h1.2.2 k h
 ·exact Or.inr (Nat.le_trans h1.2.1.size h)
theorem NamesAt.below {w0 w1 w2 : World} {B : Nat} {q0 q1 : Value} {acc1 : List ByteArray} (h1 : NamesAt w0 B q0 acc1 q1 w1) (hb : Below w1.heap.size w1 w2) : NamesAt w0 B q0 acc1 q1 w2 :=
 ⟨h1.1.kept (w' := w2) (row := none) ⟨hb.os, hb.tape, hb.output, hb.size, fun j hj _ => hb.block j hj⟩ (by rcases Option.eq_none_or_eq_some (Value.ownBlock q1) with h | ⟨x, h⟩; exact Or.inl h; exact Or.inr (by rw [h]; simp)),
  grown_trans h1.2.1 (grown_of_below hb q1.ownBlock) h1.2.2, h1.2.2⟩
def plcL : Nat → List Tm → List (List Int)
 | _, [] => []
 | j, ⟨_, l⟩ :: r => ((([] : List Int) :: plcL 0 l).map fun p => (j : Int) :: p) ++ plcL (j + 1) r
def plcT (t : Tm) : List (List Int) := [] :: plcL 0 t.args
theorem plcL_cons (j : Nat) (t : Tm) (r : List Tm) : plcL j (t :: r) = ((plcT t).map fun p => (j : Int) :: p) ++ plcL (j + 1) r := by
 obtain ⟨s, l⟩ := t
 simp only [plcL, plcT]
theorem plcL_append (a b : List Tm) : ∀ j, plcL j (a ++ b) = plcL j a ++ plcL (j + a.length) b := by
 induction a with
 | nil => intro j; simp [plcL]
 | cons t r ih => intro j; rw [List.cons_append, plcL_cons, plcL_cons, ih]; simp [Nat.add_assoc, Nat.add_comm 1]
theorem plcL_take (l : List Tm) (k : Nat) (h : k < l.length) : plcL 0 (l.take (k + 1)) = plcL 0 (l.take k) ++ (plcT l[k]).map fun p => (k : Int) :: p := by
 rw [List.take_succ_eq_append_getElem h, plcL_append, plcL_cons]
 have : (l.take k).length = k := by rw [List.length_take]; omega
 simp [this, plcL]
theorem plcL_len (l : List Tm) : ∀ j, (plcL j l).length = sizeL l := by
 induction l using Tm.indL with
 | h0 => intro j; simp [plcL, sizeL]
 | h s l r ihl ihr => intro j; simp [plcL, sizeL, ihl, ihr]; omega
theorem plcT_len (t : Tm) : (plcT t).length = sizeL [t] := by
 obtain ⟨s, l⟩ := t
 simp [plcT, plcL_len, sizeL]; omega
theorem plc_deep (l : List Tm) : ∀ j, ∀ p ∈ plcL j l, p.length ≤ sizeL l := by
 induction l using Tm.indL with
 | h0 => intro j p hp; simp [plcL] at hp
 | h s l r ihl ihr =>
  intro j p hp
  simp only [plcL, List.mem_append, List.mem_map, List.mem_cons] at hp
  simp only [sizeL]
  rcases hp with ⟨p', h1, rfl⟩ | hp
  ·rcases h1 with rfl | h1
   ·simp; omega
   ·have := ihl 0 p' h1; simp; omega
  ·have := ihr _ p hp; omega
def RowP (w : World) (Z : Nat → Prop) : List (List Int) → List Value → Prop
 | [], xs => xs = []
 | z :: r, xs => ∃ u xs', xs = u :: xs' ∧ PV w Z u z ∧ RowP w Z r xs'
theorem RowP.len {w : World} {Z : Nat → Prop} : ∀ {l : List (List Int)} {xs : List Value}, RowP w Z l xs → xs.length = l.length
 | [], xs, h => by simp [RowP] at h; simp [h]
 | z :: l, xs, h => by obtain ⟨u, xs', rfl, _, h⟩ := h; simp [RowP.len h]
theorem RowP.append {w : World} {Z : Nat → Prop} : ∀ {l k : List (List Int)} {xs ys : List Value}, RowP w Z l xs → RowP w Z k ys → RowP w Z (l ++ k) (xs ++ ys)
 | [], k, xs, ys, h, h' => by simp [RowP] at h; subst h; simpa using h'
 | z :: l, k, xs, ys, h, h' => by obtain ⟨u, xs', rfl, hp, h⟩ := h; exact ⟨u, xs' ++ ys, rfl, hp, RowP.append h h'⟩
theorem RowP.imp {w w' : World} {Z Z' : Nat → Prop} (hs : ∀ u z, PV w Z u z → PV w' Z' u z) : ∀ {l : List (List Int)} {xs : List Value}, RowP w Z l xs → RowP w' Z' l xs
 | [], xs, h => h
 | z :: l, xs, h => by obtain ⟨u, xs', e, hp, h⟩ := h; exact ⟨u, xs', e, hs _ _ hp, RowP.imp hs h⟩
theorem RowP.get {w : World} {Z : Nat → Prop} : ∀ {l : List (List Int)} {xs : List Value}, RowP w Z l xs → ∀ i (h : i < l.length), ∃ u, xs[i]? = some u ∧ PV w Z u l[i]
 | [], xs, h, i, hi => by simp at hi
 | z :: l, xs, h, i, hi => by
  obtain ⟨u, xs', rfl, hp, h⟩ := h
  cases i with
  | zero => exact ⟨u, rfl, hp⟩
  | succ i => obtain ⟨u', h1, h2⟩ := RowP.get h i (by simpa using hi); exact ⟨u', by simpa using h1, h2⟩
theorem PV.one {w : World} {Z : Nat → Prop} {u : Value} {z : List Int} (h : PV w Z u z) : u.oneCell' = true := by obtain ⟨a, c, rfl, _⟩ := h; rfl
theorem Tryz.infoInt : (Tryz.prog.info? 3).map (fun i => (i.zero, i.size, i.bytes)) = some (some (.int .i64 0), 1, 8) := by kernel_rfl
theorem Tryz.infoInts : (Tryz.prog.info? 22).map (fun i => (i.zero, i.size, i.bytes)) = some (some (.slice none 0 0), 1, 24) := by kernel_rfl
theorem pv_of_own {w : World} {N T : Nat} {v : Value} {l : List Int} (h : w.ownsRow N T 1 v l.length (l.map fun z => .int .i64 z)) : PV w (fun b => N ≤ b ∧ v.ownBlock = some b) v l := by
 have h' := h
 obtain ⟨_, h1⟩ := h
 rcases h1 with ⟨rfl, h0⟩ | ⟨g, cap, cur, hv, hg, hh, hnc, hcm, _⟩
 ·have e : l = [] := List.length_eq_zero_iff.1 h0
  subst e
  exact ⟨none, 0, rfl, by simp, Or.inl rfl⟩
 ·unfold maxLen at hcm
  refine ⟨some ⟨g, 0, none⟩, cap, hv, ⟨by omega, hnc⟩, ?_⟩
  by_cases h0 : l = []
  ·exact Or.inl h0
  ·have hp : 0 < l.length := List.length_pos_iff.2 h0
   obtain ⟨g2, cap2, hv2, _, _, hc⟩ := owned_val h' hp
   rw [hv] at hv2
   simp at hv2
   obtain ⟨rfl, rfl⟩ := hv2
   exact Or.inr ⟨g, 0, rfl, ⟨hg, by rw [hv]; rfl⟩, fun i hi => by rw [Nat.zero_add]; exact hc i _ (by simp [hi])⟩
theorem pv_src {w : World} {Z : Nat → Prop} {u : Value} {z : List Int} (h : PV w Z u z) : Src Tryz.prog 1 22 u z.length (z.map fun x => .int .i64 x) w := by
 obtain ⟨a, c, rfl, _, h⟩ := h
 have one : ∀ v ∈ (z.map fun x => Value.int .i64 x), v.oneCell' = true := fun v hv => by obtain ⟨x, _, rfl⟩ := List.mem_map.1 hv; rfl
 rcases h with rfl | ⟨b, o, rfl, _, hc⟩
 ·cases a with
  | none => simpa using Src.ofNil w Tryz.underlying22 c
  | some a => exact Src.ofSlice w Tryz.underlying22 a _ c _ (by simp) (by simp) one
 ·refine Src.ofSlice w Tryz.underlying22 ⟨b, o, none⟩ _ c _ (by simp) (fun j v hj => ?_) one
  rw [List.getElem?_map] at hj
  cases hz : z[j]? with
  | none => rw [hz] at hj; cases hj
  | some x =>
   rw [hz] at hj
   simp at hj
   subst hj
   obtain ⟨hlt, rfl⟩ := List.getElem?_eq_some_iff.1 hz
   have := hc j hlt
   by_cases h0 : j = 0
   ·subst h0; first | (simp [Addr.add]; done) | simpa [Addr.add] using this
   ·first | (simp [Addr.add, h0]; done) | simpa [Addr.add, h0] using this
def putL (f : Tm → Tm) (i : Int) : Nat → List Tm → List Tm
 | _, [] => []
 | j, a :: r => (if (j : Int) = i then f a else a) :: putL f i (j + 1) r
def putT (x : Tm) : List Int → Tm → Tm
 | [], _ => x
 | i :: r, t => ⟨t.name, putL (putT x r) i 0 t.args⟩
theorem putL_length (f : Tm → Tm) (i : Int) : ∀ (l : List Tm) (j : Nat), (putL f i j l).length = l.length
 | [], _ => rfl
 | a :: r, j => by simp [putL, putL_length f i r]
theorem putL_get (f : Tm → Tm) (i : Int) : ∀ (l : List Tm) (j k : Nat) (h : k < l.length), (putL f i j l)[k]'(by rw [putL_length]; exact h) = if ((j + k : Nat) : Int) = i then f l[k] else l[k]
 | [], j, k, h => by simp at h
 | a :: r, j, 0, h => by simp [putL]
 | a :: r, j, k + 1, h => by
  have := putL_get f i r (j + 1) k (by simpa using h)
  simp only [putL, List.getElem_cons_succ, this]
  rw [show j + 1 + k = j + (k + 1) by omega]
theorem putL_take (f : Tm → Tm) (i : Int) (l : List Tm) (k : Nat) (h : k < l.length) : (putL f i 0 l).take (k + 1) = (putL f i 0 l).take k ++ [if (k : Int) = i then f l[k] else l[k]] := by
 rw [List.take_succ_eq_append_getElem (by rw [putL_length]; exact h), putL_get f i l 0 k h, Nat.zero_add]
theorem plcL_mem : ∀ (l : List Tm) (j : Nat) (p : List Int), p ∈ plcL j l → ∃ (k : Nat) (h : k < l.length) (p' : List Int), p = ((j + k : Nat) : Int) :: p' ∧ p' ∈ plcT l[k]
 | [], j, p, h => by simp [plcL] at h
 | t :: r, j, p, h => by
  rw [plcL_cons, List.mem_append, List.mem_map] at h
  rcases h with ⟨p', hp', rfl⟩ | h
  ·exact ⟨0, by simp, p', by simp, hp'⟩
  ·obtain ⟨k, hk, p', e, hp'⟩ := plcL_mem r (j + 1) p h
   exact ⟨k + 1, by simpa using hk, p', by rw [e]; congr 1; omega, by simpa using hp'⟩
theorem plc_at : ∀ (p : List Int) (t : Tm), p ∈ plcT t → ∃ y, atT t p = some y
 | [], t, _ => ⟨t, rfl⟩
 | i :: r, t, h => by
  unfold plcT at h
  rcases List.mem_cons.1 h with h | h
  ·cases h
  ·obtain ⟨k, hk, p', e, hp'⟩ := plcL_mem t.args 0 _ h
   simp at e
   obtain ⟨rfl, rfl⟩ := e
   obtain ⟨y, hy⟩ := plc_at r t.args[k] hp'
   refine ⟨y, ?_⟩
   rw [atT, dif_pos ⟨by omega, by simpa using hk⟩]
   simpa using hy
theorem atT_cons {t y : Tm} {i : Int} {r : List Int} (h : atT t (i :: r) = some y) : ∃ (k : Nat) (hk : k < t.args.length), i = (k : Int) ∧ atT t.args[k] r = some y := by
 rw [atT] at h
 split at h
 ·rename_i hc
  exact ⟨i.toNat, hc.2, by omega, h⟩
 ·cases h
theorem atT_mk {t y : Tm} {k : Nat} {r : List Int} (hk : k < t.args.length) (h : atT t.args[k] r = some y) : atT t ((k : Int) :: r) = some y := by
 rw [atT, dif_pos ⟨by omega, by simpa using hk⟩]
 simpa using h
theorem at_put (x : Tm) : ∀ (p : List Int) (t y : Tm), atT t p = some y → atT (putT x p t) p = some x
 | [], t, y, h => rfl
 | i :: r, t, y, h => by
  obtain ⟨k, hk, rfl, h2⟩ := atT_cons h
  have ih := at_put x r _ y h2
  rw [putT]
  refine atT_mk (by rw [putL_length]; exact hk) ?_
  rw [putL_get _ _ _ _ _ hk]
  simpa using ih
theorem putL_none (f : Tm → Tm) (i : Int) : ∀ (l : List Tm) (j : Nat), i < (j : Int) → putL f i j l = l
 | [], j, h => rfl
 | a :: r, j, h => by
  rw [putL, if_neg (by omega), putL_none f i r (j + 1) (by omega)]
def onN (l : List Bd) (s : ByteArray) (es0 bs : List Tm) : Tm :=
 match forT l s with
 | some x => if es0.isEmpty = true then x else ⟨s, bs⟩
 | none => ⟨s, bs⟩
def onL (l : List Bd) : List Tm → List Tm
 | [] => []
 | ⟨s, es0⟩ :: r => onN l s es0 (onL l es0) :: onL l r
def onT (l : List Bd) (t : Tm) : Tm := onN l t.name t.args (onL l t.args)
theorem onL_cons (l : List Bd) (t : Tm) (r : List Tm) : onL l (t :: r) = onT l t :: onL l r := by
 obtain ⟨s, es0⟩ := t
 simp only [onL, onT]
theorem onL_length (l : List Bd) : ∀ es0, (onL l es0).length = es0.length
 | [] => by simp [onL]
 | t :: r => by rw [onL_cons]; simp [onL_length l r]
theorem onL_append (l : List Bd) (b : List Tm) : ∀ a, onL l (a ++ b) = onL l a ++ onL l b
 | [] => by simp [onL]
 | t :: r => by rw [List.cons_append, onL_cons, onL_cons, onL_append l b r]; rfl
theorem onL_take (l : List Bd) (es0 : List Tm) (k : Nat) (h : k < es0.length) : onL l (es0.take (k + 1)) = onL l (es0.take k) ++ [onT l es0[k]] := by
 rw [List.take_succ_eq_append_getElem h, onL_append, onL_cons]
 simp [onL]
theorem onT_some {l : List Bd} {s : ByteArray} {x : Tm} (h : forT l s = some x) : onT l ⟨s, []⟩ = x := by simp [onT, onN, h]
theorem onT_deep {l : List Bd} {s : ByteArray} {es0 : List Tm} (h : es0 ≠ [] ∨ forT l s = none) : onT l ⟨s, es0⟩ = ⟨s, onL l es0⟩ := by
 unfold onT onN
 rcases h with h | h
 ·cases forT l s with
  | none => rfl
  | some x => simp [h]
 ·rw [h]
theorem onL_size_take (l : List Bd) (es0 : List Tm) (k : Nat) (h : k < es0.length) : sizeL (onL l (es0.take (k + 1))) = sizeL (onL l (es0.take k)) + sizeL [onT l es0[k]] := by rw [onL_take l es0 k h, sizeL_append]
theorem onL_size_le (l : List Bd) (es0 : List Tm) (k : Nat) : sizeL (onL l (es0.take k)) ≤ sizeL (onL l es0) := by
 have := sizeL_append (onL l (es0.take k)) (onL l (es0.drop k))
 rw [← onL_append, List.take_append_drop] at this
 omega
theorem inB_memR {x : ByteArray} {l : List ByteArray} (h : inB x l = true) : x ∈ l := by
 unfold inB at h
 rw [List.any_eq_true] at h
 obtain ⟨y, hy, e⟩ := h
 have e2 : y = x := bytes_inj (by simpa using e)
 rw [← e2]; exact hy
def ruleE (p : Pr) : Int := if twoE p.l p.r = 0 then (if varB p.l.name = true then 2 else if (varsP [] (preL [p.r])).all (fun n => inB n (varsP [] (preL [p.l]))) = true then 0 else 15) else twoE p.l p.r
def rmT (ls : List Pr) : Nat → Int
 | 0 => 0
 | k + 1 => if rmT ls k = 0 then (match ls[k]? with | some p => ruleE p | none => 0) else rmT ls k
def rulesE (ls : List Pr) : Int := if 40 < ls.length then 3 else rmT ls ls.length
theorem rmT_stays {ls : List Pr} {k : Nat} (h : rmT ls k ≠ 0) : ∀ n, k ≤ n → rmT ls n = rmT ls k
 | 0, hn => by
  have : k = 0 := by omega
  subst this; rfl
 | n + 1, hn => by
  by_cases e : k = n + 1
  ·subst e; rfl
  ·have ih := rmT_stays h n (by omega)
   rw [rmT, if_neg (by rw [ih]; exact h)]
   exact ih
theorem rmT_next {ls : List Pr} {k : Nat} (hk : k < ls.length) (h0 : rmT ls k = 0) : rmT ls (k + 1) = ruleE ls[k] := by rw [rmT, if_pos h0, List.getElem?_eq_getElem hk]
theorem rmT_err {ls : List Pr} {k : Nat} (hk : k < ls.length) (h40 : ¬ 40 < ls.length) (h0 : rmT ls k = 0) (hne : ruleE ls[k] ≠ 0) : rulesE ls = ruleE ls[k] := by
 unfold rulesE
 rw [if_neg h40]
 have h1 := rmT_next hk h0
 rw [← h1]
 exact rmT_stays (by rw [h1]; exact hne) _ (by omega)
theorem rulesE_len {ls : List Pr} (h : rulesE ls = 0) : ls.length ≤ 40 := by
 unfold rulesE at h
 split at h
 ·cases h
 ·omega
theorem rulesE_all {ls : List Pr} (h : rulesE ls = 0) : ∀ p ∈ ls, ruleE p = 0 := by
 intro p hp
 obtain ⟨k, hk, rfl⟩ := List.getElem_of_mem hp
 have hl := rulesE_len h
 unfold rulesE at h
 rw [if_neg (by omega)] at h
 have h0 : ∀ n, n ≤ ls.length → rmT ls n = 0 := fun n hn => by
  by_cases e : rmT ls n = 0
  ·exact e
  ·have := rmT_stays e _ hn
   rw [this] at h
   exact absurd h e
 have h1 := rmT_next hk (h0 k (by omega))
 rw [h0 (k + 1) (by omega)] at h1
 exact h1.symm
theorem ruleE_parts {p : Pr} (h : ruleE p = 0) : mayE p.l = 0 ∧ mayE p.r = 0 ∧ varB p.l.name = false ∧ ∀ n ∈ varsP [] (preL [p.r]), n ∈ varsP [] (preL [p.l]) := by
 unfold ruleE at h
 split at h
 ·rename_i h1
  split at h
  ·cases h
  ·rename_i h2
   split at h
   ·rename_i h3
    unfold twoE at h1
    split at h1
    ·rename_i h4
     refine ⟨h4, h1, by simpa using h2, fun n hn => ?_⟩
     exact inB_memR (List.all_eq_true.1 h3 n hn)
    ·rename_i h4; exact absurd h1 h4
   ·cases h
 ·rename_i h1; exact absurd h h1
theorem forT_ofR {l : List Bd} (ha : ApartB l) {d : Bd} (hd : d ∈ l) : forT l d.nm = some d.t := by
 induction l with
 | nil => cases hd
 | cons a r ih =>
  obtain ⟨h1, h2⟩ := List.pairwise_cons.1 ha
  rcases List.mem_cons.1 hd with rfl | hd
  ·simp [forT]
  ·rw [forT, if_neg (h1 d hd)]
   exact ih h2 hd
theorem onL_congr {a b : List Bd} (h : ∀ n, forT a n = forT b n) : ∀ l : List Tm, onL a l = onL b l := by
 intro l
 induction l using Tm.indL with
 | h0 => simp [onL]
 | h s l r ihl ihr =>
  rw [onL, onL, ihl, ihr]
  congr 1
  unfold onN
  rw [h s]
theorem onT_congr {a b : List Bd} (h : ∀ n, forT a n = forT b n) (t : Tm) : onT a t = onT b t := by
 unfold onT onN
 rw [h, onL_congr h]
theorem forT_permR {a b : List Bd} (hp : a.Perm b) (hb : ApartB b) (n : ByteArray) : forT a n = forT b n := by
 have key : ∀ {a b : List Bd} {x : Tm}, a.Perm b → ApartB b → forT a n = some x → forT b n = some x := fun {a b x} hp hb h => by
  have hm : ∀ {l : List Bd}, forT l n = some x → ∃ d ∈ l, d.nm = n ∧ d.t = x := fun {l} => by
   induction l with
   | nil => intro h; simp [forT] at h
   | cons d r ih =>
    intro h
    rw [forT] at h
    split at h
    ·rename_i e; exact ⟨d, by simp, e, by simpa using h⟩
    ·obtain ⟨d', h1, h2⟩ := ih h
     exact ⟨d', by simp [h1], h2⟩
  obtain ⟨d, hd, rfl, rfl⟩ := hm h
  exact forT_ofR hb (hp.mem_iff.1 hd)
 cases h1 : forT a n with
 | some x => exact (key hp hb h1).symm
 | none =>
  cases h2 : forT b n with
  | none => rfl
  | some x =>
   have ha : ApartB a := ApartB.perm hb hp
   rw [key hp.symm ha h2] at h1
   cases h1
def fitT (p : Pr) (x : Tm) : Option Tm := (mtT p.l x []).map fun h => onT h p.r
def stAt (rs : List Pr) (t : Tm) (p : List Int) : List Tm := match atT t p with
 | some x => rs.filterMap fun r => (fitT r x).map fun y => putT y p t
 | none => []
def stAll (rs : List Pr) (t : Tm) : List Tm := (plcT t).flatMap (stAt rs t)
def txtL : List Tm → List UInt8
 | [] => []
 | ⟨s, l⟩ :: r => s.data.toList ++ (if l.isEmpty = true then [] else 40 :: (txtL l ++ [41])) ++ (if r.isEmpty = true then [] else 44 :: txtL r)
def txtTo (s : ByteArray) (l : List Tm) (k : Nat) : List UInt8 := if k = 0 then s.data.toList else s.data.toList ++ 40 :: txtL (l.take k)
theorem txtL_one (s : ByteArray) (l : List Tm) : txtL [(⟨s, l⟩ : Tm)] = s.data.toList ++ (if l.isEmpty = true then [] else 40 :: (txtL l ++ [41])) := by simp [txtL]
theorem txtL_cons (t : Tm) (r : List Tm) (h : r ≠ []) : txtL (t :: r) = txtL [t] ++ 44 :: txtL r := by
 obtain ⟨s, l⟩ := t
 rw [txtL_one]
 have hr : (r.isEmpty = true) = False := by simpa using h
 simp only [txtL, hr, if_false]
theorem txtL_append (a b : List Tm) (ha : a ≠ []) (hb : b ≠ []) : txtL (a ++ b) = txtL a ++ 44 :: txtL b := by
 induction a with
 | nil => exact absurd rfl ha
 | cons t r ih =>
  by_cases hr : r = []
  ·subst hr; simpa using txtL_cons t b hb
  ·rw [List.cons_append, txtL_cons t (r ++ b) (by simp [hr]), ih hr, txtL_cons t r hr]
   simp
theorem txtTo_zero (s : ByteArray) (l : List Tm) (h : 0 < l.length) : txtTo s l (0 + 1) = txtTo s l 0 ++ ([40] : List UInt8) ++ txtL [l[0]'h] := by
 have h1 : l.take (0 + 1) = l.take 0 ++ [l[0]] := List.take_succ_eq_append_getElem h
 have h2 : l.take 1 = [l[0]] := by simpa using h1
 unfold txtTo
 rw [if_neg (by decide), if_pos rfl, h2]
 simp
theorem txtTo_succ (s : ByteArray) (l : List Tm) (k : Nat) (hk : 0 < k) (h : k < l.length) : txtTo s l (k + 1) = txtTo s l k ++ [44] ++ txtL [l[k]] := by
 have h1 : l.take k ≠ [] := by
  intro e
  have h3 := congrArg List.length e
  rw [List.length_take] at h3
  simp only [List.length_nil] at h3
  omega
 unfold txtTo
 rw [if_neg (by omega), if_neg (by omega), List.take_succ_eq_append_getElem h, txtL_append _ _ h1 (by simp)]
 simp
theorem txtTo_end (s : ByteArray) (l : List Tm) (h : l ≠ []) : txtL [(⟨s, l⟩ : Tm)] = txtTo s l l.length ++ [41] := by
 have hl : l.length ≠ 0 := by intro e; exact h (List.length_eq_zero_iff.1 e)
 rw [txtL_one, if_neg (by simpa using h)]
 simp [txtTo, hl]
theorem txt_nil (s : ByteArray) : txtL [(⟨s, []⟩ : Tm)] = s.data.toList := by simp [txtL]
theorem txtTo_len (s : ByteArray) (l : List Tm) (k : Nat) (hk : k ≤ l.length) : (txtTo s l k).length ≤ (txtL [(⟨s, l⟩ : Tm)]).length := by
 rw [txtL_one]
 unfold txtTo
 by_cases h0 : k = 0
 ·rw [if_pos h0]; simp
 ·rw [if_neg h0]
  have hl : l ≠ [] := by intro e; subst e; simp at hk; omega
  rw [if_neg (by simpa using hl)]
  by_cases hd : l.drop k = []
  ·have : l.take k = l := by have h2 := List.take_append_drop k l; rw [hd] at h2; simpa using h2
   rw [this]; simp
  ·have ht : l.take k ≠ [] := by
    intro e
    have h3 := congrArg List.length e
    rw [List.length_take] at h3
    simp only [List.length_nil] at h3
    have hlp := List.length_pos_iff.2 hl
    omega
   have h2 := txtL_append (l.take k) (l.drop k) ht hd
   rw [List.take_append_drop] at h2
   rw [h2]; simp only [List.length_append, List.length_cons]; omega
def tx8 (t : Tm) : ByteArray := ⟨(txtL [t]).toArray⟩
theorem inB_mem8 {x : ByteArray} {l : List ByteArray} : inB x l = true ↔ x ∈ l := by
 unfold inB
 rw [List.any_eq_true]
 constructor
 ·rintro ⟨y, hy, e⟩
  have e1 : y.toList = x.toList := eq_of_beq e
  have : y = x := by
   rw [ByteArray.toList_eq, ByteArray.toList_eq] at e1
   obtain ⟨⟨a⟩⟩ := y
   obtain ⟨⟨b⟩⟩ := x
   simpa using e1
  rw [← this]; exact hy
 ·intro h
  exact ⟨x, h, by simp⟩
def addK : List Tm → List Tm → Option (List Tm)
 | [], all => some all
 | y :: ys, all => if inB (tx8 y) (all.map tx8) = true then addK ys all else if all.length = 200 then none else addK ys (all ++ [y])
def rchG (rs : List Pr) : Nat → Nat → List Tm → Option (List Tm)
 | 0, _, all => some all
 | f + 1, i, all => if h : i < all.length then (match addK (stAll rs all[i]) all with
  | none => none
  | some a => rchG rs f (i + 1) a) else some all
theorem rchG_end {rs : List Pr} {f i : Nat} {all : List Tm} (h : ¬ i < all.length) : rchG rs f i all = some all := by
 cases f with
 | zero => rfl
 | succ f => rw [rchG, dif_neg h]
theorem rchG_next {rs : List Pr} {f i : Nat} {all a : List Tm} (h : i < all.length) (ha : addK (stAll rs all[i]) all = some a) : rchG rs (f + 1) i all = rchG rs f (i + 1) a := by
 rw [rchG, dif_pos h, ha]
theorem rchG_full {rs : List Pr} {f i : Nat} {all : List Tm} (h : i < all.length) (ha : addK (stAll rs all[i]) all = none) : rchG rs (f + 1) i all = none := by
 rw [rchG, dif_pos h, ha]
theorem addK_old {y : Tm} {ys all : List Tm} (h : tx8 y ∈ all.map tx8) : addK (y :: ys) all = addK ys all := by rw [addK, if_pos (inB_mem8.2 h)]
theorem addK_new {y : Tm} {ys all : List Tm} (h : tx8 y ∉ all.map tx8) (hl : all.length ≠ 200) : addK (y :: ys) all = addK ys (all ++ [y]) := by rw [addK, if_neg (fun e => h (inB_mem8.1 e)), if_neg hl]
theorem addK_full {y : Tm} {ys all : List Tm} (h : tx8 y ∉ all.map tx8) (hl : all.length = 200) : addK (y :: ys) all = none := by rw [addK, if_neg (fun e => h (inB_mem8.1 e)), if_pos hl]
def AscB (l : List ByteArray) : Prop := l.Pairwise fun a b => ltB a b = true
theorem asc_uniq {l k : List ByteArray} (h1 : AscB l) (h2 : AscB k) (h : ∀ s, s ∈ l ↔ s ∈ k) : l = k := by
 induction l generalizing k with
 | nil =>
  cases k with
  | nil => rfl
  | cons b k => exact absurd ((h b).2 (by simp)) (by simp)
 | cons a l ih =>
  cases k with
  | nil => exact absurd ((h a).1 (by simp)) (by simp)
  | cons b k =>
   obtain ⟨h3, h4⟩ := List.pairwise_cons.1 h1
   obtain ⟨h5, h6⟩ := List.pairwise_cons.1 h2
   have e : a = b := by
    rcases List.mem_cons.1 ((h a).1 (by simp)) with e | e
    ·exact e
    ·rcases List.mem_cons.1 ((h b).2 (by simp)) with e2 | e2
     ·exact e2.symm
     ·have := ltB_asymm (h5 a e)
      rw [h3 b e2] at this
      cases this
   subst e
   congr 1
   refine ih h4 h6 fun s => ⟨fun hs => ?_, fun hs => ?_⟩
   ·rcases List.mem_cons.1 ((h s).1 (by simp [hs])) with e | e
    ·subst e
     have := h3 s hs
     rw [ltB_irrefl] at this
     cases this
    ·exact e
   ·rcases List.mem_cons.1 ((h s).2 (by simp [hs])) with e | e
    ·subst e
     have := h5 s hs
     rw [ltB_irrefl] at this
     cases this
    ·exact e
theorem asc_ins {a b : List ByteArray} {x : ByteArray} (h : AscB (a ++ b)) (ha : ∀ y ∈ a, ltB y x = true) (hb : ∀ y ∈ b, ltB x y = true) : AscB (a ++ x :: b) := by
 obtain ⟨h1, h2, h3⟩ := List.pairwise_append.1 h
 refine List.pairwise_append.2 ⟨h1, List.pairwise_cons.2 ⟨hb, h2⟩, fun y hy z hz => ?_⟩
 rcases List.mem_cons.1 hz with rfl | hz
 ·exact ha y hy
 ·exact h3 y hy z hz
theorem asc_of_perm {l k : List ByteArray} (hp : k.Perm l) (hn : l.Nodup) (hs : k.Pairwise fun a b => ltB b a = false) : AscB k ∧ ∀ s, s ∈ k ↔ s ∈ l := by
 refine ⟨?_, fun s => hp.mem_iff⟩
 have hk : k.Nodup := hp.nodup_iff.2 hn
 clear hp hn
 induction k with
 | nil => exact List.Pairwise.nil
 | cons a k ih =>
  obtain ⟨h1, h2⟩ := List.pairwise_cons.1 hs
  obtain ⟨h3, h4⟩ := List.nodup_cons.1 hk
  refine List.pairwise_cons.2 ⟨fun b hb => ?_, ih h2 h4⟩
  cases h5 : ltB a b with
  | true => rfl
  | false => exact absurd (ltB_conn h5 (h1 b hb)) fun e => h3 (e ▸ hb)
theorem addK_facts {P : Tm → Prop} : ∀ (ys all a : List Tm), addK ys all = some a → (all.map tx8).Nodup → all.length ≤ 200 → (∀ x ∈ all, P x) → (∀ y ∈ ys, P y) → (a.map tx8).Nodup ∧ a.length ≤ 200 ∧ (∀ x ∈ a, P x) ∧ all.length ≤ a.length
 | [], all, a, h, h1, h2, h3, _ => by
  simp only [addK, Option.some.injEq] at h
  subst h
  exact ⟨h1, h2, h3, Nat.le_refl _⟩
 | y :: ys, all, a, h, h1, h2, h3, h4 => by
  rw [addK] at h
  split at h
  ·exact addK_facts ys all a h h1 h2 h3 fun z hz => h4 z (by simp [hz])
  ·rename_i hn
   split at h
   ·cases h
   ·rename_i hl
    have := addK_facts ys (all ++ [y]) a h (by
     rw [List.map_append, List.nodup_append]
     refine ⟨h1, by simp, fun s hs u hu e => ?_⟩
     simp at hu
     subst e hu
     exact hn (inB_mem8.2 hs)) (by simp; omega) (fun x hx => by
     rcases List.mem_append.1 hx with hx | hx
     ·exact h3 x hx
     ·simp at hx; subst hx; exact h4 _ (by simp)) fun z hz => h4 z (by simp [hz])
    refine ⟨this.1, this.2.1, this.2.2.1, ?_⟩
    have := this.2.2.2
    simp at this
    omega
structure Ex (B : Nat) (w w' : World) : Prop where
 os : w'.os = w.os
 tape : w'.tape = w.tape
 output : w'.output = w.output
 size : w.heap.size ≤ w'.heap.size
 block : ∀ k, k < w.heap.size → k ≠ B → w'.heap[k]? = w.heap[k]?
theorem Ex.refl (B : Nat) (w : World) : Ex B w w := ⟨rfl, rfl, rfl, Nat.le_refl _, fun _ _ _ => rfl⟩
theorem Ex.trans {B : Nat} {a b c : World} (h : Ex B a b) (k : Ex B b c) : Ex B a c :=
 ⟨k.os.trans h.os, k.tape.trans h.tape, k.output.trans h.output, Nat.le_trans h.size k.size, fun i hi hn => (k.block i (Nat.lt_of_lt_of_le hi h.size) hn).trans (h.block i hi hn)⟩
theorem Ex.drewN {B : Nat} {a w : World} (h : Ex B a w) (n : Nat) : Ex B a (w.drewN n) := ⟨h.os, h.tape, h.output, h.size, h.block⟩
theorem Ex.drew {B : Nat} {a w : World} (h : Ex B a w) : Ex B a w.drew := ⟨h.os, h.tape, h.output, h.size, h.block⟩
theorem Ex.set {B : Nat} {a w : World} (h : Ex B a w) (i : Nat) (v : Value) : Ex B a (w.setCell ⟨B, i, none⟩ v) :=
 ⟨h.os, h.tape, h.output, by simpa [World.setCell] using h.size, fun k hk hn => (Below.heap_setCell _ _ _ _ (by simpa using hn)).trans (h.block k hk hn)⟩
theorem Ex.alloc {B : Nat} {a w : World} (h : Ex B a w) (o : Obj) : Ex B a (w.alloc o) :=
 ⟨h.os, h.tape, h.output, by have := h.size; simp; omega, fun k hk hn => (Below.heap_alloc _ _ _ (Nat.lt_of_lt_of_le hk h.size)).trans (h.block k hk hn)⟩
theorem Blk.ex {w w' : World} {B b T : Nat} {cs : Array Value} (h : Blk w b cs T) (he : Ex B w w') (hne : b ≠ B) : Blk w' b cs T := by
 unfold Blk at *
 rw [he.block b (Blk.lt h) hne]; exact h
theorem Ex.mid {B : Nat} {w w1 : World} (h : Ex B w w1) : ∃ wm, Below wm.heap.size wm w1 ∧ wm.heap.size = w.heap.size ∧ Ex B w wm := by
 by_cases hB : B < w.heap.size
 ·have hB1 : B < w1.heap.size := Nat.lt_of_lt_of_le hB h.size
  refine ⟨{ w with heap := w.heap.setIfInBounds B w1.heap[B] }, ⟨h.os, h.tape, h.output, by simpa using h.size, fun k hk => ?_⟩, by simp, ⟨rfl, rfl, rfl, by simp, fun k hk hn => ?_⟩⟩
  ·simp at hk
   by_cases e : k = B
   ·subst e
    simp [Array.getElem?_setIfInBounds, hB, hB1]
   ·rw [h.block k hk e]
    simp [Array.getElem?_setIfInBounds, Ne.symm e]
  ·simp [Array.getElem?_setIfInBounds, Ne.symm hn]
 ·exact ⟨w, ⟨h.os, h.tape, h.output, h.size, fun k hk => h.block k hk (by omega)⟩, rfl, Ex.refl _ _⟩
theorem Row.ex {w w' : World} {B N T : Nat} {Y : Nat → Prop} {v : Value} {l : List Tm} {xs : List Value} (h : Row w N T Y v l xs) (he : Ex B w w') (hB : B < N) (hY : ¬ Y B) : Row w' N T Y v l xs :=
 ⟨h.own.kept (w' := w') (row := some B) ⟨he.os, he.tape, he.output, he.size, fun j hj hn => he.block j hj (fun e => hn (by rw [e]))⟩ (Or.inr (fun e => by have := (h.own.lt B e).1; omega)),
  h.row.imp fun a l hs => ((hs.mono (Y := fun b => (Y b ∨ (N ≤ b ∧ some b ≠ v.ownBlock)) ∧ b < w.heap.size) fun b h1 h2 => ⟨h1, h2⟩).kept fun b hb => he.block b hb.2 (fun e => by
   rcases hb.1 with h1 | h1
   ·rw [e] at h1; exact hY h1
   ·omega)).mono fun b hb _ => hb.1⟩
theorem Ex.grown {B : Nat} {a w w' : World} {row : Option Nat} (h : Ex B a w) (hg : w.grownBy w' row) (hr : ∀ k, row = some k → a.heap.size ≤ k) : Ex B a w' :=
 ⟨hg.os.trans h.os, hg.tape.trans h.tape, hg.output.trans h.output, Nat.le_trans h.size hg.size, fun k hk hn => (hg.block k (Nat.lt_of_lt_of_le hk h.size) (fun e => by have := hr k e.symm; omega)).trans (h.block k hk hn)⟩
theorem Ex.setNew {B : Nat} {a w : World} (h : Ex B a w) {b : Nat} (hb : a.heap.size ≤ b) (i : Nat) (v : Value) : Ex B a (w.setCell ⟨b, i, none⟩ v) :=
 ⟨h.os, h.tape, h.output, by simpa [World.setCell] using h.size, fun k hk hn => (Below.heap_setCell _ _ _ _ (by simp; omega)).trans (h.block k hk hn)⟩
structure ExQ (Q : Nat → Prop) (w w' : World) : Prop where
 os : w'.os = w.os
 tape : w'.tape = w.tape
 output : w'.output = w.output
 size : w.heap.size ≤ w'.heap.size
 block : ∀ k, k < w.heap.size → ¬ Q k → w'.heap[k]? = w.heap[k]?
theorem ExQ.refl (Q : Nat → Prop) (w : World) : ExQ Q w w := ⟨rfl, rfl, rfl, Nat.le_refl _, fun _ _ _ => rfl⟩
theorem ExQ.trans {Q : Nat → Prop} {a b c : World} (h : ExQ Q a b) (k : ExQ Q b c) : ExQ Q a c :=
 ⟨k.os.trans h.os, k.tape.trans h.tape, k.output.trans h.output, Nat.le_trans h.size k.size, fun i hi hn => (k.block i (Nat.lt_of_lt_of_le hi h.size) hn).trans (h.block i hi hn)⟩
theorem ExQ.transN {Q R : Nat → Prop} {a b c : World} (h : ExQ Q a b) (k : ExQ R b c) (hR : ∀ i, R i → i < a.heap.size → Q i) : ExQ Q a c :=
 ⟨k.os.trans h.os, k.tape.trans h.tape, k.output.trans h.output, Nat.le_trans h.size k.size, fun i hi hn => (k.block i (Nat.lt_of_lt_of_le hi h.size) (fun hr => hn (hR i hr hi))).trans (h.block i hi hn)⟩
theorem ExQ.mono {Q R : Nat → Prop} {a b : World} (h : ExQ Q a b) (hR : ∀ i, Q i → i < a.heap.size → R i) : ExQ R a b := ⟨h.os, h.tape, h.output, h.size, fun i hi hn => h.block i hi (fun hq => hn (hR i hq hi))⟩
theorem ExQ.drewN {Q : Nat → Prop} {a w : World} (h : ExQ Q a w) (n : Nat) : ExQ Q a (w.drewN n) := ⟨h.os, h.tape, h.output, h.size, h.block⟩
theorem ExQ.drew {Q : Nat → Prop} {a w : World} (h : ExQ Q a w) : ExQ Q a w.drew := ⟨h.os, h.tape, h.output, h.size, h.block⟩
theorem ExQ.set {Q : Nat → Prop} {a w : World} (h : ExQ Q a w) {B : Nat} (hB : Q B) (i : Nat) (v : Value) : ExQ Q a (w.setCell ⟨B, i, none⟩ v) :=
 ⟨h.os, h.tape, h.output, by simpa [World.setCell] using h.size, fun k hk hn => (Below.heap_setCell _ _ _ _ (by simp; intro e; subst e; exact hn hB)).trans (h.block k hk hn)⟩
theorem ExQ.alloc {Q : Nat → Prop} {a w : World} (h : ExQ Q a w) (o : Obj) : ExQ Q a (w.alloc o) :=
 ⟨h.os, h.tape, h.output, by have := h.size; simp; omega, fun k hk hn => (Below.heap_alloc _ _ _ (Nat.lt_of_lt_of_le hk h.size)).trans (h.block k hk hn)⟩
theorem ExQ.grown {Q : Nat → Prop} {a w w' : World} {row : Option Nat} (h : ExQ Q a w) (hg : w.grownBy w' row) (hr : ∀ k, row = some k → a.heap.size ≤ k ∨ Q k) : ExQ Q a w' :=
 ⟨hg.os.trans h.os, hg.tape.trans h.tape, hg.output.trans h.output, Nat.le_trans h.size hg.size, fun k hk hn => (hg.block k (Nat.lt_of_lt_of_le hk h.size) (fun e => by rcases hr k e.symm with h1 | h1; omega; exact hn h1)).trans (h.block k hk hn)⟩
theorem ExQ.setNew {Q : Nat → Prop} {a w : World} (h : ExQ Q a w) {b : Nat} (hb : a.heap.size ≤ b) (i : Nat) (v : Value) : ExQ Q a (w.setCell ⟨b, i, none⟩ v) :=
 ⟨h.os, h.tape, h.output, by simpa [World.setCell] using h.size, fun k hk hn => (Below.heap_setCell _ _ _ _ (by simp; omega)).trans (h.block k hk hn)⟩
theorem ExQ.ofBelow {Q : Nat → Prop} {w w' : World} (h : Below w.heap.size w w') : ExQ Q w w' := ⟨h.os, h.tape, h.output, h.size, fun k hk _ => h.block k hk⟩
theorem ExQ.below {Q : Nat → Prop} {w w' : World} {B : Nat} (h : ExQ Q w w') (hB : B ≤ w.heap.size) (hQ : ∀ b, Q b → B ≤ b) : Below B w w' :=
 ⟨h.os, h.tape, h.output, h.size, fun k hk => h.block k (by omega) (fun hq => by have := hQ k hq; omega)⟩
theorem Blk.exq {w w' : World} {Q : Nat → Prop} {b T : Nat} {cs : Array Value} (h : Blk w b cs T) (he : ExQ Q w w') (hne : ¬ Q b) : Blk w' b cs T := by
 unfold Blk at *
 rw [he.block b (Blk.lt h) hne]; exact h
theorem Sl.exq {w w' : World} {Q X : Nat → Prop} {a : Option Addr} {l : List Tm} (h : Sl w X a l) (he : ExQ Q w w') (hX : ∀ b, X b → ¬ Q b) : Sl w' X a l :=
 ((h.mono (Y := fun b => X b ∧ b < w.heap.size) fun b h1 h2 => ⟨h1, h2⟩).kept fun b hb => he.block b hb.2 (hX b hb.1)).mono fun b hb _ => hb.1
theorem ExQ.mid {Q : Nat → Prop} {w w1 : World} (h : ExQ Q w w1) : ∃ wm, Below wm.heap.size wm w1 ∧ wm.heap.size = w.heap.size ∧ ExQ Q w wm := by
 have hs := h.size
 have hz : (w1.heap.extract 0 w.heap.size).size = w.heap.size := by simp; omega
 refine ⟨{ w1 with heap := w1.heap.extract 0 w.heap.size }, ⟨rfl, rfl, rfl, by simp; omega, fun k hk => ?_⟩, hz, ⟨h.os, h.tape, h.output, by simp [hz], fun k hk hn => ?_⟩⟩
 ·have hk2 : k < w.heap.size := by simp at hk; omega
  simp [Array.getElem?_extract, hk2]
  omega
 ·rw [← h.block k hk hn]
  simp [Array.getElem?_extract, hk]
  omega
theorem ownsRow_at {w w' : World} {base e size n : Nat} {v : Value} {xs : List Value} (h : w.ownsRow base e size v n xs) (hk : ∀ g, v.ownBlock = some g → w'.heap[g]? = w.heap[g]?) : w'.ownsRow base e size v n xs := by
 obtain ⟨hl, h1⟩ := h
 refine ⟨hl, ?_⟩
 rcases h1 with h1 | ⟨g, cap, cur, hv, hg, hh, hr⟩
 ·exact Or.inl h1
 ·refine Or.inr ⟨g, cap, cur, hv, hg, ?_, hr⟩
  rw [hk g (by rw [hv]; rfl)]
  exact hh
theorem Row.exq {w w' : World} {Q : Nat → Prop} {N T : Nat} {Y : Nat → Prop} {v : Value} {l : List Tm} {xs : List Value} (h : Row w N T Y v l xs) (he : ExQ Q w w') (hQ : ∀ b, Q b → b < N) (hY : ∀ b, Q b → ¬ Y b) : Row w' N T Y v l xs :=
 ⟨ownsRow_at h.own fun g hg => he.block g (h.own.lt g hg).2 (fun hq => by have := hQ g hq; have := (h.own.lt g hg).1; omega),
  h.row.imp fun a l hs => hs.exq he fun b hb hq => by
   rcases hb with h1 | h1
   ·exact hY b hq h1
   ·have := hQ b hq; omega⟩
theorem BRow.exq {w w' : World} {Q : Nat → Prop} {N : Nat} {Y : Nat → Prop} {v : Value} {cs : List Bc} (h : BRow w N Y v cs) (he : ExQ Q w w') (hQ : ∀ b, Q b → b < N) (hY : ∀ b, Q b → ¬ Y b) : BRow w' N Y v cs :=
 ⟨ownsRow_at h.own fun g hg => he.block g (h.own.lt g hg).2 (fun hq => by have := hQ g hq; have := (h.own.lt g hg).1; omega),
  fun x hx => (h.row x hx).exq he fun b hb hq => by
   rcases hb with h1 | h1
   ·exact hY b hq h1
   ·have := hQ b hq; omega⟩
def mapGet : List (ByteArray × Value) → ByteArray → Option Value
 | [], _ => none
 | p :: r, n => if p.1 = n then some p.2 else mapGet r n
def Stamps (es : Array MapEntry) (clk : Nat) : Prop := (∀ x ∈ es.toList, x.born < clk) ∧ (es.toList.map (·.born)).Nodup
def MapAt (w : World) (r : Nat) (L : List (ByteArray × Value)) : Prop :=
 ∃ es clk, w.heap[r]? = some (.map es clk) ∧ es.toList.map (fun e => (e.key, e.val)) = L.map (fun p => (Value.string p.1, p.2)) ∧ Stamps es clk
theorem Stamps.push {es : Array MapEntry} {clk : Nat} (h : Stamps es clk) (k v : Value) : Stamps (es.push { key := k, val := v, born := clk }) (clk + 1) := by
 obtain ⟨h1, h2⟩ := h
 refine ⟨fun x hx => ?_, ?_⟩
 ·rw [Array.toList_push, List.mem_append] at hx
  rcases hx with hx | hx
  ·have := h1 x hx; omega
  ·have e : x = { key := k, val := v, born := clk } := by simpa using hx
   subst e; exact Nat.lt_succ_self _
 ·rw [Array.toList_push, List.map_append, List.nodup_append]
  refine ⟨h2, by simp, fun a ha b hb => ?_⟩
  obtain ⟨x, hx, rfl⟩ := List.mem_map.1 ha
  have := h1 x hx
  have e : b = clk := by simpa using hb
  omega
theorem MapAt.new (w : World) : MapAt (w.alloc (.map #[] 0)) w.heap.size [] := ⟨#[], 0, heap_alloc_new w _, rfl, by simp [Stamps]⟩
theorem MapAt.lt {w : World} {r : Nat} {L : List (ByteArray × Value)} (h : MapAt w r L) : r < w.heap.size := by
 obtain ⟨es, clk, h, _⟩ := h
 exact (Array.getElem?_eq_some_iff.1 h).1
theorem MapAt.kept {w w' : World} {r : Nat} {L : List (ByteArray × Value)} (h : MapAt w r L) (hk : w'.heap[r]? = w.heap[r]?) : MapAt w' r L := by
 obtain ⟨es, clk, h1, h2⟩ := h
 exact ⟨es, clk, hk.trans h1, h2⟩
theorem MapAt.below {w w' : World} {r B : Nat} {L : List (ByteArray × Value)} (h : MapAt w r L) (hb : Below B w w') (hB : r < B) : MapAt w' r L := h.kept (hb.block r hB)
theorem findNow_map (n : ByteArray) : ∀ (l : List MapEntry) (L : List (ByteArray × Value)) (i : Nat), l.map (fun e => (e.key, e.val)) = L.map (fun p => (Value.string p.1, p.2)) →
  (mapGet L n = none → Instr.findNow .string (.string n) l i = some none) ∧ (∀ v, mapGet L n = some v → ∃ j, Instr.findNow .string (.string n) l i = some (some (j, v)))
 | [], [], i, h => ⟨fun _ => rfl, fun v h => by simp [mapGet] at h⟩
 | [], p :: L, i, h => by simp at h
 | e :: l, [], i, h => by simp at h
 | e :: l, p :: L, i, h => by
  simp only [List.map_cons, List.cons.injEq, Prod.mk.injEq] at h
  obtain ⟨⟨hk, hv⟩, ht⟩ := h
  obtain ⟨ih1, ih2⟩ := findNow_map n l L (i + 1) ht
  by_cases hn : p.1 = n
  ·have hs : Instr.sameNow .string (.string n) e.key = some true := by
    rw [hk, hn]
    show some (n == n) = some true
    rw [show (n == n) = true from (MapKept.bytes_beq _ _).2 rfl]
   refine ⟨fun h => by simp [mapGet, hn] at h, fun v h => ⟨i, ?_⟩⟩
   simp only [mapGet, hn, if_true, Option.some.injEq] at h
   simp [Instr.findNow, hs, hv, h]
  ·have hs : Instr.sameNow .string (.string n) e.key = some false := by
    rw [hk]
    show some (n == p.1) = some false
    have hb : (n == p.1) = false := by
     cases hh : (n == p.1) with
     | false => rfl
     | true => exact absurd ((MapKept.bytes_beq _ _).1 hh).symm hn
    rw [hb]
   refine ⟨fun h => ?_, fun v h => ?_⟩
   ·rw [mapGet, if_neg hn] at h
    simp [Instr.findNow, hs, ih1 h]
   ·rw [mapGet, if_neg hn] at h
    obtain ⟨j, hj⟩ := ih2 v h
    exact ⟨j, by simp [Instr.findNow, hs, hj]⟩
theorem run_look {P : Program} {w : World} {T kt et : TypeId} {r : Nat} {L : List (ByteArray × Value)} {z : Value} (hm : P.underlying T = some (.map kt et)) (hk : P.underlying kt = some .string) (hz : (zeroValue et).run P w = .ok z w) (h : MapAt w r L) (n : ByteArray) :
  (Instr.lookup T (.map (some r)) (.string n) true).run P w = .ok (.tuple #[(mapGet L n).getD z, .bool (mapGet L n).isSome]) w := by
 obtain ⟨es, clk, hb, he, hst⟩ := h
 obtain ⟨h1, h2⟩ := findNow_map n es.toList L 0 he
 have hc : ∀ b, (Instr.checkKey b 10000 kt (.string n)).run P w = .ok () w := fun b => MapKept.run_checkKey (k := .string n) hk (by simp [MapKept.IsKey]) b 9999
 cases hg : mapGet L n with
 | none => simp [Instr.lookup, run_underlying hm, MapKept.run_getObj_map hb, hc, MapKept.run_findKey hk (h1 hg), Result.andThen, hz]
 | some v =>
  obtain ⟨j, hj⟩ := h2 v hg
  simp [Instr.lookup, run_underlying hm, MapKept.run_getObj_map hb, hc, MapKept.run_findKey hk hj, Result.andThen]
theorem run_put {P : Program} {w : World} {T kt et : TypeId} {r : Nat} {L : List (ByteArray × Value)} (hm : P.underlying T = some (.map kt et)) (hk : P.underlying kt = some .string) (h : MapAt w r L) (n : ByteArray) (v : Value) (hn : mapGet L n = none) :
  ∃ w', (Instr.mapUpdate T (.map (some r)) (.string n) v).run P w = .ok () w' ∧ MapAt w' r (L ++ [(n, v)]) ∧ w'.heap.size = w.heap.size ∧ w'.os = w.os ∧ w'.tape = w.tape ∧ w'.output = w.output ∧ (∀ b, b ≠ r → w'.heap[b]? = w.heap[b]?) := by
 obtain ⟨es, clk, hb, he, hst⟩ := h
 obtain ⟨h1, h2⟩ := findNow_map n es.toList L 0 he
 have hc : (Instr.checkKey false 10000 kt (.string n)).run P w = .ok () w := MapKept.run_checkKey (k := .string n) hk (by simp [MapKept.IsKey]) false 9999
 have hlt : r < w.heap.size := (Array.getElem?_eq_some_iff.1 hb).1
 refine ⟨{ w with heap := w.heap.setIfInBounds r (.map (es.push { key := .string n, val := v, born := clk }) (clk + 1)) }, ?_, ⟨_, _, (MapKept.heap_set hb).1, by simp [he], hst.push _ _⟩, by simp, rfl, rfl, rfl, fun b hne => (MapKept.heap_set hb).2 b hne⟩
 simp [Instr.mapUpdate, run_underlying hm, MapKept.run_getObj_map hb, hc, MapKept.run_findKey hk (h1 hn), MapKept.run_setObj_map _ hb, Result.andThen]
theorem run_look1 {P : Program} {w : World} {T kt et : TypeId} {r : Nat} {L : List (ByteArray × Value)} {z : Value} (hm : P.underlying T = some (.map kt et)) (hk : P.underlying kt = some .string) (hz : (zeroValue et).run P w = .ok z w) (h : MapAt w r L) (n : ByteArray) :
  (Instr.lookup T (.map (some r)) (.string n) false).run P w = .ok ((mapGet L n).getD z) w := by
 obtain ⟨es, clk, hb, he, hstm⟩ := h
 obtain ⟨h1, h2⟩ := findNow_map n es.toList L 0 he
 have hc : ∀ b, (Instr.checkKey b 10000 kt (.string n)).run P w = .ok () w := fun b => MapKept.run_checkKey (k := .string n) hk (by simp [MapKept.IsKey]) b 9999
 cases hg : mapGet L n with
 | none => simp [Instr.lookup, run_underlying hm, MapKept.run_getObj_map hb, hc, MapKept.run_findKey hk (h1 hg), Result.andThen, hz]
 | some v =>
  obtain ⟨j, hj⟩ := h2 v hg
  simp [Instr.lookup, run_underlying hm, MapKept.run_getObj_map hb, hc, MapKept.run_findKey hk hj, Result.andThen]
theorem addH (b i : Nat) : (⟨b, 0, none⟩ : Addr).add i = ⟨b, i, none⟩ := by by_cases h0 : i = 0 <;> simp [Addr.add, h0]
structure RowH (w : World) (N : Nat) (Z : Nat → Prop) (v : Value) (l : List Tm) (xs : List Value) : Prop where
 own : w.ownsRow N 27 2 v l.length xs
 row : RowT w Z l xs
theorem RowH.mono {w : World} {N : Nat} {Z Z' : Nat → Prop} {v : Value} {l : List Tm} {xs : List Value} (h : RowH w N Z v l xs) (hZ : ∀ b, Z b → b < w.heap.size → Z' b) : RowH w N Z' v l xs :=
 ⟨h.own, h.row.imp fun a l hs => hs.mono hZ⟩
theorem RowH.exq {w w' : World} {N : Nat} {Q Z : Nat → Prop} {v : Value} {l : List Tm} {xs : List Value} (h : RowH w N Z v l xs) (he : ExQ Q w w') (hv : ∀ b, v.ownBlock = some b → ¬ Q b) (hZ : ∀ b, Z b → ¬ Q b) : RowH w' N Z v l xs :=
 ⟨ownsRow_at h.own fun g hg => he.block g (h.own.lt g hg).2 (hv g hg), h.row.imp fun a l hs => hs.exq he hZ⟩
theorem RowH.below {w w' : World} {N : Nat} {Z : Nat → Prop} {v : Value} {l : List Tm} {xs : List Value} (h : RowH w N Z v l xs) (hb : Below w.heap.size w w') : RowH w' N Z v l xs :=
 ⟨ownsRow_at h.own fun g hg => hb.block g (h.own.lt g hg).2, h.row.imp fun a l hs => hs.later hb⟩
theorem own_shape {w : World} {N T z n : Nat} {v : Value} {xs : List Value} (h : w.ownsRow N T z v n xs) : ∃ a c, v = .slice a n c := by
 rcases h.2 with ⟨h1, h0⟩ | ⟨g, cap, cur, h1, _⟩
 ·exact ⟨none, 0, by rw [h1, h0]⟩
 ·exact ⟨_, _, h1⟩
theorem rowH_at {w : World} {N : Nat} {Z : Nat → Prop} {v : Value} {l : List Tm} {xs : List Value} (h : RowH w N Z v l xs) {i : Nat} (hi : i < l.length) : ∃ g cap ax cx, v = .slice (some ⟨g, 0, none⟩) l.length cap ∧ w.cell? ⟨g, i * 2, none⟩ = some (.string l[i].name) ∧ w.cell? ⟨g, i * 2 + 1, none⟩ = some (.slice ax l[i].args.length cx) ∧ Sl w Z ax l[i].args ∧ g < w.heap.size := by
 rcases h.own.2 with ⟨h1, h0⟩ | ⟨g, cap, cur, h1, _⟩
 ·omega
 ·have hc := h.own.cells (g := g) (by rw [h1]; rfl)
  have hl := (h.own.lt g (by rw [h1]; rfl)).2
  obtain ⟨x0, ax, cx, x1, hs⟩ := h.row.get i hi
  exact ⟨g, cap, ax, cx, h1, by have := hc _ _ x0; rw [addH] at this; exact this, by have := hc _ _ x1; rw [addH] at this; exact this, hs, hl⟩
theorem cell_termH (w : World) (s : ByteArray) (u : Value) (T : Nat) : ∀ j v, [Value.string s, u][j]? = some v → (w.alloc (.cells #[.string s, u] T)).cell? ((⟨w.heap.size, 0, none⟩ : Addr).add j) = some v :=
 World.news_of_block (cs := #[.string s, u]) (heap_alloc_new w _)
theorem app_termH {w : World} {N : Nat} {Z : Nat → Prop} {u : Value} {L : List Tm} {xs : List Value} {z : Tm} {a1 : Option Addr} {c : Nat} (h : RowH w N Z u L xs) (hN : N ≤ w.heap.size) (hZ : ∀ b, Z b → some b ≠ u.ownBlock) (hl : L.length ≤ 1000000) (hz : Sl w Z a1 z.args) :
  ∃ g cap w3, (Builtin.append_ #[25, 25] 25 #[u, .slice (some ⟨w.heap.size, 0, none⟩) 1 1]).run Tryz.prog (w.alloc (.cells #[.string z.name, .slice a1 z.args.length c] 27)) = .ok (.slice (some ⟨g, 0, none⟩) (L.length + 1) cap) w3 ∧
   RowH w3 N (fun b => Z b ∧ b ≠ g) (.slice (some ⟨g, 0, none⟩) (L.length + 1) cap) (L ++ [z]) (xs ++ [.string z.name, .slice a1 z.args.length c]) ∧ ExQ (fun b => some b = u.ownBlock) w w3 ∧ (u.ownBlock = some g ∨ g = w.heap.size + 1) := by
 obtain ⟨i0, hi, hz0, hz1, hz2⟩ := info_parts Tryz.infoTerm
 obtain ⟨g, cap, w3, hr, ho, hg, hat, _⟩ := run_append_lies (P := Tryz.prog) (w := w.alloc (.cells #[.string z.name, .slice a1 z.args.length c] 27)) 25 25 N 27 i0 _ 2 40 Tryz.underlying25 hi hz0 hz1 hz2 rfl (by decide) u L.length xs (h.own.alloc _) ⟨w.heap.size, 0, none⟩ 1 1 [.string z.name, .slice a1 z.args.length c] rfl (cell_termH _ _ _ _) (fun x hx => by simp at hx; rcases hx with rfl | rfl <;> rfl) (by decide) (by unfold maxLen; omega) (by omega) (by simp; omega) _ rfl
 have he : ExQ (fun b => some b = u.ownBlock) w w3 := ((ExQ.refl _ w).alloc _).grown hg (fun k hk => Or.inr hk.symm)
 have hold : ∀ (a : Option Addr) (l : List Tm), Sl w Z a l → Sl w3 (fun b => Z b ∧ b ≠ g) a l := fun a l hs =>
  ((hs.mono (Y := fun b => Z b ∧ b < w.heap.size) fun b h1 h2 => ⟨h1, h2⟩).exq he (fun b hb e => hZ b hb.1 e)).mono fun b hb _ => ⟨hb.1, fun e => by
   subst e
   rcases hat with e' | e'
   ·exact hZ b hb.1 e'.symm
   ·simp at e'; omega⟩
 refine ⟨g, cap, w3, hr, ⟨by simpa using ho, RowT.append (h.row.imp hold) ⟨a1, c, [], rfl, hold _ _ hz, rfl⟩⟩, he, by simpa using hat⟩
theorem app_strH {w : World} {N : Nat} {v : Value} {l : List ByteArray} {s : ByteArray} (h : w.ownsRow N 9 1 v l.length (l.map Value.string)) (hN : N ≤ w.heap.size) (hl : l.length ≤ 100000) :
  ∃ g cap w3, (Builtin.append_ #[34, 34] 34 #[v, .slice (some ⟨w.heap.size, 0, none⟩) 1 1]).run Tryz.prog (w.alloc (.cells #[.string s] 9)) = .ok (.slice (some ⟨g, 0, none⟩) (l.length + 1) cap) w3 ∧ w3.ownsRow N 9 1 (.slice (some ⟨g, 0, none⟩) (l.length + 1) cap) (l ++ [s]).length ((l ++ [s]).map Value.string) ∧ ExQ (fun b => some b = v.ownBlock) w w3 ∧ (v.ownBlock = some g ∨ g = w.heap.size + 1) := by
 obtain ⟨i0, hi, hz0, hz1, hz2⟩ := info_parts Tryz.infoStr
 obtain ⟨g, cap, w3, hr, ho, hg, hat, _⟩ := run_append_lies (P := Tryz.prog) (w := w.alloc (.cells #[.string s] 9)) 34 34 N 9 i0 _ 1 16 Tryz.underlying34 hi hz0 hz1 hz2 rfl (by decide) v l.length (l.map Value.string) (h.alloc _) ⟨w.heap.size, 0, none⟩ 1 1 [.string s] rfl (World.news_of_block (cs := #[.string s]) (heap_alloc_new w _)) (fun x hx => by simp at hx; subst hx; rfl) (by decide) (by unfold maxLen; omega) (by omega) (by simp; omega) _ rfl
 exact ⟨g, cap, w3, hr, by simpa using ho, ((ExQ.refl _ w).alloc _).grown hg (fun k hk => Or.inr hk.symm), by simpa using hat⟩
def Zr (ov ev : Value) (M b : Nat) : Prop := some b ≠ ov.ownBlock ∧ some b ≠ ev.ownBlock ∧ b ≠ M
structure RcW (D : Value → Prop) (wN : World) (M : Nat) (all : List Tm) (tx ks : List ByteArray) (ov ev : Value) (wr : World) : Prop where
 ex : ∃ xs, RowH wr wN.heap.size (Zr ov ev M) ov all xs
 es : wr.ownsRow wN.heap.size 9 1 ev tx.length (tx.map Value.string)
 mp : ∃ L, MapAt wr M L ∧ L.map (·.1) = ks ∧ ∀ p ∈ L, D p.2
 ne : ∀ b, ov.ownBlock = some b → ev.ownBlock ≠ some b
 nm : ov.ownBlock ≠ some M ∧ ev.ownBlock ≠ some M
 hM : wN.heap.size ≤ M
 bl : Below wN.heap.size wN wr
theorem RcW.later {D : Value → Prop} {wN : World} {M : Nat} {all : List Tm} {tx ks : List ByteArray} {ov ev : Value} {wr w' : World} (h : RcW D wN M all tx ks ov ev wr) (hb : Below wr.heap.size wr w') : RcW D wN M all tx ks ov ev w' := by
 obtain ⟨xs, h1⟩ := h.ex
 obtain ⟨L, h2, h3, h4⟩ := h.mp
 exact ⟨⟨xs, h1.below hb⟩, ownsRow_at h.es fun g hg => hb.block g (h.es.lt g hg).2, ⟨L, h2.below hb h2.lt, h3, h4⟩, h.ne, h.nm, h.hM, h.bl.trans (hb.mono h.bl.size)⟩
theorem mapGet_key {n : ByteArray} : ∀ {L : List (ByteArray × Value)}, (mapGet L n).isSome = true ↔ n ∈ L.map (·.1)
 | [] => by simp [mapGet]
 | p :: L => by
  rw [mapGet]
  by_cases h : p.1 = n
  ·simp [h]
  ·rw [if_neg h, mapGet_key (L := L)]
   simp [Ne.symm h]
theorem mapGet_in {n : ByteArray} {v : Value} : ∀ {L : List (ByteArray × Value)}, mapGet L n = some v → ∃ p ∈ L, p.2 = v
 | [], h => by simp [mapGet] at h
 | p :: L, h => by
  rw [mapGet] at h
  split at h
  ·simp at h
   exact ⟨p, by simp, h⟩
  ·obtain ⟨q, h1, h2⟩ := mapGet_in h
   exact ⟨q, by simp [h1], h2⟩
theorem RcW.pushT {D : Value → Prop} {wN : World} {M : Nat} {all : List Tm} {tx ks : List ByteArray} {ov ev : Value} {w : World} {z : Tm} {a1 : Option Addr} {c : Nat} (h : RcW D wN M all tx ks ov ev w) (hz : Sl w (Zr ov ev M) a1 z.args) (hl : all.length ≤ 1000000) :
  ∃ g cap w3, (Builtin.append_ #[25, 25] 25 #[ov, .slice (some ⟨w.heap.size, 0, none⟩) 1 1]).run Tryz.prog (w.alloc (.cells #[.string z.name, .slice a1 z.args.length c] 27)) = .ok (.slice (some ⟨g, 0, none⟩) (all.length + 1) cap) w3 ∧
   RcW D wN M (all ++ [z]) tx ks (.slice (some ⟨g, 0, none⟩) (all.length + 1) cap) ev w3 ∧ ExQ (fun b => some b = ov.ownBlock) w w3 ∧ (ov.ownBlock = some g ∨ w.heap.size ≤ g) := by
 obtain ⟨xs, hR⟩ := h.ex
 have hN := h.bl.size
 have holt := hR.own.lt
 have helt := h.es.lt
 obtain ⟨L, hm1, hm2, hm3⟩ := h.mp
 have hMl := hm1.lt
 obtain ⟨g, cap, w3, hr, hR3, he, hat⟩ := app_termH (c := c) hR hN (fun b hb => hb.1) hl hz
 have hge : ev.ownBlock ≠ some g := fun e => by
  rcases hat with e2 | e2
  ·exact h.ne g e2 e
  ·have := (helt g e).2; omega
 have hgM : g ≠ M := fun e => by
  rcases hat with e2 | e2
  ·exact h.nm.1 (by rw [e2, e])
  ·omega
 refine ⟨g, cap, w3, hr, ⟨⟨_, hR3.mono fun b hb _ => ⟨fun e => hb.2 (by simpa [Value.ownBlock] using e), hb.1.2.1, hb.1.2.2⟩⟩, ownsRow_at h.es fun b hb => he.block b (helt b hb).2 fun e => h.ne b e.symm hb, ⟨L, hm1.kept (he.block M hMl fun e => h.nm.1 e.symm), hm2, hm3⟩, fun b hb e => ?_, ⟨fun e => hgM (by simpa [Value.ownBlock] using e), h.nm.2⟩, h.hM, h.bl.trans (he.below hN fun b e => (holt b e.symm).1)⟩, he, hat.imp id fun e => by omega⟩
 have : g = b := by simpa [Value.ownBlock] using hb
 subst this
 exact hge e
theorem RcW.pushS {D : Value → Prop} {wN : World} {M : Nat} {all : List Tm} {tx ks : List ByteArray} {ov ev : Value} {w : World} {s : ByteArray} (h : RcW D wN M all tx ks ov ev w) (hl : tx.length ≤ 100000) :
  ∃ g cap w3, (Builtin.append_ #[34, 34] 34 #[ev, .slice (some ⟨w.heap.size, 0, none⟩) 1 1]).run Tryz.prog (w.alloc (.cells #[.string s] 9)) = .ok (.slice (some ⟨g, 0, none⟩) (tx.length + 1) cap) w3 ∧
   RcW D wN M all (tx ++ [s]) ks ov (.slice (some ⟨g, 0, none⟩) (tx.length + 1) cap) w3 ∧ ExQ (fun b => some b = ev.ownBlock) w w3 ∧ (ev.ownBlock = some g ∨ w.heap.size ≤ g) := by
 obtain ⟨xs, hR⟩ := h.ex
 have hN := h.bl.size
 have holt := hR.own.lt
 have helt := h.es.lt
 obtain ⟨L, hm1, hm2, hm3⟩ := h.mp
 have hMl := hm1.lt
 obtain ⟨g, cap, w3, hr, hS3, he, hat⟩ := app_strH (s := s) h.es hN hl
 have hge : ov.ownBlock ≠ some g := fun e => by
  rcases hat with e2 | e2
  ·exact h.ne g e e2
  ·have := (holt g e).2; omega
 have hgM : g ≠ M := fun e => by
  rcases hat with e2 | e2
  ·exact h.nm.2 (by rw [e2, e])
  ·omega
 have hR2 := (hR.mono (Z' := fun b => Zr ov ev M b ∧ b < w.heap.size) fun b h1 h2 => ⟨h1, h2⟩).exq he (fun b e1 e2 => h.ne b e1 e2.symm) fun b hb e => hb.1.2.1 e
 refine ⟨g, cap, w3, hr, ⟨⟨_, hR2.mono fun b hb _ => ⟨hb.1.1, fun e => ?_, hb.1.2.2⟩⟩, hS3, ⟨L, hm1.kept (he.block M hMl fun e => h.nm.2 e.symm), hm2, hm3⟩, fun b hb e => ?_, ⟨h.nm.1, fun e => hgM (by simpa [Value.ownBlock] using e)⟩, h.hM, h.bl.trans (he.below hN fun b e => (helt b e.symm).1)⟩, he, hat.imp id fun e => by omega⟩
 ·have : b = g := by simpa [Value.ownBlock] using e
  subst this
  rcases hat with e2 | e2
  ·exact hb.1.2.1 e2.symm
  ·have := hb.2; omega
 ·have : g = b := by simpa [Value.ownBlock] using e
  subst this
  exact hge hb
theorem RcW.pushM {D : Value → Prop} {wN : World} {M : Nat} {all : List Tm} {tx ks : List ByteArray} {ov ev : Value} {w : World} {s : ByteArray} {v : Value} {T et : TypeId} (h : RcW D wN M all tx ks ov ev w) (hm : Tryz.prog.underlying T = some (.map 9 et)) (hs : s ∉ ks) (hD : D v) :
  ∃ w3, (Instr.mapUpdate T (.map (some M)) (.string s) v).run Tryz.prog w = .ok () w3 ∧ RcW D wN M all tx (ks ++ [s]) ov ev w3 ∧ ExQ (fun b => b = M) w w3 ∧ w3.heap.size = w.heap.size := by
 obtain ⟨xs, hR⟩ := h.ex
 obtain ⟨L, hm1, hm2, hm3⟩ := h.mp
 have hno : mapGet L s = none := by
  cases hg : mapGet L s with
  | none => rfl
  | some x => exact absurd (mapGet_key.1 (by rw [hg]; rfl)) (by rw [hm2]; exact hs)
 obtain ⟨w3, h1, h2, h3, h4, h5, h6, h7⟩ := run_put (P := Tryz.prog) hm Tryz.underlying9 hm1 s v hno
 have he : ExQ (fun b => b = M) w w3 := ⟨h4, h5, h6, by omega, fun b _ hb => h7 b hb⟩
 refine ⟨w3, h1, ⟨⟨xs, hR.exq he (fun b e1 e2 => h.nm.1 (by rw [e1, e2])) fun b hb => hb.2.2⟩, ownsRow_at h.es fun b hb => h7 b fun e => h.nm.2 (by rw [hb, e]), ⟨_, h2, by rw [List.map_append, hm2]; rfl, fun p hp => ?_⟩, h.ne, h.nm, h.hM, h.bl.trans (he.below h.bl.size fun b e => by rw [e]; exact h.hM)⟩, he, h3⟩
 rcases List.mem_append.1 hp with hp | hp
 ·exact hm3 p hp
 ·simp at hp; subst hp; exact hD
def Fsh (S : Nat) (o0 o : Value) : Prop := o.ownBlock = o0.ownBlock ∨ ∃ g, o.ownBlock = some g ∧ S ≤ g
theorem Fsh.next {S : Nat} {o0 o : Value} {w : World} {g n cap : Nat} (h : Fsh S o0 o) (hS : S ≤ w.heap.size) (hg : o.ownBlock = some g ∨ w.heap.size ≤ g) : Fsh S o0 (.slice (some ⟨g, 0, none⟩) n cap) := by
 rcases hg with e | e
 ·rcases h with h | ⟨k, h1, h2⟩
  ·exact Or.inl (by rw [← h, e]; rfl)
  ·exact Or.inr ⟨g, rfl, by rw [e] at h1; cases h1; exact h2⟩
 ·exact Or.inr ⟨g, rfl, by omega⟩
def Fst (S : Nat) (o0 e0 : Value) (M b : Nat) : Prop := b < S ∧ Zr o0 e0 M b
theorem Fst.zr {S : Nat} {o0 e0 o e : Value} {M b : Nat} (h : Fst S o0 e0 M b) (h1 : Fsh S o0 o) (h2 : Fsh S e0 e) : Zr o e M b := by
 refine ⟨fun x => ?_, fun x => ?_, h.2.2.2⟩
 ·rcases h1 with h1 | ⟨g, h1, h3⟩
  ·exact h.2.1 (by rw [← h1]; exact x)
  ·rw [h1] at x; simp at x; have := h.1; omega
 ·rcases h2 with h1 | ⟨g, h1, h3⟩
  ·exact h.2.2.1 (by rw [← h1]; exact x)
  ·rw [h1] at x; simp at x; have := h.1; omega
structure SrI (l : List ByteArray) (wN : World) (i : Nat) (out : List ByteArray) (ov : Value) (wr : World) : Prop where
 own : wr.ownsRow wN.heap.size 9 1 ov out.length (out.map Value.string)
 asc : AscB out
 mem : ∀ s, s ∈ out ↔ s ∈ l.take i
 len : out.length ≤ i
 bl : Below wN.heap.size wN wr
def SrO (l : List ByteArray) (wN : World) (v o : Value) (wr : World) : Prop := ∃ (i : Nat) (out : List ByteArray), o = .int .i64 (i : Int) ∧ i ≤ l.length ∧ SrI l wN i out v wr
def SrK (x : ByteArray) (out : List ByteArray) (w1 : World) (o : Value) (wr : World) : Prop := ∃ (k n : Nat), o = .int .i64 (k : Int) ∧ k ≤ out.length ∧ (∀ y ∈ out.drop k, ltB x y = true) ∧ wr = w1.drewN n
theorem own_cell {w : World} {N T : Nat} {v : Value} {l : List ByteArray} (h : w.ownsRow N T 1 v l.length (l.map Value.string)) {k : Nat} (hk : k < l.length) : ∃ g cap, v = .slice (some ⟨g, 0, none⟩) l.length cap ∧ w.cell? ⟨g, k, none⟩ = some (.string l[k]) := by
 rcases h.2 with ⟨h1, h0⟩ | ⟨g, cap, cur, h1, _⟩
 ·omega
 ·have hc := h.cells (g := g) (by rw [h1]; rfl) k (.string l[k]) (by simp [hk])
  rw [addH] at hc
  exact ⟨g, cap, h1, hc⟩
theorem slice_from {g n k cap : Nat} (hk : k ≤ n) (w' : World) : Sem.run Tryz.prog (Instr.slice 34 (.slice (some ⟨g, 0, none⟩) n cap) (some (.int .i64 (k : Int))) none none) w' = .ok (.slice (if cap = k then some ⟨g, 0, none⟩ else some ⟨g, k, none⟩) (n - k) (cap - k)) w' := by
 rw [run_slice_l (P := Tryz.prog) (ht := Tryz.underlying34) (h0 := by omega) (h1 := by omega)]
 by_cases hc : cap = k
 ·subst hc
  simp [go_sem, sliced]
 ·simp [go_sem, sliced, hc]
theorem own_ins {w' : World} {N g n k cap : Nat} {out : List ByteArray} {e0 x : ByteArray} {cur : Array Value} (hn : out.length = n) (hk : k ≤ n) (hg : N ≤ g) (hc : n + 1 ≤ cap) (hm : cap ≤ maxLen) (hs : cur.size = cap) (ht : cur.toList.take (n + 1) = (out ++ [e0]).map Value.string)
  (h : w'.heap[g]? = some (.cells (splice cur.toList (k + 1) ((out.drop k).map Value.string)).toArray 9 (0, 0))) :
  (w'.setCell ⟨g, k, none⟩ (.string x)).ownsRow N 9 1 (.slice (some ⟨g, 0, none⟩) (n + 1) cap) (out.take k ++ x :: out.drop k).length ((out.take k ++ x :: out.drop k).map Value.string) := by
 have hlen : (out.take k ++ x :: out.drop k).length = n + 1 := by simp; omega
 have hlc : cur.toList.length = cap := by simpa using hs
 refine ⟨by simp, Or.inr ⟨g, cap, (splice cur.toList (k + 1) ((out.drop k).map Value.string)).toArray.setIfInBounds k (.string x), by rw [hlen], hg, (by simp [World.setCell, Array.getElem?_modify, h]), by rw [hlen]; exact hc, hm, ?_, ?_⟩⟩
 ·rw [Array.size_setIfInBounds, List.size_toArray, length_splice]
  ·omega
  ·simp; omega
 ·rw [hlen, Nat.mul_one, Array.toList_setIfInBounds]
  apply List.ext_getElem?
  intro j
  rw [List.getElem?_take]
  by_cases hj : j < n + 1
  ·rw [if_pos hj, List.getElem?_set]
   have hl2 : (splice cur.toList (k + 1) ((out.drop k).map Value.string)).length = cap := by
    rw [length_splice _ _ _ (by simp; omega)]
    omega
   by_cases hjk : k = j
   ·subst hjk
    rw [if_pos rfl, if_pos (by rw [hl2]; omega)]
    simp [List.getElem?_append, hn, Nat.min_eq_left hk]
   ·rw [if_neg hjk]
    have hcur : ∀ i, i < n → cur.toList[i]? = some (Value.string (out.getD i x)) := fun i hi => by
     have h1 := congrArg (fun l => l[i]?) ht
     simp only [List.getElem?_take, if_pos (show i < n + 1 by omega)] at h1
     rw [h1]
     have : i < out.length := by omega
     simp [List.getElem?_append, this, List.getD_eq_getElem?_getD]
    unfold splice
    by_cases hlt : j < k
    ·have h2 : j < n := by omega
     have h3 : j < out.length := by omega
     rw [List.getElem?_append_left (by simp; omega), List.getElem?_take, if_pos (by omega), hcur j h2]
     have h4 : ¬ min k out.length ≤ j := by omega
     simp [List.getElem?_append, hlt, h3, List.getD_eq_getElem?_getD]
     intro h5
     exact absurd h5 h4
    ·have h2 : k + 1 ≤ j := by omega
     have h3 : j - (k + 1) < out.length - k := by omega
     rw [List.getElem?_append_right (by simp; omega), List.getElem?_append_left (by simp; omega)]
     have e1 : (cur.toList.take (k + 1)).length = k + 1 := by simp; omega
     rw [e1]
     have h4 : k + (j - (k + 1)) < out.length := by omega
     have e2 : j - k = (j - (k + 1)) + 1 := by omega
     simp [List.getElem?_append, hn, Nat.min_eq_left hk, hlt, e2, List.getElem?_drop]
  ·rw [if_neg hj]
   symm
   exact List.getElem?_eq_none (by simp; omega)
theorem lt_of_kept {x : ByteArray} {out : List ByteArray} {k : Nat} (hasc : AscB out) (hk : k < out.length) (h : ltB x out[k] = false) (hne : out[k] ≠ x) : ∀ y ∈ out.take (k + 1), ltB y x = true := by
 intro y hy
 have h1 : ltB out[k] x = true := by
  cases h2 : ltB out[k] x with
  | true => rfl
  | false => exact absurd (ltB_conn h2 h) hne
 rw [List.take_succ_eq_append_getElem hk] at hy
 rcases List.mem_append.1 hy with hy | hy
 ·have h3 := List.pairwise_append.1 (show (out.take k ++ out.drop k).Pairwise _ by rw [List.take_append_drop]; exact hasc)
  exact ltB_trans (h3.2.2 y hy out[k] (by rw [List.mem_drop_iff_getElem]; exact ⟨0, by omega, by simp⟩)) h1
 ·simp at hy
  subst hy
  exact h1
theorem srt_src {w : World} {g n k cap d1 : Nat} {out : List ByteArray} {e0 : ByteArray} {cur : Array Value} {dp sp : Option Addr} (hn : out.length = n) (hk : k ≤ n) (hd1 : n + 1 - (k + 1) = d1) (hg : w.heap[g]? = some (.cells cur 9 (0, 0))) (hc : n + 1 ≤ cap) (ht : cur.toList.take (n + 1) = (out ++ [e0]).map Value.string) (h1 : k + 1 < cap → dp = some ⟨g, k + 1, none⟩) (h2 : k < cap → sp = some ⟨g, k, none⟩) :
  0 < ((out.drop k).map Value.string).length → dp = some ⟨g, k + 1, none⟩ ∧ ∃ ad, sp = some ad ∧ ∀ j v, ((out.drop k).map Value.string)[j]? = some v → w.cell? (ad.add j) = some v := by
 intro h0
 simp [hn] at h0
 refine ⟨h1 (by omega), _, h2 (by omega), fun j v hj => ?_⟩
 have hj2 : k + j < out.length := by
  have := (List.getElem?_eq_some_iff.1 hj).1
  simp at this
  omega
 have e1 : v = .string out[k + j] := by
  simp [List.getElem?_drop, List.getElem?_eq_getElem hj2] at hj
  exact hj.symm
 subst e1
 have e2 : (⟨g, k, none⟩ : Addr).add j = ⟨g, k + j, none⟩ := by by_cases h0 : j = 0 <;> simp [Addr.add, h0]
 have h3 := congrArg (fun l => l[k + j]?) ht
 simp only [List.getElem?_take, if_pos (show k + j < n + 1 by omega)] at h3
 rw [e2]
 simp only [World.cell?, hg]
 rw [← Array.getElem?_toList, h3]
 simp [List.getElem?_append, hj2]
theorem srt_cell {w : World} {g k : Nat} {cur cs : List Value} {o : Nat} (hg : w.heap[g]? = some (.cells (splice cur o cs).toArray 9 (0, 0))) (hfit : o + cs.length ≤ cur.length) (hk : k < cur.length) : ∃ v, w.cell? ⟨g, k, none⟩ = some v := by
 have h1 := length_splice cur o cs hfit
 have h2 : k < (splice cur o cs).length := by omega
 exact ⟨(splice cur o cs)[k], by simp [World.cell?, hg, h2]⟩
set_option maxHeartbeats 4000000 in
theorem sortedTexts_any (l : List ByteArray) (hl : l.length ≤ 1000) (v : Value) (w : World) (X : Nat → Prop) (hv : LV Value.string w X v l) :
  Calls Tryz.prog 53 #[v] w fun e w' => ∃ ov out, e = .returned ov ∧ AscB out ∧ (∀ s, s ∈ out ↔ s ∈ l) ∧ LV Value.string w' (fun b => w.heap.size ≤ b) ov out ∧ Below w.heap.size w w' := by
 have HV := hide hv
 obtain ⟨a, c, rfl, ⟨hl2, _⟩, _⟩ := hv
 go_enter Tryz.func53, Tryz.ntmps53
 go_wp2_with fail
 go_loopw [3, 4] (fun v o wr => SrO l w v o wr) (fun v o wr => l.length - (intOf o).toNat)
 case atStart => exact ⟨0, [], rfl, Nat.zero_le _, ⟨World.ownsRow_nil _ _ _ _, List.Pairwise.nil, by simp, Nat.le_refl _, Below.refl _ _⟩⟩
 case round =>
  obtain ⟨i, out, rfl, hi, hI⟩ := hrel
  have HI := hide hI
  by_cases hlt : i < l.length
  ·obtain ⟨oa, oc, rfl⟩ := own_shape hI.own
   have hol : out.length ≤ 1000 := by have := hI.len; omega
   have LC0 : Hid (∀ w', Below w.heap.size w w' → ∃ b o, a = some ⟨b, o, none⟩ ∧ w'.cell? ⟨b, o + i, none⟩ = some (.string l[i])) := fun w' hb => by
    obtain ⟨a', c', e, _, h1⟩ := HV.out.later hb
    obtain ⟨b, o, h2, _, h3⟩ := h1.resolve_left (fun h => by rw [h] at hlt; simp at hlt)
    cases e
    exact ⟨b, o, h2, h3 i hlt⟩
   obtain ⟨lb, lo, rfl, lc⟩ := LC0.out wr hI.bl
   have LC : Hid (∀ w', Below w.heap.size w w' → w'.cell? ⟨lb, lo + i, none⟩ = some (.string l[i])) := fun w' hb => by
    obtain ⟨b, o, e, h⟩ := LC0.out w' hb
    cases e
    exact h
   clear LC0
   have hlt2 : (i : Int) < (l.length : Int) := by omega
   obtain ⟨w1, hw1⟩ : ∃ w1, w1 = wr := ⟨wr, rfl⟩
   subst hw1
   generalize hx : l[i] = x at *
   have HX := hide hx
   clear hx hI
   generalize hn : out.length = n at *
   have HN := hide hn
   clear hn
   go_wp2_with fail
   go_loopw [5] (fun o w2 => SrK x out w1 o w2) (fun o w2 => (intOf o).toNat)
   case atStart => exact ⟨n, 0, rfl, by rw [HN.out]; exact Nat.le_refl _, by rw [← HN.out]; simp, rfl⟩
   case round =>
    obtain ⟨k, m, rfl, hk, hd, rfl⟩ := hrel
    have HD := hide hd
    clear hd
    rw [HN.out] at hk
    rcases Nat.eq_zero_or_pos k with rfl | hk0
    ·go_wp2_with fail
     go_quiet (fail)
     obtain ⟨nq1, hnq⟩ : ∃ x, x = nq := ⟨_, rfl⟩
     subst hnq
     go_wp2_with fail
     go_quiet (fail)
     have HI5 : Hid (SrI l w i out (.slice oa n oc) (((w1.drewN m).drewN nq1).drewN nq)) := ⟨HI.out.own, HI.out.asc, HI.out.mem, HI.out.len, below_drewN (below_drewN (below_drewN HI.out.bl _) _) _⟩
     generalize ((w1.drewN m).drewN nq1).drewN nq = w5 at *
     clear lc HI
     obtain ⟨kk, hkk⟩ : ∃ kk : Nat, kk = 0 := ⟨0, rfl⟩
     have HLO : Hid (∀ y ∈ out.take kk, ltB y x = true) := fun y hy => by rw [hkk] at hy; simp at hy
     rw [← hkk] at HD
     rw [show ((0 : Nat) : Int) = (kk : Int) by rw [hkk]]
     clear hk
     have hk : kk ≤ n := by omega
     clear hkk
     obtain ⟨g8, cap8, w8, hr8, ho8, hx8, hat8⟩ := app_strH (s := ⟨#[]⟩) HI5.out.own HI5.out.bl.size (by rw [HN.out]; omega)
     rw [HN.out] at hr8 ho8
     have HR8 := hide hr8
     have HB8 : Hid (Below w.heap.size w w8) := HI5.out.bl.trans (hx8.below HI5.out.bl.size fun b e => (HI5.out.own.lt b e.symm).1)
     obtain ⟨cur8, hg8, hh8, hnc8, hcm8, hcs8, htk8⟩ : ∃ cur : Array Value, w.heap.size ≤ g8 ∧ w8.heap[g8]? = some (.cells cur 9 (0, 0)) ∧ n + 1 ≤ cap8 ∧ cap8 ≤ maxLen ∧ cur.size = cap8 ∧ cur.toList.take (n + 1) = (out ++ [(⟨#[]⟩ : ByteArray)]).map Value.string := by
      have e0 : (out ++ [(⟨#[]⟩ : ByteArray)]).length = n + 1 := by simp [HN.out]
      rw [e0] at ho8
      rcases ho8.2 with ⟨h1, _⟩ | ⟨g', cap', cur, h1, h2, h3, h4, h5, h6, h7⟩
      ·cases h1
      ·cases h1
       exact ⟨cur, h2, h3, h4, h5, by omega, by simpa using h7⟩
     have HG8 := hide hh8
     have HGB := hide hg8
     have HTK := hide htk8
     have HNC := hide hnc8
     have HCM := hide hcm8
     have HCS := hide hcs8
     clear hr8 ho8 hx8 hat8 hg8 hh8 hnc8 hcm8 hcs8 htk8
     have hKn : kk ≤ n := by omega
     have HKN := hide hKn
     have HWK : Hid (IntKind.i64.wrap ((kk : Int) + 1) = (kk : Int) + 1) := by unfold Hid; rw [IntKind.wrap_i64] <;> omega
     have HSL1 : Hid (∀ w', Sem.run Tryz.prog (Instr.slice 34 (.slice (some ⟨g8, 0, none⟩) (n + 1) cap8) (some (.int .i64 ((kk : Int) + 1))) none none) w' = .ok (.slice (if cap8 = kk + 1 then some ⟨g8, 0, none⟩ else some ⟨g8, kk + 1, none⟩) (n + 1 - (kk + 1)) (cap8 - (kk + 1))) w') := fun w' => by rw [show ((kk : Int) + 1) = ((kk + 1 : Nat) : Int) by omega]; exact slice_from (by omega) w'
     have HSL2 : Hid (∀ w', Sem.run Tryz.prog (Instr.slice 34 (.slice (some ⟨g8, 0, none⟩) (n + 1) cap8) (some (.int .i64 (kk : Int))) none none) w' = .ok (.slice (if cap8 = kk then some ⟨g8, 0, none⟩ else some ⟨g8, kk, none⟩) (n + 1 - kk) (cap8 - kk)) w') := fun w' => slice_from (by omega) w'
     generalize hdp : (if cap8 = kk + 1 then some ⟨g8, 0, none⟩ else some (⟨g8, kk + 1, none⟩ : Addr)) = dp at HSL1
     have HDP : Hid (kk + 1 < cap8 → dp = some ⟨g8, kk + 1, none⟩) := fun h => by rw [← hdp, if_neg (by omega)]
     generalize hsp : (if cap8 = kk then some ⟨g8, 0, none⟩ else some (⟨g8, kk, none⟩ : Addr)) = sp at HSL2
     have HSP : Hid (kk < cap8 → sp = some ⟨g8, kk, none⟩) := fun h => by rw [← hsp, if_neg (by omega)]
     clear hdp hsp
     generalize hd1 : n + 1 - (kk + 1) = d1 at HSL1
     generalize hd2 : n + 1 - kk = d2 at HSL2
     generalize cap8 - (kk + 1) = c1 at HSL1
     generalize cap8 - kk = c2 at HSL2
     have HD1 := hide hd1
     have HD2 := hide hd2
     clear hd1 hd2
     go_wp2_with (at_builtin; refine wpList_append_eq rfl _ _ _ _ rfl rfl rfl HR8.out ?_)
     have HB8d : Hid (Below w.heap.size w w8.drew) := below_drewN HB8.out 1
     refine wp_region_held_drew (S := fun w' => Below w.heap.size w w') (by kernel_rfl) HB8d.out (fun hHeld => ?_)
     have HG8d : Hid (w8.drew.heap[g8]? = some (.cells cur8 9 (0, 0))) := HG8.out
     generalize w8.drew = wd at *
     refine tkq (v := ?_) 0 rfl ?_ ?_
     rotate_left
     ·intro w' hSw
      go_simp <;> with_reducible rfl
     try simp only [Act.put, sq]
     refine tkq (v := ?_) 1 rfl ?_ ?_
     rotate_left
     ·intro w' hSw
      go_simp <;> with_reducible rfl
     try simp only [Act.put, sq]
     refine tkq (v := ?_) 2 rfl ?_ ?_
     rotate_left
     ·intro w' hSw
      have hwk := HWK.out
      go_simp <;> with_reducible rfl
     try simp only [Act.put, sq]
     refine tkq (v := ?_) 3 rfl ?_ ?_
     rotate_left
     ·intro w' hSw
      have hs1 := HSL1.out w'
      go_simp <;> with_reducible rfl
     try simp only [Act.put, sq]
     refine tkq (v := ?_) 4 rfl ?_ ?_
     rotate_left
     ·intro w' hSw
      go_simp <;> with_reducible rfl
     try simp only [Act.put, sq]
     refine tkq (v := ?_) 5 rfl ?_ ?_
     rotate_left
     ·intro w' hSw
      go_simp <;> with_reducible rfl
     try simp only [Act.put, sq]
     refine tkq (v := ?_) 6 rfl ?_ ?_
     rotate_left
     ·intro w' hSw
      have hs2 := HSL2.out w'
      go_simp <;> with_reducible rfl
     try simp only [Act.put, sq]
     refine rdq 7 rfl fun K hK => ?_
     refine step_copy_splice rfl _ _ _ _ rfl 9 Tryz.underlying34 (by kernel_rfl) _ _ _ _ _ _ rfl rfl g8 (kk + 1) cur8.toList 9 (by simpa using HG8d.out) ((out.drop (kk)).map Value.string) ?_ ?_ ?_ (fun v hv => by obtain ⟨s, _, rfl⟩ := List.mem_map.1 hv; rfl) w.heap.size w HB8d.out HGB.out (fun w4 HG4 hb4 => ?_)
     ·have h1 := HD1.out; have h2 := HD2.out; have h3 := HKN.out; rw [List.length_map, List.length_drop, HN.out, ← h1, ← h2]; show _ = min _ _; omega
     ·exact srt_src HN.out HKN.out HD1.out HG8d.out HNC.out HTK.out HDP.out HSP.out
     ·have h1 := HCS.out; have h2 := HNC.out; have h3 := HKN.out; simp [HN.out]; omega
     have HB4 := hide hb4
     clear hb4
     refine hK.out _ _ (by exact HB4.out) (fun hHeld => ?_)
     clear hK K
     try simp only [Act.put, sq]
     refine wpAnyH_done (by kernel_rfl) ?_ _
     have lc4 := LC.out w4 HB4.out
     obtain ⟨yv, c4⟩ : ∃ yv, w4.cell? ⟨g8, kk, none⟩ = some yv := srt_cell HG4.out (by have := HCS.out; have := HNC.out; have := HKN.out; simp [HN.out]; omega) (by have := HCS.out; have := HNC.out; have := HKN.out; simp; omega)
     have f4 : w4.frozen? ⟨g8, kk, none⟩ = false := by have h := HG4.out; simp [World.frozen?, h]
     have z4 : g8 < w4.heap.size := World.block_lt_of_cell? w4 _ c4
     have k1 : ((kk : Nat) : Int) < (n : Int) + 1 := by have := HKN.out; omega
     go_wp2_with fail
     go_roundw
     case rel =>
      refine ⟨i + 1, out.take (kk) ++ x :: out.drop (kk), by go_num, by omega, ⟨own_ins HN.out HKN.out HGB.out HNC.out HCM.out HCS.out HTK.out HG4.out, asc_ins (by rw [List.take_append_drop]; exact HI5.out.asc) HLO.out HD.out, fun s => ?_, ?_, HB4.out.setCell (p := ⟨g8, kk, none⟩) (by exact HGB.out) _⟩⟩
      ·rw [List.take_succ_eq_append_getElem hlt, HX.out, List.mem_append, List.mem_append, ← HI5.out.mem]
       conv => rhs; rw [← List.take_append_drop (kk) out]
       simp only [List.mem_append, List.mem_cons, List.not_mem_nil, or_false]
       constructor
       ·rintro (h | h | h)
        ·exact Or.inl (Or.inl h)
        ·exact Or.inr h
        ·exact Or.inl (Or.inr h)
       ·rintro ((h | h) | h)
        ·exact Or.inl h
        ·exact Or.inr (Or.inr h)
        ·exact Or.inr (Or.inl h)
      ·have h1 := HI5.out.len
       have h2 := HN.out
       simp
       omega
     case measure => simp [intOf]; omega
    ·obtain ⟨k', rfl⟩ : ∃ k', k = k' + 1 := ⟨k - 1, by omega⟩
     have hk2 : k' < out.length := by rw [HN.out]; omega
     obtain ⟨g, cap, e, yc⟩ := own_cell HI.out.own hk2
     rw [HN.out] at e
     cases e
     generalize hy : out[k'] = y at *
     have HY := hide hy
     clear hy
     have hk3 : (k' : Int) < (n : Int) := by omega
     have hk4 : (0 : Int) < (k' : Int) + 1 := by omega
     have hk5 : (0 : Int) ≤ (k' : Int) := by omega
     cases hq : Op.bytesLess x.toList y.toList with
     | true =>
      go_wp2_with fail
      go_quiet (fail)
      go_wp2_with fail
      go_roundw
      case rel =>
       refine ⟨k', m + nq, rfl, by rw [HN.out]; omega, fun y2 hy2 => ?_, by simp [World.drewN, Nat.add_assoc]⟩
       rw [List.drop_eq_getElem_cons hk2] at hy2
       rcases List.mem_cons.1 hy2 with e | e
       ·rw [e, HY.out]; exact hq
       ·exact HD.out y2 e
      case measure => simp [intOf]
     | false =>
      cases he : (y.toList == x.toList) with
      | true =>
       go_wp2_with fail
       go_quiet (fail)
       obtain ⟨nq1, hnq⟩ : ∃ x, x = nq := ⟨_, rfl⟩
       subst hnq
       go_wp2_with fail
       go_quiet (fail)
       have HI5 : Hid (SrI l w i out (.slice (some ⟨g, 0, none⟩) n oc) (((w1.drewN m).drewN nq1).drewN nq)) := ⟨HI.out.own, HI.out.asc, HI.out.mem, HI.out.len, below_drewN (below_drewN (below_drewN HI.out.bl _) _) _⟩
       generalize ((w1.drewN m).drewN nq1).drewN nq = w5 at *
       go_wp2_with fail
       go_roundw
       case rel =>
        have e1 : y = x := bytes_inj (eq_of_beq he)
        have hxm : x ∈ out := by rw [← e1, ← HY.out]; exact List.getElem_mem hk2
        refine ⟨i + 1, out, by go_num, by omega, ⟨HI5.out.own, HI.out.asc, fun s => ?_, by have := HI.out.len; omega, HI5.out.bl⟩⟩
        rw [List.take_succ_eq_append_getElem hlt, HX.out, List.mem_append, ← HI.out.mem]
        constructor
        ·exact Or.inl
        ·rintro (h | h)
         ·exact h
         ·simp at h; subst h; exact hxm
       case measure => simp [intOf]; omega
      | false =>
       go_wp2_with fail
       go_quiet (fail)
       obtain ⟨nq1, hnq⟩ : ∃ x, x = nq := ⟨_, rfl⟩
       subst hnq
       go_wp2_with fail
       go_quiet (fail)
       have HI5 : Hid (SrI l w i out (.slice (some ⟨g, 0, none⟩) n oc) (((w1.drewN m).drewN nq1).drewN nq)) := ⟨HI.out.own, HI.out.asc, HI.out.mem, HI.out.len, below_drewN (below_drewN (below_drewN HI.out.bl _) _) _⟩
       have HLO : Hid (∀ y ∈ out.take (k' + 1), ltB y x = true) := lt_of_kept HI.out.asc hk2 (by rw [HY.out]; exact hq) (by rw [HY.out]; intro e; rw [e] at he; simp at he)
       generalize ((w1.drewN m).drewN nq1).drewN nq = w5 at *
       clear lc HI yc hq he HY hk2 hk0
       have hk : k' + 1 ≤ n := by omega
       clear hk3 hk4 hk5
       generalize k' + 1 = kk at *
       obtain ⟨g8, cap8, w8, hr8, ho8, hx8, hat8⟩ := app_strH (s := ⟨#[]⟩) HI5.out.own HI5.out.bl.size (by rw [HN.out]; omega)
       rw [HN.out] at hr8 ho8
       have HR8 := hide hr8
       have HB8 : Hid (Below w.heap.size w w8) := HI5.out.bl.trans (hx8.below HI5.out.bl.size fun b e => (HI5.out.own.lt b e.symm).1)
       obtain ⟨cur8, hg8, hh8, hnc8, hcm8, hcs8, htk8⟩ : ∃ cur : Array Value, w.heap.size ≤ g8 ∧ w8.heap[g8]? = some (.cells cur 9 (0, 0)) ∧ n + 1 ≤ cap8 ∧ cap8 ≤ maxLen ∧ cur.size = cap8 ∧ cur.toList.take (n + 1) = (out ++ [(⟨#[]⟩ : ByteArray)]).map Value.string := by
        have e0 : (out ++ [(⟨#[]⟩ : ByteArray)]).length = n + 1 := by simp [HN.out]
        rw [e0] at ho8
        rcases ho8.2 with ⟨h1, _⟩ | ⟨g', cap', cur, h1, h2, h3, h4, h5, h6, h7⟩
        ·cases h1
        ·cases h1
         exact ⟨cur, h2, h3, h4, h5, by omega, by simpa using h7⟩
       have HG8 := hide hh8
       have HGB := hide hg8
       have HTK := hide htk8
       have HNC := hide hnc8
       have HCM := hide hcm8
       have HCS := hide hcs8
       clear hr8 ho8 hx8 hat8 hg8 hh8 hnc8 hcm8 hcs8 htk8
       have hKn : kk ≤ n := by omega
       have HKN := hide hKn
       have HWK : Hid (IntKind.i64.wrap ((kk : Int) + 1) = (kk : Int) + 1) := by unfold Hid; rw [IntKind.wrap_i64] <;> omega
       have HSL1 : Hid (∀ w', Sem.run Tryz.prog (Instr.slice 34 (.slice (some ⟨g8, 0, none⟩) (n + 1) cap8) (some (.int .i64 ((kk : Int) + 1))) none none) w' = .ok (.slice (if cap8 = kk + 1 then some ⟨g8, 0, none⟩ else some ⟨g8, kk + 1, none⟩) (n + 1 - (kk + 1)) (cap8 - (kk + 1))) w') := fun w' => by rw [show ((kk : Int) + 1) = ((kk + 1 : Nat) : Int) by omega]; exact slice_from (by omega) w'
       have HSL2 : Hid (∀ w', Sem.run Tryz.prog (Instr.slice 34 (.slice (some ⟨g8, 0, none⟩) (n + 1) cap8) (some (.int .i64 (kk : Int))) none none) w' = .ok (.slice (if cap8 = kk then some ⟨g8, 0, none⟩ else some ⟨g8, kk, none⟩) (n + 1 - kk) (cap8 - kk)) w') := fun w' => slice_from (by omega) w'
       generalize hdp : (if cap8 = kk + 1 then some ⟨g8, 0, none⟩ else some (⟨g8, kk + 1, none⟩ : Addr)) = dp at HSL1
       have HDP : Hid (kk + 1 < cap8 → dp = some ⟨g8, kk + 1, none⟩) := fun h => by rw [← hdp, if_neg (by omega)]
       generalize hsp : (if cap8 = kk then some ⟨g8, 0, none⟩ else some (⟨g8, kk, none⟩ : Addr)) = sp at HSL2
       have HSP : Hid (kk < cap8 → sp = some ⟨g8, kk, none⟩) := fun h => by rw [← hsp, if_neg (by omega)]
       clear hdp hsp
       generalize hd1 : n + 1 - (kk + 1) = d1 at HSL1
       generalize hd2 : n + 1 - kk = d2 at HSL2
       generalize cap8 - (kk + 1) = c1 at HSL1
       generalize cap8 - kk = c2 at HSL2
       have HD1 := hide hd1
       have HD2 := hide hd2
       clear hd1 hd2
       go_wp2_with (at_builtin; refine wpList_append_eq rfl _ _ _ _ rfl rfl rfl HR8.out ?_)
       have HB8d : Hid (Below w.heap.size w w8.drew) := below_drewN HB8.out 1
       refine wp_region_held_drew (S := fun w' => Below w.heap.size w w') (by kernel_rfl) HB8d.out (fun hHeld => ?_)
       have HG8d : Hid (w8.drew.heap[g8]? = some (.cells cur8 9 (0, 0))) := HG8.out
       generalize w8.drew = wd at *
       refine tkq (v := ?_) 0 rfl ?_ ?_
       rotate_left
       ·intro w' hSw
        go_simp <;> with_reducible rfl
       try simp only [Act.put, sq]
       refine tkq (v := ?_) 1 rfl ?_ ?_
       rotate_left
       ·intro w' hSw
        go_simp <;> with_reducible rfl
       try simp only [Act.put, sq]
       refine tkq (v := ?_) 2 rfl ?_ ?_
       rotate_left
       ·intro w' hSw
        have hwk := HWK.out
        go_simp <;> with_reducible rfl
       try simp only [Act.put, sq]
       refine tkq (v := ?_) 3 rfl ?_ ?_
       rotate_left
       ·intro w' hSw
        have hs1 := HSL1.out w'
        go_simp <;> with_reducible rfl
       try simp only [Act.put, sq]
       refine tkq (v := ?_) 4 rfl ?_ ?_
       rotate_left
       ·intro w' hSw
        go_simp <;> with_reducible rfl
       try simp only [Act.put, sq]
       refine tkq (v := ?_) 5 rfl ?_ ?_
       rotate_left
       ·intro w' hSw
        go_simp <;> with_reducible rfl
       try simp only [Act.put, sq]
       refine tkq (v := ?_) 6 rfl ?_ ?_
       rotate_left
       ·intro w' hSw
        have hs2 := HSL2.out w'
        go_simp <;> with_reducible rfl
       try simp only [Act.put, sq]
       refine rdq 7 rfl fun K hK => ?_
       refine step_copy_splice rfl _ _ _ _ rfl 9 Tryz.underlying34 (by kernel_rfl) _ _ _ _ _ _ rfl rfl g8 (kk + 1) cur8.toList 9 (by simpa using HG8d.out) ((out.drop (kk)).map Value.string) ?_ ?_ ?_ (fun v hv => by obtain ⟨s, _, rfl⟩ := List.mem_map.1 hv; rfl) w.heap.size w HB8d.out HGB.out (fun w4 HG4 hb4 => ?_)
       ·have h1 := HD1.out; have h2 := HD2.out; have h3 := HKN.out; rw [List.length_map, List.length_drop, HN.out, ← h1, ← h2]; show _ = min _ _; omega
       ·exact srt_src HN.out HKN.out HD1.out HG8d.out HNC.out HTK.out HDP.out HSP.out
       ·have h1 := HCS.out; have h2 := HNC.out; have h3 := HKN.out; simp [HN.out]; omega
       have HB4 := hide hb4
       clear hb4
       refine hK.out _ _ (by exact HB4.out) (fun hHeld => ?_)
       clear hK K
       try simp only [Act.put, sq]
       refine wpAnyH_done (by kernel_rfl) ?_ _
       have lc4 := LC.out w4 HB4.out
       obtain ⟨yv, c4⟩ : ∃ yv, w4.cell? ⟨g8, kk, none⟩ = some yv := srt_cell HG4.out (by have := HCS.out; have := HNC.out; have := HKN.out; simp [HN.out]; omega) (by have := HCS.out; have := HNC.out; have := HKN.out; simp; omega)
       have f4 : w4.frozen? ⟨g8, kk, none⟩ = false := by have h := HG4.out; simp [World.frozen?, h]
       have z4 : g8 < w4.heap.size := World.block_lt_of_cell? w4 _ c4
       have k1 : ((kk : Nat) : Int) < (n : Int) + 1 := by have := HKN.out; omega
       go_wp2_with fail
       go_roundw
       case rel =>
        refine ⟨i + 1, out.take (kk) ++ x :: out.drop (kk), by go_num, by omega, ⟨own_ins HN.out HKN.out HGB.out HNC.out HCM.out HCS.out HTK.out HG4.out, asc_ins (by rw [List.take_append_drop]; exact HI5.out.asc) HLO.out HD.out, fun s => ?_, ?_, HB4.out.setCell (p := ⟨g8, kk, none⟩) (by exact HGB.out) _⟩⟩
        ·rw [List.take_succ_eq_append_getElem hlt, HX.out, List.mem_append, List.mem_append, ← HI5.out.mem]
         conv => rhs; rw [← List.take_append_drop (kk) out]
         simp only [List.mem_append, List.mem_cons, List.not_mem_nil, or_false]
         constructor
         ·rintro (h | h | h)
          ·exact Or.inl (Or.inl h)
          ·exact Or.inr h
          ·exact Or.inl (Or.inr h)
         ·rintro ((h | h) | h)
          ·exact Or.inl h
          ·exact Or.inr (Or.inr h)
          ·exact Or.inr (Or.inl h)
        ·have h1 := HI5.out.len
         have h2 := HN.out
         simp
         omega
       case measure => simp [intOf]; omega
  ·have hie : i = l.length := by omega
   go_wp2_with fail
   go_ret
   refine ⟨_, out, rfl, HI.out.asc, fun s => ?_, (LV.of_own HI.out.own), HI.out.bl⟩
   rw [HI.out.mem, hie, List.take_length]
theorem ret_str {a b : ByteArray} (h : a.data.toList = b.data.toList) : Ending.returned (.string a) = .returned (.string b) := by
 have : a = b := by cases a; cases b; simp at h; simp [h]
 rw [this]
set_option maxHeartbeats 1000000 in
theorem show_any (t : Tm) : ∀ (v : Value) (w : World) (X : Nat → Prop), TV w X v t → (txtL [t]).length ≤ 1000000 →
  Calls Tryz.prog 52 #[v] w fun e w' => e = .returned (.string ⟨(txtL [t]).toArray⟩) ∧ Below w.heap.size w w' := by
 induction t using Tm.ind with
 | h s l ih =>
  intro v w X hv hsm
  obtain ⟨a, c, rfl, hs⟩ := hv
  have IH := hide ih
  clear ih
  have hl := hs.1
  go_enter Tryz.func52, Tryz.ntmps52
  go_wp2_with fail
  go_loopw [3, 4] (fun q i wr => ∃ (k : Nat) (acc : ByteArray), k ≤ l.length ∧ i = .int .i64 k ∧ q = .string acc ∧ acc.data.toList = txtTo s l k ∧ Below (w.heap.size + 1) (w.alloc (Obj.cells #[Value.string s, Value.slice a l.length c] 27)) wr) (fun q i wr => l.length - (intOf i).toNat)
  case atStart => exact ⟨0, s, Nat.zero_le _, rfl, rfl, by simp [txtTo], Below.refl _ _⟩
  case round =>
   obtain ⟨k, acc, hk, rfl, rfl, hacc, hb⟩ := hrel
   have HACC := hide hacc
   have hasz : acc.size ≤ 1000000 := by
    have h1 := txtTo_len s l k hk
    rw [← hacc] at h1
    have h2 : acc.data.toList.length = acc.size := by rw [Array.length_toList]; rfl
    omega
   clear hacc
   have hc := bcell hb
   have c1 : wr.cell? ⟨w.heap.size, 1, none⟩ = some (.slice a l.length c) := by rw [hc.1 _ _ (by omega)]; simp
   clear hc
   have hsz : w.heap.size + 1 ≤ wr.heap.size := by have := hb.size; simpa using this
   by_cases hlt : k < l.length
   ·obtain ⟨b, o, a', c', rfl, d0, d1, hx⟩ := hs.get (below_box hb) (fun _ _ h => h) k hlt
    have hlen := txtTo_len s l (k + 1) (by omega)
    by_cases hk0 : k = 0
    ·subst hk0
     simp only [Nat.zero_mul, Nat.add_zero] at d0 d1
     have HT := hide (txtTo_zero s l hlt)
     have hln : (txtL [l[0]]).length ≤ 1000000 := by rw [HT.out] at hlen; simp at hlen; omega
     clear hlen
     go_wp2_with fail
     refine (IH.out _ (List.getElem_mem hlt) _ _ X hx hln).mono ?_
     rintro e w1 ⟨rfl, hb1⟩
     go_wp2_with fail
     go_roundw
     case rel => exact ⟨0 + 1, _, by omega, by go_num, rfl, by rw [HT.out, ← HACC.out]; simp, hb.trans (hb1.mono hsz)⟩
     case measure => simp [intOf]; omega
    ·have hk0' : ((k : Int) == 0) = false := by simp; omega
     have HT := hide (txtTo_succ s l k (by omega) hlt)
     have hln : (txtL [l[k]]).length ≤ 1000000 := by rw [HT.out] at hlen; simp at hlen; omega
     clear hlen
     go_wp2_with fail
     refine (IH.out _ (List.getElem_mem hlt) _ _ X hx hln).mono ?_
     rintro e w1 ⟨rfl, hb1⟩
     go_wp2_with fail
     go_roundw
     case rel => exact ⟨k + 1, _, by omega, by go_num, rfl, by rw [HT.out, ← HACC.out]; simp, hb.trans (hb1.mono hsz)⟩
     case measure => simp [intOf]; omega
   ·have hke : k = l.length := by omega
    by_cases hn : l = []
    ·subst hn
     have HE : Hid (acc.data.toList = txtL [(⟨s, []⟩ : Tm)]) := by unfold Hid; rw [HACC.out, txt_nil]; simp at hke; subst hke; simp [txtTo]
     go_wp2_with fail
     go_ret
     exact ⟨ret_str (by rw [HE.out]), below_box hb⟩
    ·have hlp : 0 < l.length := List.length_pos_iff.2 hn
     have HE : Hid (acc.data.toList ++ [41] = txtL [(⟨s, l⟩ : Tm)]) := by unfold Hid; rw [HACC.out, txtTo_end s l hn, hke]
     clear hn hke
     go_wp2_with fail
     go_ret
     exact ⟨ret_str (by rw [← HE.out]; simp), below_box hb⟩
theorem below3 {w : World} (o1 o2 o3 : Obj) : Below w.heap.size w (((w.alloc o1).alloc o2).alloc o3) := (below2 o1 o2).alloc (by simp; omega) o3
theorem below4 {w : World} (o1 o2 o3 o4 : Obj) : Below w.heap.size w ((((w.alloc o1).alloc o2).alloc o3).alloc o4) := (below3 o1 o2 o3).alloc (by simp; omega) o4
theorem copy_step {w wr w1 w3 : World} {T k : Nat} {u : Value} {l : List Tm} {xs : List Value} {o1 o2 : Obj} {s s' : ByteArray} {a1 : Option Addr} {n1 c1 g cap : Nat} {c0 : Array Value} (hrow : Row wr (w.heap.size + 3) T (fun _ => False) u (l.take k) xs) (hb : Below w.heap.size w wr)
  (h1 : Blk wr (w.heap.size + 1) c0 T) (h2 : Blk wr (w.heap.size + 1 + 1) #[.string s, u] T) (hsz : w.heap.size + 3 ≤ wr.heap.size) (hlt : k < l.length)
  (hb1 : Below (wr.alloc o1).drew.heap.size (wr.alloc o1).drew w1) (ht : TV w1 (fun b => (wr.alloc o1).drew.heap.size ≤ b) (.agg #[.string s', .slice a1 n1 c1]) l[k])
  (hown : w3.ownsRow (w.heap.size + 3) T 2 (.slice (some ⟨g, 0, none⟩) ((l.take k).length + 1) cap) ((l.take k).length + 1) (xs ++ [.string s', .slice a1 n1 c1])) (hg : (w1.alloc o2).grownBy w3 u.ownBlock) (hat : u.ownBlock = some g ∨ g = (w1.alloc o2).heap.size) :
  let w4 := w3.setCell ⟨w.heap.size + 1 + 1, 1, none⟩ (.slice (some ⟨g, 0, none⟩) ((l.take k).length + 1) cap)
  Row w4 (w.heap.size + 3) T (fun _ => False) (.slice (some ⟨g, 0, none⟩) ((l.take k).length + 1) cap) (l.take (k + 1)) (xs ++ [.string s', .slice a1 n1 c1]) ∧ Below w.heap.size w w4 ∧ Blk w4 (w.heap.size + 1) c0 T ∧ Blk w4 (w.heap.size + 1 + 1) #[.string s, .slice (some ⟨g, 0, none⟩) ((l.take k).length + 1) cap] T ∧ w.heap.size + 3 ≤ w4.heap.size := by
 intro w4
 have hbb : Below wr.heap.size wr (wr.alloc o1).drew := ((Below.refl _ _).alloc (Nat.le_refl _) o1).drew
 have hr1 := hrow.below hbb
 have hlt' := hrow.own.lt
 have hs1 := hb1.size
 have hsg := hg.size
 simp at hs1 hsg
 have hp := hr1.push (w1 := w1) (w2 := w1.alloc o2) (w3 := w3) (by simp; omega) (fun _ h => h.elim) hb1 (ht.mono fun b h _ => Or.inr h) o2 rfl hown hg hat
 have hw3 : Below w.heap.size w w3 := (((hb.trans (hbb.mono (by omega))).trans (hb1.mono (by simp; omega))).alloc (by omega) o2).grown hg (by simp; omega) (fun j hj => by have := (hlt' j hj).1; omega)
 have hA : Below w.heap.size w w4 := hw3.setCell (p := ⟨w.heap.size + 1 + 1, 1, none⟩) (by simp; omega) _
 refine ⟨?_, hA, (copy_blk h1 hb1 hg (fun e => by have := (hlt' _ e.symm).1; omega)).setOther _ _ (by omega), ?_, by simp [w4, World.setCell]; omega⟩
 ·rw [List.take_succ_eq_append_getElem hlt]
  exact hp.setCell (by omega) (fun h => h) _
 ·exact (copy_blk h2 hb1 hg (fun e => by have := (hlt' _ e.symm).1; omega)).set 1 _
set_option maxHeartbeats 1000000 in
theorem copyOf_any (t : Tm) : ∀ (v : Value) (w : World) (X : Nat → Prop), TV w X v t → sizeL [t] ≤ 1000000 →
  Calls Tryz.prog 45 #[v] w fun e w' => ∃ v', e = .returned v' ∧ TV w' (fun b => w.heap.size ≤ b) v' t ∧ Below w.heap.size w w' := by
 induction t using Tm.ind with
 | h s l ih =>
  intro v w X hv hsm
  have IH := hide ih
  clear ih
  obtain ⟨a, c, rfl, hs⟩ := hv
  have hl := hs.1
  have hz : sizeL [(⟨s, l⟩ : Tm)] = 1 + sizeL l := by simp [sizeL]
  rw [hz] at hsm
  clear hz
  have hlen := sizeL_len l
  obtain ⟨i0, hi, hz0, hz1, hz2⟩ := info_parts Tryz.infoTerm
  go_enter Tryz.func45, Tryz.ntmps45
  go_wp2_with fail
  go_loopw [12] (fun i wr => ∃ (k : Nat) (u : Value) (xs : List Value), k ≤ l.length ∧ i = .int .i64 k ∧ Row wr (w.heap.size + 3) 27 (fun _ => False) u (l.take k) xs ∧ Below w.heap.size w wr ∧ Blk wr (w.heap.size + 1) #[.string ⟨#[]⟩, .slice none 0 0] 27 ∧ Blk wr (w.heap.size + 1 + 1) #[.string s, u] 27 ∧ w.heap.size + 3 ≤ wr.heap.size) (fun i wr => l.length - (intOf i).toNat)
  case atStart =>
   refine ⟨0, .slice none 0 0, [], Nat.zero_le _, rfl, Row.start _ _ _ _, below3 _ _ _, ?_, ?_, by simp⟩
   ·have := ((Blk.new (w.alloc (.cells #[.string s, .slice a l.length c] 27)) #[.string ⟨#[]⟩, .slice none 0 0] 27)).alloc (.cells #[.string s, .slice none 0 0] 27)
    simpa using this
   ·have := Blk.new ((w.alloc (.cells #[.string s, .slice a l.length c] 27)).alloc (.cells #[.string ⟨#[]⟩, .slice none 0 0] 27)) #[.string s, .slice none 0 0] 27
    simpa using this
  case round =>
   obtain ⟨k, u, xs, hk, rfl, hrow, hb, hbl1, hbl2, hsz⟩ := hrel
   have HROW := hide hrow
   have HBL1 := hide hbl1
   have HBL2 := hide hbl2
   have HB := hide hb
   clear hrow hbl1
   by_cases hlt : k < l.length
   ·obtain ⟨b, o, a', c', rfl, d0, d1, hx⟩ := hs.get hb (fun _ _ h => h) k hlt
    have hc2 : ∀ o, (wr.alloc o).cell? ⟨w.heap.size + 1 + 1, 1, none⟩ = some u := fun o => (hbl2.alloc o).cell 1
    have HX := hide hx
    have hszk : sizeL [l[k]] ≤ 1000000 := by
     have := sizeL_take l k hlt; have := sizeL_take_le l (k + 1); omega
    clear hbl2 hb hx
    go_wp2_with fail
    go_region_law (first
     | (go_simp; go_at_call 45; refine (IH.out _ (List.getElem_mem hlt) _ _ X (by exact (HX.out.alloc _).later (below_drewN (Below.refl _ _) 1)) hszk).mono ?_; rintro e w1 ⟨v1, rfl, ht1, hb1⟩; obtain ⟨a1, c1, rfl, hs1⟩ := ht1; have hc3 : ∀ o, (w1.alloc o).cell? ⟨w.heap.size + 1 + 1, 1, none⟩ = some u := fun o => ((((HBL2.out.alloc _).drewN 1).below hb1 (by simp; omega)).alloc o).cell 1; have hc4 : w1.cell? ⟨w.heap.size + 1 + 1, 1, none⟩ = some u := (((HBL2.out.alloc _).drewN 1).below hb1 (by simp; omega)).cell 1)
     | (refine step_append_lies _ rfl _ _ 25 rfl (w.heap.size + 3) 27 i0 _ 2 40 Tryz.underlying25 hi hz0 hz1 hz2 rfl (by decide) u (l.take k).length xs rfl (by exact (((HROW.out.below ((Below.refl _ _).alloc (Nat.le_refl _) _)).below (below_drewN (Below.refl _ _) 1)).below hb1).own.alloc _) ⟨w1.heap.size, 0, none⟩ 1 1 [.string l[k].name, .slice a1 l[k].args.length c1] rfl rfl (cell_two_new _ _ _ _) (fun x hx => by simp at hx; rcases hx with rfl | rfl <;> rfl) (by decide) (by unfold maxLen; simp; omega) (by simp; omega) (by have := hb1.size; simp at this ⊢; omega) _ rfl ?_; intro g cap w3 hown3 hgrow3 hat3 hlt3; have hB3 := hide (copy_blk HBL2.out hb1 hgrow3 (HROW.out.ne (Nat.lt_succ_self _))); have hc5 : w3.cell? ⟨w.heap.size + 1 + 1, 1, none⟩ = some u := hB3.out.cell 1; have hf5 := hB3.out.frozen 1))
    all_goals
     have HFIN := hide (copy_step HROW.out HB.out HBL1.out HBL2.out hsz hlt hb1 ⟨a1, c1, rfl, hs1⟩ hown3 hgrow3 hat3)
     clear hown3 hgrow3 hat3 hc2 hc3 hc4
     go_wp2_with fail
     go_roundw
     case rel =>
      have hkl : (l.take k).length = k := by simp; omega
      obtain ⟨r1, r2, r3, r4, r5⟩ := HFIN.out
      simp only [hkl] at r1 r2 r3 r4 r5
      exact ⟨k + 1, _, _, by omega, by go_num, r1, r2, r3, r4, r5⟩
     case measure => simp [intOf]; omega
   ·have htk : l.take k = l := List.take_of_length_le (by omega)
    have hc0 := hbl2.cell 0
    have hc1 := hbl2.cell 1
    have hr0 := HBL1.out.cell 0
    have hr1 := HBL1.out.cell 1
    have hrf := HBL1.out.frozen
    obtain ⟨a9, c9, hu9, hsl9⟩ := HROW.out.sl
    rw [htk] at hu9 hsl9
    have HSL := hide hsl9
    subst hu9
    clear hsl9 htk hbl2
    go_wp2_with fail
    refine bodyPost_ret (v := .agg #[.string s, .slice a9 l.length c9]) (by simp [results, Tryz.results45, go_sem, hr0, hr1, World.cell?_setCell_same, World.cell?_setCell_other]) rfl ⟨_, rfl, ?_, ?_⟩
    ·refine ⟨a9, c9, rfl, ?_⟩
     have hk9 : Sl wr (fun b => w.heap.size + 3 ≤ b) a9 l := HSL.out.mono fun b h _ => h.elim False.elim id
     exact ((hk9.kept fun b hb => by rw [Below.heap_setCell _ _ _ _ (by simp; omega), Below.heap_setCell _ _ _ _ (by simp; omega)]).mono fun b hb _ => by omega)
    ·exact (HB.out.setCell (by simp) _).setCell (by simp) _
def ForPost (w : World) (X : Nat → Prop) (l : List Bd) (n : ByteArray) (e : Ending) (w' : World) : Prop :=
 Below w.heap.size w w' ∧ ((∃ t a c, forT l n = some t ∧ e = .returned (.tuple #[.agg #[.string t.name, .slice a t.args.length c], .bool true]) ∧ Sl w' X a t.args) ∨ (forT l n = none ∧ e = .returned (.tuple #[.agg #[.string ⟨#[]⟩, .slice none 0 0], .bool false])))
def FoInv (l : List Bd) (n : ByteArray) (w0 : World) (v : Value) (wr : World) : Prop := ∃ k : Nat, k ≤ l.length ∧ v = .int .i64 (k : Int) ∧ forT (l.take k) n = none ∧ wr = w0
set_option maxHeartbeats 1000000 in
theorem for_any (l : List Bd) (n : ByteArray) (v : Value) (w : World) (X0 : Nat → Prop) (hv0 : BV w X0 v l) :
  Calls Tryz.prog 113 #[v, .string n] w fun e w' => ForPost w (fun b => X0 b ∧ b < w.heap.size) l n e w' := by
 have HV := hide (hv0.mono (Y := fun b => X0 b ∧ b < w.heap.size) fun b h1 h2 => ⟨h1, h2⟩)
 obtain ⟨a, c, rfl, hl, hv⟩ := hv0
 clear hv
 go_enter Tryz.func113, Tryz.ntmps113
 go_wp2_with fail
 have R0 := hide (Blk.new w #[.string ⟨#[]⟩, .slice none 0 0] 27)
 have B0 := hide ((Below.refl w.heap.size w).alloc (Nat.le_refl _) (.cells #[.string ⟨#[]⟩, .slice none 0 0] 27))
 have V0 := hide (HV.out.alloc (.cells #[.string ⟨#[]⟩, .slice none 0 0] 27))
 generalize w.alloc (.cells #[.string ⟨#[]⟩, .slice none 0 0] 27) = w0 at *
 go_loopw [6] (fun v wr => FoInv l n w0 v wr) (fun v wr => l.length - (intOf v).toNat)
 case atStart => exact ⟨0, Nat.zero_le _, rfl, rfl, rfl⟩
 case round =>
  obtain ⟨k, hk, rfl, hno, rfl⟩ := hrel
  have HNO := hide hno
  clear hno
  have r0 := R0.out.c0
  have r1 := R0.out.c1
  have rf := R0.out.frozen
  by_cases hlt : k < l.length
  ·obtain ⟨b, o, a', c', rfl, d0, d1, d2, hs⟩ := V0.out.get k hlt
   have hlt2 : (k : Int) < (l.length : Int) := by omega
   have HT := hide (forT_take hlt HNO.out)
   have HS := hide hs
   clear hs
   generalize l[k] = d at *
   by_cases he : d.nm = n
   ·have heq := bytes_yes he
    have HF := hide (HT.out.1 he)
    clear he
    go_wp2_with fail
    refine bodyPost_ret (v := .tuple #[.agg #[.string d.t.name, .slice a' d.t.args.length c'], .bool true]) (by simp [results, Tryz.results113, go_sem, World.cell?_setCell_same, World.cell?_setCell_other, r0, r1]) rfl ?_
    refine ⟨(B0.out.setCell (by simp) _).setCell (by simp) _, Or.inl ⟨d.t, a', c', HF.out, rfl, HS.out.kept fun b hb => ?_⟩⟩
    rw [Below.heap_setCell _ _ _ _ (by simp; omega), Below.heap_setCell _ _ _ _ (by simp; omega)]
   ·have heq := bytes_no he
    have HF := hide (HT.out.2 he)
    clear he
    go_wp2_with fail
    go_roundw
    case rel => exact ⟨k + 1, by omega, by go_num, HF.out, by trivial⟩
    case measure => simp [intOf]; omega
  ·have htk : l.take k = l := List.take_of_length_le (by omega)
   have HF := hide HNO.out
   rw [htk] at HF
   clear htk
   go_wp2_with fail
   refine bodyPost_ret (v := .tuple #[.agg #[.string ⟨#[]⟩, .slice none 0 0], .bool false]) (by simp [results, Tryz.results113, go_sem, World.cell?_setCell_same, World.cell?_setCell_other, r0, r1]) rfl ?_
   exact ⟨(B0.out.setCell (by simp) _).setCell (by simp) _, Or.inr ⟨HF.out, rfl⟩⟩
open Go.ChangeMaps (setBlock)
def RangeAt (w : World) (b r : Nat) (L rem : List (ByteArray × Value)) : Prop :=
 ∃ es clk since seen c0, w.heap[b]? = some (.map es clk) ∧ es.toList.map (fun e => (e.key, e.val)) = L.map (fun p => (Value.string p.1, p.2)) ∧ Stamps es clk ∧
  w.heap[r]? = some (.mapIter (some b) since seen c0) ∧ (∀ x ∈ es.toList, x.born < since) ∧ since ≤ c0 ∧ since ≤ clk ∧
  (leftOf es seen).toList.map (fun e => (e.key, e.val)) = rem.map (fun p => (Value.string p.1, p.2))
def leftAt (w : World) (b r : Nat) : Nat :=
 match w.heap[b]?, w.heap[r]? with
 | some (.map es _), some (.mapIter _ _ seen _) => (leftOf es seen).size
 | _, _ => 0
theorem RangeAt.left {w : World} {b r : Nat} {L rem : List (ByteArray × Value)} (h : RangeAt w b r L rem) : leftAt w b r = rem.length := by
 obtain ⟨es, clk, since, seen, c0, hb, _, _, hr, _, _, _, hl⟩ := h
 have := congrArg List.length hl
 simp only [List.length_map, Array.length_toList] at this
 simp only [leftAt, hb, hr]
 exact this
theorem RangeAt.map {w : World} {b r : Nat} {L rem : List (ByteArray × Value)} (h : RangeAt w b r L rem) : MapAt w b L := by
 obtain ⟨es, clk, since, seen, c0, hb, he, hs, _⟩ := h
 exact ⟨es, clk, hb, he, hs⟩
theorem RangeAt.ne {w : World} {b r : Nat} {L rem : List (ByteArray × Value)} (h : RangeAt w b r L rem) : r ≠ b := by
 obtain ⟨es, clk, since, seen, c0, hb, he, hs, hr, _⟩ := h
 intro e
 rw [e, hb] at hr
 cases hr
theorem RangeAt.lt {w : World} {b r : Nat} {L rem : List (ByteArray × Value)} (h : RangeAt w b r L rem) : r < w.heap.size := by
 obtain ⟨es, clk, since, seen, c0, hb, he, hs, hr, _⟩ := h
 exact (Array.getElem?_eq_some_iff.1 hr).1
theorem RangeAt.kept {w w' : World} {b r : Nat} {L rem : List (ByteArray × Value)} (h : RangeAt w b r L rem) (hb' : w'.heap[b]? = w.heap[b]?) (hr' : w'.heap[r]? = w.heap[r]?) : RangeAt w' b r L rem := by
 obtain ⟨es, clk, since, seen, c0, hb, he, hs, hr, rest⟩ := h
 exact ⟨es, clk, since, seen, c0, hb'.trans hb, he, hs, hr'.trans hr, rest⟩
theorem RangeAt.below {w w' : World} {b r B : Nat} {L rem : List (ByteArray × Value)} (h : RangeAt w b r L rem) (hb : Below B w w') (h1 : b < B) (h2 : r < B) : RangeAt w' b r L rem := h.kept (hb.block b h1) (hb.block r h2)
theorem MapAt.range {P : Program} {w : World} {T kt et : TypeId} {b : Nat} {L : List (ByteArray × Value)} (h : MapAt w b L) (hm : P.underlying T = some (.map kt et)) :
  ∃ o, (Instr.range T (.map (some b))).run P w = .ok (.pointer (some ⟨w.heap.size, 0, none⟩)) (w.alloc o) ∧ RangeAt (w.alloc o) b w.heap.size L L := by
 have hlt := h.lt
 obtain ⟨es, clk, hb, he, hs⟩ := h
 refine ⟨_, run_range_map w T kt et b es clk hm hb, es, clk, clk, #[], clk, (Below.heap_alloc _ _ _ hlt).trans hb, he, hs, heap_alloc_new w _, hs.1, Nat.le_refl _, Nat.le_refl _, ?_⟩
 rw [← he]
 congr 1
 simp [leftOf]
theorem kv_inj {l : List MapEntry} {L : List (ByteArray × Value)} (h : l.map (fun e => (e.key, e.val)) = L.map (fun p => (Value.string p.1, p.2))) {e : MapEntry} (he : e ∈ l) : ∃ p ∈ L, e.key = .string p.1 ∧ e.val = p.2 := by
 have : (e.key, e.val) ∈ L.map (fun p => (Value.string p.1, p.2)) := by rw [← h]; exact List.mem_map.2 ⟨e, he, rfl⟩
 obtain ⟨p, hp, e2⟩ := List.mem_map.1 this
 simp only [Prod.mk.injEq] at e2
 exact ⟨p, hp, e2.1.symm, e2.2.symm⟩
theorem left_out (seen : Array Nat) (e : MapEntry) : ∀ (l : List MapEntry) (R : List (ByteArray × Value)), (l.map (·.born)).Nodup → e ∈ l → seen.contains e.born = false → (l.filter fun x => !seen.contains x.born).map (fun e => (e.key, e.val)) = R.map (fun p => (Value.string p.1, p.2)) →
  ∃ p R', e.key = .string p.1 ∧ e.val = p.2 ∧ R.Perm (p :: R') ∧ (l.filter fun x => !(seen.push e.born).contains x.born).map (fun e => (e.key, e.val)) = R'.map (fun p => (Value.string p.1, p.2))
 | [], R, _, he, _, _ => by cases he
 | a :: l, R, hn, he, hs, hR => by
  simp only [List.map_cons, List.nodup_cons] at hn
  obtain ⟨hn1, hn2⟩ := hn
  by_cases ha : a.born = e.born
  ·have hae : e = a := by
    rcases List.mem_cons.1 he with h | h
    ·exact h
    ·exact absurd (List.mem_map.2 ⟨e, h, ha.symm⟩) hn1
   subst hae
   have hs' : (!seen.contains e.born) = true := by rw [hs]; rfl
   rw [List.filter_cons_of_pos (by simpa using hs')] at hR
   match R, hR with
   | p :: R', hR =>
    simp only [List.map_cons, List.cons.injEq, Prod.mk.injEq] at hR
    refine ⟨p, R', hR.1.1, hR.1.2, List.Perm.refl _, ?_⟩
    rw [List.filter_cons_of_neg (by simp), ← hR.2]
    congr 1
    refine List.filter_congr fun x hx => ?_
    have hne : x.born ≠ e.born := fun h => hn1 (List.mem_map.2 ⟨x, hx, h⟩)
    simp [hne]
  ·have he' : e ∈ l := by
    rcases List.mem_cons.1 he with h | h
    ·exact absurd (by rw [h]) ha
    ·exact h
   by_cases hsa : seen.contains a.born = true
   ·rw [List.filter_cons_of_neg (by simpa using hsa)] at hR
    obtain ⟨p, R', h1, h2, h3, h4⟩ := left_out seen e l R hn2 he' hs hR
    refine ⟨p, R', h1, h2, h3, ?_⟩
    rw [List.filter_cons_of_neg (by simp at hsa ⊢; exact fun h => absurd hsa h), h4]
   ·have hsa' : seen.contains a.born = false := by simpa using hsa
    rw [List.filter_cons_of_pos (by simpa using hsa')] at hR
    match R, hR with
    | q :: R0, hR =>
     simp only [List.map_cons, List.cons.injEq] at hR
     obtain ⟨p, R', h1, h2, h3, h4⟩ := left_out seen e l R0 hn2 he' hs hR.2
     refine ⟨p, q :: R', h1, h2, (List.Perm.cons q h3).trans (List.Perm.swap p q R'), ?_⟩
     rw [List.filter_cons_of_pos (by simp at hsa' ⊢; exact ⟨hsa', ha⟩), List.map_cons, List.map_cons, h4, hR.1]
theorem RangeAt.next {P : Program} {w : World} {b r : Nat} {L rem : List (ByteArray × Value)} (h : RangeAt w b r L rem) (ty : TypeId) :
  (rem = [] ∧ (Instr.next (.pointer (some ⟨r, 0, none⟩)) false ty).run P w = .ok (.tuple #[.bool false]) w) ∨
  ∃ p rem' w', rem.Perm (p :: rem') ∧ (Instr.next (.pointer (some ⟨r, 0, none⟩)) false ty).run P w = .ok (.tuple #[.bool true, .string p.1, p.2]) w' ∧ RangeAt w' b r L rem' ∧
   w'.heap.size = w.heap.size ∧ w'.os = w.os ∧ w'.tape = w.tape ∧ w'.output = w.output ∧ (∀ j, j ≠ r → w'.heap[j]? = w.heap[j]?) ∧ (Instr.entry (.pointer (some ⟨r, 0, none⟩))).run P w' = .ok (.tuple #[.string p.1, p.2]) w' := by
 have hne := h.ne
 obtain ⟨es, clk, since, seen, c0, hb, he, hs, hr, hold, hsc, hsk, hl⟩ := h
 rcases run_next_at (P := P) w ty r b since c0 seen es clk hr hb hold hsc with ⟨h0, hrun⟩ | ⟨e, hem, w1, hal, hrun⟩
 ·refine Or.inl ⟨?_, hrun⟩
  have := congrArg List.length hl
  simp only [List.length_map, Array.length_toList, h0] at this
  exact List.length_eq_zero_iff.1 this.symm
 ·obtain ⟨hm1, hm2⟩ := mem_left hem
  have hl' : (es.toList.filter fun x => !seen.contains x.born).map (fun e => (e.key, e.val)) = rem.map (fun p => (Value.string p.1, p.2)) := by
   rw [← hl]; unfold leftOf; rw [Array.toList_filter]
  obtain ⟨p, rem', hk, hv, hperm, hrem⟩ := left_out seen e es.toList rem hs.2 hm1 hm2 hl'
  have hr1 : w1.heap[r]? = some (.mapIter (some b) since seen c0) := by rcases hal with rfl | rfl <;> exact hr
  have hb1 : w1.heap[b]? = some (.map es clk) := by rcases hal with rfl | rfl <;> exact hb
  have hset := MapKept.heap_set (o' := .mapIter (some b) since (seen.push e.born) clk) hr1
  have hb' : (setBlock w1 r (.mapIter (some b) since (seen.push e.born) clk)).heap[b]? = some (.map es clk) := (hset.2 b (fun e1 => hne e1.symm)).trans hb1
  rw [hk, hv] at hrun
  refine Or.inr ⟨p, rem', _, hperm, hrun, ⟨es, clk, since, seen.push e.born, clk, hb', he, hs, hset.1, hold, hsk, hsk, ?_⟩, ?_, ?_, ?_, ?_, ?_, ?_⟩
  ·rw [← hrem]; unfold leftOf; rw [Array.toList_filter]
  ·rcases hal with rfl | rfl <;> simp [setBlock]
  ·rcases hal with rfl | rfl <;> rfl
  ·rcases hal with rfl | rfl <;> rfl
  ·rcases hal with rfl | rfl <;> rfl
  ·intro j hj
   have := hset.2 j hj
   rcases hal with rfl | rfl <;> exact this
  ·have := run_entry_at (P := P) _ r b since seen es clk e hset.1 hb' hm1 hs.2
   rw [hk, hv] at this
   exact this
def delP : List (ByteArray × Value) → ByteArray → List (ByteArray × Value)
 | [], _ => []
 | p :: r, n => if p.1 = n then r else p :: delP r n
theorem findNow_del (n : ByteArray) (q : MapEntry → Bool) : ∀ (l : List MapEntry) (L : List (ByteArray × Value)) (i : Nat), l.map (fun e => (e.key, e.val)) = L.map (fun p => (Value.string p.1, p.2)) → (∀ e ∈ l, e.key = .string n → q e = false) →
  (mapGet L n = none → delP L n = L) ∧ (∀ v, mapGet L n = some v → ∃ j, Instr.findNow .string (.string n) l i = some (some (i + j, v)) ∧ j < l.length ∧ (l.eraseIdx j).map (fun e => (e.key, e.val)) = (delP L n).map (fun p => (Value.string p.1, p.2)) ∧ (l.eraseIdx j).filter q = l.filter q)
 | [], [], i, h, _ => ⟨fun _ => rfl, fun v hv => by simp [mapGet] at hv⟩
 | [], p :: L, i, h, _ => by simp at h
 | e :: l, [], i, h, _ => by simp at h
 | e :: l, p :: L, i, h, hq => by
  simp only [List.map_cons, List.cons.injEq, Prod.mk.injEq] at h
  obtain ⟨⟨hk, he⟩, ht⟩ := h
  obtain ⟨ih1, ih2⟩ := findNow_del n q l L (i + 1) ht fun e he => hq e (by simp [he])
  by_cases hn : p.1 = n
  ·have hs : Instr.sameNow .string (.string n) e.key = some true := by
    rw [hk, hn]
    show some (n == n) = some true
    rw [show (n == n) = true from (MapKept.bytes_beq _ _).2 rfl]
   refine ⟨fun h => by simp [mapGet, hn] at h, fun v hv => ?_⟩
   simp only [mapGet, hn, if_true, Option.some.injEq] at hv
   refine ⟨0, by simp [Instr.findNow, hs, he, hv], by simp, ?_, ?_⟩
   ·simp [delP, hn, ht]
   ·rw [List.eraseIdx_cons_zero, List.filter_cons_of_neg (by rw [hq e (by simp) (by rw [hk, hn])]; simp)]
  ·have hs : Instr.sameNow .string (.string n) e.key = some false := by
    rw [hk]
    show some (n == p.1) = some false
    have hb : (n == p.1) = false := by
     cases hh : (n == p.1) with
     | false => rfl
     | true => exact absurd ((MapKept.bytes_beq _ _).1 hh).symm hn
    rw [hb]
   refine ⟨fun h => ?_, fun v hv => ?_⟩
   ·rw [mapGet, if_neg hn] at h
    rw [delP, if_neg hn, ih1 h]
   ·rw [mapGet, if_neg hn] at hv
    obtain ⟨j, h1, h2, h3, h4⟩ := ih2 v hv
    refine ⟨j + 1, by simp [Instr.findNow, hs, h1]; omega, by simpa using h2, ?_, ?_⟩
    ·rw [delP, if_neg hn]; simp [h3, hk, he]
    ·rw [List.eraseIdx_cons_succ]
     cases hqe : q e with
     | true => rw [List.filter_cons_of_pos hqe, List.filter_cons_of_pos hqe, h4]
     | false => rw [List.filter_cons_of_neg (by simp [hqe]), List.filter_cons_of_neg (by simp [hqe]), h4]
theorem RangeAt.drop {P : Program} {w : World} {T kt et ty : TypeId} {b r : Nat} {L rem : List (ByteArray × Value)} (h : RangeAt w b r L rem) (hm : P.underlying T = some (.map kt et)) (hk : P.underlying kt = some .string) (n : ByteArray) (hr0 : ∀ p ∈ rem, p.1 ≠ n) (v : Value) (hv : mapGet L n = some v) :
  ∃ w', (Builtin.delete_ #[T, kt] ty #[.map (some b), .string n]).run P w = .ok (.tuple #[]) w' ∧ RangeAt w' b r (delP L n) rem ∧ w'.heap.size = w.heap.size ∧ w'.os = w.os ∧ w'.tape = w.tape ∧ w'.output = w.output ∧ (∀ j, j ≠ b → w'.heap[j]? = w.heap[j]?) := by
 have hne := h.ne
 obtain ⟨es, clk, since, seen, c0, hb, he, hs, hr, hold, hsc, hsk, hl⟩ := h
 have hl' : (es.toList.filter fun x => !seen.contains x.born).map (fun e => (e.key, e.val)) = rem.map (fun p => (Value.string p.1, p.2)) := by
  rw [← hl]; unfold leftOf; rw [Array.toList_filter]
 have hq : ∀ e ∈ es.toList, e.key = .string n → (!seen.contains e.born) = false := fun e hee hke => by
  cases hc : seen.contains e.born with
  | true => rfl
  | false =>
   obtain ⟨p, hp, h1, _⟩ := kv_inj hl' (List.mem_filter.2 ⟨hee, by rw [hc]; rfl⟩)
   rw [hke] at h1
   exact absurd (Value.string.inj h1).symm (hr0 p hp)
 obtain ⟨j, h1, h2, h3, h4⟩ := (findNow_del n (fun x => !seen.contains x.born) es.toList L 0 he hq).2 v hv
 rw [Nat.zero_add] at h1
 have hc : ∀ b, (Instr.checkKey b 10000 kt (.string n)).run P w = .ok () w := fun b => MapKept.run_checkKey (k := .string n) hk (by simp [MapKept.IsKey]) b 9999
 have hsub : (es.eraseIdxIfInBounds j).toList = es.toList.eraseIdx j := by
  unfold Array.eraseIdxIfInBounds
  rw [dif_pos (by simpa using h2)]
  simp
 have hmem : ∀ x ∈ (es.eraseIdxIfInBounds j).toList, x ∈ es.toList := fun x hx => by rw [hsub] at hx; exact (List.eraseIdx_sublist _ _).subset hx
 refine ⟨setBlock w b (.map (es.eraseIdxIfInBounds j) clk), ?_, ⟨es.eraseIdxIfInBounds j, clk, since, seen, c0, (MapKept.heap_set hb).1, by rw [hsub]; exact h3, ⟨fun x hx => hs.1 x (hmem x hx), ?_⟩, ((MapKept.heap_set hb).2 r hne).trans hr, fun x hx => hold x (hmem x hx), hsc, hsk, ?_⟩, by simp [setBlock], rfl, rfl, rfl, fun i hi => (MapKept.heap_set hb).2 i hi⟩
 ·simp [Builtin.delete_, run_underlying hm, MapKept.run_getObj_map hb, hc, MapKept.run_findKey hk h1, MapKept.run_setObj_map _ hb, Result.andThen, setBlock]
 ·rw [hsub]
  exact hs.2.sublist ((List.eraseIdx_sublist _ _).map _)
 ·unfold leftOf
  rw [Array.toList_filter, hsub, h4]
  exact hl'
theorem Tryz.infoBind : (Tryz.prog.info? 160).map (fun i => (i.zero, i.size, i.bytes)) = some (some (.agg #[.string ByteArray.empty, .string ByteArray.empty, .slice none 0 0]), 3, 56) := by kernel_rfl
theorem cell_three_new (w : World) (c0 c1 c2 : Value) (T : Nat) : ∀ j u, [c0, c1, c2][j]? = some u → (w.alloc (.cells #[c0, c1, c2] T)).cell? ((⟨w.heap.size, 0, none⟩ : Addr).add j) = some u :=
 World.news_of_block (cs := #[c0, c1, c2]) (heap_alloc_new w _)
theorem binds_append {w w1 : World} {N : Nat} {Y : Nat → Prop} {v : Value} {cs : List Bc} (h : BRow w N Y v cs) (hN : N ≤ w.heap.size) (hY : ∀ b, Y b → b < N) (hb : Below w.heap.size w w1) (x : Bc) (ht : Sl w1 (fun b => Y b ∨ w.heap.size ≤ b) x.2.1 x.1.t.args) (hn : cs.length ≤ 1000000) (A : Nat) (hA : w1.heap.size = A) :
  ∃ v2 w3, (Builtin.append_ #[89, 89] 89 #[v, .slice (some ⟨A, 0, none⟩) 1 1]).run Tryz.prog (w1.alloc (.cells #[.string x.1.nm, .string x.1.t.name, .slice x.2.1 x.1.t.args.length x.2.2] 160)) = .ok v2 w3 ∧ BRow w3 N Y v2 (cs ++ [x]) ∧
   (w1.alloc (.cells #[.string x.1.nm, .string x.1.t.name, .slice x.2.1 x.1.t.args.length x.2.2] 160)).grownBy w3 v.ownBlock := by
 subst hA
 obtain ⟨i0, hi, hz0, hz1, hz2⟩ := info_parts Tryz.infoBind
 have hs := hb.size
 obtain ⟨g, cap, w3, hr, ho, hg, hat, hlt⟩ := run_append_lies (P := Tryz.prog) (w := w1.alloc (.cells #[.string x.1.nm, .string x.1.t.name, .slice x.2.1 x.1.t.args.length x.2.2] 160)) 89 89 N 160 i0 _ 3 56 Tryz.underlying89 hi hz0 hz1 hz2 rfl (by decide) v cs.length (flat3 cs) ((h.below hb).own.alloc _)
  ⟨w1.heap.size, 0, none⟩ 1 1 (enc3 x) rfl (cell_three_new _ _ _ _ _) (fun y hy => by simp [enc3] at hy; rcases hy with rfl | rfl | rfl <;> rfl) (by decide) (by unfold maxLen; omega) (by omega) (by simp; omega) _ rfl
 exact ⟨_, w3, hr, h.push hN hY hb ht _ rfl ho hg hat, hg⟩
end Go.Proofs.YtmkendjmfdaedaaGreat
